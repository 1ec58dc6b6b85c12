/-
  Texts of this proof in one: SpecCopy, SpecSet, SpecSet2, Draw1, DrawKeep, Source, Draw2, Draw3, DrawItems, Fault, VecOf, Pair, ScoreB, ModelSum, CenScore, DrawRight7, DrawTab, LayCenter, AppCenter, LayCentersResult.
  Their conditions stand in their theorems.
-/
import Derived.Test.YtggnnbdjihihiaaGreatChecked
import Derived.Test.YtggnnbdjihihiaaGreatVq01
import Derived.Deep.RegionHeld3
import Derived.BigQuiet
import Derived.Deep.QuietTactic
import Derived.Deep.AppendLies
import Derived.WalkSmall
import Derived.Outline
import Derived.WalkKit

namespace Go.Proofs.YtggnnbdjihihiaaGreat
open Go.RowKit

set_option maxRecDepth 100000 in
set_option maxHeartbeats 4000000 in
theorem specCopy_pos (b off cap : Nat) (xs : List DItem) (w : World) (h : (Lay.sl Lay.tItem).Reads w [.slice (some ⟨b, off, none⟩) xs.length cap] xs) (hbl : b < w.heap.size) (hn : xs.length ≤ 10000000) (hv : ∀ x ∈ xs, x.vec.length ≤ 100000000) :
    Calls Tryz.prog 108 #[.slice (some ⟨b, off, none⟩) xs.length cap] w fun e w' => ∃ v', e = .returned v' ∧ (∃ rows bls, Grow Lay.tItem w' w.heap.size 139 v' rows xs bls ∧ ∀ c ∈ bls.flatten, w.heap.size ≤ c) ∧ Below w.heap.size w w' := by
  have H := hide h
  have HV := hide hv
  clear h hv
  have G0 : Grow Lay.tItem (w.alloc (.cells #[] 139)) w.heap.size 139 (.slice (some ⟨w.heap.size, 0, none⟩) 0 0) [] [] [] := Grow.nil (World.ownsRow_lit w #[] 0 (Nat.le_refl _) (Nat.zero_le _) rfl)
  have HG := hide G0
  have HB0 := hide ((Below.refl w.heap.size w).alloc (Nat.le_refl _) (.cells #[] 139))
  clear G0
  go_enter Tryz.func108, Tryz.ntmps108
  go_wp2_with fail
  go_loopw [3, 4] (fun v i wr => ∃ (k : Nat) (rows : List (List Value)) (bls : List (List Nat)), k ≤ xs.length ∧ i = .int .i64 k ∧ Grow Lay.tItem wr w.heap.size 139 v rows (xs.take k) bls ∧ (∀ c ∈ bls.flatten, w.heap.size ≤ c) ∧ Below w.heap.size w wr) (fun _ i _ => xs.length - (intOf i).toNat)
  case atStart => exact ⟨0, [], [], Nat.zero_le _, rfl, unhide HG, by simp, unhide HB0⟩
  case round =>
    obtain ⟨k, rows, bls, hk, rfl, hG, hS, hB⟩ := hrel
    have HS := hide hS
    clear hS
    clear HG HB0
    by_cases hlt : k < xs.length
    · obtain ⟨row, hc, hr⟩ := Lay.row_at (unhide H) hlt
      have hr2 := hr
      obtain ⟨a1, d1, rfl, R1⟩ := open_Item hr
      have c0 : w.cell? ⟨b, off + k * 2, none⟩ = some (.int .i64 (xs[k]).id) := hc 0 (by decide)
      have c1 : w.cell? ⟨b, off + k * 2 + 1, none⟩ = some (.slice a1 (xs[k]).vec.length d1) := hc 1 (by decide)
      have hwi : (Lit.int .i64 xs[k].id).wf = true := by obtain ⟨_, hq⟩ := hr2; obtain ⟨_, _, _, _, _, q, _⟩ := lies_Item.1 hq; exact q
      have HT : Hid (xs.take (k + 1) = xs.take k ++ [xs[k]]) := List.take_succ_eq_append_getElem hlt
      have HL : Hid ((xs.take k).length = k) := by show (xs.take k).length = k; rw [List.length_take]; omega
      have HN := hide (unhide HV xs[k] (List.getElem_mem hlt))
      clear hc hr hr2
      generalize hx : xs[k] = x at *
      clear hx
      have HW := hide (Lay.ints_reads R1).wf
      have HR := hide R1
      have HI := hide hwi
      have HB := hide hB
      have HK : Hid ((xs.take k).length + 1 ≤ 100000000) := by show (xs.take k).length + 1 ≤ 100000000; rw [unhide HL]; omega
      have hGD : Grow Lay.tItem wr.drew w.heap.size 139 u3 rows (xs.take k) bls := hG.later (below_drawn (Below.refl _ _) 1)
      have HDZ : Hid (wr.heap.size ≤ wr.drew.heap.size) := Nat.le_refl _
      clear R1 hwi hB hG
      have i1 : (0 : Int) ≤ (k : Int) := by omega
      have i2 : (k : Int) < (xs.length : Int) := by omega
      go_wp2_with fail
      refine wp_region_noPanic ?_
      refine wp_region_held_drew (S := fun w' => Below w.heap.size w w') (by kernel_rfl) (unhide HB).drew (fun hHeld => ?_)
      generalize wr.drew = wD at hHeld hGD HDZ ⊢
      refine wpAnyH_take (i := 0) (oi := { dst := some 12, op := Go.Op.move (Go.Operand.tmp 3), type := 35, pos := "l04_table.go:30", after := #[], guard := none }) (v := ?v0) rfl (by kernel_rfl) (by kernel_rfl) (by kernel_rfl) (fun _ _ _ h => h) (Or.inl ⟨by rfl, ?h0⟩) hHeld ?r0
      case h0 =>
        intro wS hSw
        (try dsimp only at hSw)
        go_simp
        try with_reducible rfl
      case r0 =>
      simp only [Act.put, List.setIfInBounds_toArray, List.set_cons_zero, List.set_cons_succ]
      refine wpAnyH_take (i := 1) (oi := { dst := some 13, op := Go.Op.move (Go.Operand.tmp 0), type := 35, pos := "l04_table.go:30", after := #[], guard := none }) (v := ?v1) rfl (by kernel_rfl) (by kernel_rfl) (by kernel_rfl) (fun _ _ _ h => h) (Or.inl ⟨by rfl, ?h1⟩) hHeld ?r1
      case h1 =>
        intro wS hSw
        (try dsimp only at hSw)
        go_simp
        try with_reducible rfl
      case r1 =>
      simp only [Act.put, List.setIfInBounds_toArray, List.set_cons_zero, List.set_cons_succ]
      refine wpAnyH_take (i := 2) (oi := { dst := some 14, op := Go.Op.move (Go.Operand.tmp 4), type := 3, pos := "l04_table.go:30", after := #[], guard := none }) (v := ?v2) rfl (by kernel_rfl) (by kernel_rfl) (by kernel_rfl) (fun _ _ _ h => h) (Or.inl ⟨by rfl, ?h2⟩) hHeld ?r2
      case h2 =>
        intro wS hSw
        (try dsimp only at hSw)
        go_simp
        try with_reducible rfl
      case r2 =>
      simp only [Act.put, List.setIfInBounds_toArray, List.set_cons_zero, List.set_cons_succ]
      refine wpAnyH_take (i := 3) (oi := { dst := some 15, op := Go.Op.indexAddr 35 (Go.Operand.tmp 13) (Go.Operand.tmp 14), type := 0, pos := "l04_table.go:30", after := #[{ on := 1, ground := Go.Ground.data }, { on := 2, ground := Go.Ground.data }], guard := none }) (v := ?v3) rfl (by kernel_rfl) (by kernel_rfl) (by kernel_rfl) (fun _ _ _ h => h) (Or.inl ⟨by rfl, ?h3⟩) hHeld ?r3
      case h3 =>
        intro wS hSw
        (try dsimp only at hSw)
        go_simp
        try with_reducible rfl
      case r3 =>
      simp only [Act.put, List.setIfInBounds_toArray, List.set_cons_zero, List.set_cons_succ]
      refine wpAnyH_take (i := 4) (oi := { dst := some 16, op := Go.Op.fieldAddr 139 (Go.Operand.tmp 15) 0, type := 0, pos := "l04_table.go:30", after := #[{ on := 3, ground := Go.Ground.data }], guard := none }) (v := ?v4) rfl (by kernel_rfl) (by kernel_rfl) (by kernel_rfl) (fun _ _ _ h => h) (Or.inl ⟨by rfl, ?h4⟩) hHeld ?r4
      case h4 =>
        intro wS hSw
        (try dsimp only at hSw)
        go_simp
        try with_reducible rfl
      case r4 =>
      simp only [Act.put, List.setIfInBounds_toArray, List.set_cons_zero, List.set_cons_succ]
      refine wpAnyH_take (i := 5) (oi := { dst := some 17, op := Go.Op.load 2 (Go.Operand.tmp 16), type := 2, pos := "l04_table.go:30", after := #[{ on := 4, ground := Go.Ground.data }], guard := none }) (v := ?v5) rfl (by kernel_rfl) (by kernel_rfl) (by kernel_rfl) (fun _ _ _ h => h) (Or.inl ⟨by rfl, ?h5⟩) hHeld ?r5
      case h5 =>
        intro wS hSw
        have y0 := (hSw.cell (p := ⟨b, off + k * 2, none⟩) hbl).trans c0
        have y1 := (hSw.cell (p := ⟨b, off + k * 2 + 1, none⟩) hbl).trans c1
        clear hSw
        (try dsimp only at hSw)
        go_simp
        try with_reducible rfl
      case r5 =>
      simp only [Act.put, List.setIfInBounds_toArray, List.set_cons_zero, List.set_cons_succ]
      refine wpAnyH_take (i := 6) (oi := { dst := some 18, op := Go.Op.move (Go.Operand.tmp 0), type := 35, pos := "l04_table.go:30", after := #[], guard := none }) (v := ?v6) rfl (by kernel_rfl) (by kernel_rfl) (by kernel_rfl) (fun _ _ _ h => h) (Or.inl ⟨by rfl, ?h6⟩) hHeld ?r6
      case h6 =>
        intro wS hSw
        (try dsimp only at hSw)
        go_simp
        try with_reducible rfl
      case r6 =>
      simp only [Act.put, List.setIfInBounds_toArray, List.set_cons_zero, List.set_cons_succ]
      refine wpAnyH_take (i := 7) (oi := { dst := some 19, op := Go.Op.move (Go.Operand.tmp 4), type := 3, pos := "l04_table.go:30", after := #[], guard := none }) (v := ?v7) rfl (by kernel_rfl) (by kernel_rfl) (by kernel_rfl) (fun _ _ _ h => h) (Or.inl ⟨by rfl, ?h7⟩) hHeld ?r7
      case h7 =>
        intro wS hSw
        (try dsimp only at hSw)
        go_simp
        try with_reducible rfl
      case r7 =>
      simp only [Act.put, List.setIfInBounds_toArray, List.set_cons_zero, List.set_cons_succ]
      refine wpAnyH_take (i := 8) (oi := { dst := some 20, op := Go.Op.indexAddr 35 (Go.Operand.tmp 18) (Go.Operand.tmp 19), type := 0, pos := "l04_table.go:30", after := #[{ on := 6, ground := Go.Ground.data }, { on := 7, ground := Go.Ground.data }], guard := none }) (v := ?v8) rfl (by kernel_rfl) (by kernel_rfl) (by kernel_rfl) (fun _ _ _ h => h) (Or.inl ⟨by rfl, ?h8⟩) hHeld ?r8
      case h8 =>
        intro wS hSw
        (try dsimp only at hSw)
        go_simp
        try with_reducible rfl
      case r8 =>
      simp only [Act.put, List.setIfInBounds_toArray, List.set_cons_zero, List.set_cons_succ]
      refine wpAnyH_take (i := 9) (oi := { dst := some 21, op := Go.Op.fieldAddr 139 (Go.Operand.tmp 20) 1, type := 0, pos := "l04_table.go:30", after := #[{ on := 8, ground := Go.Ground.data }], guard := none }) (v := ?v9) rfl (by kernel_rfl) (by kernel_rfl) (by kernel_rfl) (fun _ _ _ h => h) (Or.inl ⟨by rfl, ?h9⟩) hHeld ?r9
      case h9 =>
        intro wS hSw
        (try dsimp only at hSw)
        go_simp
        try with_reducible rfl
      case r9 =>
      simp only [Act.put, List.setIfInBounds_toArray, List.set_cons_zero, List.set_cons_succ]
      refine wpAnyH_take (i := 10) (oi := { dst := some 22, op := Go.Op.load 28 (Go.Operand.tmp 21), type := 28, pos := "l04_table.go:30", after := #[{ on := 9, ground := Go.Ground.data }], guard := none }) (v := ?v10) rfl (by kernel_rfl) (by kernel_rfl) (by kernel_rfl) (fun _ _ _ h => h) (Or.inl ⟨by rfl, ?h10⟩) hHeld ?r10
      case h10 =>
        intro wS hSw
        have y0 := (hSw.cell (p := ⟨b, off + k * 2, none⟩) hbl).trans c0
        have y1 := (hSw.cell (p := ⟨b, off + k * 2 + 1, none⟩) hbl).trans c1
        clear hSw
        (try dsimp only at hSw)
        go_simp
        try with_reducible rfl
      case r10 =>
      simp only [Act.put, List.setIfInBounds_toArray, List.set_cons_zero, List.set_cons_succ]
      refine wpAnyH_ready (rs := [11]) (by kernel_rfl) (by simp) ?_
      refine AllReadyH.cons (o := { dst := some 23, op := Go.Op.call { callee := Go.Callee.value (Go.Operand.func 106), args := #[Go.Operand.tmp 22], argTypes := #[28] }, type := 28, pos := "l04_table.go:30", after := #[{ on := 10, ground := Go.Ground.data }], guard := none }) rfl (fun K hK => ?_) AllReadyH.nil
      go_simp
      go_at_call 106
      refine (l1Ints _ x.vec _ (Lay.ints_reads ((unhide HR).later hHeld)) (unhide HN)).mono ?_
      rintro e w3 ⟨v2, rfl, hO, hbw⟩
      have hO2 := Lay.ownInts (unhide HW) (by have := unhide HN; omega) hO
      clear hO
      obtain ⟨ao2, cp2, rfl⟩ := open_sl hO2.reads
      have hG3 := hGD.later hbw
      have hz3 := hbw.size
      try go_wp2_with fail
      refine hK.out _ _ (hHeld.trans (hbw.mono hHeld.size)) (fun hHeld => ?_)
      clear hK K
      try simp only [Act.put, List.setIfInBounds_toArray, List.set_cons_zero, List.set_cons_succ]
      refine wpAnyH_take (i := 12) (oi := { dst := some 24, op := Go.Op.build 139 #[(0, Go.Operand.tmp 17), (1, Go.Operand.tmp 23)], type := 139, pos := "l04_table.go:30", after := #[{ on := 5, ground := Go.Ground.data }, { on := 11, ground := Go.Ground.data }], guard := none }) (v := ?v12) rfl (by kernel_rfl) (by kernel_rfl) (by kernel_rfl) (fun _ _ _ h => h) (Or.inl ⟨by rfl, ?h12⟩) hHeld ?r12
      case h12 =>
        intro wS hSw
        (try dsimp only at hSw)
        go_simp
        try with_reducible rfl
      case r12 =>
      simp only [Act.put, List.setIfInBounds_toArray, List.set_cons_zero, List.set_cons_succ]
      refine wpAnyH_ready (rs := [13]) (by kernel_rfl) (by simp) ?_
      refine AllReadyH.cons (o := { dst := some 25, op := Go.Op.buildSlice 35 1 #[(0, Go.Operand.tmp 24)], type := 35, pos := "l04_table.go:30", after := #[{ on := 12, ground := Go.Ground.data }], guard := none }) rfl (fun K hK => ?_) AllReadyH.nil
      have hH3 := hHeld
      go_simp
      refine hK.out _ _ (hHeld.alloc hHeld.size _) (fun hHeld => ?_)
      clear hK K
      try simp only [Act.put, List.setIfInBounds_toArray, List.set_cons_zero, List.set_cons_succ]
      refine wpAnyH_ready (rs := [14]) (by kernel_rfl) (by simp) ?_
      refine AllReadyH.cons (o := { dst := some 26, op := Go.Op.call { callee := Go.Callee.builtin Go.Builtin.append, args := #[Go.Operand.tmp 12, Go.Operand.tmp 25], argTypes := #[35, 35] }, type := 35, pos := "l04_table.go:30", after := #[{ on := 0, ground := Go.Ground.data }, { on := 13, ground := Go.Ground.data }, { on := 11, ground := Go.Ground.chain }], guard := none }) rfl (fun K hK => ?_) AllReadyH.nil
      obtain ⟨bl2, ⟨hl2, -, -⟩, hr2⟩ := hO2
      refine step_append_Item hG3 (row := [.int .i64 x.id, .slice ao2 x.vec.length cp2]) (x := x) (lies_Item.2 ⟨ao2, cp2, bl2, rfl, rfl, unhide HI, hl2⟩) (fun c hc e => by have h1 := hr2 c hc; have h2 := (hGD.own.lt c e).2; omega) rfl _ _ rfl rfl rfl (by have := unhide HK; omega) (by have := hH3.size; omega) ?_
      rintro g5 cp5 w5 hG5 hb5 - hl5 hz5 -
      have HS5 : Hid (∀ c ∈ (bls ++ [bl2]).flatten, w.heap.size ≤ c) := by
        intro c hc
        rw [List.flatten_append] at hc
        rcases List.mem_append.1 hc with hc | hc
        · exact unhide HS c hc
        · have h1 := hr2 c (by simpa using hc)
          have h2 := (unhide HB).size
          have h4 := unhide HDZ
          omega
      refine hK.out _ _ (hH3.trans hb5) (fun hHeld => ?_)
      clear hK K
      try simp only [Act.put, List.setIfInBounds_toArray, List.set_cons_zero, List.set_cons_succ]
      refine wpAnyH_take (i := 15) (oi := { dst := some 3, op := Go.Op.assign (Go.Operand.tmp 26), type := 35, pos := "l04_table.go:30", after := #[{ on := 14, ground := Go.Ground.data }, { on := 14, ground := Go.Ground.chain }, { on := 0, ground := Go.Ground.phase }, { on := 1, ground := Go.Ground.phase }, { on := 2, ground := Go.Ground.phase }, { on := 3, ground := Go.Ground.phase }, { on := 4, ground := Go.Ground.phase }, { on := 5, ground := Go.Ground.phase }, { on := 6, ground := Go.Ground.phase }, { on := 7, ground := Go.Ground.phase }, { on := 8, ground := Go.Ground.phase }, { on := 9, ground := Go.Ground.phase }, { on := 10, ground := Go.Ground.phase }, { on := 11, ground := Go.Ground.phase }, { on := 12, ground := Go.Ground.phase }, { on := 13, ground := Go.Ground.phase }, { on := 14, ground := Go.Ground.phase }], guard := none }) (v := ?v15) rfl (by kernel_rfl) (by kernel_rfl) (by kernel_rfl) (fun _ _ _ h => h) (Or.inl ⟨by rfl, ?h15⟩) hHeld ?r15
      case h15 =>
        intro wS hSw
        (try dsimp only at hSw)
        go_simp
        try with_reducible rfl
      case r15 =>
      simp only [Act.put, List.setIfInBounds_toArray, List.set_cons_zero, List.set_cons_succ]
      refine wpAnyH_done (by kernel_rfl) ?_ _
      refine NoPanic.normal ?_
      have HG5 := hide hG5
      have HB5 := hide hHeld
      clear hHeld hG5 hGD hG3
      go_wp2_with fail
      go_roundw
      case rel =>
        have hg := unhide HG5
        rw [← unhide HT, unhide HL] at hg
        exact ⟨k + 1, _, _, by omega, by go_num, hg, unhide HS5, unhide HB5⟩
      case measure => simp [intOf]; omega
    · obtain rfl : k = xs.length := by omega
      rw [List.take_length] at hG
      have HG := hide hG
      have HB := hide hB
      clear hG hB H
      go_wp2_with fail
      go_ret
      exact ⟨_, rfl, ⟨_, _, unhide HG, unhide HS⟩, unhide HB⟩

theorem specCopyG (v : Value) (xs : List DItem) (w : World) (h : (Lay.sl Lay.tItem).Reads w [v] xs) (hn : xs.length ≤ 10000000) (hv : ∀ x ∈ xs, x.vec.length ≤ 100000000) :
    Calls Tryz.prog 108 #[v] w fun e w' => ∃ v', e = .returned v' ∧ (∃ rows bls, Grow Lay.tItem w' w.heap.size 139 v' rows xs bls ∧ ∀ c ∈ bls.flatten, w.heap.size ≤ c) ∧ Below w.heap.size w w' := by
  obtain ⟨ao, cap, rfl⟩ := open_sl h
  by_cases hp : 0 < xs.length
  · obtain ⟨b, off, rfl, hbl⟩ := Lay.sl_addr h hp
    exact specCopy_pos b off cap xs w h hbl hn hv
  · obtain rfl : xs = [] := List.eq_nil_of_length_eq_zero (by omega)
    clear h hp hn hv
    have HB := hide ((Below.refl w.heap.size w).alloc (Nat.le_refl _) (.cells #[] 139))
    have HG : Hid (Grow Lay.tItem (w.alloc (.cells #[] 139)) w.heap.size 139 (.slice (some ⟨w.heap.size, 0, none⟩) 0 0) [] [] []) := Grow.nil (World.ownsRow_lit w #[] 0 (Nat.le_refl _) (Nat.zero_le _) rfl)
    go_enter Tryz.func108, Tryz.ntmps108
    go_wp2_with fail
    refine wp_loop_rounds 1 ?_
    rw [rounds_succ]
    go_wp2_with fail
    go_ret
    exact ⟨_, rfl, ⟨_, _, unhide HG, by simp⟩, unhide HB⟩

/-- l4Copy of the model. -/
theorem specCopy (v : Value) (xs : List DItem) (w : World) (h : (Lay.sl Lay.tItem).Reads w [v] xs) (hn : xs.length ≤ 10000000) (hv : ∀ x ∈ xs, x.vec.length ≤ 100000000) :
    Calls Tryz.prog 108 #[v] w fun e w' => ∃ v', e = .returned v' ∧ (Lay.sl Lay.tItem).LiesIn w' [v'] xs w.heap.size w'.heap.size ∧ Below w.heap.size w w' := by
  refine (specCopyG v xs w h hn hv).mono ?_
  rintro e w' ⟨v', rfl, ⟨rows, bls, hG, hs⟩, hb⟩
  exact ⟨v', rfl, hG.toLies (by omega) hs, hb⟩

end Go.Proofs.YtggnnbdjihihiaaGreat

namespace Go.Proofs.YtggnnbdjihihiaaGreat
open Go.RowKit

theorem take_fold (nw : DItem) (st : List DItem × Bool) (xs : List DItem) (k : Nat) (h : k < xs.length) : (xs.take (k + 1)).foldl (setStep nw) st = setStep nw ((xs.take k).foldl (setStep nw) st) xs[k] := by
  rw [List.take_succ_eq_append_getElem h, List.foldl_append]
  rfl

set_option maxRecDepth 100000 in
set_option maxHeartbeats 4000000 in
theorem specSet_pos (b off cap : Nat) (xs : List DItem) (nw : DItem) (a2 : Option Addr) (d2 : Nat) (has : Bool) (w : World) (h : (Lay.sl Lay.tItem).Reads w [.slice (some ⟨b, off, none⟩) xs.length cap] xs) (hv : (Lay.sl Lay.int).Reads w [.slice a2 nw.vec.length d2] nw.vec) (hw : (Lit.int .i64 nw.id).wf = true)
    (hbl : b < w.heap.size) (hn : xs.length ≤ 1000000) (hx : ∀ x ∈ xs, x.vec.length ≤ 100000000) (hx2 : nw.vec.length ≤ 100000000) :
    Calls Tryz.prog 66 #[.slice (some ⟨b, off, none⟩) xs.length cap, .int .i64 nw.id, .slice a2 nw.vec.length d2, .bool has] w fun e w' => ∃ v', e = .returned v' ∧ (∃ rows bls, Grow Lay.tItem w' w.heap.size 139 v' rows (setM xs nw has) bls ∧ ∀ c ∈ bls.flatten, w.heap.size ≤ c) ∧ Below w.heap.size w w' := by
  obtain ⟨blN, hlN⟩ := hv
  have hN : Lay.tItem.lies w [.int .i64 nw.id, .slice a2 nw.vec.length d2] nw blN := lies_Item.2 ⟨a2, d2, blN, rfl, rfl, hw, hlN⟩
  have hNl : ∀ c ∈ blN, c < w.heap.size := Lay.tItem.lt hN
  have HN := hide hN
  have HNL := hide hNl
  have H := hide h
  have HX := hide hx
  clear h hx hlN hN hNl
  have G0 : Grow Lay.tItem (w.alloc (.cells #[] 139)) w.heap.size 139 (.slice (some ⟨w.heap.size, 0, none⟩) 0 0) [] [] [] := Grow.nil (World.ownsRow_lit w #[] 0 (Nat.le_refl _) (Nat.zero_le _) rfl)
  have HG := hide G0
  have HB0 := hide ((Below.refl w.heap.size w).alloc (Nat.le_refl _) (.cells #[] 139))
  clear G0
  go_enter Tryz.func66, Tryz.ntmps66
  go_wp2_with fail
  go_loopw [9, 10, 11] (fun v d i wr => ∃ (k : Nat) (rows : List (List Value)) (bls : List (List Nat)) (out : List DItem) (dn : Bool), k ≤ xs.length ∧ i = .int .i64 k ∧ d = .bool dn ∧ (xs.take k).foldl (setStep nw) ([], !has) = (out, dn) ∧ out.length ≤ 2 * k ∧ (∀ x ∈ out, x.vec.length ≤ 100000000) ∧ Grow Lay.tItem wr w.heap.size 139 v rows out bls ∧ Below w.heap.size w wr) (fun _ _ i _ => xs.length - (intOf i).toNat)
  case atStart => exact ⟨0, [], [], [], !has, Nat.zero_le _, rfl, rfl, rfl, by simp, by simp, unhide HG, unhide HB0⟩
  case round =>
    obtain ⟨k, rows, bls, out, dn, hk, rfl, rfl, hst, hol, hov, hG, hB⟩ := hrel
    clear HG HB0
    by_cases hlt : k < xs.length
    · obtain ⟨row, hc, hr⟩ := Lay.row_at (unhide H) hlt
      obtain ⟨blX, hlX⟩ := hr
      obtain ⟨a1, d1, bb, rfl, hbb, hwi, hlv⟩ := lies_Item.1 hlX
      have hXl : ∀ c ∈ blX, c < w.heap.size := Lay.tItem.lt hlX
      have c0 : wr.cell? ⟨b, off + k * 2, none⟩ = some (.int .i64 (xs[k]).id) := (hB.cell (p := ⟨b, off + k * 2, none⟩) hbl).trans (hc 0 (by decide))
      have c1 : wr.cell? ⟨b, off + k * 2 + 1, none⟩ = some (.slice a1 (xs[k]).vec.length d1) := (hB.cell (p := ⟨b, off + k * 2 + 1, none⟩) hbl).trans (hc 1 (by decide))
      have hbr : b < wr.heap.size := Nat.lt_of_lt_of_le hbl hB.size
      have HST : Hid ((xs.take (k + 1)).foldl (setStep nw) ([], !has) = setOld nw (setNew nw (out, dn) xs[k]) xs[k]) := by
        show (xs.take (k + 1)).foldl (setStep nw) ([], !has) = _
        rw [take_fold nw _ xs k hlt, hst]
        rfl
      have HXV := hide (unhide HX xs[k] (List.getElem_mem hlt))
      have HLX := hide (Lay.tItem.keep hlX fun c hc => hB.block c (hXl c hc))
      have HXL := hide hXl
      have HLN := hide (Lay.tItem.keep (unhide HN) fun c hc => hB.block c (unhide HNL c hc))
      clear hc hlX hbb hwi hlv hst
      generalize hx : xs[k] = x at *
      clear hx
      have HG := hide hG
      have HB := hide hB
      have HOV := hide hov
      clear hG hB hov
      have hnx : out.length + 3 ≤ 100000000 := by omega
      by_cases hA : dn = false ∧ nw.id ≤ x.id
      · obtain ⟨rfl, hle⟩ := hA
        have hd1 : decide (nw.id ≤ x.id) = true := by simpa using hle
        have e1 : setNew nw (out, false) x = (out ++ [nw], true) := by simp [setNew, hle]
        rw [e1] at HST
        have hG := unhide HG
        have hoff : ∀ c ∈ blN, u9.ownBlock ≠ some c := fun c hc e => by have h1 := unhide HNL c hc; have h2 := (hG.own.lt c e).1; omega
        have hLN := unhide HLN
        have HZ : Hid (w.heap.size ≤ wr.heap.size) := (unhide HB).size
        clear e1 hle HLN HG
        go_wp2_with (at_builtin; refine wpList_append_Item hG hLN hoff rfl _ _ rfl rfl rfl (by omega) (unhide HZ) ?_)
        rintro g5 cp5 w5 hG5 hb5 hE5 hl5 hz5 hor
        have d0 : w5.cell? ⟨b, off + k * 2, none⟩ = some (.int .i64 x.id) := (hb5.cell (p := ⟨b, off + k * 2, none⟩) hbl).trans c0
        have d1' : w5.cell? ⟨b, off + k * 2 + 1, none⟩ = some (.slice a1 x.vec.length d1) := (hb5.cell (p := ⟨b, off + k * 2 + 1, none⟩) hbl).trans c1
        have hbr5 : b < w5.heap.size := by omega
        have HLX5 := hide (Lay.tItem.keep (unhide HLX) fun c hc => hb5.block c (unhide HXL c hc))
        have HB5 := hide ((unhide HB).trans hb5)
        have HG5 := hide hG5
        clear hG hoff hLN hG5 hb5 hE5 hor HB HLX c0 c1 hd1 HZ hz5
        have HOV5 : Hid (∀ y ∈ out ++ [nw], y.vec.length ≤ 100000000) := by
          intro y hy
          rcases List.mem_append.1 hy with hy | hy
          · exact unhide HOV y hy
          · rw [List.mem_singleton.1 hy]; exact hx2
        by_cases he : x.id = nw.id
        · have hd2 : (x.id != nw.id) = false := by simpa using he
          have e2 : setOld nw (out ++ [nw], true) x = (out ++ [nw], true) := by rw [setOld, if_pos he]
          rw [e2] at HST
          clear he e2 HLX5
          go_wp2_with fail
          go_roundw
          case rel => exact ⟨k + 1, _, _, out ++ [nw], true, by omega, by go_num, rfl, unhide HST, by simp; omega, unhide HOV5, unhide HG5, unhide HB5⟩
          case measure => simp [intOf]; omega
        · have hd2 : (x.id != nw.id) = true := by simpa using he
          have e2 : setOld nw (out ++ [nw], true) x = (out ++ [nw] ++ [x], true) := by rw [setOld, if_neg he]
          rw [e2] at HST
          have hG := unhide HG5
          have hoff : ∀ c ∈ blX, (Value.slice (some ⟨g5, 0, none⟩) (out.length + 1) cp5).ownBlock ≠ some c := fun c hc e => by have h1 := unhide HXL c hc; have h2 := (hG.own.lt c e).1; omega
          have hLX := unhide HLX5
          have HZ : Hid (w.heap.size ≤ w5.heap.size) := (unhide HB5).size
          clear he e2 HLX5 HG5
          go_wp2_with (at_builtin; refine wpList_append_Item hG hLX hoff rfl _ _ rfl rfl rfl (by simp; omega) (unhide HZ) ?_)
          rintro g6 cp6 w6 hG6 hb6 hE6 hl6 hz6 hor6
          have HB6 := hide ((unhide HB5).trans hb6)
          have HG6 := hide hG6
          have HOV6 : Hid (∀ y ∈ out ++ [nw] ++ [x], y.vec.length ≤ 100000000) := by
            intro y hy
            rcases List.mem_append.1 hy with hy | hy
            · exact unhide HOV5 y hy
            · rw [List.mem_singleton.1 hy]; exact unhide HXV
          clear hG hoff hLX hG6 hb6 hE6 hor6 HB5 d0 d1' hd2 HZ hz6
          go_wp2_with fail
          go_roundw
          case rel =>
            have hg := unhide HG6
            have e3 : out ++ [nw] ++ [x] = out ++ [nw, x] := by simp
            have hs := unhide HST
            have ho := unhide HOV6
            rw [e3] at hs ho
            exact ⟨k + 1, _, _, out ++ [nw, x], true, by omega, by go_num, rfl, hs, by simp; omega, ho, hg, unhide HB6⟩
          case measure => simp [intOf]; omega
      · have e1 : setNew nw (out, dn) x = (out, dn) := by rw [setNew, if_neg hA]
        rw [e1] at HST
        have hcond : dn = true ∨ decide (nw.id ≤ x.id) = false := by
          cases dn with
          | true => exact Or.inl rfl
          | false => right; simpa using hA
        clear e1 hA
        by_cases he : x.id = nw.id
        · have hd2 : (x.id != nw.id) = false := by simpa using he
          have e2 : setOld nw (out, dn) x = (out, dn) := by rw [setOld, if_pos he]
          rw [e2] at HST
          clear he e2 HLX HLN
          rcases hcond with rfl | hd1
          · go_wp2_with fail
            go_roundw
            case rel => exact ⟨k + 1, _, _, out, true, by omega, by go_num, rfl, unhide HST, by omega, unhide HOV, unhide HG, unhide HB⟩
            case measure => simp [intOf]; omega
          · cases dn with
            | true =>
              go_wp2_with fail
              go_roundw
              case rel => exact ⟨k + 1, _, _, out, true, by omega, by go_num, rfl, unhide HST, by omega, unhide HOV, unhide HG, unhide HB⟩
              case measure => simp [intOf]; omega
            | false =>
              go_wp2_with fail
              go_roundw
              case rel => exact ⟨k + 1, _, _, out, false, by omega, by go_num, rfl, unhide HST, by omega, unhide HOV, unhide HG, unhide HB⟩
              case measure => simp [intOf]; omega
        · have hd2 : (x.id != nw.id) = true := by simpa using he
          have e2 : setOld nw (out, dn) x = (out ++ [x], dn) := by rw [setOld, if_neg he]
          rw [e2] at HST
          have hG := unhide HG
          have hoff : ∀ c ∈ blX, u9.ownBlock ≠ some c := fun c hc e => by have h1 := unhide HXL c hc; have h2 := (hG.own.lt c e).1; omega
          have hLX := unhide HLX
          have HZ : Hid (w.heap.size ≤ wr.heap.size) := (unhide HB).size
          have HOV6 : Hid (∀ y ∈ out ++ [x], y.vec.length ≤ 100000000) := by
            intro y hy
            rcases List.mem_append.1 hy with hy | hy
            · exact unhide HOV y hy
            · rw [List.mem_singleton.1 hy]; exact unhide HXV
          clear he e2 HLX HLN HG
          have hcd : (dn = true) ∨ (dn = false ∧ decide (nw.id ≤ x.id) = false) := by
            rcases hcond with h | h
            · exact Or.inl h
            · cases dn with
              | true => exact Or.inl rfl
              | false => exact Or.inr ⟨rfl, h⟩
          clear hcond
          rcases hcd with rfl | ⟨rfl, hd1⟩
          · go_wp2_with (at_builtin; refine wpList_append_Item hG hLX hoff rfl _ _ rfl rfl rfl (by omega) (unhide HZ) ?_)
            rintro g6 cp6 w6 hG6 hb6 hE6 hl6 hz6 hor6
            have HB6 := hide ((unhide HB).trans hb6)
            have HG6 := hide hG6
            clear hG hoff hLX hG6 hb6 hE6 hor6 HB c0 c1 hd2 HZ hz6
            go_wp2_with fail
            go_roundw
            case rel => exact ⟨k + 1, _, _, out ++ [x], true, by omega, by go_num, rfl, unhide HST, by simp; omega, unhide HOV6, unhide HG6, unhide HB6⟩
            case measure => simp [intOf]; omega
          · go_wp2_with (at_builtin; refine wpList_append_Item hG hLX hoff rfl _ _ rfl rfl rfl (by omega) (unhide HZ) ?_)
            rintro g6 cp6 w6 hG6 hb6 hE6 hl6 hz6 hor6
            have HB6 := hide ((unhide HB).trans hb6)
            have HG6 := hide hG6
            clear hG hoff hLX hG6 hb6 hE6 hor6 HB c0 c1 hd2 HZ hz6 hd1
            go_wp2_with fail
            go_roundw
            case rel => exact ⟨k + 1, _, _, out ++ [x], false, by omega, by go_num, rfl, unhide HST, by simp; omega, unhide HOV6, unhide HG6, unhide HB6⟩
            case measure => simp [intOf]; omega
    · obtain rfl : k = xs.length := by omega
      rw [List.take_length] at hst
      have HM : Hid (setM xs nw has = setFin nw (out, dn)) := by
        show setM xs nw has = _
        rw [setM, hst]
      have HG := hide hG
      have HB := hide hB
      have HOV := hide hov
      have HLN := hide (Lay.tItem.keep (unhide HN) fun c hc => hB.block c (unhide HNL c hc))
      clear hG hB hov hst H
      cases dn with
      | true =>
        have hR := (unhide HG).toReads (by omega)
        have L := specCopyG u9 out wr hR (by omega) (unhide HOV)
        have HL := hide L
        rw [setFin, if_pos rfl] at HM
        clear hR L HLN HG
        go_wp2_with fail
        refine (unhide HL).mono ?_
        rintro e w6 ⟨v6, rfl, hR6, hb6⟩
        have HB6 := hide ((unhide HB).trans (hb6.mono (unhide HB).size))
        obtain ⟨rows6, bls6, hG6, hs6⟩ := hR6
        have HR6 : Hid (∃ rows bls, Grow Lay.tItem w6 w.heap.size 139 v6 rows _ bls ∧ ∀ c ∈ bls.flatten, w.heap.size ≤ c) := ⟨rows6, bls6, hG6.lower (unhide HB).size, fun c hc => Nat.le_trans (unhide HB).size (hs6 c hc)⟩
        clear hb6 hG6 hs6
        go_wp2_with fail
        go_ret
        exact ⟨_, rfl, by rw [unhide HM]; exact unhide HR6, unhide HB6⟩
      | false =>
        have hG := unhide HG
        have hoff : ∀ c ∈ blN, u9.ownBlock ≠ some c := fun c hc e => by have h1 := unhide HNL c hc; have h2 := (hG.own.lt c e).1; omega
        have hLN := unhide HLN
        have HZ : Hid (w.heap.size ≤ wr.heap.size) := (unhide HB).size
        rw [setFin, if_neg (by simp)] at HM
        clear HLN HG
        go_wp2_with (at_builtin; refine wpList_append_Item hG hLN hoff rfl _ _ rfl rfl rfl (by omega) (unhide HZ) ?_)
        rintro g5 cp5 w5 hG5 hb5 hE5 hl5 hz5 hor
        have HOV5 : Hid (∀ y ∈ out ++ [nw], y.vec.length ≤ 100000000) := by
          intro y hy
          rcases List.mem_append.1 hy with hy | hy
          · exact unhide HOV y hy
          · rw [List.mem_singleton.1 hy]; exact hx2
        have hR := hG5.toReads (by simp; omega)
        have HL := hide (specCopyG _ (out ++ [nw]) w5 hR (by simp; omega) (unhide HOV5))
        have HB5 := hide ((unhide HB).trans hb5)
        clear hG hoff hLN hG5 hb5 hE5 hor HB HZ hR hz5
        go_wp2_with fail
        refine (unhide HL).mono ?_
        rintro e w6 ⟨v6, rfl, hR6, hb6⟩
        have HB6 := hide ((unhide HB5).trans (hb6.mono (unhide HB5).size))
        obtain ⟨rows6, bls6, hG6, hs6⟩ := hR6
        have HR6 : Hid (∃ rows bls, Grow Lay.tItem w6 w.heap.size 139 v6 rows _ bls ∧ ∀ c ∈ bls.flatten, w.heap.size ≤ c) := ⟨rows6, bls6, hG6.lower (unhide HB5).size, fun c hc => Nat.le_trans (unhide HB5).size (hs6 c hc)⟩
        clear hb6 hG6 hs6
        go_wp2_with fail
        go_ret
        exact ⟨_, rfl, by rw [unhide HM]; exact unhide HR6, unhide HB6⟩

end Go.Proofs.YtggnnbdjihihiaaGreat

namespace Go.Proofs.YtggnnbdjihihiaaGreat
open Go.RowKit

set_option maxRecDepth 100000 in
set_option maxHeartbeats 1000000 in
theorem specSet_zero (ao : Option Addr) (cap : Nat) (nw : DItem) (a2 : Option Addr) (d2 : Nat) (has : Bool) (w : World) (hv : (Lay.sl Lay.int).Reads w [.slice a2 nw.vec.length d2] nw.vec) (hw : (Lit.int .i64 nw.id).wf = true) (hx2 : nw.vec.length ≤ 100000000) :
    Calls Tryz.prog 66 #[.slice ao 0 cap, .int .i64 nw.id, .slice a2 nw.vec.length d2, .bool has] w fun e w' => ∃ v', e = .returned v' ∧ (∃ rows bls, Grow Lay.tItem w' w.heap.size 139 v' rows (setM [] nw has) bls ∧ ∀ c ∈ bls.flatten, w.heap.size ≤ c) ∧ Below w.heap.size w w' := by
  obtain ⟨blN, hlN⟩ := hv
  have hN : Lay.tItem.lies w [.int .i64 nw.id, .slice a2 nw.vec.length d2] nw blN := lies_Item.2 ⟨a2, d2, blN, rfl, rfl, hw, hlN⟩
  have hNl : ∀ c ∈ blN, c < w.heap.size := Lay.tItem.lt hN
  have nb : Below w.heap.size w (w.alloc (.cells #[] 139)) := (Below.refl w.heap.size w).alloc (Nat.le_refl _) (.cells #[] 139)
  have G0 : Grow Lay.tItem (w.alloc (.cells #[] 139)) w.heap.size 139 (.slice (some ⟨w.heap.size, 0, none⟩) 0 0) [] [] [] := Grow.nil (World.ownsRow_lit w #[] 0 (Nat.le_refl _) (Nat.zero_le _) rfl)
  have hLN := Lay.tItem.keep hN fun c hc => nb.block c (hNl c hc)
  have hoff : ∀ c ∈ blN, (Value.slice (some ⟨w.heap.size, 0, none⟩) 0 0).ownBlock ≠ some c := fun c hc e => by have h1 := hNl c hc; simp [Value.ownBlock] at e; omega
  have HZ : Hid (w.heap.size ≤ (w.alloc (.cells #[] 139)).heap.size) := nb.size
  have HB0 := hide nb
  cases has with
  | false =>
    have HL := hide (specCopyG _ [] _ (G0.toReads (by simp)) (by simp) (by simp))
    clear G0 hLN hoff hN hNl hlN nb
    go_enter Tryz.func66, Tryz.ntmps66
    go_wp2_with fail
    refine wp_loop_rounds 1 ?_
    rw [rounds_succ]
    go_wp2_with fail
    refine (unhide HL).mono ?_
    rintro e w6 ⟨v6, rfl, hR6, hb6⟩
    have HB6 := hide ((unhide HB0).trans (hb6.mono (unhide HB0).size))
    obtain ⟨rows6, bls6, hG6, hs6⟩ := hR6
    have HR6 : Hid (∃ rows bls, Grow Lay.tItem w6 w.heap.size 139 v6 rows _ bls ∧ ∀ c ∈ bls.flatten, w.heap.size ≤ c) := ⟨rows6, bls6, hG6.lower (unhide HB0).size, fun c hc => Nat.le_trans (unhide HB0).size (hs6 c hc)⟩
    clear hb6 hG6 hs6
    go_wp2_with fail
    go_ret
    exact ⟨_, rfl, unhide HR6, unhide HB6⟩
  | true =>
    clear hN hNl hlN nb
    go_enter Tryz.func66, Tryz.ntmps66
    go_wp2_with fail
    refine wp_loop_rounds 1 ?_
    rw [rounds_succ]
    generalize hW : w.alloc (.cells #[] 139) = W1 at *
    have hsz : w.heap.size < W1.heap.size := by rw [← hW]; simp
    clear hW
    go_wp2_with (at_builtin; refine wpList_append_Item G0 hLN hoff rfl _ _ rfl rfl rfl (by simp) (unhide HZ) ?_)
    rintro g5 cp5 w5 hG5 hb5 hE5 hl5 hz5 hor
    have hR := hG5.toReads (by simp)
    have HL := hide (specCopyG _ ([] ++ [nw]) w5 hR (by simp) (by intro y hy; rw [List.mem_singleton.1 hy]; exact hx2))
    have HB5 := hide ((unhide HB0).trans hb5)
    clear G0 hoff hLN hG5 hb5 hE5 hor HZ hR hz5
    go_wp2_with fail
    refine (unhide HL).mono ?_
    rintro e w6 ⟨v6, rfl, hR6, hb6⟩
    have HB6 := hide ((unhide HB5).trans (hb6.mono (unhide HB5).size))
    obtain ⟨rows6, bls6, hG6, hs6⟩ := hR6
    have HR6 : Hid (∃ rows bls, Grow Lay.tItem w6 w.heap.size 139 v6 rows _ bls ∧ ∀ c ∈ bls.flatten, w.heap.size ≤ c) := ⟨rows6, bls6, hG6.lower (unhide HB5).size, fun c hc => Nat.le_trans (unhide HB5).size (hs6 c hc)⟩
    clear hb6 hG6 hs6
    go_wp2_with fail
    go_ret
    exact ⟨_, rfl, unhide HR6, unhide HB6⟩

theorem specSetG (v : Value) (xs : List DItem) (id : Int) (vec : List Int) (vv : Value) (has : Bool) (w : World) (h : (Lay.sl Lay.tItem).Reads w [v] xs) (hv : (Lay.sl Lay.int).Reads w [vv] vec) (hw : (Lit.int .i64 id).wf = true)
    (hn : xs.length ≤ 1000000) (hx : ∀ x ∈ xs, x.vec.length ≤ 100000000) (hx2 : vec.length ≤ 100000000) :
    Calls Tryz.prog 66 #[v, .int .i64 id, vv, .bool has] w fun e w' => ∃ v', e = .returned v' ∧ (∃ rows bls, Grow Lay.tItem w' w.heap.size 139 v' rows (setM xs ⟨id, vec⟩ has) bls ∧ ∀ c ∈ bls.flatten, w.heap.size ≤ c) ∧ Below w.heap.size w w' := by
  obtain ⟨ao, cap, rfl⟩ := open_sl h
  obtain ⟨ao2, cap2, rfl⟩ := open_sl hv
  by_cases hp : 0 < xs.length
  · obtain ⟨b, off, rfl, hbl⟩ := Lay.sl_addr h hp
    exact specSet_pos b off cap xs ⟨id, vec⟩ ao2 cap2 has w h hv hw hbl hn hx hx2
  · obtain rfl : xs = [] := List.eq_nil_of_length_eq_zero (by omega)
    exact specSet_zero ao cap ⟨id, vec⟩ ao2 cap2 has w hv hw hx2

/-- l4Set of the model. -/
theorem specSet (v : Value) (xs : List DItem) (id : Int) (vec : List Int) (vv : Value) (has : Bool) (w : World) (h : (Lay.sl Lay.tItem).Reads w [v] xs) (hv : (Lay.sl Lay.int).Reads w [vv] vec) (hw : (Lit.int .i64 id).wf = true)
    (hn : xs.length ≤ 1000000) (hx : ∀ x ∈ xs, x.vec.length ≤ 100000000) (hx2 : vec.length ≤ 100000000) :
    Calls Tryz.prog 66 #[v, .int .i64 id, vv, .bool has] w fun e w' => ∃ v', e = .returned v' ∧ (Lay.sl Lay.tItem).LiesIn w' [v'] (setM xs ⟨id, vec⟩ has) w.heap.size w'.heap.size ∧ Below w.heap.size w w' := by
  refine (specSetG v xs id vec vv has w h hv hw hn hx hx2).mono ?_
  rintro e w' ⟨v', rfl, ⟨rows, bls, hG, hs⟩, hb⟩
  have hl := setM_size xs ⟨id, vec⟩ has
  exact ⟨v', rfl, hG.toLies (by omega) hs, hb⟩

end Go.Proofs.YtggnnbdjihihiaaGreat

namespace Go.Proofs.YtggnnbdjihihiaaGreat
open Go.RowKit

/-- The slice of bytes cv lies below block B. -/
def IsCode (B : Nat) (w : World) (cv : Value) : Prop :=
  ∃ ao len cap, cv = .slice ao len cap ∧ len ≤ 1048576 ∧
    (0 < len → ∃ b off, ao = some ⟨b, off, none⟩ ∧ b < B ∧ ∀ j, j < len → ∃ z : Int, w.cell? ⟨b, off + j, none⟩ = some (.int .u8 z) ∧ 0 ≤ z ∧ z ≤ 255)

theorem IsCode.later {B : Nat} {w w' : World} {cv : Value} (h : IsCode B w cv) (hb : Below B w w') : IsCode B w' cv := by
  obtain ⟨ao, len, cap, rfl, hl, hc⟩ := h
  refine ⟨ao, len, cap, rfl, hl, fun hp => ?_⟩
  obtain ⟨b, off, hao, hB, hc1⟩ := hc hp
  refine ⟨b, off, hao, hB, fun j hj => ?_⟩
  obtain ⟨z, h1, h2⟩ := hc1 j hj
  exact ⟨z, (hb.cell (p := ⟨b, off + j, none⟩) hB).trans h1, h2⟩

/-- The source in block b: its code, and how many numbers have been drawn. -/
def SrcAt (w : World) (b : Nat) (cv : Value) (m : Nat) : Prop := w.heap[b]? = some (.cells #[cv, .int .i64 m] 131 (0, 0))

theorem SrcAt.c0 {w : World} {b m : Nat} {cv : Value} (h : SrcAt w b cv m) : w.cell? ⟨b, 0, none⟩ = some cv := by simp [World.cell?, show w.heap[b]? = _ from h]
theorem SrcAt.c1 {w : World} {b m : Nat} {cv : Value} (h : SrcAt w b cv m) : w.cell? ⟨b, 1, none⟩ = some (.int .i64 m) := by simp [World.cell?, show w.heap[b]? = _ from h]
theorem SrcAt.fz {w : World} {b m : Nat} {cv : Value} (h : SrcAt w b cv m) (o : Nat) : w.frozen? ⟨b, o, none⟩ = false := by simp [World.frozen?, show w.heap[b]? = _ from h]
theorem SrcAt.lt {w : World} {b m : Nat} {cv : Value} (h : SrcAt w b cv m) : b < w.heap.size := lt_of_block h
theorem SrcAt.set {w : World} {b m : Nat} {cv : Value} (h : SrcAt w b cv m) : SrcAt (w.setCell ⟨b, 1, none⟩ (.int .i64 ((m : Int) + 1))) b cv (m + 1) :=
  heap_setCell_same w b 1 #[cv, .int .i64 m] 131 (.int .i64 ((m : Int) + 1)) h
theorem grown_set (w : World) (b o : Nat) (u : Value) : w.grownBy (w.setCell ⟨b, o, none⟩ u) (some b) :=
  ⟨rfl, rfl, rfl, by simp, fun k _ hk => heap_setCell_other w ⟨b, o, none⟩ k u (fun e => hk (by simp [e]))⟩
theorem grown_drawn {a w : World} {r : Option Nat} (h : a.grownBy w r) (n : Nat) : a.grownBy (w.drewN n) r := ⟨h.os, h.tape, h.output, h.size, h.block⟩

theorem below_of_grown {w w' : World} {b : Nat} (h : w.grownBy w' (some b)) (hb : b ≤ w.heap.size) : Below b w w' :=
  (Below.refl b w).grown h hb (fun k hk => by simp at hk; omega)

set_option maxHeartbeats 400000 in
theorem next_low (b m : Nat) (cv : Value) (n : Int) (w : World) (hs : SrcAt w b cv m) (hm : m ≤ 1000000000) (hn : n < 1) :
    Calls Tryz.prog 85 #[.pointer (some ⟨b, 0, none⟩), .int .i64 n] w fun e w' => e = .returned (.int .i64 0) ∧ SrcAt w' b cv (m + 1) ∧ w.grownBy w' (some b) := by
  have c1 := hs.c1
  have fz := hs.fz
  have HS := hide hs.set
  clear hs
  go_enter Tryz.func85, Tryz.ntmps85
  go_wp2
  go_ret
  exact ⟨rfl, unhide HS, grown_set _ _ _ _⟩

set_option maxHeartbeats 400000 in
theorem next_empty (b m : Nat) (ao : Option Addr) (cap : Nat) (n : Int) (w : World) (hs : SrcAt w b (.slice ao 0 cap) m) (hm : m ≤ 1000000000) (hn : 1 ≤ n) :
    Calls Tryz.prog 85 #[.pointer (some ⟨b, 0, none⟩), .int .i64 n] w fun e w' => ∃ r : Int, e = .returned (.int .i64 r) ∧ (0 ≤ r ∧ r < n) ∧ SrcAt w' b (.slice ao 0 cap) (m + 1) ∧ w.grownBy w' (some b) := by
  have c0 := hs.c0
  have c1 := hs.c1
  have fz := hs.fz
  have HS := hide hs.set
  clear hs
  have hd : (n == 0) = false := by rw [beq_eq_false_iff_ne]; omega
  go_enter Tryz.func85, Tryz.ntmps85
  go_wp2
  go_ret
  exact ⟨_, rfl, ⟨Int.emod_nonneg _ (by omega), Int.emod_lt_of_pos _ (by omega)⟩, unhide HS, grown_set _ _ _ _⟩

theorem quot_bd (m k : Nat) (hm : m ≤ 1000000000) : 0 ≤ (m : Int) / (k : Int) ∧ (m : Int) / (k : Int) ≤ 1000000000 := by
  refine ⟨Int.ediv_nonneg (by omega) (by omega), ?_⟩
  have := Int.ediv_le_self (a := (m : Int)) (k : Int) (by omega)
  omega

set_option maxHeartbeats 1000000 in
theorem next_some (b m cb off k cap : Nat) (n : Int) (w : World) (hs : SrcAt w b (.slice (some ⟨cb, off, none⟩) k cap) m) (hm : m ≤ 1000000000) (hn : 1 ≤ n) (hn2 : n ≤ 200) (hk : 0 < k) (hk2 : k ≤ 1048576) (hcb : cb < b)
    (hc : ∀ j, j < k → ∃ z : Int, w.cell? ⟨cb, off + j, none⟩ = some (.int .u8 z) ∧ 0 ≤ z ∧ z ≤ 255) :
    Calls Tryz.prog 85 #[.pointer (some ⟨b, 0, none⟩), .int .i64 n] w fun e w' => ∃ r : Int, e = .returned (.int .i64 r) ∧ (0 ≤ r ∧ r < n) ∧ SrcAt w' b (.slice (some ⟨cb, off, none⟩) k cap) (m + 1) ∧ w.grownBy w' (some b) := by
  have c0 := hs.c0
  have c1 := hs.c1
  have fz := hs.fz
  have HS := hide hs.set
  clear hs
  obtain ⟨z, hz, z1, z2⟩ := hc (m % k) (Nat.mod_lt _ hk)
  obtain ⟨q1, q2⟩ := quot_bd m k hm
  have hd : (n == 0) = false := by rw [beq_eq_false_iff_ne]; omega
  have hd2 : ((k : Int) == 0) = false := by rw [beq_eq_false_iff_ne]; omega
  have hne : ¬ cb = b := by omega
  have hne2 : ¬ b = cb := by omega
  have r1 : 0 ≤ (m : Int) % (k : Int) := Int.emod_nonneg _ (by omega)
  have r2 : (m : Int) % (k : Int) < (k : Int) := Int.emod_lt_of_pos _ (by omega)
  clear hc
  go_enter Tryz.func85, Tryz.ntmps85
  go_wp2
  go_quiet (fail)
  go_wp2
  go_ret
  exact ⟨_, rfl, ⟨Int.emod_nonneg _ (by omega), Int.emod_lt_of_pos _ (by omega)⟩, unhide HS, grown_drawn (grown_set _ _ _ _) _⟩

/-- l1Next: a number below n. -/
theorem next (b m : Nat) (cv : Value) (n : Int) (w : World) (hs : SrcAt w b cv m) (hc : IsCode b w cv) (hm : m ≤ 1000000000) (hn : 1 ≤ n) (hn2 : n ≤ 200) :
    Calls Tryz.prog 85 #[.pointer (some ⟨b, 0, none⟩), .int .i64 n] w fun e w' => ∃ r : Nat, e = .returned (.int .i64 r) ∧ (r : Int) < n ∧ SrcAt w' b cv (m + 1) ∧ IsCode b w' cv ∧ w.grownBy w' (some b) := by
  have fin : ∀ (e : Ending) (w' : World), (∃ r : Int, e = .returned (.int .i64 r) ∧ (0 ≤ r ∧ r < n) ∧ SrcAt w' b cv (m + 1) ∧ w.grownBy w' (some b)) → ∃ r : Nat, e = .returned (.int .i64 r) ∧ (r : Int) < n ∧ SrcAt w' b cv (m + 1) ∧ IsCode b w' cv ∧ w.grownBy w' (some b) := by
    rintro e w' ⟨r, rfl, ⟨h1, h2⟩, h3, h4⟩
    obtain ⟨j, rfl⟩ := Int.eq_ofNat_of_zero_le h1
    exact ⟨j, rfl, h2, h3, hc.later (below_of_grown h4 (Nat.le_of_lt hs.lt)), h4⟩
  obtain ⟨ao, len, cap, rfl, hl, hc1⟩ := hc
  by_cases hp : 0 < len
  · obtain ⟨cb, off, rfl, hB, hc2⟩ := hc1 hp
    exact (next_some b m cb off len cap n w hs hm hn hn2 hp hl hB hc2).mono fin
  · obtain rfl : len = 0 := by omega
    exact (next_empty b m ao cap n w hs hm hn).mono fin

set_option maxHeartbeats 400000 in
/-- l1Pick: one of the list. -/
theorem pick (b m g : Nat) (cv : Value) (zs : List Int) (w : World) (hs : SrcAt w b cv m) (hc : IsCode b w cv) (hm : m ≤ 1000000000) (hl : 1 ≤ zs.length) (hl2 : zs.length ≤ 200) (hg : w.heap[g]? = some (.cells (zs.map (Value.int .i64)).toArray 2 (0, 0))) (hne : g ≠ b) :
    Calls Tryz.prog 84 #[.pointer (some ⟨b, 0, none⟩), .slice (some ⟨g, 0, none⟩) zs.length zs.length] w fun e w' => ∃ r : Int, e = .returned (.int .i64 r) ∧ r ∈ zs ∧ SrcAt w' b cv (m + 1) ∧ IsCode b w' cv ∧ w.grownBy w' (some b) := by
  go_enter Tryz.func84, Tryz.ntmps84
  go_wp2_with fail
  refine (next b m cv zs.length w hs hc hm (by omega) (by omega)).mono ?_
  rintro e w1 ⟨r, rfl, hr, hs1, hc1, hgr⟩
  have hr' : r < zs.length := by omega
  have hcell : w1.cell? ⟨g, r, none⟩ = some (.int .i64 (zs.getD r 0)) := by
    have h1 : w1.heap[g]? = w.heap[g]? := hgr.block g (lt_of_block hg) (by simpa using hne)
    rw [cell_of_row w1 g r _ _ _ (h1.trans hg)]
    simp [List.getD, hr']
  have HS := hide hs1
  have HC := hide hc1
  have HG := hide hgr
  have HR : Hid (zs.getD r 0 ∈ zs) := by
    have e : zs.getD r 0 = zs[r] := by simp [List.getD, hr']
    show zs.getD r 0 ∈ zs
    rw [e]
    exact List.getElem_mem hr'
  generalize zs.getD r 0 = x at *
  clear hs hc hs1 hc1 hgr hg
  go_wp2
  go_ret
  exact ⟨x, rfl, unhide HR, unhide HS, unhide HC, unhide HG⟩

end Go.Proofs.YtggnnbdjihihiaaGreat

namespace Go.Proofs.YtggnnbdjihihiaaGreat
open Go.RowKit

/-- Growth behind growth: what else is written is new. -/
theorem grown_new {a b c : World} {s r : Option Nat} (h : a.grownBy b s) (k : b.grownBy c r) (hr : ∀ j, r = some j → a.heap.size ≤ j) : a.grownBy c s :=
  ⟨k.os.trans h.os, k.tape.trans h.tape, k.output.trans h.output, Nat.le_trans h.size k.size, fun i hi hs => (k.block i (Nat.lt_of_lt_of_le hi h.size) (fun e => by have := hr i e.symm; omega)).trans (h.block i hi hs)⟩

theorem SrcAt.keep {w w' : World} {b m : Nat} {cv : Value} {r : Option Nat} (h : SrcAt w b cv m) (hg : w.grownBy w' r) (hr : some b ≠ r) : SrcAt w' b cv m := (hg.block b h.lt hr).trans h
theorem SrcAt.alloc {w : World} {b m : Nat} {cv : Value} (h : SrcAt w b cv m) (o : Obj) : SrcAt (w.alloc o) b cv m := (Below.heap_alloc w o b h.lt).trans h
theorem IsCode.alloc {w : World} {b : Nat} {cv : Value} (h : IsCode b w cv) (hb : b ≤ w.heap.size) (o : Obj) : IsCode b (w.alloc o) cv := h.later ((Below.refl _ _).alloc hb o)

theorem own_ne {W : World} {b0 b T sz : Nat} {u : Value} {n : Nat} {xs : List Value} (h : W.ownsRow b0 T sz u n xs) (hb : b < b0) : u.ownBlock ≠ some b := fun e => by have := (h.lt b e).1; omega

end Go.Proofs.YtggnnbdjihihiaaGreat

namespace Go.Proofs.YtggnnbdjihihiaaGreat
open Go.RowKit

theorem source (ao : Option Addr) (len cap : Nat) (w : World) :
    Calls Tryz.prog 81 #[.slice ao len cap] w fun e w' => e = .returned (.pointer (some ⟨w.heap.size, 0, none⟩)) ∧ w.alloc (.cells #[.slice ao len cap, .int .i64 0] 131) = w' := by
  go_enter Tryz.func81, Tryz.ntmps81
  go_wp2
  go_ret
  exact ⟨rfl, rfl⟩

theorem src_new (w : World) (cv : Value) : SrcAt (w.alloc (.cells #[cv, .int .i64 0] 131)) w.heap.size cv 0 := heap_alloc_new w _

/-- What a row's reading tells of a slice of bytes that came in. -/
theorem isCode_of_row {w : World} {a : Option Addr} {len cap : Nat} {zs : List Int} (h : (a = none ∧ len = 0 ∧ cap = 0 ∧ zs = []) ∨
    ∃ x, a = some x ∧ len ≤ cap ∧ cap ≤ maxLen ∧ zs.length = cap ∧ (∀ i, i < zs.length → w.cell? (x.add i) = some (.int .u8 (zs.getD i 0))) ∧ ∀ n ∈ zs, (Lit.int .u8 n).wf = true) (hn : len ≤ 1048576) :
    IsCode w.heap.size w (.slice a len cap) := by
  refine ⟨a, len, cap, rfl, hn, fun hp => ?_⟩
  rcases h with ⟨rfl, rfl, rfl, rfl⟩ | ⟨x, rfl, hl, hm, hz, hcell, hwz⟩
  · omega
  · obtain ⟨b, off, spot⟩ := x
    have hc := hcell 0 (by omega)
    have hspot : spot = none := by simpa [Addr.add] using World.cell?_spot hc
    subst hspot
    refine ⟨b, off, rfl, by simpa [Addr.add] using World.block_lt_of_cell? _ _ hc, fun j hj => ⟨zs.getD j 0, ?_, ?_⟩⟩
    · have h1 := hcell j (by omega)
      rwa [Addr.add_lit] at h1
    · have h1 := hwz (zs.getD j 0) (by simp [List.getD, show j < zs.length by omega])
      simpa [Lit.wf, IntKind.min, IntKind.max, IntKind.signed, IntKind.bits] using h1

end Go.Proofs.YtggnnbdjihihiaaGreat

namespace Go.Proofs.YtggnnbdjihihiaaGreat
open Go.RowKit

def inRange (ds : List Int) : Prop := ∀ d ∈ ds, -1000 ≤ d ∧ d ≤ 1000

set_option maxHeartbeats 1000000 in
theorem draw (b m : Nat) (cv : Value) (w : World) (hs : SrcAt w b cv m) (hc : IsCode b w cv) (hm : m ≤ 100000000) :
    Calls Tryz.prog 121 #[.pointer (some ⟨b, 0, none⟩)] w fun e w' => ∃ (v : Value) (ds : List Int), e = .returned v ∧ ds.length = 3 ∧ inRange ds ∧ w'.ownsRow w.heap.size 2 1 v 3 (ds.map (Value.int .i64)) ∧
      SrcAt w' b cv (m + 9) ∧ IsCode b w' cv ∧ w.grownBy w' (some b) := by
  obtain ⟨i0, hi0, hz0, hz1, hz2⟩ := info_parts info2
  go_enter Tryz.func121, Tryz.ntmps121
  go_wp2_with fail
  go_loopw [3, 4] (fun v i wr => ∃ (k : Nat) (ds : List Int), k ≤ 3 ∧ i = .int .i64 k ∧ ds.length = k ∧ inRange ds ∧ wr.ownsRow w.heap.size 2 1 v k (ds.map (Value.int .i64)) ∧ SrcAt wr b cv (m + 3 * k) ∧ IsCode b wr cv ∧ w.grownBy wr (some b))
    (fun _ i _ => 3 - (intOf i).toNat)
  case atStart =>
    refine ⟨0, [], by omega, rfl, rfl, fun d hd => by simp at hd, ?_, hs.alloc _, hc.alloc (Nat.le_of_lt hs.lt) _, World.grownBy_alloc w _ _⟩
    exact World.ownsRow_lit w #[] 0 (Nat.le_refl _) (by unfold maxLen; omega) rfl
  case round =>
    obtain ⟨k, ds, hk, rfl, hl, hd, hown, hs1, hc1, hg1⟩ := hrel
    have hbw := hs.lt
    have HW := hide hg1
    have hwr := hg1.size
    clear hs hc hg1
    by_cases hlt : k < 3
    · have HD := hide hd
      have HL := hide hl
      clear hd hl hi0 hz0 hz1 hz2
      go_wp2_with fail
      refine (next b (m + 3 * k) cv 9 _ hs1 hc1 (by omega) (by omega) (by omega)).mono ?_
      rintro e w1 ⟨x, rfl, hx, hs2, hc2, hg2⟩
      have hown2 := hown.kept hg2 (Or.inr (own_ne hown hbw))
      have HW2 := hide (grown_trans (unhide HW) hg2)
      have hw1 : wr.heap.size ≤ w1.heap.size := hg2.size
      clear hown hs1 hc1 hg2 HW
      go_wp2_with fail
      refine (next b (m + 3 * k + 1) cv 40 _ hs2 hc2 (by omega) (by omega) (by omega)).mono ?_
      rintro e w2 ⟨y, rfl, hy, hs3, hc3, hg3⟩
      have hown3 := hown2.kept hg3 (Or.inr (own_ne hown2 hbw))
      have HW3 := hide (grown_trans (unhide HW2) hg3)
      have hw2 : w1.heap.size ≤ w2.heap.size := hg3.size
      clear hown2 hs2 hc2 hg3 HW2
      go_wp2_with fail
      have e := pick b (m + 3 * k + 1 + 1) w2.heap.size cv [(x : Int) - 4, (y : Int) - 20, 0, 1000, -1000] (w2.alloc (.cells #[.int .i64 ((x : Int) - 4), .int .i64 ((y : Int) - 20), .int .i64 0, .int .i64 1000, .int .i64 (-1000)] 2)) (hs3.alloc _) (hc3.alloc (by omega) _) (by omega) (by simp) (by simp) (heap_alloc_new w2 _) (by omega)
      refine e.mono ?_
      clear e
      rintro e w3 ⟨r, rfl, hr, hs4, hc4, hg4⟩
      have hrr : -1000 ≤ r ∧ r ≤ 1000 := by
        simp at hr
        omega
      have hown4 := (hown3.alloc (.cells #[.int .i64 ((x : Int) - 4), .int .i64 ((y : Int) - 20), .int .i64 0, .int .i64 1000, .int .i64 (-1000)] 2)).kept hg4 (Or.inr (own_ne hown3 hbw))
      have HW4 := hide (grown_trans (grown_trans (unhide HW3) (World.grownBy_alloc w2 _ _)) hg4)
      have hw3 : w2.heap.size ≤ w3.heap.size := by have := hg4.size; simp at this; omega
      have HR := hide hrr
      clear hown3 hs3 hc3 hg4 HW3 hr hrr
      obtain ⟨i0, hi0, hz0, hz1, hz2⟩ := info_parts info2
      have HS := hide hs4
      have HC := hide hc4
      clear hs4 hc4
      go_wp2_with (at_builtin; refine wpList_append_lies _ rfl _ _ 28 rfl w.heap.size 2 i0 _ 1 8 Tryz.underlying28 hi0 hz0 hz1 hz2 rfl (by omega) _ k _ rfl (hown4.alloc _) ⟨w3.heap.size, 0, none⟩ 1 1 [.int .i64 r] rfl rfl (World.news_of_block (cs := #[.int .i64 r]) (t := 2) (fr := (0, 0)) (heap_alloc_new w3 _)) (by simp [Value.oneCell']) (by omega) (by unfold maxLen; omega) (by omega) (by simp; omega) (w3.heap.size + 1) (by simp) ?_)
      intro gg cap2 w4 hown5 hgr hat hlt4
      have hne := own_ne hown4 hbw
      have HS5 := hide (((unhide HS).alloc (.cells #[.int .i64 r] 2)).keep hgr (Ne.symm hne))
      have HW5 := hide (grown_new (grown_trans (unhide HW4) (World.grownBy_alloc w3 (.cells #[.int .i64 r] 2) _)) hgr (fun j hj => (hown4.lt j hj).1))
      have HC5 := hide (((unhide HC).alloc (by omega) (.cells #[.int .i64 r] 2)).later (((Below.refl b _).grown hgr (by simp; omega) (fun j hj => by have := (hown4.lt j hj).1; omega))))
      have HO5 : Hid (w4.ownsRow w.heap.size 2 1 (Value.slice (some ⟨gg, 0, none⟩) (k + 1) cap2) (k + 1) ((ds ++ [r]).map (Value.int .i64))) := by
        show w4.ownsRow w.heap.size 2 1 (Value.slice (some ⟨gg, 0, none⟩) (k + 1) cap2) (k + 1) ((ds ++ [r]).map (Value.int .i64))
        rw [List.map_append]
        exact hown5
      clear hown4 hown5 hgr hat HS HC HW4 hne hi0 hz0 hz1 hz2
      go_wp2
      go_roundw
      case rel =>
        refine ⟨k + 1, ds ++ [r], by omega, by go_num, by simp [unhide HL], fun d hd => ?_, unhide HO5, unhide HS5, unhide HC5, unhide HW5⟩
        rcases List.mem_append.1 hd with h | h
        · exact unhide HD d h
        · simp at h
          subst h
          exact unhide HR
      case measure => simp [intOf]; omega
    · obtain rfl : k = 3 := by omega
      have HD := hide hd
      have HL := hide hl
      have HO := hide hown
      have HS := hide hs1
      have HC := hide hc1
      clear hd hl hown hs1 hc1 hi0 hz0 hz1 hz2
      go_wp2
      go_ret
      exact ⟨_, ds, rfl, unhide HL, unhide HD, unhide HO, unhide HS, unhide HC, unhide HW⟩

end Go.Proofs.YtggnnbdjihihiaaGreat

namespace Go.Proofs.YtggnnbdjihihiaaGreat
open Go.RowKit

/-- The slice v holds the numbers zs in memory from block B on. -/
def NewInts (B : Nat) (w : World) (v : Value) (zs : List Int) : Prop :=
  ∃ ao cap, v = .slice ao zs.length cap ∧ (∀ z ∈ zs, -1001 ≤ z ∧ z ≤ 1001) ∧
    (0 < zs.length → ∃ g off, ao = some ⟨g, off, none⟩ ∧ B ≤ g ∧ ∀ j, j < zs.length → w.cell? ⟨g, off + j, none⟩ = some (.int .i64 (zs.getD j 0))) ∧ zs.length ≤ cap

theorem NewInts.ints {B : Nat} {w : World} {v : Value} {zs : List Int} (h : NewInts B w v zs) : IsInts w v zs := by
  obtain ⟨ao, cap, rfl, hb, hc, -⟩ := h
  refine ⟨ao, cap, rfl, fun z hz => wf_of_bd (by have := hb z hz; omega), fun hp => ?_⟩
  obtain ⟨g, off, h1, _, h2⟩ := hc hp
  exact ⟨g, off, h1, h2⟩

theorem NewInts.keep {B b : Nat} {w w' : World} {v : Value} {zs : List Int} (h : NewInts B w v zs) (hg : w.grownBy w' (some b)) (hb : b < B) : NewInts B w' v zs := by
  obtain ⟨ao, cap, rfl, hr, hc, hcap⟩ := h
  refine ⟨ao, cap, rfl, hr, fun hp => ?_, hcap⟩
  obtain ⟨g, off, h1, h2, h3⟩ := hc hp
  refine ⟨g, off, h1, h2, fun j hj => ?_⟩
  have h4 := h3 j hj
  exact (hg.cell_far _ (World.block_lt_of_cell? _ _ h4) (by simp; omega)).trans h4

theorem newInts_own {B T : Nat} {w : World} {v : Value} {zs : List Int} (hr : ∀ z ∈ zs, -1001 ≤ z ∧ z ≤ 1001) (h : w.ownsRow B T 1 v zs.length (zs.map (Value.int .i64))) : NewInts B w v zs := by
  rcases h.2 with ⟨rfl, h0⟩ | ⟨g, cap, cur, rfl, hB, _, hcap, _⟩
  · obtain rfl : zs = [] := List.eq_nil_of_length_eq_zero h0
    exact ⟨none, 0, rfl, hr, by simp, by simp⟩
  · refine ⟨_, _, rfl, hr, fun hp => ⟨g, 0, rfl, hB, fun j hj => ?_⟩, hcap⟩
    rw [Nat.zero_add, h.cellAt j (by omega)]
    simp [List.getD, hj]

theorem own_three {w : World} {B T : Nat} {v : Value} {xs : List Value} (h : w.ownsRow B T 1 v 3 xs) : ∃ g cap, v = .slice (some ⟨g, 0, none⟩) 3 cap ∧ B ≤ g ∧ g < w.heap.size ∧ 3 ≤ cap := by
  rcases h.2 with ⟨_, h0⟩ | ⟨g, cap, cur, rfl, hB, hh, hcap, _⟩
  · omega
  · exact ⟨g, cap, rfl, hB, lt_of_block hh, hcap⟩

/-- What a bent draw leaves. -/
def BentPost (b m : Nat) (cv : Value) (w : World) (e : Ending) (w' : World) : Prop :=
  ∃ (v : Value) (zs : List Int) (m' : Nat), e = .returned v ∧ zs.length ≤ 4 ∧ NewInts w.heap.size w' v zs ∧ m' ≤ m + 11 ∧ SrcAt w' b cv m' ∧ IsCode b w' cv ∧ w.grownBy w' (some b)

set_option maxHeartbeats 1000000 in
theorem bent (b m : Nat) (cv : Value) (w : World) (hs : SrcAt w b cv m) (hc : IsCode b w cv) (hm : m ≤ 90000000) :
    Calls Tryz.prog 83 #[.pointer (some ⟨b, 0, none⟩)] w (BentPost b m cv w) := by
  have hbw := hs.lt
  go_enter Tryz.func83, Tryz.ntmps83
  go_wp2_with fail
  refine (draw b m cv w hs hc (by omega)).mono ?_
  rintro e w1 ⟨v, ds, rfl, hl, hr, hown, hs1, hc1, hg1⟩
  obtain ⟨g, cap, rfl, hBg, -, hcap⟩ := own_three hown
  have HL := hide hl
  have HR := hide hr
  have hw1 : w.heap.size ≤ w1.heap.size := hg1.size
  clear hs hc hl hr
  go_wp2_with fail
  refine (next b (m + 9) cv 12 _ hs1 hc1 (by omega) (by omega) (by omega)).mono ?_
  rintro e w2 ⟨r, rfl, hr, hs2, hc2, hg2⟩
  have hown2 := hown.kept hg2 (Or.inr (own_ne hown hbw))
  have HW := hide (grown_trans hg1 hg2)
  have hw2 : w1.heap.size ≤ w2.heap.size := hg2.size
  clear hown hs1 hc1 hg1 hg2
  rcases (show r = 0 ∨ r = 1 ∨ r = 2 ∨ 3 ≤ r by omega) with rfl | rfl | rfl | h3
  · go_wp2_with fail
    have e := pick b (m + 9 + 1) w2.heap.size cv [1001, -1001] (w2.alloc (.cells #[.int .i64 1001, .int .i64 (-1001)] 2)) (hs2.alloc _) (hc2.alloc (by omega) _) (by omega) (by simp) (by simp) (heap_alloc_new w2 _) (by omega)
    refine e.mono ?_
    clear e
    rintro e w3 ⟨q, rfl, hq, hs3, hc3, hg3⟩
    have hqq : -1001 ≤ q ∧ q ≤ 1001 := by
      simp at hq
      omega
    have hown3 := (hown2.alloc (.cells #[.int .i64 1001, .int .i64 (-1001)] 2)).kept hg3 (Or.inr (own_ne hown2 hbw))
    have hw3 : w2.heap.size ≤ w3.heap.size := by have := hg3.size; simp at this; omega
    obtain ⟨u, hcd⟩ : ∃ u, w3.cell? ⟨g, 0, none⟩ = some u := by
      rw [hown3.cellAt 0 (by omega)]
      exact ⟨_, List.getElem?_eq_getElem (by simp [unhide HL])⟩
    have hfz := hown3.frozenAt 0
    have hst := hown3.stored 0 (.int .i64 q)
    have HO := hide hst.1
    have hgb : some b ≠ some g := by simp; omega
    have HS := hide (hs3.keep hst.2 hgb)
    have HC := hide (hc3.later ((Below.refl b _).grown hst.2 (by omega) (fun j hj => by simp at hj; omega)))
    have HW2 := hide (grown_new (grown_trans (grown_trans (unhide HW) (World.grownBy_alloc w2 (.cells #[.int .i64 1001, .int .i64 (-1001)] 2) _)) hg3) hst.2 (fun j hj => by simp at hj; omega))
    have HQ := hide hqq
    clear hown2 hs2 hc2 hs3 hc3 hg3 hown3 hst hq hqq HW
    go_wp2_with fail
    go_ret
    refine ⟨_, ds.set 0 q, m + 11, rfl, by simp [unhide HL], newInts_own (T := 2) (fun z hz => ?_) (by simpa [unhide HL, List.map_set] using unhide HO), by omega, unhide HS, unhide HC, unhide HW2⟩
    rcases List.mem_or_eq_of_mem_set hz with h | h
    · have := unhide HR z h; omega
    · subst h; exact unhide HQ
  · have hcell : ∀ j, j < 2 → w2.cell? ⟨g, 1 + j, none⟩ = some (.int .i64 (ds.tail.getD j 0)) := by
      intro j hj
      rw [hown2.cellAt (1 + j) (by omega)]
      match ds, unhide HL with
      | [x, y, z], _ =>
        rcases (show j = 0 ∨ j = 1 by omega) with rfl | rfl <;> rfl
    have HC2 := hide hcell
    have HS := hide hs2
    have HC := hide hc2
    clear hown2 hs2 hc2 hcell
    go_wp2_with fail
    go_ret
    have hl2 : ds.tail.length = 2 := by simp [unhide HL]
    refine ⟨_, ds.tail, m + 10, rfl, by omega, ⟨some ⟨g, 1, none⟩, cap - 1, by rw [hl2]; rfl, fun z hz => ?_, fun _ => ⟨g, 1, rfl, hBg, fun j hj => unhide HC2 j (by omega)⟩, by omega⟩, by omega, unhide HS, unhide HC, unhide HW⟩
    have := unhide HR z (List.mem_of_mem_tail hz)
    omega
  · obtain ⟨i0, hi0, hz0, hz1, hz2⟩ := info_parts info2
    have HS := hide hs2
    have HC := hide hc2
    clear hs2 hc2
    go_wp2_with (at_builtin; refine wpList_append_lies _ rfl _ _ 28 rfl w.heap.size 2 i0 _ 1 8 Tryz.underlying28 hi0 hz0 hz1 hz2 rfl (by omega) _ 3 _ rfl (hown2.alloc _) ⟨w2.heap.size, 0, none⟩ 1 1 [.int .i64 0] rfl rfl (World.news_of_block (cs := #[.int .i64 0]) (t := 2) (fr := (0, 0)) (heap_alloc_new w2 _)) (by simp [Value.oneCell']) (by omega) (by unfold maxLen; omega) (by omega) (by simp; omega) (w2.heap.size + 1) (by simp) ?_)
    intro gg cap2 w3 hown3 hgr hat hlt4
    have HO : Hid (w3.ownsRow w.heap.size 2 1 (.slice (some ⟨gg, 0, none⟩) (ds ++ [0]).length cap2) (ds ++ [0]).length ((ds ++ [0]).map (Value.int .i64))) := by
      show w3.ownsRow w.heap.size 2 1 (.slice (some ⟨gg, 0, none⟩) (ds ++ [0]).length cap2) (ds ++ [0]).length ((ds ++ [0]).map (Value.int .i64))
      rw [List.map_append, List.length_append, unhide HL]
      exact hown3
    have hne := own_ne hown2 hbw
    have HS3 := hide (((unhide HS).alloc (.cells #[.int .i64 0] 2)).keep hgr (Ne.symm hne))
    have HW3 := hide (grown_new (grown_trans (unhide HW) (World.grownBy_alloc w2 (.cells #[.int .i64 0] 2) _)) hgr (fun j hj => (hown2.lt j hj).1))
    have HC3 := hide (((unhide HC).alloc (by omega) (.cells #[.int .i64 0] 2)).later (((Below.refl b _).grown hgr (by simp; omega) (fun j hj => by have := (hown2.lt j hj).1; omega))))
    clear hown2 hown3 hgr hat HS HC HW hne hi0 hz0 hz1 hz2
    go_wp2_with fail
    go_ret
    have hl4 : (ds ++ [(0 : Int)]).length = 4 := by simp [unhide HL]
    refine ⟨_, ds ++ [0], m + 10, rfl, by omega, ?_, by omega, unhide HS3, unhide HC3, unhide HW3⟩
    have h1 := unhide HO
    rw [hl4] at h1
    refine newInts_own (T := 2) (fun z hz => ?_) (by rw [hl4]; exact h1)
    rcases List.mem_append.1 hz with h | h
    · have := unhide HR z h; omega
    · simp at h; omega
  · have e0 : ((r : Int) == 0) = false := by rw [beq_eq_false_iff_ne]; omega
    have e1 : ((r : Int) == 1) = false := by rw [beq_eq_false_iff_ne]; omega
    have e2 : ((r : Int) == 2) = false := by rw [beq_eq_false_iff_ne]; omega
    have HO := hide hown2
    have HS := hide hs2
    have HC := hide hc2
    clear hown2 hs2 hc2
    go_wp2_with fail
    go_ret
    refine ⟨_, ds, m + 10, rfl, by rw [unhide HL]; omega, newInts_own (T := 2) (fun z hz => by have := unhide HR z hz; omega) (by rw [unhide HL]; exact unhide HO), by omega, unhide HS, unhide HC, unhide HW⟩

theorem NewInts.lies {B : Nat} {w : World} {v : Value} {zs : List Int} (h : NewInts B w v zs) (hn : zs.length ≤ 10) : ∃ bl, (Lay.sl Lay.int).lies w [v] zs bl ∧ ∀ c ∈ bl, B ≤ c := by
  obtain ⟨ao, cap, rfl, hr, hc, hcap⟩ := h
  have hwf : ∀ z ∈ zs, (Lit.int .i64 z).wf = true := fun z hz => wf_of_bd (by have := hr z hz; omega)
  by_cases hp : 0 < zs.length
  · obtain ⟨g, off, rfl, hB, hcell⟩ := hc hp
    exact ⟨[g], Lay.lies_ints.2 ⟨_, cap, rfl, ⟨hcap, by omega⟩, hwf, Or.inr ⟨g, off, rfl, World.block_lt_of_cell? _ _ (hcell 0 hp), rfl, hcell⟩⟩, by simp; exact hB⟩
  · obtain rfl : zs = [] := List.eq_nil_of_length_eq_zero (by omega)
    exact ⟨[], Lay.lies_ints.2 ⟨ao, cap, rfl, ⟨hcap, by simp⟩, by simp, Or.inl ⟨rfl, rfl⟩⟩, by simp⟩

end Go.Proofs.YtggnnbdjihihiaaGreat

namespace Go.Proofs.YtggnnbdjihihiaaGreat
open Go.RowKit

theorem grown_on {a b c : World} {s : Option Nat} (h : a.grownBy b s) (k : Below b.heap.size b c) : a.grownBy c s :=
  ⟨k.os.trans h.os, k.tape.trans h.tape, k.output.trans h.output, Nat.le_trans h.size k.size, fun i hi hn => (k.block i (Nat.lt_of_lt_of_le hi h.size)).trans (h.block i hi hn)⟩
theorem SrcAt.on {w w' : World} {b m : Nat} {cv : Value} (h : SrcAt w b cv m) (hb : Below w.heap.size w w') : SrcAt w' b cv m := (hb.block b h.lt).trans h
theorem IsCode.on {B : Nat} {w w' : World} {cv : Value} (h : IsCode B w cv) (hB : B ≤ w.heap.size) (hb : Below w.heap.size w w') : IsCode B w' cv := h.later (hb.mono hB)
/-- Some items of the draw's own; the source has gone on. -/
def ItemsPost (b m : Nat) (cv : Value) (w : World) (e : Ending) (w' : World) : Prop :=
  ∃ (v : Value) (rows : List (List Value)) (xs : List DItem) (bls : List (List Nat)) (m' : Nat), e = .returned v ∧ Grow Lay.tItem w' w.heap.size 139 v rows xs bls ∧ (∀ c ∈ bls.flatten, w.heap.size ≤ c) ∧ xs.length ≤ 31 ∧
    SrcAt w' b cv m' ∧ m' ≤ m + 400 ∧ IsCode b w' cv ∧ w.grownBy w' (some b)

set_option maxRecDepth 10000 in
set_option maxHeartbeats 1000000 in
theorem drawRight (b m : Nat) (cv : Value) (w : World) (hs : SrcAt w b cv m) (hc : IsCode b w cv) (hm : m ≤ 1000000) :
    Calls Tryz.prog 142 #[.pointer (some ⟨b, 0, none⟩)] w fun e w' => ∃ (v : Value) (rows : List (List Value)) (xs : List DItem) (bls : List (List Nat)) (m' : Nat), e = .returned v ∧ Grow Lay.tItem w' w.heap.size 139 v rows xs bls ∧ (∀ c ∈ bls.flatten, w.heap.size ≤ c) ∧ xs.length ≤ 11 ∧
      SrcAt w' b cv m' ∧ m' ≤ m + 200 ∧ IsCode b w' cv ∧ w.grownBy w' (some b) := by
  have hbw := hs.lt
  have nb : Below w.heap.size w (w.alloc (.cells #[] 139)) := (Below.refl w.heap.size w).alloc (Nat.le_refl _) (.cells #[] 139)
  have G0 : Grow Lay.tItem (w.alloc (.cells #[] 139)) w.heap.size 139 (.slice (some ⟨w.heap.size, 0, none⟩) 0 0) [] [] [] := Grow.nil (World.ownsRow_lit w #[] 0 (Nat.le_refl _) (Nat.zero_le _) rfl)
  have L := next b m cv 12 (w.alloc (.cells #[] 139)) (hs.on nb) (hc.on (Nat.le_of_lt hbw) nb) (by omega) (by omega) (by omega)
  have HL := hide L
  have HG := hide G0
  have HN := hide nb
  clear L G0 nb hs hc
  go_enter Tryz.func142, Tryz.ntmps142
  go_wp2_with fail
  refine (unhide HL).mono ?_
  rintro e w1 ⟨r, rfl, hr, s1, c1, g1⟩
  have hr2 : r ≤ 11 := by omega
  have HG1 := hide ((unhide HG).grown g1 hbw (by simp))
  have HS1 := hide s1
  have HC1 := hide c1
  have HGR1 : Hid (w.grownBy w1 (some b)) := ⟨g1.os.trans (unhide HN).os, g1.tape.trans (unhide HN).tape, g1.output.trans (unhide HN).output, Nat.le_trans (unhide HN).size g1.size, fun i hi hn => (g1.block i (Nat.lt_of_lt_of_le hi (unhide HN).size) hn).trans ((unhide HN).block i hi)⟩
  clear s1 c1 g1 HL HG HN hr
  go_wp2_with fail
  go_loopw [3, 4] (fun v kk wr => ∃ (j : Nat) (rows : List (List Value)) (xs : List DItem) (bls : List (List Nat)) (m' : Nat), j ≤ 11 ∧ kk = .int .i64 j ∧ Grow Lay.tItem wr w.heap.size 139 v rows xs bls ∧ (∀ c ∈ bls.flatten, w.heap.size ≤ c) ∧ Rising xs ∧ (∀ x ∈ xs, x.vec.length = 3) ∧ xs.length + j ≤ 11 ∧
      SrcAt wr b cv m' ∧ m' + 10 * j ≤ m + 111 ∧ IsCode b wr cv ∧ w.grownBy wr (some b)) (fun _ kk _ => (intOf kk).toNat)
  case atStart => exact ⟨r, [], [], [], m + 1, hr2, rfl, unhide HG1, by simp, List.Pairwise.nil, by simp, by simp; exact hr2, unhide HS1, by omega, unhide HC1, unhide HGR1⟩
  case round =>
    obtain ⟨j, rows, xs, bls, m', hj, rfl, hG, hsf, hris, hv3, hlen, hS, hm', hC, hgr⟩ := hrel
    clear HG1 HS1 HC1 HGR1
    by_cases hlt : 0 < j
    · have L := next b m' cv 14 wr hS hC (by omega) (by omega) (by omega)
      have HL := hide L
      have HG := hide hG
      have HSF := hide hsf
      have HRI := hide hris
      have HV3 := hide hv3
      have HGR := hide hgr
      clear L hG hsf hris hv3 hS hC hgr
      go_wp2_with fail
      refine (unhide HL).mono ?_
      rintro e w2 ⟨r2, rfl, hr2', s2, c2, g2⟩
      have hz2 := g2.size
      have HG2 := hide ((unhide HG).grown g2 hbw (unhide HSF))
      have HGR2 : Hid (w.grownBy w2 (some b)) := grown_trans (unhide HGR) g2
      have L := draw b (m' + 1) cv w2 s2 c2 (by omega)
      have HL2 := hide L
      have hr3 : (r2 : Int) ≤ 13 := by omega
      clear L s2 c2 g2 HL HG HGR hr2'
      go_wp2_with fail
      refine (unhide HL2).mono ?_
      rintro e w3 ⟨vd, ds, rfl, hd3, hdr, hod, s3, c3, g3⟩
      have hz3 := g3.size
      have hG3 := (unhide HG2).grown g3 hbw (unhide HSF)
      have hGR3 : w.grownBy w3 (some b) := grown_trans (unhide HGR2) g3
      have hR := hG3.toReads (by omega)
      have hdw : ∀ z ∈ ds, (Lit.int .i64 z).wf = true := fun z hz => wf_of_bd (by have := hdr z hz; omega)
      rw [← hd3] at hod
      have hvd := (Lay.ownInts hdw (by omega) hod).reads
      have L := specSetG u3 xs (1 + (r2 : Int)) ds vd true w3 hR hvd (wf_of_bd (by omega)) (by omega) (fun x hx => by have := unhide HV3 x hx; omega) (by omega)
      rw [setM_put (unhide HRI)] at L
      have HL3 := hide L
      have HS3 := hide s3
      have HC3 := hide c3
      have HG3 := hide hG3
      have HGR3 := hide hGR3
      have hwz : w.heap.size ≤ w3.heap.size := hGR3.size
      have HRI2 := hide (putI_rising (unhide HRI) (1 + (r2 : Int)) ds)
      have HV2 : Hid (∀ x ∈ putI xs (1 + (r2 : Int)) ds, x.vec.length = 3) := by
        intro x hx
        rcases mem_putI.1 hx with rfl | ⟨hx, -⟩
        · exact hd3
        · exact unhide HV3 x hx
      have HLN : Hid ((putI xs (1 + (r2 : Int)) ds).length ≤ xs.length + 1) := by
        show (putI xs (1 + (r2 : Int)) ds).length ≤ xs.length + 1
        rw [putI_len (unhide HRI)]
        split <;> omega
      clear L hG3 hGR3 hR hvd hod hdw hdr s3 c3 g3 HL2 HG2 HGR2
      go_wp2_with fail
      refine (unhide HL3).mono ?_
      rintro e w4 ⟨v4, rfl, ⟨rows4, bls4, hG4, hs4⟩, hb4⟩
      have HG4 := hide (hG4.lower hwz)
      have HSF4 : Hid (∀ c ∈ bls4.flatten, w.heap.size ≤ c) := fun c hc => Nat.le_trans hwz (hs4 c hc)
      have HS4 := hide ((unhide HS3).on hb4)
      have HC4 := hide ((unhide HC3).on (by omega) hb4)
      have HGR4 := hide (grown_on (unhide HGR3) hb4)
      clear hG4 hs4 hb4 HL3 HS3 HC3 HG3 HGR3
      go_wp2_with fail
      go_roundw
      case rel => exact ⟨j - 1, rows4, putI xs (1 + (r2 : Int)) ds, bls4, m' + 1 + 9, by omega, by go_num, unhide HG4, unhide HSF4, unhide HRI2, unhide HV2, by have := unhide HLN; omega, unhide HS4, by omega, unhide HC4, unhide HGR4⟩
      case measure => simp [intOf]; omega
    · have HG := hide hG
      have HSF := hide hsf
      have HS := hide hS
      have HC := hide hC
      have HGR := hide hgr
      clear hG hsf hS hC hgr hris hv3
      have hd : decide ((0 : Int) < (j : Int)) = false := by simp; omega
      go_wp2_with fail
      go_ret
      exact ⟨_, rows, xs, bls, m', rfl, unhide HG, unhide HSF, by omega, unhide HS, by omega, unhide HC, unhide HGR⟩

end Go.Proofs.YtggnnbdjihihiaaGreat

namespace Go.Proofs.YtggnnbdjihihiaaGreat
open Go.RowKit

set_option maxHeartbeats 400000 in
theorem implFault_len (ao : Option Addr) (n cap : Nat) (w : World) (h : n ≠ 3) :
    Calls Tryz.prog 54 #[.slice ao n cap] w fun e w' => e = .returned (.int .i64 1) ∧ w' = w := by
  have h3 : ((n : Int) != 3) = true := by rw [bne_iff_ne]; omega
  go_enter Tryz.func54, Tryz.ntmps54
  go_wp2
  go_ret
  exact ⟨rfl, rfl⟩

set_option maxHeartbeats 400000 in
theorem implFault_three (b off cap : Nat) (zs : List Int) (w : World) (h : zs.length = 3) (hc : ∀ j, j < 3 → w.cell? ⟨b, off + j, none⟩ = some (.int .i64 (zs.getD j 0))) :
    Calls Tryz.prog 54 #[.slice (some ⟨b, off, none⟩) 3 cap] w fun e w' => e = .returned (.int .i64 (vecFault zs)) ∧ w' = w := by
  go_enter Tryz.func54, Tryz.ntmps54
  go_wp2
  go_loop [10] (fun i => ∃ k : Nat, k ≤ 3 ∧ i = .int .i64 k ∧ ∀ j, j < k → partB (zs.getD j 0) = true) (fun i => 3 - (intOf i).toNat)
  case atStart => exact ⟨0, Nat.zero_le _, rfl, fun j hj => by omega⟩
  case round =>
    obtain ⟨k, hk, rfl, hg⟩ := hrel
    have HG : Hid (∀ j, j < k → partB (zs.getD j 0) = true) := hg
    have HL : Hid (zs.length = 3) := h
    clear hg h
    by_cases hlt : k < 3
    · have hcx : w.cell? ⟨b, off + k, none⟩ = some (.int .i64 (zs.getD k 0)) := hc k hlt
      obtain ⟨z, hz⟩ : ∃ z, z = zs.getD k 0 := ⟨_, rfl⟩
      rw [← hz] at hcx
      have HZ : Hid (z = zs.getD k 0) := hz
      clear hz hc
      cases hp : partB z with
      | true =>
        have hb := partB_true hp
        have HP : Hid (partB z = true) := hp
        clear hp
        obtain ⟨hb1, hb2⟩ := hb
        go_wp2
        go_round
        case rel =>
          refine ⟨k + 1, by omega, by go_num, fun j hj => ?_⟩
          by_cases hjk : j < k
          · exact HG.out j hjk
          · rw [show j = k by omega, ← HZ.out]; exact HP.out
        case measure => simp [intOf]; omega
      | false =>
        have HV : Hid (vecFault zs = 3) := vecFault_bad HL.out k hlt (by rw [← HZ.out]; exact hp)
        have hb := partB_false hp
        clear hp
        rcases hb with hb | hb
        · go_wp2
          go_ret
          exact ⟨by rw [HV.out]; rfl, rfl⟩
        · have hb1 : -1000 ≤ z := by omega
          have hd : decide (z ≤ 1000) = false := by simp; omega
          go_wp2
          go_ret
          exact ⟨by rw [HV.out]; rfl, rfl⟩
    · have HV : Hid (vecFault zs = 0) := vecFault_ok HL.out (fun j hj => HG.out j (by omega))
      go_wp2
      go_ret
      exact ⟨by rw [HV.out]; rfl, rfl⟩

set_option maxHeartbeats 400000 in
theorem modelFault_len (ao : Option Addr) (n cap : Nat) (w : World) (h : n ≠ 3) :
    Calls Tryz.prog 45 #[.slice ao n cap] w fun e w' => e = .returned (.int .i64 1) ∧ w' = w := by
  have h3 : ((n : Int) != 3) = true := by rw [bne_iff_ne]; omega
  go_enter Tryz.func45, Tryz.ntmps45
  go_wp2
  go_ret
  exact ⟨rfl, rfl⟩

set_option maxHeartbeats 400000 in
theorem modelFault_three (b off cap : Nat) (zs : List Int) (w : World) (h : zs.length = 3) (hc : ∀ j, j < 3 → w.cell? ⟨b, off + j, none⟩ = some (.int .i64 (zs.getD j 0))) :
    Calls Tryz.prog 45 #[.slice (some ⟨b, off, none⟩) 3 cap] w fun e w' => e = .returned (.int .i64 (vecFault zs)) ∧ w' = w := by
  go_enter Tryz.func45, Tryz.ntmps45
  go_wp2
  go_loop [3] (fun i => ∃ k : Nat, k ≤ 3 ∧ i = .int .i64 k ∧ ∀ j, j < k → partB (zs.getD j 0) = true) (fun i => 3 - (intOf i).toNat)
  case atStart => exact ⟨0, Nat.zero_le _, rfl, fun j hj => by omega⟩
  case round =>
    obtain ⟨k, hk, rfl, hg⟩ := hrel
    have HG : Hid (∀ j, j < k → partB (zs.getD j 0) = true) := hg
    have HL : Hid (zs.length = 3) := h
    clear hg h
    by_cases hlt : k < 3
    · have hcx : w.cell? ⟨b, off + k, none⟩ = some (.int .i64 (zs.getD k 0)) := hc k hlt
      obtain ⟨z, hz⟩ : ∃ z, z = zs.getD k 0 := ⟨_, rfl⟩
      rw [← hz] at hcx
      have HZ : Hid (z = zs.getD k 0) := hz
      clear hz hc
      cases hp : partB z with
      | true =>
        have hb := partB_true hp
        have HP : Hid (partB z = true) := hp
        clear hp
        obtain ⟨hb1, hb2⟩ := hb
        go_wp2
        go_round
        case rel =>
          refine ⟨k + 1, by omega, by go_num, fun j hj => ?_⟩
          by_cases hjk : j < k
          · exact HG.out j hjk
          · rw [show j = k by omega, ← HZ.out]; exact HP.out
        case measure => simp [intOf]; omega
      | false =>
        have HV : Hid (vecFault zs = 3) := vecFault_bad HL.out k hlt (by rw [← HZ.out]; exact hp)
        have hb := partB_false hp
        clear hp
        rcases hb with hb | hb
        · go_wp2
          go_ret
          exact ⟨by rw [HV.out]; rfl, rfl⟩
        · have hb1 : -1000 ≤ z := by omega
          have hd : decide (z ≤ 1000) = false := by simp; omega
          go_wp2
          go_ret
          exact ⟨by rw [HV.out]; rfl, rfl⟩
    · have HV : Hid (vecFault zs = 0) := vecFault_ok HL.out (fun j hj => HG.out j (by omega))
      go_wp2
      go_ret
      exact ⟨by rw [HV.out]; rfl, rfl⟩


/-- VecFault of the program. -/
theorem implFault (v : Value) (zs : List Int) (w : World) (h : IsInts w v zs) :
    Calls Tryz.prog 54 #[v] w fun e w' => e = .returned (.int .i64 (vecFault zs)) ∧ w' = w := by
  obtain ⟨ao, cap, rfl, hwf, hc⟩ := h
  by_cases h3 : zs.length = 3
  · obtain ⟨b, off, rfl, hc1⟩ := hc (by omega)
    rw [h3] at hc1 ⊢
    exact implFault_three b off cap zs w h3 hc1
  · rw [vecFault_len h3]
    exact implFault_len ao zs.length cap w h3

/-- VecFault of the model. -/
theorem modelFault (v : Value) (zs : List Int) (w : World) (h : IsInts w v zs) :
    Calls Tryz.prog 45 #[v] w fun e w' => e = .returned (.int .i64 (vecFault zs)) ∧ w' = w := by
  obtain ⟨ao, cap, rfl, hwf, hc⟩ := h
  by_cases h3 : zs.length = 3
  · obtain ⟨b, off, rfl, hc1⟩ := hc (by omega)
    rw [h3] at hc1 ⊢
    exact modelFault_three b off cap zs w h3 hc1
  · rw [vecFault_len h3]
    exact modelFault_len ao zs.length cap w h3

end Go.Proofs.YtggnnbdjihihiaaGreat

namespace Go.Proofs.YtggnnbdjihihiaaGreat
open Go.RowKit

theorem bcell {W w1 : World} (hb : Below W.heap.size W w1) : (∀ b o, b < W.heap.size → w1.cell? ⟨b, o, none⟩ = W.cell? ⟨b, o, none⟩) ∧ (∀ b o, b < W.heap.size → w1.frozen? ⟨b, o, none⟩ = W.frozen? ⟨b, o, none⟩) :=
  ⟨fun b o h => hb.cell (p := ⟨b, o, none⟩) h, fun b o h => hb.frozen (p := ⟨b, o, none⟩) h⟩

/-- Two blocks of three cells that were laid ahead of a call are there behind it, and may be written. -/
theorem two_kept {w w1 : World} {T : TypeId} {x0 x1 x2 y0 y1 y2 : Value} (hb : Below ((w.alloc (.cells #[x0, x1, x2] T)).alloc (.cells #[y0, y1, y2] T)).heap.size ((w.alloc (.cells #[x0, x1, x2] T)).alloc (.cells #[y0, y1, y2] T)) w1) :
    (w1.cell? ⟨w.heap.size, 0, none⟩ = some x0 ∧ w1.cell? ⟨w.heap.size, 1, none⟩ = some x1 ∧ w1.cell? ⟨w.heap.size, 2, none⟩ = some x2) ∧
    (w1.cell? ⟨w.heap.size + 1, 0, none⟩ = some y0 ∧ w1.cell? ⟨w.heap.size + 1, 1, none⟩ = some y1 ∧ w1.cell? ⟨w.heap.size + 1, 2, none⟩ = some y2) ∧
    (∀ o, w1.frozen? ⟨w.heap.size, o, none⟩ = false) ∧ (∀ o, w1.frozen? ⟨w.heap.size + 1, o, none⟩ = false) := by
  refine ⟨⟨?_, ?_, ?_⟩, ⟨?_, ?_, ?_⟩, fun o => ?_, fun o => ?_⟩
  all_goals first | rw [hb.cell (by simp [World.size_alloc]; try omega)] | rw [hb.frozen (by simp [World.size_alloc]; try omega)]
  all_goals simp [go_sem]

/-- Three numbers as an array. -/
def arr3 (x y z : Int) : Value := .agg #[.int .i64 x, .int .i64 y, .int .i64 z]

theorem IsInts.three {w : World} {v : Value} {zs : List Int} (h : IsInts w v zs) (h3 : zs.length = 3) :
    ∃ b off cap x y z, zs = [x, y, z] ∧ v = .slice (some ⟨b, off, none⟩) 3 cap ∧ b < w.heap.size ∧ w.cell? ⟨b, off, none⟩ = some (.int .i64 x) ∧ w.cell? ⟨b, off + 1, none⟩ = some (.int .i64 y) ∧ w.cell? ⟨b, off + 2, none⟩ = some (.int .i64 z) := by
  obtain ⟨ao, cap, rfl, hwf, hc⟩ := h
  match zs, h3 with
  | [x, y, z], _ =>
    obtain ⟨b, off, rfl, hc1⟩ := hc (by simp)
    have c0 := hc1 0 (by simp)
    have c1 := hc1 1 (by simp)
    have c2 := hc1 2 (by simp)
    exact ⟨b, off, cap, x, y, z, rfl, rfl, World.block_lt_of_cell? _ _ c0, by simpa using c0, by simpa using c1, by simpa using c2⟩

set_option maxHeartbeats 400000 in
theorem vectorOf_bad (v : Value) (zs : List Int) (w : World) (h : IsInts w v zs) (hf : vecFault zs ≠ 0) :
    Calls Tryz.prog 69 #[v] w fun e w' => e = .returned (.tuple #[arr3 0 0 0, .int .i64 (vecFault zs)]) ∧ Below w.heap.size w w' := by
  go_enter Tryz.func69, Tryz.ntmps69
  go_wp2_with fail
  refine (implFault v zs _ (h.later (((Below.refl _ _).alloc (Nat.le_refl _) _).alloc (by simp) _))).mono ?_
  rintro e w' ⟨rfl, rfl⟩
  have hne : (vecFault zs != 0) = true := by rw [bne_iff_ne]; exact hf
  go_wp2_with fail
  refine bodyPost_ret (v := .tuple #[arr3 0 0 0, .int .i64 (vecFault zs)]) (by simp [results, Tryz.results69, go_sem, arr3]) rfl ⟨rfl, ?_⟩
  exact ((Below.refl _ _).alloc (Nat.le_refl _) _).alloc (by simp) _

set_option maxHeartbeats 1000000 in
theorem vectorOf_three (b off cap : Nat) (x y z : Int) (w : World) (hbl : b < w.heap.size) (c0 : w.cell? ⟨b, off, none⟩ = some (.int .i64 x)) (c1 : w.cell? ⟨b, off + 1, none⟩ = some (.int .i64 y)) (c2 : w.cell? ⟨b, off + 2, none⟩ = some (.int .i64 z))
    (h : IsInts w (.slice (some ⟨b, off, none⟩) 3 cap) [x, y, z]) (hf : vecFault [x, y, z] = 0) :
    Calls Tryz.prog 69 #[.slice (some ⟨b, off, none⟩) 3 cap] w fun e w' => e = .returned (.tuple #[arr3 x y z, .int .i64 0]) ∧ Below w.heap.size w w' := by
  go_enter Tryz.func69, Tryz.ntmps69
  go_wp2_with fail
  refine (implFault _ [x, y, z] _ (h.later (((Below.refl _ _).alloc (Nat.le_refl _) _).alloc (by simp) _))).mono ?_
  rintro e w' ⟨rfl, rfl⟩
  rw [hf]
  clear h hf
  go_wp2_with fail
  refine wp_loop_rounds 4 ?_
  rw [rounds_succ]
  go_wp2
  rw [rounds_succ]
  go_wp2
  rw [rounds_succ]
  go_wp2
  rw [rounds_succ]
  go_wp2
  refine bodyPost_ret (v := .tuple #[arr3 x y z, .int .i64 0]) (by simp [results, Tryz.results69, go_sem, arr3]) rfl ⟨rfl, ?_⟩
  exact ((Below.refl _ _).alloc (Nat.le_refl _) _).alloc (by simp) _

theorem vectorOf_ok (v : Value) (x y z : Int) (w : World) (h : IsInts w v [x, y, z]) (hf : vecFault [x, y, z] = 0) :
    Calls Tryz.prog 69 #[v] w fun e w' => e = .returned (.tuple #[arr3 x y z, .int .i64 0]) ∧ Below w.heap.size w w' := by
  obtain ⟨b, off, cap, x', y', z', he, rfl, hbl, c0, c1, c2⟩ := h.three rfl
  simp only [List.cons.injEq, and_true] at he
  obtain ⟨rfl, rfl, rfl⟩ := he
  exact vectorOf_three b off cap x y z w hbl c0 c1 c2 h hf

end Go.Proofs.YtggnnbdjihihiaaGreat

namespace Go.Proofs.YtggnnbdjihihiaaGreat
open Go.RowKit

set_option maxHeartbeats 400000 in
theorem pairOf_bad1 (v1 v2 : Value) (zs : List Int) (w : World) (h : IsInts w v1 zs) (hf : vecFault zs ≠ 0) :
    Calls Tryz.prog 58 #[v1, v2] w fun e w' => e = .returned (.tuple #[arr3 0 0 0, arr3 0 0 0, .int .i64 (vecFault zs)]) ∧ Below w.heap.size w w' := by
  have hne : (vecFault zs != 0) = true := by rw [bne_iff_ne]; exact hf
  go_enter Tryz.func58, Tryz.ntmps58
  go_wp2_with fail
  refine (vectorOf_bad v1 zs _ (h.later (((Below.refl _ _).alloc (Nat.le_refl _) _).alloc (by simp) _)) hf).mono ?_
  rintro e w1 ⟨rfl, hb⟩
  obtain ⟨p0, p1, p2, p3⟩ := two_kept hb
  have hz : w.heap.size + 1 < w1.heap.size := by have := hb.size; simp at this; omega
  have hz0 : w.heap.size < w1.heap.size := by omega
  have hB1 : Below w.heap.size w w1 := (((Below.refl _ _).alloc (Nat.le_refl _) _).alloc (by simp) _).trans (hb.mono (by simp; omega))
  have HB := hide hB1
  clear hb hB1
  simp only [arr3]
  go_wp2_with fail
  refine bodyPost_ret (v := .tuple #[arr3 0 0 0, arr3 0 0 0, .int .i64 (vecFault zs)]) (by simp [results, Tryz.results58, go_sem, arr3, p0, p1, hz, hz0]) rfl ⟨rfl, ?_⟩
  exact ((((((((unhide HB).setCell (by simp) _).setCell (by simp) _).setCell (by simp) _).setCell (by simp) _).setCell (by simp) _).setCell (by simp) _).alloc (by simp; omega) _)

set_option maxHeartbeats 400000 in
theorem pairOf_bad2 (v1 v2 : Value) (x y z : Int) (zs : List Int) (w : World) (h : IsInts w v1 [x, y, z]) (h2 : IsInts w v2 zs) (hf1 : vecFault [x, y, z] = 0) (hf : vecFault zs ≠ 0) :
    Calls Tryz.prog 58 #[v1, v2] w fun e w' => e = .returned (.tuple #[arr3 0 0 0, arr3 0 0 0, .int .i64 (vecFault zs)]) ∧ Below w.heap.size w w' := by
  have hne : (vecFault zs != 0) = true := by rw [bne_iff_ne]; exact hf
  go_enter Tryz.func58, Tryz.ntmps58
  go_wp2_with fail
  refine (vectorOf_ok v1 x y z _ (h.later (((Below.refl _ _).alloc (Nat.le_refl _) _).alloc (by simp) _)) hf1).mono ?_
  rintro e w1 ⟨rfl, hb⟩
  obtain ⟨p0, p1, p2, p3⟩ := two_kept hb
  have hz : w.heap.size + 1 < w1.heap.size := by have := hb.size; simp at this; omega
  have hz0 : w.heap.size < w1.heap.size := by omega
  have hB1 : Below w.heap.size w w1 := (((Below.refl _ _).alloc (Nat.le_refl _) _).alloc (by simp) _).trans (hb.mono (by simp; omega))
  have HB := hide hB1
  clear hb hB1 hf1
  simp only [arr3]
  go_wp2_with fail
  refine (vectorOf_bad v2 zs _ ((h2.later (unhide HB)).later ((Below.refl _ _).alloc (Nat.le_refl _) _)) hf).mono ?_
  rintro e w2 ⟨rfl, hb⟩
  obtain ⟨hc, hfz⟩ := bcell hb
  have hz2 : w1.heap.size < w2.heap.size := by have := hb.size; simp at this; omega
  have hz3 : w.heap.size < w2.heap.size := by omega
  have hz4 : w.heap.size + 1 < w2.heap.size := by omega
  have hB2 : Below w.heap.size w w2 := ((unhide HB).alloc (by omega) _).trans (hb.mono (by simp; omega))
  have q0 : ∀ o, w2.frozen? ⟨w.heap.size, o, none⟩ = false := fun o => (hb.frozen (p := ⟨w.heap.size, o, none⟩) (by simp; omega)).trans (by simp [go_sem, p2, hz0])
  have q1 : ∀ o, w2.frozen? ⟨w.heap.size + 1, o, none⟩ = false := fun o => (hb.frozen (p := ⟨w.heap.size + 1, o, none⟩) (by simp; omega)).trans (by simp [go_sem, p3, hz])
  have q2 : ∀ o, w2.cell? ⟨w.heap.size, o, none⟩ = w1.cell? ⟨w.heap.size, o, none⟩ := fun o => (hb.cell (p := ⟨w.heap.size, o, none⟩) (by simp; omega)).trans (by simp [go_sem, hz0])
  have q3 : ∀ o, w2.cell? ⟨w.heap.size + 1, o, none⟩ = w1.cell? ⟨w.heap.size + 1, o, none⟩ := fun o => (hb.cell (p := ⟨w.heap.size + 1, o, none⟩) (by simp; omega)).trans (by simp [go_sem, hz])
  have HB2 := hide hB2
  clear hb hB2 hc hfz
  simp only [arr3]
  go_wp2_with fail
  refine bodyPost_ret (v := .tuple #[arr3 0 0 0, arr3 0 0 0, .int .i64 (vecFault zs)]) (by simp [results, Tryz.results58, go_sem, arr3, p0, p1, q2, q3, hz3, hz4]) rfl ⟨rfl, ?_⟩
  exact ((((((((unhide HB2).setCell (by simp) _).setCell (by simp) _).setCell (by simp) _).setCell (by simp) _).setCell (by simp) _).setCell (by simp) _).alloc (by simp; omega) _)

set_option maxHeartbeats 1000000 in
theorem pairOf_ok (v1 v2 : Value) (x y z a b c : Int) (w : World) (h : IsInts w v1 [x, y, z]) (h2 : IsInts w v2 [a, b, c]) (hf1 : vecFault [x, y, z] = 0) (hf : vecFault [a, b, c] = 0) :
    Calls Tryz.prog 58 #[v1, v2] w fun e w' => e = .returned (.tuple #[arr3 x y z, arr3 a b c, .int .i64 0]) ∧ Below w.heap.size w w' := by
  go_enter Tryz.func58, Tryz.ntmps58
  go_wp2_with fail
  refine (vectorOf_ok v1 x y z _ (h.later (((Below.refl _ _).alloc (Nat.le_refl _) _).alloc (by simp) _)) hf1).mono ?_
  rintro e w1 ⟨rfl, hb⟩
  obtain ⟨p0, p1, p2, p3⟩ := two_kept hb
  have hz : w.heap.size + 1 < w1.heap.size := by have := hb.size; simp at this; omega
  have hz0 : w.heap.size < w1.heap.size := by omega
  have hB1 : Below w.heap.size w w1 := (((Below.refl _ _).alloc (Nat.le_refl _) _).alloc (by simp) _).trans (hb.mono (by simp; omega))
  have HB := hide hB1
  clear hb hB1 hf1
  simp only [arr3]
  go_wp2_with fail
  refine (vectorOf_ok v2 a b c _ ((h2.later (unhide HB)).later ((Below.refl _ _).alloc (Nat.le_refl _) _)) hf).mono ?_
  rintro e w2 ⟨rfl, hb⟩
  have hz2 : w1.heap.size < w2.heap.size := by have := hb.size; simp at this; omega
  have hz3 : w.heap.size < w2.heap.size := by omega
  have hz4 : w.heap.size + 1 < w2.heap.size := by omega
  have hB2 : Below w.heap.size w w2 := ((unhide HB).alloc (by omega) _).trans (hb.mono (by simp; omega))
  have q0 : ∀ o, w2.frozen? ⟨w.heap.size, o, none⟩ = false := fun o => (hb.frozen (p := ⟨w.heap.size, o, none⟩) (by simp; omega)).trans (by simp [go_sem, p2, hz0])
  have q1 : ∀ o, w2.frozen? ⟨w.heap.size + 1, o, none⟩ = false := fun o => (hb.frozen (p := ⟨w.heap.size + 1, o, none⟩) (by simp; omega)).trans (by simp [go_sem, p3, hz])
  have q2 : ∀ o, w2.cell? ⟨w.heap.size, o, none⟩ = w1.cell? ⟨w.heap.size, o, none⟩ := fun o => (hb.cell (p := ⟨w.heap.size, o, none⟩) (by simp; omega)).trans (by simp [go_sem, hz0])
  have q3 : ∀ o, w2.cell? ⟨w.heap.size + 1, o, none⟩ = w1.cell? ⟨w.heap.size + 1, o, none⟩ := fun o => (hb.cell (p := ⟨w.heap.size + 1, o, none⟩) (by simp; omega)).trans (by simp [go_sem, hz])
  have r0 : w2.cell? ⟨w1.heap.size, 0, none⟩ = some (.int .i64 x) := (hb.cell (p := ⟨w1.heap.size, 0, none⟩) (by simp)).trans (by simp [go_sem])
  have r1 : w2.cell? ⟨w1.heap.size, 1, none⟩ = some (.int .i64 y) := (hb.cell (p := ⟨w1.heap.size, 1, none⟩) (by simp)).trans (by simp [go_sem])
  have r2 : w2.cell? ⟨w1.heap.size, 2, none⟩ = some (.int .i64 z) := (hb.cell (p := ⟨w1.heap.size, 2, none⟩) (by simp)).trans (by simp [go_sem])
  have hn0 : ¬ w1.heap.size = w.heap.size := by omega
  have hn1 : ¬ w1.heap.size = w.heap.size + 1 := by omega
  have hn2 : ¬ w2.heap.size = w.heap.size := by omega
  have hn3 : ¬ w2.heap.size = w.heap.size + 1 := by omega
  have HB2 := hide hB2
  clear hb hB2
  simp only [arr3]
  go_wp2_with fail
  go_region
  go_wp2_with fail
  refine bodyPost_ret (v := .tuple #[arr3 x y z, arr3 a b c, .int .i64 0]) (by simp [results, Tryz.results58, go_sem, arr3, p0, p1, q2, q3, hz3, hz4]) rfl ⟨rfl, ?_⟩
  refine Below.drew ?_
  exact ((((((((unhide HB2).setCell (by simp) _).setCell (by simp) _).setCell (by simp) _).setCell (by simp) _).setCell (by simp) _).setCell (by simp) _).alloc (by simp; omega) _)

end Go.Proofs.YtggnnbdjihihiaaGreat

namespace Go.Proofs.YtggnnbdjihihiaaGreat
open Go.RowKit


theorem sq_bd (x a : Int) (h1 : -1000 ≤ x) (h2 : x ≤ 1000) (h3 : -1000 ≤ a) (h4 : a ≤ 1000) : 0 ≤ (x - a) * (x - a) ∧ (x - a) * (x - a) ≤ 4000000 := by
  have e1 : -2000 ≤ x - a := by omega
  have e2 : x - a ≤ 2000 := by omega
  generalize x - a = d at *
  constructor
  · by_cases h : 0 ≤ d
    · exact Int.mul_nonneg h h
    · exact Int.mul_nonneg_of_nonpos_of_nonpos (by omega) (by omega)
  · by_cases h : 0 ≤ d
    · calc d * d ≤ 2000 * 2000 := Int.mul_le_mul e2 e2 h (by omega)
        _ = 4000000 := rfl
    · have h5 : d * d = (-d) * (-d) := by rw [Int.neg_mul_neg]
      rw [h5]
      calc (-d) * (-d) ≤ 2000 * 2000 := Int.mul_le_mul (by omega) (by omega) (by omega) (by omega)
        _ = 4000000 := rfl

theorem mul_bd (x a : Int) (h1 : -1000 ≤ x) (h2 : x ≤ 1000) (h3 : -1000 ≤ a) (h4 : a ≤ 1000) : -1000000 ≤ x * a ∧ x * a ≤ 1000000 := by
  have k1 : 0 ≤ (x + 1000) * (a + 1000) := Int.mul_nonneg (by omega) (by omega)
  have k2 : 0 ≤ (1000 - x) * (1000 - a) := Int.mul_nonneg (by omega) (by omega)
  have k3 : 0 ≤ (1000 - x) * (a + 1000) := Int.mul_nonneg (by omega) (by omega)
  have k4 : 0 ≤ (x + 1000) * (1000 - a) := Int.mul_nonneg (by omega) (by omega)
  have e1 : (x + 1000) * (a + 1000) = x * a + 1000 * x + 1000 * a + 1000000 := by rw [Int.add_mul, Int.mul_add, Int.mul_add]; omega
  have e2 : (1000 - x) * (1000 - a) = 1000000 - 1000 * a - 1000 * x + x * a := by rw [Int.sub_mul, Int.mul_sub, Int.mul_sub]; omega
  have e3 : (1000 - x) * (a + 1000) = 1000 * a + 1000000 - x * a - 1000 * x := by rw [Int.sub_mul, Int.mul_add, Int.mul_add]; omega
  have e4 : (x + 1000) * (1000 - a) = 1000 * x - x * a + 1000000 - 1000 * a := by rw [Int.add_mul, Int.mul_sub, Int.mul_sub]; omega
  rw [e1] at k1
  rw [e2] at k2
  rw [e3] at k3
  rw [e4] at k4
  omega

/-- ScoreOf, where pairOf tells a code. -/
theorem implScore_code (v1 v2 : Value) (k : Int) (w : World) (hp : Hid (∀ W, Below w.heap.size w W → Calls Tryz.prog 58 #[v1, v2] W fun e w' => e = .returned (.tuple #[arr3 0 0 0, arr3 0 0 0, .int .i64 k]) ∧ Below W.heap.size W w')) (hk : k ≠ 0) :
    Calls Tryz.prog 14 #[v1, v2] w fun e w' => e = .returned (intRes k 0) ∧ Below w.heap.size w w' := by
  have hne : (k != 0) = true := by rw [bne_iff_ne]; exact hk
  go_enter Tryz.func14, Tryz.ntmps14
  go_wp2_with fail
  refine (unhide hp _ ((Below.refl _ _).alloc (Nat.le_refl _) _)).mono ?_
  rintro e w1 ⟨rfl, hb⟩
  have hz : w.heap.size < w1.heap.size := by have := hb.size; simp at this; omega
  have p0 : w1.cell? ⟨w.heap.size, 0, none⟩ = some (.int .i64 0) := (hb.cell (p := ⟨w.heap.size, 0, none⟩) (by simp)).trans (by simp [go_sem])
  have p1 : w1.cell? ⟨w.heap.size, 1, none⟩ = some (.int .i64 0) := (hb.cell (p := ⟨w.heap.size, 1, none⟩) (by simp)).trans (by simp [go_sem])
  have p2 : ∀ o, w1.frozen? ⟨w.heap.size, o, none⟩ = false := fun o => (hb.frozen (p := ⟨w.heap.size, o, none⟩) (by simp)).trans (by simp [go_sem])
  have HB := hide (((Below.refl w.heap.size w).alloc (Nat.le_refl _) _).trans (hb.mono (by simp)))
  clear hb
  simp only [arr3]
  go_wp2_with fail
  refine bodyPost_ret (v := intRes k 0) (by simp [results, Tryz.results14, go_sem, intRes, p0, p1, hz]) rfl ⟨rfl, ?_⟩
  exact (((((unhide HB).setCell (by simp) _).setCell (by simp) _).alloc (by simp; omega) _).alloc (by simp; omega) _)

set_option maxHeartbeats 1000000 in
theorem implScore_ok (v1 v2 : Value) (x y z a b c : Int) (w : World) (h : IsInts w v1 [x, y, z]) (h2 : IsInts w v2 [a, b, c]) (hf1 : vecFault [x, y, z] = 0) (hf : vecFault [a, b, c] = 0) :
    Calls Tryz.prog 14 #[v1, v2] w fun e w' => e = .returned (intRes 0 ((x - a) * (x - a) + (y - b) * (y - b) + (z - c) * (z - c))) ∧ Below w.heap.size w w' := by
  obtain ⟨⟨x1, x2⟩, ⟨y1, y2⟩, ⟨z1, z2⟩⟩ := fault3 hf1
  obtain ⟨⟨a1, a2⟩, ⟨b1, b2⟩, ⟨c1, c2⟩⟩ := fault3 hf
  obtain ⟨m1, m2⟩ := sq_bd x a x1 x2 a1 a2
  obtain ⟨m3, m4⟩ := sq_bd y b y1 y2 b1 b2
  obtain ⟨m5, m6⟩ := sq_bd z c z1 z2 c1 c2
  go_enter Tryz.func14, Tryz.ntmps14
  go_wp2_with fail
  refine (pairOf_ok v1 v2 x y z a b c _ (h.later ((Below.refl _ _).alloc (Nat.le_refl _) _)) (h2.later ((Below.refl _ _).alloc (Nat.le_refl _) _)) hf1 hf).mono ?_
  rintro e w1 ⟨rfl, hb⟩
  have hz : w.heap.size < w1.heap.size := by have := hb.size; simp at this; omega
  have hz1 : w.heap.size < w1.heap.size + 1 := by omega
  have hn0 : ¬ w1.heap.size = w.heap.size := by omega
  have hn1 : ¬ w1.heap.size + 1 = w.heap.size := by omega
  have p0 : w1.cell? ⟨w.heap.size, 0, none⟩ = some (.int .i64 0) := (hb.cell (p := ⟨w.heap.size, 0, none⟩) (by simp)).trans (by simp [go_sem])
  have p1 : w1.cell? ⟨w.heap.size, 1, none⟩ = some (.int .i64 0) := (hb.cell (p := ⟨w.heap.size, 1, none⟩) (by simp)).trans (by simp [go_sem])
  have p2 : ∀ o, w1.frozen? ⟨w.heap.size, o, none⟩ = false := fun o => (hb.frozen (p := ⟨w.heap.size, o, none⟩) (by simp)).trans (by simp [go_sem])
  have HB := hide (((Below.refl w.heap.size w).alloc (Nat.le_refl _) _).trans (hb.mono (by simp)))
  clear hb hf hf1
  simp only [arr3]
  go_wp2_with fail
  refine wp_loop_rounds 4 ?_
  rw [rounds_succ]
  go_wp2
  go_quiet (fail)
  go_wp2
  rw [rounds_succ]
  go_wp2
  go_quiet (fail)
  go_wp2
  rw [rounds_succ]
  go_wp2
  go_quiet (fail)
  go_wp2
  rw [rounds_succ]
  go_wp2
  refine bodyPost_ret (v := intRes 0 ((x - a) * (x - a) + (y - b) * (y - b) + (z - c) * (z - c))) (by simp [results, Tryz.results14, go_sem, intRes, p0, p1, hz, hz1]) rfl ⟨rfl, ?_⟩
  exact (below_drawn (((unhide HB).alloc (by omega) _).alloc (by simp; omega) _) _).setCell (by simp) _ |>.setCell (by simp) _


end Go.Proofs.YtggnnbdjihihiaaGreat

namespace Go.Proofs.YtggnnbdjihihiaaGreat
open Go.RowKit

set_option maxHeartbeats 1000000 in
theorem modelSum (b0 off cap b2 off2 cap2 : Nat) (x y z a b c : Int) (w : World) (c0 : w.cell? ⟨b0, off, none⟩ = some (.int .i64 x)) (c1 : w.cell? ⟨b0, off + 1, none⟩ = some (.int .i64 y)) (c2 : w.cell? ⟨b0, off + 2, none⟩ = some (.int .i64 z))
    (d0 : w.cell? ⟨b2, off2, none⟩ = some (.int .i64 a)) (d1 : w.cell? ⟨b2, off2 + 1, none⟩ = some (.int .i64 b)) (d2 : w.cell? ⟨b2, off2 + 2, none⟩ = some (.int .i64 c)) (hf1 : vecFault [x, y, z] = 0) (hf : vecFault [a, b, c] = 0) :
    Calls Tryz.prog 96 #[.slice (some ⟨b0, off, none⟩) 3 cap, .slice (some ⟨b2, off2, none⟩) 3 cap2] w fun e w' => e = .returned (.int .i64 ((x - a) * (x - a) + (y - b) * (y - b) + (z - c) * (z - c))) ∧ Below w.heap.size w w' := by
  obtain ⟨⟨x1, x2⟩, ⟨y1, y2⟩, ⟨z1, z2⟩⟩ := fault3 hf1
  obtain ⟨⟨a1, a2⟩, ⟨b1, b3⟩, ⟨c3, c4⟩⟩ := fault3 hf
  obtain ⟨m1, m2⟩ := sq_bd x a x1 x2 a1 a2
  obtain ⟨m3, m4⟩ := sq_bd y b y1 y2 b1 b3
  obtain ⟨m5, m6⟩ := sq_bd z c z1 z2 c3 c4
  clear hf hf1
  go_enter Tryz.func96, Tryz.ntmps96
  go_wp2_with fail
  refine wp_loop_rounds 4 ?_
  rw [rounds_succ]
  go_wp2
  go_quiet (fail)
  go_wp2
  rw [rounds_succ]
  go_wp2
  go_quiet (fail)
  go_wp2
  rw [rounds_succ]
  go_wp2
  go_quiet (fail)
  go_wp2
  rw [rounds_succ]
  go_wp2
  go_ret
  exact ⟨rfl, below_drawn (Below.refl _ _) _⟩
def score3 (zs ys : List Int) : Int := (zs.getD 0 0 - ys.getD 0 0) * (zs.getD 0 0 - ys.getD 0 0) + (zs.getD 1 0 - ys.getD 1 0) * (zs.getD 1 0 - ys.getD 1 0) + (zs.getD 2 0 - ys.getD 2 0) * (zs.getD 2 0 - ys.getD 2 0)

end Go.Proofs.YtggnnbdjihihiaaGreat

namespace Go.Proofs.YtggnnbdjihihiaaGreat
open Go.RowKit

theorem cscore_bd {q v : List Int} (h1 : vecFault q = 0) (h2 : vecFault v = 0) : 0 ≤ score3 q v ∧ score3 q v ≤ 12000000 := by
  obtain ⟨hl, -⟩ := vecFault_zero h1
  obtain ⟨hl2, -⟩ := vecFault_zero h2
  match q, hl, v, hl2 with
  | [x, y, z], _, [a, b, c], _ =>
    obtain ⟨⟨x1, x2⟩, ⟨y1, y2⟩, ⟨z1, z2⟩⟩ := fault3 h1
    obtain ⟨⟨a1, a2⟩, ⟨b1, b2⟩, ⟨c1, c2⟩⟩ := fault3 h2
    have m1 := sq_bd x a x1 x2 a1 a2
    have m2 := sq_bd y b y1 y2 b1 b2
    have m3 := sq_bd z c z1 z2 c1 c2
    show 0 ≤ (x - a) * (x - a) + (y - b) * (y - b) + (z - c) * (z - c) ∧ (x - a) * (x - a) + (y - b) * (y - b) + (z - c) * (z - c) ≤ 12000000
    omega

end Go.Proofs.YtggnnbdjihihiaaGreat

namespace Go.Proofs.YtggnnbdjihihiaaGreat
open Go.RowKit

theorem vec_right {ds : List Int} (h1 : ds.length = 3) (h2 : inRange ds) : vecFault ds = 0 := by
  match ds, h1 with
  | [a, b, c], _ =>
    have hp : ∀ z, -1000 ≤ z ∧ z ≤ 1000 → partB z = true := fun z hz => by unfold partB; simp [hz.1, hz.2]
    unfold vecFault
    simp [hp a (h2 a (by simp)), hp b (h2 b (by simp)), hp c (h2 c (by simp))]
theorem id_right {r : Nat} (h : (r : Int) ≤ 13) : idB (1 + (r : Int)) = true := by
  unfold idB
  simp only [Bool.and_eq_true, decide_eq_true_eq]
  omega

set_option maxRecDepth 10000 in
set_option maxHeartbeats 1000000 in
theorem drawRightR (b m : Nat) (cv : Value) (w : World) (hs : SrcAt w b cv m) (hc : IsCode b w cv) (hm : m ≤ 1000000) :
    Calls Tryz.prog 142 #[.pointer (some ⟨b, 0, none⟩)] w fun e w' => ∃ (v : Value) (rows : List (List Value)) (xs : List DItem) (bls : List (List Nat)) (m' : Nat), e = .returned v ∧ Grow Lay.tItem w' w.heap.size 139 v rows xs bls ∧ (∀ c ∈ bls.flatten, w.heap.size ≤ c) ∧ xs.length ≤ 11 ∧ Right xs ∧
      SrcAt w' b cv m' ∧ m' ≤ m + 200 ∧ IsCode b w' cv ∧ w.grownBy w' (some b) := by
  have hbw := hs.lt
  have nb : Below w.heap.size w (w.alloc (.cells #[] 139)) := (Below.refl w.heap.size w).alloc (Nat.le_refl _) (.cells #[] 139)
  have G0 : Grow Lay.tItem (w.alloc (.cells #[] 139)) w.heap.size 139 (.slice (some ⟨w.heap.size, 0, none⟩) 0 0) [] [] [] := Grow.nil (World.ownsRow_lit w #[] 0 (Nat.le_refl _) (Nat.zero_le _) rfl)
  have L := next b m cv 12 (w.alloc (.cells #[] 139)) (hs.on nb) (hc.on (Nat.le_of_lt hbw) nb) (by omega) (by omega) (by omega)
  have HL := hide L
  have HG := hide G0
  have HN := hide nb
  clear L G0 nb hs hc
  go_enter Tryz.func142, Tryz.ntmps142
  go_wp2_with fail
  refine (unhide HL).mono ?_
  rintro e w1 ⟨r, rfl, hr, s1, c1, g1⟩
  have hr2 : r ≤ 11 := by omega
  have HG1 := hide ((unhide HG).grown g1 hbw (by simp))
  have HS1 := hide s1
  have HC1 := hide c1
  have HGR1 : Hid (w.grownBy w1 (some b)) := ⟨g1.os.trans (unhide HN).os, g1.tape.trans (unhide HN).tape, g1.output.trans (unhide HN).output, Nat.le_trans (unhide HN).size g1.size, fun i hi hn => (g1.block i (Nat.lt_of_lt_of_le hi (unhide HN).size) hn).trans ((unhide HN).block i hi)⟩
  clear s1 c1 g1 HL HG HN hr
  go_wp2_with fail
  go_loopw [3, 4] (fun v kk wr => ∃ (j : Nat) (rows : List (List Value)) (xs : List DItem) (bls : List (List Nat)) (m' : Nat), j ≤ 11 ∧ kk = .int .i64 j ∧ Grow Lay.tItem wr w.heap.size 139 v rows xs bls ∧ (∀ c ∈ bls.flatten, w.heap.size ≤ c) ∧ Rising xs ∧ (∀ x ∈ xs, idB x.id = true ∧ vecFault x.vec = 0) ∧ xs.length + j ≤ 11 ∧
      SrcAt wr b cv m' ∧ m' + 10 * j ≤ m + 111 ∧ IsCode b wr cv ∧ w.grownBy wr (some b)) (fun _ kk _ => (intOf kk).toNat)
  case atStart => exact ⟨r, [], [], [], m + 1, hr2, rfl, unhide HG1, by simp, List.Pairwise.nil, by simp, by simp; exact hr2, unhide HS1, by omega, unhide HC1, unhide HGR1⟩
  case round =>
    obtain ⟨j, rows, xs, bls, m', hj, rfl, hG, hsf, hris, hv3, hlen, hS, hm', hC, hgr⟩ := hrel
    clear HG1 HS1 HC1 HGR1
    by_cases hlt : 0 < j
    · have L := next b m' cv 14 wr hS hC (by omega) (by omega) (by omega)
      have HL := hide L
      have HG := hide hG
      have HSF := hide hsf
      have HRI := hide hris
      have HV3 := hide hv3
      have HGR := hide hgr
      clear L hG hsf hris hv3 hS hC hgr
      go_wp2_with fail
      refine (unhide HL).mono ?_
      rintro e w2 ⟨r2, rfl, hr2', s2, c2, g2⟩
      have hz2 := g2.size
      have HG2 := hide ((unhide HG).grown g2 hbw (unhide HSF))
      have HGR2 : Hid (w.grownBy w2 (some b)) := grown_trans (unhide HGR) g2
      have L := draw b (m' + 1) cv w2 s2 c2 (by omega)
      have HL2 := hide L
      have hr3 : (r2 : Int) ≤ 13 := by omega
      clear L s2 c2 g2 HL HG HGR hr2'
      go_wp2_with fail
      refine (unhide HL2).mono ?_
      rintro e w3 ⟨vd, ds, rfl, hd3, hdr, hod, s3, c3, g3⟩
      have hz3 := g3.size
      have hG3 := (unhide HG2).grown g3 hbw (unhide HSF)
      have hGR3 : w.grownBy w3 (some b) := grown_trans (unhide HGR2) g3
      have hR := hG3.toReads (by omega)
      have hdw : ∀ z ∈ ds, (Lit.int .i64 z).wf = true := fun z hz => wf_of_bd (by have := hdr z hz; omega)
      rw [← hd3] at hod
      have hvd := (Lay.ownInts hdw (by omega) hod).reads
      have L := specSetG u3 xs (1 + (r2 : Int)) ds vd true w3 hR hvd (wf_of_bd (by omega)) (by omega) (fun x hx => by have := (vecFault_zero (unhide HV3 x hx).2).1; omega) (by omega)
      rw [setM_put (unhide HRI)] at L
      have HL3 := hide L
      have HS3 := hide s3
      have HC3 := hide c3
      have HG3 := hide hG3
      have HGR3 := hide hGR3
      have hwz : w.heap.size ≤ w3.heap.size := hGR3.size
      have HRI2 := hide (putI_rising (unhide HRI) (1 + (r2 : Int)) ds)
      have HV2 : Hid (∀ x ∈ putI xs (1 + (r2 : Int)) ds, idB x.id = true ∧ vecFault x.vec = 0) := by
        intro x hx
        rcases mem_putI.1 hx with rfl | ⟨hx, -⟩
        · exact ⟨id_right hr3, vec_right hd3 hdr⟩
        · exact unhide HV3 x hx
      have HLN : Hid ((putI xs (1 + (r2 : Int)) ds).length ≤ xs.length + 1) := by
        show (putI xs (1 + (r2 : Int)) ds).length ≤ xs.length + 1
        rw [putI_len (unhide HRI)]
        split <;> omega
      clear L hG3 hGR3 hR hvd hod hdw hdr s3 c3 g3 HL2 HG2 HGR2
      go_wp2_with fail
      refine (unhide HL3).mono ?_
      rintro e w4 ⟨v4, rfl, ⟨rows4, bls4, hG4, hs4⟩, hb4⟩
      have HG4 := hide (hG4.lower hwz)
      have HSF4 : Hid (∀ c ∈ bls4.flatten, w.heap.size ≤ c) := fun c hc => Nat.le_trans hwz (hs4 c hc)
      have HS4 := hide ((unhide HS3).on hb4)
      have HC4 := hide ((unhide HC3).on (by omega) hb4)
      have HGR4 := hide (grown_on (unhide HGR3) hb4)
      clear hG4 hs4 hb4 HL3 HS3 HC3 HG3 HGR3
      go_wp2_with fail
      go_roundw
      case rel => exact ⟨j - 1, rows4, putI xs (1 + (r2 : Int)) ds, bls4, m' + 1 + 9, by omega, by go_num, unhide HG4, unhide HSF4, unhide HRI2, unhide HV2, by have := unhide HLN; omega, unhide HS4, by omega, unhide HC4, unhide HGR4⟩
      case measure => simp [intOf]; omega
    · have HG := hide hG
      have HSF := hide hsf
      have HS := hide hS
      have HC := hide hC
      have HGR := hide hgr
      have HRX : Hid (Right xs) := tableFault_of (by omega) hv3 hris
      clear hG hsf hS hC hgr hris hv3
      have hd : decide ((0 : Int) < (j : Int)) = false := by simp; omega
      go_wp2_with fail
      go_ret
      exact ⟨_, rows, xs, bls, m', rfl, unhide HG, unhide HSF, by omega, unhide HRX, unhide HS, by omega, unhide HC, unhide HGR⟩

end Go.Proofs.YtggnnbdjihihiaaGreat

namespace Go.Proofs.YtggnnbdjihihiaaGreat
open Go.RowKit

theorem flat_snocI {bls : List (List Nat)} {bl : List Nat} {P : Nat → Prop} (h : ∀ c ∈ bls.flatten, P c) (h2 : ∀ c ∈ bl, P c) : ∀ c ∈ (bls ++ [bl]).flatten, P c := by
  intro c hc
  rw [List.flatten_append] at hc
  rcases List.mem_append.1 hc with hc | hc
  · exact h c hc
  · exact h2 c (by simpa using hc)
theorem grown_lowI {a b c : World} {s : Option Nat} (h : a.grownBy b s) (k : Below a.heap.size b c) : a.grownBy c s :=
  ⟨k.os.trans h.os, k.tape.trans h.tape, k.output.trans h.output, Nat.le_trans h.size k.size, fun i hi hn => (k.block i hi).trans (h.block i hi hn)⟩
theorem made_flatI (row : List Value) (n : Nat) (h0 : 0 < row.length) : (madeCells row.toArray (n * row.length)).toList = (List.replicate n row).flatten := by
  have hl : (List.replicate n row).flatten.length = n * row.length := by simp
  apply List.ext_getElem?
  intro i
  by_cases hi : i < n * row.length
  · have hm := Nat.mod_lt i h0
    have hj : i / row.length < n := (Nat.div_lt_iff_lt_mul h0).2 hi
    have e := Lay.flat_at (rows := List.replicate n row) (n := row.length) (fun r hr => by rw [List.eq_of_mem_replicate hr]) (i / row.length) (i % row.length) (by simpa using hj) hm
    rw [Nat.div_add_mod' i row.length] at e
    rw [e]
    simp [madeCells, hi, hm]
  · rw [List.getElem?_eq_none (by simp [madeCells]; omega), List.getElem?_eq_none (by omega)]
theorem made31 : (madeCells #[.int .i64 0, .slice none 0 0] 62).toList = (List.replicate 31 [.int .i64 0, .slice none 0 0]).flatten :=
  made_flatI [.int .i64 0, .slice none 0 0] 31 (by decide)
theorem zeroItem (w : World) : Lay.tItem.lies w [.int .i64 0, .slice none 0 0] ⟨0, []⟩ [] :=
  lies_Item.2 ⟨none, 0, [], rfl, rfl, by decide, Lay.lies_ints.2 ⟨none, 0, rfl, by simp, by simp, Or.inl ⟨rfl, rfl⟩⟩⟩
theorem flat_none (n : Nat) : ∀ c ∈ (List.replicate n ([] : List Nat)).flatten, False := by
  intro c hc
  obtain ⟨l, h1, h2⟩ := List.mem_flatten.1 hc
  rw [List.eq_of_mem_replicate h1] at h2
  simp at h2
theorem grow31 {w : World} {base : Nat} {v : Value} (h : w.ownsRow base 139 2 v 31 (madeCells #[.int .i64 0, .slice none 0 0] 62).toList) :
    Grow Lay.tItem w base 139 v (List.replicate 31 [.int .i64 0, .slice none 0 0]) (List.replicate 31 ⟨0, []⟩) (List.replicate 31 []) := by
  rw [made31] at h
  refine ⟨by rw [List.length_replicate]; exact h, by rw [List.length_replicate, List.length_replicate], by rw [List.length_replicate, List.length_replicate], fun j h1 h2 h3 => ?_, fun b hb => (flat_none _ b hb).elim⟩
  rw [List.getElem_replicate, List.getElem_replicate, List.getElem_replicate]
  exact zeroItem w


end Go.Proofs.YtggnnbdjihihiaaGreat

namespace Go.Proofs.YtggnnbdjihihiaaGreat
open Go.RowKit

structure DCenter where
  vec : List Int

def Lay.tCenter : Lay DCenter := Lay.via (Lay.sl Lay.int) (fun x => x.vec) (fun p => ⟨p⟩)

theorem lies_Center {w : World} {cs : List Value} {x : DCenter} {bl : List Nat} : Lay.tCenter.lies w cs x bl ↔ ∃ (a0 : Option Addr) (d0 : Nat) (b0 : List Nat), cs = [.slice a0 x.vec.length d0] ∧ bl = b0 ∧ (Lay.sl Lay.int).lies w [.slice a0 x.vec.length d0] x.vec b0 := by
  constructor
  · intro h
    have h0 := h
    have k0 := h0
    obtain ⟨a0, d0, rfl, -⟩ := k0
    exact ⟨a0, d0, bl, by simp, by simp, h0⟩
  · rintro ⟨a0, d0, b0, rfl, hbl, l0⟩
    rw [hbl]
    exact l0

theorem open_Center {w : World} {cs : List Value} {x : DCenter} (h : Lay.tCenter.Reads w cs x) : ∃ (a0 : Option Addr) (d0 : Nat), cs = [.slice a0 x.vec.length d0] ∧ (Lay.sl Lay.int).Reads w [.slice a0 x.vec.length d0] x.vec := by
  obtain ⟨bl, h⟩ := h
  obtain ⟨a0, d0, b0, rfl, -, l0⟩ := lies_Center.1 h
  exact ⟨a0, d0, rfl, ⟨_, l0⟩⟩

end Go.Proofs.YtggnnbdjihihiaaGreat

namespace Go.Proofs.YtggnnbdjihihiaaGreat
open Go.RowKit

theorem infoAppCenter : (Tryz.prog.info? 145).map (fun i => (i.zero, i.size, i.bytes)) = some (some (.agg #[.slice none 0 0]), 1, 24) := by kernel_rfl
theorem one_Center {w : World} {row : List Value} {x : DCenter} {bl : List Nat} (h : Lay.tCenter.lies w row x bl) : (∀ u ∈ row, u.oneCell' = true) ∧ row.length = 1 * 1 := by
  obtain ⟨_, _, _, rfl, -⟩ := lies_Center.1 h
  simp [Value.oneCell']

/-- At an operation of a plain region: the new one lies in a block of its own. -/
theorem wpList_append_Center {w1 : World} {base : Nat} {v : Value} {rows : List (List Value)} {xs : List DCenter} {bls : List (List Nat)} (hG : Grow Lay.tCenter w1 base 145 v rows xs bls) {row : List Value} {x : DCenter} {bl : List Nat} (hl : Lay.tCenter.lies w1 row x bl) (hbl : ∀ b ∈ bl, v.ownBlock ≠ some b) {ops : Array Oper} {rest : List Oper} {o : Oper} {a : Act} {Q : Exit → Act → World → Prop} (hgd : o.guard = none) (s y : Operand)
    (ho : o.op = .call { callee := .builtin .append, args := #[s, y], argTypes := #[24, 24] }) (hs : a.eval s = v) (hy : a.eval y = .slice (some ⟨w1.heap.size, 0, none⟩) 1 1) (hn : xs.length + 1 ≤ 100000000) (hbase : base ≤ w1.heap.size)
    (h : ∀ g cap w', Grow Lay.tCenter w' base 145 (.slice (some ⟨g, 0, none⟩) (xs.length + 1) cap) (rows ++ [row]) (xs ++ [x]) (bls ++ [bl]) → Below base w1 w' → Ext (fun q => v.ownBlock = some q) w1 w' → g < w'.heap.size → w1.heap.size ≤ w'.heap.size → (v.ownBlock = some g ∨ w1.heap.size ≤ g) → wpList Tryz.prog ops Q rest (a.put o.dst (.slice (some ⟨g, 0, none⟩) (xs.length + 1) cap)) w') :
    wpList Tryz.prog ops Q (o :: rest) a (w1.alloc (.cells row.toArray 145)) := by
  obtain ⟨i0, hi0, hz0, hz1, hz2⟩ := info_parts infoAppCenter
  obtain ⟨h1, hlen⟩ := one_Center hl
  refine wpList_append_lies _ hgd s y 24 ho base 145 i0 _ 1 24 Tryz.underlying24 hi0 hz0 hz1 hz2 rfl (by omega) v xs.length rows.flatten hs (hG.own.alloc _) ⟨w1.heap.size, 0, none⟩ 1 1 row hy hlen (World.news_of_block (cs := row.toArray) (t := 145) (fr := (0, 0)) (heap_alloc_new w1 _)) h1 (by omega) (by unfold maxLen; omega) (by omega) (by simp; omega) (w1.alloc (.cells row.toArray 145)).heap.size rfl ?_
  intro g cap w' h2 h3 h4 h5
  have hg := grown_alloc h3
  have hbw : Below base w1 w' := (Below.refl _ _).grown hg hbase (fun j hj => (hG.own.lt j hj).1)
  have hor : v.ownBlock = some g ∨ w1.heap.size ≤ g := by
    rcases h4 with h4 | h4
    · exact Or.inl h4
    · exact Or.inr (by rw [h4]; simp)
  exact h g cap w' (hG.snoc hl hbl h2 hg hor) hbw ⟨hbw.os, hbw.tape, hbw.output, hbw.size, fun k hk hn => hg.block k hk (fun e => hn e.symm)⟩ h5 hbw.size hor

/-- At a step of a region that draws its order. -/
theorem step_append_Center {w1 : World} {base : Nat} {v : Value} {rows : List (List Value)} {xs : List DCenter} {bls : List (List Nat)} (hG : Grow Lay.tCenter w1 base 145 v rows xs bls) {row : List Value} {x : DCenter} {bl : List Nat} (hl : Lay.tCenter.lies w1 row x bl) (hbl : ∀ b ∈ bl, v.ownBlock ≠ some b) {ops : Array Oper} {o : Oper} {a : Act} {K : Act → World → Prop} {Q : Exit → Act → World → Prop} {E : Prop} (hgd : o.guard = none) (s y : Operand)
    (ho : o.op = .call { callee := .builtin .append, args := #[s, y], argTypes := #[24, 24] }) (hs : a.eval s = v) (hy : a.eval y = .slice (some ⟨w1.heap.size, 0, none⟩) 1 1) (hn : xs.length + 1 ≤ 100000000) (hbase : base ≤ w1.heap.size)
    (h : ∀ g cap w', Grow Lay.tCenter w' base 145 (.slice (some ⟨g, 0, none⟩) (xs.length + 1) cap) (rows ++ [row]) (xs ++ [x]) (bls ++ [bl]) → Below base w1 w' → Ext (fun q => v.ownBlock = some q) w1 w' → g < w'.heap.size → w1.heap.size ≤ w'.heap.size → (v.ownBlock = some g ∨ w1.heap.size ≤ g) → K (a.put o.dst (.slice (some ⟨g, 0, none⟩) (xs.length + 1) cap)) w') :
    if Region.wanted o (yielded ops a.tmps) = true then Oper.wp Tryz.prog o a (w1.alloc (.cells row.toArray 145)) K Q else E := by
  obtain ⟨i0, hi0, hz0, hz1, hz2⟩ := info_parts infoAppCenter
  obtain ⟨h1, hlen⟩ := one_Center hl
  refine step_append_lies _ hgd s y 24 ho base 145 i0 _ 1 24 Tryz.underlying24 hi0 hz0 hz1 hz2 rfl (by omega) v xs.length rows.flatten hs (hG.own.alloc _) ⟨w1.heap.size, 0, none⟩ 1 1 row hy hlen (World.news_of_block (cs := row.toArray) (t := 145) (fr := (0, 0)) (heap_alloc_new w1 _)) h1 (by omega) (by unfold maxLen; omega) (by omega) (by simp; omega) (w1.alloc (.cells row.toArray 145)).heap.size rfl ?_
  intro g cap w' h2 h3 h4 h5
  have hg := grown_alloc h3
  have hbw : Below base w1 w' := (Below.refl _ _).grown hg hbase (fun j hj => (hG.own.lt j hj).1)
  have hor : v.ownBlock = some g ∨ w1.heap.size ≤ g := by
    rcases h4 with h4 | h4
    · exact Or.inl h4
    · exact Or.inr (by rw [h4]; simp)
  exact h g cap w' (hG.snoc hl hbl h2 hg hor) hbw ⟨hbw.os, hbw.tape, hbw.output, hbw.size, fun k hk hn => hg.block k hk (fun e => hn e.symm)⟩ h5 hbw.size hor

end Go.Proofs.YtggnnbdjihihiaaGreat

namespace Go.Proofs.YtggnnbdjihihiaaGreat
open Go.RowKit

structure DCentersResult where
  code : Int
  centers : List DCenter

def Lay.tCentersResult : Lay DCentersResult := Lay.via (Lay.pair Lay.int (Lay.sl Lay.tCenter)) (fun x => (x.code, x.centers)) (fun p => ⟨p.1, p.2⟩)

theorem lies_CentersResult {w : World} {cs : List Value} {x : DCentersResult} {bl : List Nat} : Lay.tCentersResult.lies w cs x bl ↔ ∃ (a1 : Option Addr) (d1 : Nat) (b1 : List Nat), cs = [.int .i64 x.code, .slice a1 x.centers.length d1] ∧ bl = b1 ∧ (Lit.int .i64 x.code).wf = true ∧ (Lay.sl Lay.tCenter).lies w [.slice a1 x.centers.length d1] x.centers b1 := by
  constructor
  · intro h
    obtain ⟨c0_, r0_, e0_, s0_, rfl, rfl, h0, h1⟩ := h
    obtain ⟨rfl, w0, rfl⟩ := h0
    have k1 := h1
    obtain ⟨a1, d1, rfl, -⟩ := k1
    exact ⟨a1, d1, s0_, by simp, by simp, w0, h1⟩
  · rintro ⟨a1, d1, b1, rfl, hbl, w0, l1⟩
    rw [hbl]
    exact ⟨[.int .i64 x.code], [.slice a1 x.centers.length d1], [], b1, rfl, by simp, ⟨rfl, w0, rfl⟩, l1⟩

theorem open_CentersResult {w : World} {cs : List Value} {x : DCentersResult} (h : Lay.tCentersResult.Reads w cs x) : ∃ (a1 : Option Addr) (d1 : Nat), cs = [.int .i64 x.code, .slice a1 x.centers.length d1] ∧ (Lay.sl Lay.tCenter).Reads w [.slice a1 x.centers.length d1] x.centers := by
  obtain ⟨bl, h⟩ := h
  obtain ⟨a1, d1, b1, rfl, -, w0, l1⟩ := lies_CentersResult.1 h
  exact ⟨a1, d1, rfl, ⟨_, l1⟩⟩

end Go.Proofs.YtggnnbdjihihiaaGreat
