/-
  Texts of this proof in one: SpecCopy, SpecSet, SpecSet2, SpecItems7, SpecFault7, SpecProbesOf, LawProbesOf, LayOpen, OpenCenter.
  Their conditions stand in their theorems.
-/
import Derived.Test.YtfgadegpdknocaaChecked
import Derived.Test.YtfgadegpdknocaaIp08
import Derived.Test.YtfgadegpdknocaaIp14
import Derived.Deep.RegionHeld3
import Derived.Test.YtfgadegpdknocaaIp02
import Derived.BigQuiet
import Derived.Deep.QuietTactic
import Derived.Test.YtfgadegpdknocaaIp05
import Derived.Test.YtfgadegpdknocaaIp13
import Derived.Test.YtfgadegpdknocaaIp01
import Derived.ProofKit
import Derived.OpenShut
import Derived.Deep.Slices

namespace Go.Proofs.Ytfgadegpdknocaa
open Go.RowKit

set_option maxRecDepth 100000 in
set_option maxHeartbeats 4000000 in
theorem specCopy_pos (b off cap : Nat) (xs : List DItem) (w : World) (h : (Lay.sl Lay.tItem).Reads w [.slice (some ⟨b, off, none⟩) xs.length cap] xs) (hbl : b < w.heap.size) (hn : xs.length ≤ 10000000) (hv : ∀ x ∈ xs, x.vec.length ≤ 100000000) :
    Calls Try.prog 113 #[.slice (some ⟨b, off, none⟩) xs.length cap] w fun e w' => ∃ v', e = .returned v' ∧ (∃ rows bls, Grow Lay.tItem w' w.heap.size 106 v' rows xs bls ∧ ∀ c ∈ bls.flatten, w.heap.size ≤ c) ∧ Below w.heap.size w w' := by
  have H := hide h
  have HV := hide hv
  clear h hv
  have G0 : Grow Lay.tItem (w.alloc (.cells #[] 106)) w.heap.size 106 (.slice (some ⟨w.heap.size, 0, none⟩) 0 0) [] [] [] := Grow.nil (World.ownsRow_lit w #[] 0 (Nat.le_refl _) (Nat.zero_le _) rfl)
  have HG := hide G0
  have HB0 := hide ((Below.refl w.heap.size w).alloc (Nat.le_refl _) (.cells #[] 106))
  clear G0
  go_enter Try.func113, Try.ntmps113
  go_wp2_with fail
  go_loopw [3, 4] (fun v i wr => ∃ (k : Nat) (rows : List (List Value)) (bls : List (List Nat)), k ≤ xs.length ∧ i = .int .i64 k ∧ Grow Lay.tItem wr w.heap.size 106 v rows (xs.take k) bls ∧ (∀ c ∈ bls.flatten, w.heap.size ≤ c) ∧ Below w.heap.size w wr) (fun _ i _ => xs.length - (intOf i).toNat)
  case atStart => exact ⟨0, [], [], Nat.zero_le _, rfl, unhide HG, by simp, unhide HB0⟩
  case round =>
    obtain ⟨k, rows, bls, hk, rfl, hG, hS, hB⟩ := hrel
    have HS := hide hS
    clear hS
    clear HG HB0
    by_cases hlt : k < xs.length
    · obtain ⟨row, hc, hr⟩ := Lay.row_at (unhide H) hlt
      have hr2 := hr
      obtain ⟨a1, d1, rfl, R1⟩ := open_Item hr
      have c0 : w.cell? ⟨b, off + k * 2, none⟩ = some (.int .i64 (xs[k]).id) := hc 0 (by decide)
      have c1 : w.cell? ⟨b, off + k * 2 + 1, none⟩ = some (.slice a1 (xs[k]).vec.length d1) := hc 1 (by decide)
      have hwi : (Lit.int .i64 xs[k].id).wf = true := by obtain ⟨_, hq⟩ := hr2; obtain ⟨_, _, _, _, _, q, _⟩ := lies_Item.1 hq; exact q
      have HT : Hid (xs.take (k + 1) = xs.take k ++ [xs[k]]) := List.take_succ_eq_append_getElem hlt
      have HL : Hid ((xs.take k).length = k) := by show (xs.take k).length = k; rw [List.length_take]; omega
      have HN := hide (unhide HV xs[k] (List.getElem_mem hlt))
      clear hc hr hr2
      generalize hx : xs[k] = x at *
      clear hx
      have HW := hide (Lay.ints_reads R1).wf
      have HR := hide R1
      have HI := hide hwi
      have HB := hide hB
      have HK : Hid ((xs.take k).length + 1 ≤ 100000000) := by show (xs.take k).length + 1 ≤ 100000000; rw [unhide HL]; omega
      have hGD : Grow Lay.tItem wr.drew w.heap.size 106 u3 rows (xs.take k) bls := hG.later (below_drawn (Below.refl _ _) 1)
      have HDZ : Hid (wr.heap.size ≤ wr.drew.heap.size) := Nat.le_refl _
      clear R1 hwi hB hG
      have i1 : (0 : Int) ≤ (k : Int) := by omega
      have i2 : (k : Int) < (xs.length : Int) := by omega
      go_wp2_with fail
      refine wp_region_noPanic ?_
      refine wp_region_held_drew (S := fun w' => Below w.heap.size w w') (by kernel_rfl) (unhide HB).drew (fun hHeld => ?_)
      generalize wr.drew = wD at hHeld hGD HDZ ⊢
      refine wpAnyH_take (i := 0) (oi := { dst := some 12, op := Go.Op.move (Go.Operand.tmp 3), type := 42, pos := "l04_table.go:30", after := #[], guard := none }) (v := ?v0) rfl (by kernel_rfl) (by kernel_rfl) (by kernel_rfl) (fun _ _ _ h => h) (Or.inl ⟨by rfl, ?h0⟩) hHeld ?r0
      case h0 =>
        intro wS hSw
        (try dsimp only at hSw)
        go_simp
        try with_reducible rfl
      case r0 =>
      simp only [Act.put, List.setIfInBounds_toArray, List.set_cons_zero, List.set_cons_succ]
      refine wpAnyH_take (i := 1) (oi := { dst := some 13, op := Go.Op.move (Go.Operand.tmp 0), type := 42, pos := "l04_table.go:30", after := #[], guard := none }) (v := ?v1) rfl (by kernel_rfl) (by kernel_rfl) (by kernel_rfl) (fun _ _ _ h => h) (Or.inl ⟨by rfl, ?h1⟩) hHeld ?r1
      case h1 =>
        intro wS hSw
        (try dsimp only at hSw)
        go_simp
        try with_reducible rfl
      case r1 =>
      simp only [Act.put, List.setIfInBounds_toArray, List.set_cons_zero, List.set_cons_succ]
      refine wpAnyH_take (i := 2) (oi := { dst := some 14, op := Go.Op.move (Go.Operand.tmp 4), type := 3, pos := "l04_table.go:30", after := #[], guard := none }) (v := ?v2) rfl (by kernel_rfl) (by kernel_rfl) (by kernel_rfl) (fun _ _ _ h => h) (Or.inl ⟨by rfl, ?h2⟩) hHeld ?r2
      case h2 =>
        intro wS hSw
        (try dsimp only at hSw)
        go_simp
        try with_reducible rfl
      case r2 =>
      simp only [Act.put, List.setIfInBounds_toArray, List.set_cons_zero, List.set_cons_succ]
      refine wpAnyH_take (i := 3) (oi := { dst := some 15, op := Go.Op.indexAddr 42 (Go.Operand.tmp 13) (Go.Operand.tmp 14), type := 0, pos := "l04_table.go:30", after := #[{ on := 1, ground := Go.Ground.data }, { on := 2, ground := Go.Ground.data }], guard := none }) (v := ?v3) rfl (by kernel_rfl) (by kernel_rfl) (by kernel_rfl) (fun _ _ _ h => h) (Or.inl ⟨by rfl, ?h3⟩) hHeld ?r3
      case h3 =>
        intro wS hSw
        (try dsimp only at hSw)
        go_simp
        try with_reducible rfl
      case r3 =>
      simp only [Act.put, List.setIfInBounds_toArray, List.set_cons_zero, List.set_cons_succ]
      refine wpAnyH_take (i := 4) (oi := { dst := some 16, op := Go.Op.fieldAddr 106 (Go.Operand.tmp 15) 0, type := 0, pos := "l04_table.go:30", after := #[{ on := 3, ground := Go.Ground.data }], guard := none }) (v := ?v4) rfl (by kernel_rfl) (by kernel_rfl) (by kernel_rfl) (fun _ _ _ h => h) (Or.inl ⟨by rfl, ?h4⟩) hHeld ?r4
      case h4 =>
        intro wS hSw
        (try dsimp only at hSw)
        go_simp
        try with_reducible rfl
      case r4 =>
      simp only [Act.put, List.setIfInBounds_toArray, List.set_cons_zero, List.set_cons_succ]
      refine wpAnyH_take (i := 5) (oi := { dst := some 17, op := Go.Op.load 2 (Go.Operand.tmp 16), type := 2, pos := "l04_table.go:30", after := #[{ on := 4, ground := Go.Ground.data }], guard := none }) (v := ?v5) rfl (by kernel_rfl) (by kernel_rfl) (by kernel_rfl) (fun _ _ _ h => h) (Or.inl ⟨by rfl, ?h5⟩) hHeld ?r5
      case h5 =>
        intro wS hSw
        have y0 := (hSw.cell (p := ⟨b, off + k * 2, none⟩) hbl).trans c0
        have y1 := (hSw.cell (p := ⟨b, off + k * 2 + 1, none⟩) hbl).trans c1
        clear hSw
        (try dsimp only at hSw)
        go_simp
        try with_reducible rfl
      case r5 =>
      simp only [Act.put, List.setIfInBounds_toArray, List.set_cons_zero, List.set_cons_succ]
      refine wpAnyH_take (i := 6) (oi := { dst := some 18, op := Go.Op.move (Go.Operand.tmp 0), type := 42, pos := "l04_table.go:30", after := #[], guard := none }) (v := ?v6) rfl (by kernel_rfl) (by kernel_rfl) (by kernel_rfl) (fun _ _ _ h => h) (Or.inl ⟨by rfl, ?h6⟩) hHeld ?r6
      case h6 =>
        intro wS hSw
        (try dsimp only at hSw)
        go_simp
        try with_reducible rfl
      case r6 =>
      simp only [Act.put, List.setIfInBounds_toArray, List.set_cons_zero, List.set_cons_succ]
      refine wpAnyH_take (i := 7) (oi := { dst := some 19, op := Go.Op.move (Go.Operand.tmp 4), type := 3, pos := "l04_table.go:30", after := #[], guard := none }) (v := ?v7) rfl (by kernel_rfl) (by kernel_rfl) (by kernel_rfl) (fun _ _ _ h => h) (Or.inl ⟨by rfl, ?h7⟩) hHeld ?r7
      case h7 =>
        intro wS hSw
        (try dsimp only at hSw)
        go_simp
        try with_reducible rfl
      case r7 =>
      simp only [Act.put, List.setIfInBounds_toArray, List.set_cons_zero, List.set_cons_succ]
      refine wpAnyH_take (i := 8) (oi := { dst := some 20, op := Go.Op.indexAddr 42 (Go.Operand.tmp 18) (Go.Operand.tmp 19), type := 0, pos := "l04_table.go:30", after := #[{ on := 6, ground := Go.Ground.data }, { on := 7, ground := Go.Ground.data }], guard := none }) (v := ?v8) rfl (by kernel_rfl) (by kernel_rfl) (by kernel_rfl) (fun _ _ _ h => h) (Or.inl ⟨by rfl, ?h8⟩) hHeld ?r8
      case h8 =>
        intro wS hSw
        (try dsimp only at hSw)
        go_simp
        try with_reducible rfl
      case r8 =>
      simp only [Act.put, List.setIfInBounds_toArray, List.set_cons_zero, List.set_cons_succ]
      refine wpAnyH_take (i := 9) (oi := { dst := some 21, op := Go.Op.fieldAddr 106 (Go.Operand.tmp 20) 1, type := 0, pos := "l04_table.go:30", after := #[{ on := 8, ground := Go.Ground.data }], guard := none }) (v := ?v9) rfl (by kernel_rfl) (by kernel_rfl) (by kernel_rfl) (fun _ _ _ h => h) (Or.inl ⟨by rfl, ?h9⟩) hHeld ?r9
      case h9 =>
        intro wS hSw
        (try dsimp only at hSw)
        go_simp
        try with_reducible rfl
      case r9 =>
      simp only [Act.put, List.setIfInBounds_toArray, List.set_cons_zero, List.set_cons_succ]
      refine wpAnyH_take (i := 10) (oi := { dst := some 22, op := Go.Op.load 51 (Go.Operand.tmp 21), type := 51, pos := "l04_table.go:30", after := #[{ on := 9, ground := Go.Ground.data }], guard := none }) (v := ?v10) rfl (by kernel_rfl) (by kernel_rfl) (by kernel_rfl) (fun _ _ _ h => h) (Or.inl ⟨by rfl, ?h10⟩) hHeld ?r10
      case h10 =>
        intro wS hSw
        have y0 := (hSw.cell (p := ⟨b, off + k * 2, none⟩) hbl).trans c0
        have y1 := (hSw.cell (p := ⟨b, off + k * 2 + 1, none⟩) hbl).trans c1
        clear hSw
        (try dsimp only at hSw)
        go_simp
        try with_reducible rfl
      case r10 =>
      simp only [Act.put, List.setIfInBounds_toArray, List.set_cons_zero, List.set_cons_succ]
      refine wpAnyH_ready (rs := [11]) (by kernel_rfl) (by simp) ?_
      refine AllReadyH.cons (o := { dst := some 23, op := Go.Op.call { callee := Go.Callee.value (Go.Operand.func 111), args := #[Go.Operand.tmp 22], argTypes := #[51] }, type := 51, pos := "l04_table.go:30", after := #[{ on := 10, ground := Go.Ground.data }], guard := none }) rfl (fun K hK => ?_) AllReadyH.nil
      go_simp
      go_at_call 111
      refine (l1Ints _ x.vec _ (Lay.ints_reads ((unhide HR).later hHeld)) (unhide HN)).mono ?_
      rintro e w3 ⟨v2, rfl, hO, hbw⟩
      have hO2 := Lay.ownInts (unhide HW) (by have := unhide HN; omega) hO
      clear hO
      obtain ⟨ao2, cp2, rfl⟩ := open_sl hO2.reads
      have hG3 := hGD.later hbw
      have hz3 := hbw.size
      try go_wp2_with fail
      refine hK.out _ _ (hHeld.trans (hbw.mono hHeld.size)) (fun hHeld => ?_)
      clear hK K
      try simp only [Act.put, List.setIfInBounds_toArray, List.set_cons_zero, List.set_cons_succ]
      refine wpAnyH_take (i := 12) (oi := { dst := some 24, op := Go.Op.build 106 #[(0, Go.Operand.tmp 17), (1, Go.Operand.tmp 23)], type := 106, pos := "l04_table.go:30", after := #[{ on := 5, ground := Go.Ground.data }, { on := 11, ground := Go.Ground.data }], guard := none }) (v := ?v12) rfl (by kernel_rfl) (by kernel_rfl) (by kernel_rfl) (fun _ _ _ h => h) (Or.inl ⟨by rfl, ?h12⟩) hHeld ?r12
      case h12 =>
        intro wS hSw
        (try dsimp only at hSw)
        go_simp
        try with_reducible rfl
      case r12 =>
      simp only [Act.put, List.setIfInBounds_toArray, List.set_cons_zero, List.set_cons_succ]
      refine wpAnyH_ready (rs := [13]) (by kernel_rfl) (by simp) ?_
      refine AllReadyH.cons (o := { dst := some 25, op := Go.Op.buildSlice 42 1 #[(0, Go.Operand.tmp 24)], type := 42, pos := "l04_table.go:30", after := #[{ on := 12, ground := Go.Ground.data }], guard := none }) rfl (fun K hK => ?_) AllReadyH.nil
      have hH3 := hHeld
      go_simp
      refine hK.out _ _ (hHeld.alloc hHeld.size _) (fun hHeld => ?_)
      clear hK K
      try simp only [Act.put, List.setIfInBounds_toArray, List.set_cons_zero, List.set_cons_succ]
      refine wpAnyH_ready (rs := [14]) (by kernel_rfl) (by simp) ?_
      refine AllReadyH.cons (o := { dst := some 26, op := Go.Op.call { callee := Go.Callee.builtin Go.Builtin.append, args := #[Go.Operand.tmp 12, Go.Operand.tmp 25], argTypes := #[42, 42] }, type := 42, pos := "l04_table.go:30", after := #[{ on := 0, ground := Go.Ground.data }, { on := 13, ground := Go.Ground.data }, { on := 11, ground := Go.Ground.chain }], guard := none }) rfl (fun K hK => ?_) AllReadyH.nil
      obtain ⟨bl2, ⟨hl2, -, -⟩, hr2⟩ := hO2
      refine step_append_Item hG3 (row := [.int .i64 x.id, .slice ao2 x.vec.length cp2]) (x := x) (lies_Item.2 ⟨ao2, cp2, bl2, rfl, rfl, unhide HI, hl2⟩) (fun c hc e => by have h1 := hr2 c hc; have h2 := (hGD.own.lt c e).2; omega) rfl _ _ rfl rfl rfl (by have := unhide HK; omega) (by have := hH3.size; omega) ?_
      rintro g5 cp5 w5 hG5 hb5 - hl5 hz5 -
      have HS5 : Hid (∀ c ∈ (bls ++ [bl2]).flatten, w.heap.size ≤ c) := by
        intro c hc
        rw [List.flatten_append] at hc
        rcases List.mem_append.1 hc with hc | hc
        · exact unhide HS c hc
        · have h1 := hr2 c (by simpa using hc)
          have h2 := (unhide HB).size
          have h4 := unhide HDZ
          omega
      refine hK.out _ _ (hH3.trans hb5) (fun hHeld => ?_)
      clear hK K
      try simp only [Act.put, List.setIfInBounds_toArray, List.set_cons_zero, List.set_cons_succ]
      refine wpAnyH_take (i := 15) (oi := { dst := some 3, op := Go.Op.assign (Go.Operand.tmp 26), type := 42, pos := "l04_table.go:30", after := #[{ on := 14, ground := Go.Ground.data }, { on := 14, ground := Go.Ground.chain }, { on := 0, ground := Go.Ground.phase }, { on := 1, ground := Go.Ground.phase }, { on := 2, ground := Go.Ground.phase }, { on := 3, ground := Go.Ground.phase }, { on := 4, ground := Go.Ground.phase }, { on := 5, ground := Go.Ground.phase }, { on := 6, ground := Go.Ground.phase }, { on := 7, ground := Go.Ground.phase }, { on := 8, ground := Go.Ground.phase }, { on := 9, ground := Go.Ground.phase }, { on := 10, ground := Go.Ground.phase }, { on := 11, ground := Go.Ground.phase }, { on := 12, ground := Go.Ground.phase }, { on := 13, ground := Go.Ground.phase }, { on := 14, ground := Go.Ground.phase }], guard := none }) (v := ?v15) rfl (by kernel_rfl) (by kernel_rfl) (by kernel_rfl) (fun _ _ _ h => h) (Or.inl ⟨by rfl, ?h15⟩) hHeld ?r15
      case h15 =>
        intro wS hSw
        (try dsimp only at hSw)
        go_simp
        try with_reducible rfl
      case r15 =>
      simp only [Act.put, List.setIfInBounds_toArray, List.set_cons_zero, List.set_cons_succ]
      refine wpAnyH_done (by kernel_rfl) ?_ _
      refine NoPanic.normal ?_
      have HG5 := hide hG5
      have HB5 := hide hHeld
      clear hHeld hG5 hGD hG3
      go_wp2_with fail
      go_roundw
      case rel =>
        have hg := unhide HG5
        rw [← unhide HT, unhide HL] at hg
        exact ⟨k + 1, _, _, by omega, by go_num, hg, unhide HS5, unhide HB5⟩
      case measure => simp [intOf]; omega
    · obtain rfl : k = xs.length := by omega
      rw [List.take_length] at hG
      have HG := hide hG
      have HB := hide hB
      clear hG hB H
      go_wp2_with fail
      go_ret
      exact ⟨_, rfl, ⟨_, _, unhide HG, unhide HS⟩, unhide HB⟩

theorem specCopyG (v : Value) (xs : List DItem) (w : World) (h : (Lay.sl Lay.tItem).Reads w [v] xs) (hn : xs.length ≤ 10000000) (hv : ∀ x ∈ xs, x.vec.length ≤ 100000000) :
    Calls Try.prog 113 #[v] w fun e w' => ∃ v', e = .returned v' ∧ (∃ rows bls, Grow Lay.tItem w' w.heap.size 106 v' rows xs bls ∧ ∀ c ∈ bls.flatten, w.heap.size ≤ c) ∧ Below w.heap.size w w' := by
  obtain ⟨ao, cap, rfl⟩ := open_sl h
  by_cases hp : 0 < xs.length
  · obtain ⟨b, off, rfl, hbl⟩ := Lay.sl_addr h hp
    exact specCopy_pos b off cap xs w h hbl hn hv
  · obtain rfl : xs = [] := List.eq_nil_of_length_eq_zero (by omega)
    clear h hp hn hv
    have HB := hide ((Below.refl w.heap.size w).alloc (Nat.le_refl _) (.cells #[] 106))
    have HG : Hid (Grow Lay.tItem (w.alloc (.cells #[] 106)) w.heap.size 106 (.slice (some ⟨w.heap.size, 0, none⟩) 0 0) [] [] []) := Grow.nil (World.ownsRow_lit w #[] 0 (Nat.le_refl _) (Nat.zero_le _) rfl)
    go_enter Try.func113, Try.ntmps113
    go_wp2_with fail
    refine wp_loop_rounds 1 ?_
    rw [rounds_succ]
    go_wp2_with fail
    go_ret
    exact ⟨_, rfl, ⟨_, _, unhide HG, by simp⟩, unhide HB⟩

/-- l4Copy of the model. -/
theorem specCopy (v : Value) (xs : List DItem) (w : World) (h : (Lay.sl Lay.tItem).Reads w [v] xs) (hn : xs.length ≤ 10000000) (hv : ∀ x ∈ xs, x.vec.length ≤ 100000000) :
    Calls Try.prog 113 #[v] w fun e w' => ∃ v', e = .returned v' ∧ (Lay.sl Lay.tItem).LiesIn w' [v'] xs w.heap.size w'.heap.size ∧ Below w.heap.size w w' := by
  refine (specCopyG v xs w h hn hv).mono ?_
  rintro e w' ⟨v', rfl, ⟨rows, bls, hG, hs⟩, hb⟩
  exact ⟨v', rfl, hG.toLies (by omega) hs, hb⟩

end Go.Proofs.Ytfgadegpdknocaa

namespace Go.Proofs.Ytfgadegpdknocaa
open Go.RowKit

theorem take_fold (nw : DItem) (st : List DItem × Bool) (xs : List DItem) (k : Nat) (h : k < xs.length) : (xs.take (k + 1)).foldl (setStep nw) st = setStep nw ((xs.take k).foldl (setStep nw) st) xs[k] := by
  rw [List.take_succ_eq_append_getElem h, List.foldl_append]
  rfl

set_option maxRecDepth 100000 in
set_option maxHeartbeats 4000000 in
theorem specSet_pos (b off cap : Nat) (xs : List DItem) (nw : DItem) (a2 : Option Addr) (d2 : Nat) (has : Bool) (w : World) (h : (Lay.sl Lay.tItem).Reads w [.slice (some ⟨b, off, none⟩) xs.length cap] xs) (hv : (Lay.sl Lay.int).Reads w [.slice a2 nw.vec.length d2] nw.vec) (hw : (Lit.int .i64 nw.id).wf = true)
    (hbl : b < w.heap.size) (hn : xs.length ≤ 1000000) (hx : ∀ x ∈ xs, x.vec.length ≤ 100000000) (hx2 : nw.vec.length ≤ 100000000) :
    Calls Try.prog 97 #[.slice (some ⟨b, off, none⟩) xs.length cap, .int .i64 nw.id, .slice a2 nw.vec.length d2, .bool has] w fun e w' => ∃ v', e = .returned v' ∧ (∃ rows bls, Grow Lay.tItem w' w.heap.size 106 v' rows (setM xs nw has) bls ∧ ∀ c ∈ bls.flatten, w.heap.size ≤ c) ∧ Below w.heap.size w w' := by
  obtain ⟨blN, hlN⟩ := hv
  have hN : Lay.tItem.lies w [.int .i64 nw.id, .slice a2 nw.vec.length d2] nw blN := lies_Item.2 ⟨a2, d2, blN, rfl, rfl, hw, hlN⟩
  have hNl : ∀ c ∈ blN, c < w.heap.size := Lay.tItem.lt hN
  have HN := hide hN
  have HNL := hide hNl
  have H := hide h
  have HX := hide hx
  clear h hx hlN hN hNl
  have G0 : Grow Lay.tItem (w.alloc (.cells #[] 106)) w.heap.size 106 (.slice (some ⟨w.heap.size, 0, none⟩) 0 0) [] [] [] := Grow.nil (World.ownsRow_lit w #[] 0 (Nat.le_refl _) (Nat.zero_le _) rfl)
  have HG := hide G0
  have HB0 := hide ((Below.refl w.heap.size w).alloc (Nat.le_refl _) (.cells #[] 106))
  clear G0
  go_enter Try.func97, Try.ntmps97
  go_wp2_with fail
  go_loopw [9, 10, 11] (fun v d i wr => ∃ (k : Nat) (rows : List (List Value)) (bls : List (List Nat)) (out : List DItem) (dn : Bool), k ≤ xs.length ∧ i = .int .i64 k ∧ d = .bool dn ∧ (xs.take k).foldl (setStep nw) ([], !has) = (out, dn) ∧ out.length ≤ 2 * k ∧ (∀ x ∈ out, x.vec.length ≤ 100000000) ∧ Grow Lay.tItem wr w.heap.size 106 v rows out bls ∧ Below w.heap.size w wr) (fun _ _ i _ => xs.length - (intOf i).toNat)
  case atStart => exact ⟨0, [], [], [], !has, Nat.zero_le _, rfl, rfl, rfl, by simp, by simp, unhide HG, unhide HB0⟩
  case round =>
    obtain ⟨k, rows, bls, out, dn, hk, rfl, rfl, hst, hol, hov, hG, hB⟩ := hrel
    clear HG HB0
    by_cases hlt : k < xs.length
    · obtain ⟨row, hc, hr⟩ := Lay.row_at (unhide H) hlt
      obtain ⟨blX, hlX⟩ := hr
      obtain ⟨a1, d1, bb, rfl, hbb, hwi, hlv⟩ := lies_Item.1 hlX
      have hXl : ∀ c ∈ blX, c < w.heap.size := Lay.tItem.lt hlX
      have c0 : wr.cell? ⟨b, off + k * 2, none⟩ = some (.int .i64 (xs[k]).id) := (hB.cell (p := ⟨b, off + k * 2, none⟩) hbl).trans (hc 0 (by decide))
      have c1 : wr.cell? ⟨b, off + k * 2 + 1, none⟩ = some (.slice a1 (xs[k]).vec.length d1) := (hB.cell (p := ⟨b, off + k * 2 + 1, none⟩) hbl).trans (hc 1 (by decide))
      have hbr : b < wr.heap.size := Nat.lt_of_lt_of_le hbl hB.size
      have HST : Hid ((xs.take (k + 1)).foldl (setStep nw) ([], !has) = setOld nw (setNew nw (out, dn) xs[k]) xs[k]) := by
        show (xs.take (k + 1)).foldl (setStep nw) ([], !has) = _
        rw [take_fold nw _ xs k hlt, hst]
        rfl
      have HXV := hide (unhide HX xs[k] (List.getElem_mem hlt))
      have HLX := hide (Lay.tItem.keep hlX fun c hc => hB.block c (hXl c hc))
      have HXL := hide hXl
      have HLN := hide (Lay.tItem.keep (unhide HN) fun c hc => hB.block c (unhide HNL c hc))
      clear hc hlX hbb hwi hlv hst
      generalize hx : xs[k] = x at *
      clear hx
      have HG := hide hG
      have HB := hide hB
      have HOV := hide hov
      clear hG hB hov
      have hnx : out.length + 3 ≤ 100000000 := by omega
      by_cases hA : dn = false ∧ nw.id ≤ x.id
      · obtain ⟨rfl, hle⟩ := hA
        have hd1 : decide (nw.id ≤ x.id) = true := by simpa using hle
        have e1 : setNew nw (out, false) x = (out ++ [nw], true) := by simp [setNew, hle]
        rw [e1] at HST
        have hG := unhide HG
        have hoff : ∀ c ∈ blN, u9.ownBlock ≠ some c := fun c hc e => by have h1 := unhide HNL c hc; have h2 := (hG.own.lt c e).1; omega
        have hLN := unhide HLN
        have HZ : Hid (w.heap.size ≤ wr.heap.size) := (unhide HB).size
        clear e1 hle HLN HG
        go_wp2_with (at_builtin; refine wpList_append_Item hG hLN hoff rfl _ _ rfl rfl rfl (by omega) (unhide HZ) ?_)
        rintro g5 cp5 w5 hG5 hb5 hE5 hl5 hz5 hor
        have d0 : w5.cell? ⟨b, off + k * 2, none⟩ = some (.int .i64 x.id) := (hb5.cell (p := ⟨b, off + k * 2, none⟩) hbl).trans c0
        have d1' : w5.cell? ⟨b, off + k * 2 + 1, none⟩ = some (.slice a1 x.vec.length d1) := (hb5.cell (p := ⟨b, off + k * 2 + 1, none⟩) hbl).trans c1
        have hbr5 : b < w5.heap.size := by omega
        have HLX5 := hide (Lay.tItem.keep (unhide HLX) fun c hc => hb5.block c (unhide HXL c hc))
        have HB5 := hide ((unhide HB).trans hb5)
        have HG5 := hide hG5
        clear hG hoff hLN hG5 hb5 hE5 hor HB HLX c0 c1 hd1 HZ hz5
        have HOV5 : Hid (∀ y ∈ out ++ [nw], y.vec.length ≤ 100000000) := by
          intro y hy
          rcases List.mem_append.1 hy with hy | hy
          · exact unhide HOV y hy
          · rw [List.mem_singleton.1 hy]; exact hx2
        by_cases he : x.id = nw.id
        · have hd2 : (x.id != nw.id) = false := by simpa using he
          have e2 : setOld nw (out ++ [nw], true) x = (out ++ [nw], true) := by rw [setOld, if_pos he]
          rw [e2] at HST
          clear he e2 HLX5
          go_wp2_with fail
          go_roundw
          case rel => exact ⟨k + 1, _, _, out ++ [nw], true, by omega, by go_num, rfl, unhide HST, by simp; omega, unhide HOV5, unhide HG5, unhide HB5⟩
          case measure => simp [intOf]; omega
        · have hd2 : (x.id != nw.id) = true := by simpa using he
          have e2 : setOld nw (out ++ [nw], true) x = (out ++ [nw] ++ [x], true) := by rw [setOld, if_neg he]
          rw [e2] at HST
          have hG := unhide HG5
          have hoff : ∀ c ∈ blX, (Value.slice (some ⟨g5, 0, none⟩) (out.length + 1) cp5).ownBlock ≠ some c := fun c hc e => by have h1 := unhide HXL c hc; have h2 := (hG.own.lt c e).1; omega
          have hLX := unhide HLX5
          have HZ : Hid (w.heap.size ≤ w5.heap.size) := (unhide HB5).size
          clear he e2 HLX5 HG5
          go_wp2_with (at_builtin; refine wpList_append_Item hG hLX hoff rfl _ _ rfl rfl rfl (by simp; omega) (unhide HZ) ?_)
          rintro g6 cp6 w6 hG6 hb6 hE6 hl6 hz6 hor6
          have HB6 := hide ((unhide HB5).trans hb6)
          have HG6 := hide hG6
          have HOV6 : Hid (∀ y ∈ out ++ [nw] ++ [x], y.vec.length ≤ 100000000) := by
            intro y hy
            rcases List.mem_append.1 hy with hy | hy
            · exact unhide HOV5 y hy
            · rw [List.mem_singleton.1 hy]; exact unhide HXV
          clear hG hoff hLX hG6 hb6 hE6 hor6 HB5 d0 d1' hd2 HZ hz6
          go_wp2_with fail
          go_roundw
          case rel =>
            have hg := unhide HG6
            have e3 : out ++ [nw] ++ [x] = out ++ [nw, x] := by simp
            have hs := unhide HST
            have ho := unhide HOV6
            rw [e3] at hs ho
            exact ⟨k + 1, _, _, out ++ [nw, x], true, by omega, by go_num, rfl, hs, by simp; omega, ho, hg, unhide HB6⟩
          case measure => simp [intOf]; omega
      · have e1 : setNew nw (out, dn) x = (out, dn) := by rw [setNew, if_neg hA]
        rw [e1] at HST
        have hcond : dn = true ∨ decide (nw.id ≤ x.id) = false := by
          cases dn with
          | true => exact Or.inl rfl
          | false => right; simpa using hA
        clear e1 hA
        by_cases he : x.id = nw.id
        · have hd2 : (x.id != nw.id) = false := by simpa using he
          have e2 : setOld nw (out, dn) x = (out, dn) := by rw [setOld, if_pos he]
          rw [e2] at HST
          clear he e2 HLX HLN
          rcases hcond with rfl | hd1
          · go_wp2_with fail
            go_roundw
            case rel => exact ⟨k + 1, _, _, out, true, by omega, by go_num, rfl, unhide HST, by omega, unhide HOV, unhide HG, unhide HB⟩
            case measure => simp [intOf]; omega
          · cases dn with
            | true =>
              go_wp2_with fail
              go_roundw
              case rel => exact ⟨k + 1, _, _, out, true, by omega, by go_num, rfl, unhide HST, by omega, unhide HOV, unhide HG, unhide HB⟩
              case measure => simp [intOf]; omega
            | false =>
              go_wp2_with fail
              go_roundw
              case rel => exact ⟨k + 1, _, _, out, false, by omega, by go_num, rfl, unhide HST, by omega, unhide HOV, unhide HG, unhide HB⟩
              case measure => simp [intOf]; omega
        · have hd2 : (x.id != nw.id) = true := by simpa using he
          have e2 : setOld nw (out, dn) x = (out ++ [x], dn) := by rw [setOld, if_neg he]
          rw [e2] at HST
          have hG := unhide HG
          have hoff : ∀ c ∈ blX, u9.ownBlock ≠ some c := fun c hc e => by have h1 := unhide HXL c hc; have h2 := (hG.own.lt c e).1; omega
          have hLX := unhide HLX
          have HZ : Hid (w.heap.size ≤ wr.heap.size) := (unhide HB).size
          have HOV6 : Hid (∀ y ∈ out ++ [x], y.vec.length ≤ 100000000) := by
            intro y hy
            rcases List.mem_append.1 hy with hy | hy
            · exact unhide HOV y hy
            · rw [List.mem_singleton.1 hy]; exact unhide HXV
          clear he e2 HLX HLN HG
          have hcd : (dn = true) ∨ (dn = false ∧ decide (nw.id ≤ x.id) = false) := by
            rcases hcond with h | h
            · exact Or.inl h
            · cases dn with
              | true => exact Or.inl rfl
              | false => exact Or.inr ⟨rfl, h⟩
          clear hcond
          rcases hcd with rfl | ⟨rfl, hd1⟩
          · go_wp2_with (at_builtin; refine wpList_append_Item hG hLX hoff rfl _ _ rfl rfl rfl (by omega) (unhide HZ) ?_)
            rintro g6 cp6 w6 hG6 hb6 hE6 hl6 hz6 hor6
            have HB6 := hide ((unhide HB).trans hb6)
            have HG6 := hide hG6
            clear hG hoff hLX hG6 hb6 hE6 hor6 HB c0 c1 hd2 HZ hz6
            go_wp2_with fail
            go_roundw
            case rel => exact ⟨k + 1, _, _, out ++ [x], true, by omega, by go_num, rfl, unhide HST, by simp; omega, unhide HOV6, unhide HG6, unhide HB6⟩
            case measure => simp [intOf]; omega
          · go_wp2_with (at_builtin; refine wpList_append_Item hG hLX hoff rfl _ _ rfl rfl rfl (by omega) (unhide HZ) ?_)
            rintro g6 cp6 w6 hG6 hb6 hE6 hl6 hz6 hor6
            have HB6 := hide ((unhide HB).trans hb6)
            have HG6 := hide hG6
            clear hG hoff hLX hG6 hb6 hE6 hor6 HB c0 c1 hd2 HZ hz6 hd1
            go_wp2_with fail
            go_roundw
            case rel => exact ⟨k + 1, _, _, out ++ [x], false, by omega, by go_num, rfl, unhide HST, by simp; omega, unhide HOV6, unhide HG6, unhide HB6⟩
            case measure => simp [intOf]; omega
    · obtain rfl : k = xs.length := by omega
      rw [List.take_length] at hst
      have HM : Hid (setM xs nw has = setFin nw (out, dn)) := by
        show setM xs nw has = _
        rw [setM, hst]
      have HG := hide hG
      have HB := hide hB
      have HOV := hide hov
      have HLN := hide (Lay.tItem.keep (unhide HN) fun c hc => hB.block c (unhide HNL c hc))
      clear hG hB hov hst H
      cases dn with
      | true =>
        have hR := (unhide HG).toReads (by omega)
        have L := specCopyG u9 out wr hR (by omega) (unhide HOV)
        have HL := hide L
        rw [setFin, if_pos rfl] at HM
        clear hR L HLN HG
        go_wp2_with fail
        refine (unhide HL).mono ?_
        rintro e w6 ⟨v6, rfl, hR6, hb6⟩
        have HB6 := hide ((unhide HB).trans (hb6.mono (unhide HB).size))
        obtain ⟨rows6, bls6, hG6, hs6⟩ := hR6
        have HR6 : Hid (∃ rows bls, Grow Lay.tItem w6 w.heap.size 106 v6 rows _ bls ∧ ∀ c ∈ bls.flatten, w.heap.size ≤ c) := ⟨rows6, bls6, hG6.lower (unhide HB).size, fun c hc => Nat.le_trans (unhide HB).size (hs6 c hc)⟩
        clear hb6 hG6 hs6
        go_wp2_with fail
        go_ret
        exact ⟨_, rfl, by rw [unhide HM]; exact unhide HR6, unhide HB6⟩
      | false =>
        have hG := unhide HG
        have hoff : ∀ c ∈ blN, u9.ownBlock ≠ some c := fun c hc e => by have h1 := unhide HNL c hc; have h2 := (hG.own.lt c e).1; omega
        have hLN := unhide HLN
        have HZ : Hid (w.heap.size ≤ wr.heap.size) := (unhide HB).size
        rw [setFin, if_neg (by simp)] at HM
        clear HLN HG
        go_wp2_with (at_builtin; refine wpList_append_Item hG hLN hoff rfl _ _ rfl rfl rfl (by omega) (unhide HZ) ?_)
        rintro g5 cp5 w5 hG5 hb5 hE5 hl5 hz5 hor
        have HOV5 : Hid (∀ y ∈ out ++ [nw], y.vec.length ≤ 100000000) := by
          intro y hy
          rcases List.mem_append.1 hy with hy | hy
          · exact unhide HOV y hy
          · rw [List.mem_singleton.1 hy]; exact hx2
        have hR := hG5.toReads (by simp; omega)
        have HL := hide (specCopyG _ (out ++ [nw]) w5 hR (by simp; omega) (unhide HOV5))
        have HB5 := hide ((unhide HB).trans hb5)
        clear hG hoff hLN hG5 hb5 hE5 hor HB HZ hR hz5
        go_wp2_with fail
        refine (unhide HL).mono ?_
        rintro e w6 ⟨v6, rfl, hR6, hb6⟩
        have HB6 := hide ((unhide HB5).trans (hb6.mono (unhide HB5).size))
        obtain ⟨rows6, bls6, hG6, hs6⟩ := hR6
        have HR6 : Hid (∃ rows bls, Grow Lay.tItem w6 w.heap.size 106 v6 rows _ bls ∧ ∀ c ∈ bls.flatten, w.heap.size ≤ c) := ⟨rows6, bls6, hG6.lower (unhide HB5).size, fun c hc => Nat.le_trans (unhide HB5).size (hs6 c hc)⟩
        clear hb6 hG6 hs6
        go_wp2_with fail
        go_ret
        exact ⟨_, rfl, by rw [unhide HM]; exact unhide HR6, unhide HB6⟩

end Go.Proofs.Ytfgadegpdknocaa

namespace Go.Proofs.Ytfgadegpdknocaa
open Go.RowKit

set_option maxRecDepth 100000 in
set_option maxHeartbeats 1000000 in
theorem specSet_zero (ao : Option Addr) (cap : Nat) (nw : DItem) (a2 : Option Addr) (d2 : Nat) (has : Bool) (w : World) (hv : (Lay.sl Lay.int).Reads w [.slice a2 nw.vec.length d2] nw.vec) (hw : (Lit.int .i64 nw.id).wf = true) (hx2 : nw.vec.length ≤ 100000000) :
    Calls Try.prog 97 #[.slice ao 0 cap, .int .i64 nw.id, .slice a2 nw.vec.length d2, .bool has] w fun e w' => ∃ v', e = .returned v' ∧ (∃ rows bls, Grow Lay.tItem w' w.heap.size 106 v' rows (setM [] nw has) bls ∧ ∀ c ∈ bls.flatten, w.heap.size ≤ c) ∧ Below w.heap.size w w' := by
  obtain ⟨blN, hlN⟩ := hv
  have hN : Lay.tItem.lies w [.int .i64 nw.id, .slice a2 nw.vec.length d2] nw blN := lies_Item.2 ⟨a2, d2, blN, rfl, rfl, hw, hlN⟩
  have hNl : ∀ c ∈ blN, c < w.heap.size := Lay.tItem.lt hN
  have nb : Below w.heap.size w (w.alloc (.cells #[] 106)) := (Below.refl w.heap.size w).alloc (Nat.le_refl _) (.cells #[] 106)
  have G0 : Grow Lay.tItem (w.alloc (.cells #[] 106)) w.heap.size 106 (.slice (some ⟨w.heap.size, 0, none⟩) 0 0) [] [] [] := Grow.nil (World.ownsRow_lit w #[] 0 (Nat.le_refl _) (Nat.zero_le _) rfl)
  have hLN := Lay.tItem.keep hN fun c hc => nb.block c (hNl c hc)
  have hoff : ∀ c ∈ blN, (Value.slice (some ⟨w.heap.size, 0, none⟩) 0 0).ownBlock ≠ some c := fun c hc e => by have h1 := hNl c hc; simp [Value.ownBlock] at e; omega
  have HZ : Hid (w.heap.size ≤ (w.alloc (.cells #[] 106)).heap.size) := nb.size
  have HB0 := hide nb
  cases has with
  | false =>
    have HL := hide (specCopyG _ [] _ (G0.toReads (by simp)) (by simp) (by simp))
    clear G0 hLN hoff hN hNl hlN nb
    go_enter Try.func97, Try.ntmps97
    go_wp2_with fail
    refine wp_loop_rounds 1 ?_
    rw [rounds_succ]
    go_wp2_with fail
    refine (unhide HL).mono ?_
    rintro e w6 ⟨v6, rfl, hR6, hb6⟩
    have HB6 := hide ((unhide HB0).trans (hb6.mono (unhide HB0).size))
    obtain ⟨rows6, bls6, hG6, hs6⟩ := hR6
    have HR6 : Hid (∃ rows bls, Grow Lay.tItem w6 w.heap.size 106 v6 rows _ bls ∧ ∀ c ∈ bls.flatten, w.heap.size ≤ c) := ⟨rows6, bls6, hG6.lower (unhide HB0).size, fun c hc => Nat.le_trans (unhide HB0).size (hs6 c hc)⟩
    clear hb6 hG6 hs6
    go_wp2_with fail
    go_ret
    exact ⟨_, rfl, unhide HR6, unhide HB6⟩
  | true =>
    clear hN hNl hlN nb
    go_enter Try.func97, Try.ntmps97
    go_wp2_with fail
    refine wp_loop_rounds 1 ?_
    rw [rounds_succ]
    generalize hW : w.alloc (.cells #[] 106) = W1 at *
    have hsz : w.heap.size < W1.heap.size := by rw [← hW]; simp
    clear hW
    go_wp2_with (at_builtin; refine wpList_append_Item G0 hLN hoff rfl _ _ rfl rfl rfl (by simp) (unhide HZ) ?_)
    rintro g5 cp5 w5 hG5 hb5 hE5 hl5 hz5 hor
    have hR := hG5.toReads (by simp)
    have HL := hide (specCopyG _ ([] ++ [nw]) w5 hR (by simp) (by intro y hy; rw [List.mem_singleton.1 hy]; exact hx2))
    have HB5 := hide ((unhide HB0).trans hb5)
    clear G0 hoff hLN hG5 hb5 hE5 hor HZ hR hz5
    go_wp2_with fail
    refine (unhide HL).mono ?_
    rintro e w6 ⟨v6, rfl, hR6, hb6⟩
    have HB6 := hide ((unhide HB5).trans (hb6.mono (unhide HB5).size))
    obtain ⟨rows6, bls6, hG6, hs6⟩ := hR6
    have HR6 : Hid (∃ rows bls, Grow Lay.tItem w6 w.heap.size 106 v6 rows _ bls ∧ ∀ c ∈ bls.flatten, w.heap.size ≤ c) := ⟨rows6, bls6, hG6.lower (unhide HB5).size, fun c hc => Nat.le_trans (unhide HB5).size (hs6 c hc)⟩
    clear hb6 hG6 hs6
    go_wp2_with fail
    go_ret
    exact ⟨_, rfl, unhide HR6, unhide HB6⟩

theorem specSetG (v : Value) (xs : List DItem) (id : Int) (vec : List Int) (vv : Value) (has : Bool) (w : World) (h : (Lay.sl Lay.tItem).Reads w [v] xs) (hv : (Lay.sl Lay.int).Reads w [vv] vec) (hw : (Lit.int .i64 id).wf = true)
    (hn : xs.length ≤ 1000000) (hx : ∀ x ∈ xs, x.vec.length ≤ 100000000) (hx2 : vec.length ≤ 100000000) :
    Calls Try.prog 97 #[v, .int .i64 id, vv, .bool has] w fun e w' => ∃ v', e = .returned v' ∧ (∃ rows bls, Grow Lay.tItem w' w.heap.size 106 v' rows (setM xs ⟨id, vec⟩ has) bls ∧ ∀ c ∈ bls.flatten, w.heap.size ≤ c) ∧ Below w.heap.size w w' := by
  obtain ⟨ao, cap, rfl⟩ := open_sl h
  obtain ⟨ao2, cap2, rfl⟩ := open_sl hv
  by_cases hp : 0 < xs.length
  · obtain ⟨b, off, rfl, hbl⟩ := Lay.sl_addr h hp
    exact specSet_pos b off cap xs ⟨id, vec⟩ ao2 cap2 has w h hv hw hbl hn hx hx2
  · obtain rfl : xs = [] := List.eq_nil_of_length_eq_zero (by omega)
    exact specSet_zero ao cap ⟨id, vec⟩ ao2 cap2 has w hv hw hx2

/-- l4Set of the model. -/
theorem specSet (v : Value) (xs : List DItem) (id : Int) (vec : List Int) (vv : Value) (has : Bool) (w : World) (h : (Lay.sl Lay.tItem).Reads w [v] xs) (hv : (Lay.sl Lay.int).Reads w [vv] vec) (hw : (Lit.int .i64 id).wf = true)
    (hn : xs.length ≤ 1000000) (hx : ∀ x ∈ xs, x.vec.length ≤ 100000000) (hx2 : vec.length ≤ 100000000) :
    Calls Try.prog 97 #[v, .int .i64 id, vv, .bool has] w fun e w' => ∃ v', e = .returned v' ∧ (Lay.sl Lay.tItem).LiesIn w' [v'] (setM xs ⟨id, vec⟩ has) w.heap.size w'.heap.size ∧ Below w.heap.size w w' := by
  refine (specSetG v xs id vec vv has w h hv hw hn hx hx2).mono ?_
  rintro e w' ⟨v', rfl, ⟨rows, bls, hG, hs⟩, hb⟩
  have hl := setM_size xs ⟨id, vec⟩ has
  exact ⟨v', rfl, hG.toLies (by omega) hs, hb⟩

end Go.Proofs.Ytfgadegpdknocaa

namespace Go.Proofs.Ytfgadegpdknocaa
open Go.RowKit

set_option maxRecDepth 100000 in
set_option maxHeartbeats 4000000 in
theorem specItems7 (b : Nat) (x : DIvf) (ac : Option Addr) (dc : Nat) (al : Option Addr) (dl : Nat) (w : World) (h : IvfAt w b x ac dc al dl) (hl : ∀ l ∈ x.lists, tableFault l.items = 0) (hn : x.lists.length ≤ 6) :
    Calls Try.prog 78 #[.pointer (some ⟨b, 0, none⟩)] w fun e w' => ∃ v', e = .returned v' ∧ (Lay.sl Lay.tItem).LiesIn w' [v'] (allIs x.lists) w.heap.size w'.heap.size ∧ Below w.heap.size w w' := by
  have HX := hide h
  have HL := hide hl
  have HB0 : Hid (Below w.heap.size w (w.alloc (.cells #[] 106))) := (Below.refl _ _).alloc (Nat.le_refl _) _
  have HCN : Hid (∀ k, k ≤ x.lists.length → (allIs (x.lists.take k)).length ≤ 180) := fun k hk => by
    have h1 := allIs_len (x.lists.take k)
    have h2 := countIs_le (ls := x.lists.take k) (fun l hm => (tableFault_zero (hl l (List.mem_of_mem_take hm))).1)
    have h3 : (x.lists.take k).length ≤ 6 := by simp; omega
    omega
  have HVL : Hid (∀ k y, y ∈ allIs (x.lists.take k) → y.vec.length ≤ 100000000) := fun k y hy => by
    obtain ⟨l, hm, hy⟩ := allIs_mem hy
    have := ((tableFault_zero (hl l (List.mem_of_mem_take hm))).2.1 y hy).2
    have := (vecFault_zero this).1
    omega
  clear h hl
  go_enter Try.func78, Try.ntmps78
  go_wp2_with fail
  go_loopw [3, 4] (fun u i wr => ∃ k : Nat, k ≤ x.lists.length ∧ i = .int .i64 k ∧ (Lay.sl Lay.tItem).LiesIn wr [u] (allIs (x.lists.take k)) w.heap.size wr.heap.size ∧ Below w.heap.size w wr) (fun _ i _ => x.lists.length - (intOf i).toNat)
  case atStart => exact ⟨0, Nat.zero_le _, rfl, ⟨[], ⟨some ⟨w.heap.size, 0, none⟩, 0, rfl, by simp [allIs], Or.inl ⟨rfl, rfl⟩⟩, by simp⟩, unhide HB0⟩
  case round =>
    obtain ⟨k, hk, rfl, hO, hB⟩ := hrel
    clear HB0
    have c1 := ((unhide HX).later hB).c1
    by_cases hlt : k < x.lists.length
    · have HLz := hide ((unhide HX).later hB).lists
      obtain ⟨bl, ol, rfl, hbl⟩ := Lay.sl_addr (unhide HLz) (by omega)
      obtain ⟨row, hc, hr⟩ := Lay.row_at (unhide HLz) hlt
      obtain ⟨a5, d5, rfl, R5⟩ := open_IvfList hr
      have c2 : wr.cell? ⟨bl, ol + k, none⟩ = some (.slice a5 (x.lists[k]).items.length d5) := one_cell (hc 0 (by decide))
      have hft := unhide HL x.lists[k] (List.getElem_mem hlt)
      have HSTEP := hide (allIs_step x.lists k hlt)
      have hcn := unhide HCN k hk
      have hvl := unhide HVL k
      have hris := allIs_rising (x.lists.take k)
      have HBL := hide c1
      clear hc hr
      generalize hls : x.lists[k] = l at *
      clear hls
      generalize allIs (x.lists.take k) = out at *
      obtain ⟨hl30, hla, -⟩ := tableFault_zero hft
      have HLA := hide hla
      have HRIS := hide hris
      have HVO := hide hvl
      have HR5 := hide R5
      have HO := hide hO
      have HB := hide hB
      have HC2 := hide c2
      clear hO hB hla hris hvl R5 hft HLz
      rename World => wo
      go_wp2_with fail
      clear c1 c2
      go_loopw [3, 5] (fun u i wr => ∃ j : Nat, j ≤ l.items.length ∧ i = .int .i64 j ∧ (Lay.sl Lay.tItem).LiesIn wr [u] (gatherI out (l.items.take j)) w.heap.size wr.heap.size ∧ Below wo.heap.size wo wr) (fun _ i _ => l.items.length - (intOf i).toNat)
      case atStart => exact ⟨0, Nat.zero_le _, rfl, unhide HO, Below.refl _ _⟩
      case round =>
        obtain ⟨j, hj, rfl, hO, hB⟩ := hrel
        clear HO
        have c1 : wr.cell? ⟨b, 1, none⟩ = some (.slice (some ⟨bl, ol, none⟩) x.lists.length dl) := cell_keep hB (unhide HBL)
        have c2 : wr.cell? ⟨bl, ol + k, none⟩ = some (.slice a5 l.items.length d5) := cell_keep hB (unhide HC2)
        by_cases hlj : j < l.items.length
        · have R5 := (unhide HR5).later hB
          obtain ⟨b6, o6, rfl, hb6⟩ := Lay.sl_addr R5 (by omega)
          obtain ⟨row, hc, hr⟩ := Lay.row_at R5 hlj
          obtain ⟨a7, d7, rfl, R7⟩ := open_Item hr
          have c3 : wr.cell? ⟨b6, o6 + j * 2, none⟩ = some (.int .i64 (l.items[j]).id) := hc 0 (by decide)
          have c4 : wr.cell? ⟨b6, o6 + j * 2 + 1, none⟩ = some (.slice a7 (l.items[j]).vec.length d7) := hc 1 (by decide)
          obtain ⟨hid, hvx⟩ := unhide HLA l.items[j] (List.getElem_mem hlj)
          have HGS := hide (gatherI_step out l.items j hlj)
          have hgl := gatherI_len (unhide HRIS) (l.items.take j)
          have hgr := gatherI_rising (unhide HRIS) (l.items.take j)
          have hgv : ∀ y ∈ gatherI out (l.items.take j), y.vec.length ≤ 100000000 := fun y hy => by
            rcases gatherI_mem hy with h1 | h1
            · exact unhide HVO y h1
            · have := (vecFault_zero (unhide HLA y (List.mem_of_mem_take h1)).2).1
              omega
          have hgl2 : (gatherI out (l.items.take j)).length ≤ 1000000 := by
            have : (l.items.take j).length ≤ 30 := by simp; omega
            omega
          have hv3 := (vecFault_zero hvx).1
          have hw : (Lit.int .i64 (l.items[j]).id).wf = true := by
            simp only [idB, Bool.and_eq_true, decide_eq_true_eq] at hid
            exact wf_of_bd (by omega)
          clear hc hr hgl
          generalize l.items[j] = y at *
          generalize gatherI out (l.items.take j) = cur at *
          have nb : Below wr.heap.size wr (wr.alloc (.cells #[.int .i64 y.id, .slice a7 y.vec.length d7] 106)) := (Below.refl _ _).alloc (Nat.le_refl _) _
          have LS := hide (specSet _ cur y.id y.vec (.slice a7 y.vec.length d7) true _ (hO.reads.later nb) (R7.later nb) hw hgl2 hgv (by omega))
          rw [setM_put hgr] at LS
          have HBn := hide (hB.trans (nb.mono hB.size))
          have hws : w.heap.size ≤ wr.heap.size := Nat.le_trans (unhide HB).size hB.size
          clear hO hB R5 R7 nb hgr hgv hgl2 hid hvx hv3 hw
          go_wp2_with fail
          refine (unhide LS).mono ?_
          rintro e w9 ⟨v9, rfl, hO9, hb9⟩
          have HO9 := hide (hO9.mono (lo' := w.heap.size) (by simp; omega) (Nat.le_refl _))
          have HB9 := hide ((unhide HBn).trans (hb9.mono (unhide HBn).size))
          clear hO9 hb9 LS HBn c1 c2 c3 c4
          go_wp2_with fail
          go_roundw
          case rel => exact ⟨j + 1, by omega, by go_num, by rw [unhide HGS]; exact unhide HO9, unhide HB9⟩
          case measure => simp [intOf]; omega
        · obtain rfl : j = l.items.length := by omega
          rw [List.take_length] at hO
          have HO9 := hide hO
          have HB9 := hide ((unhide HB).trans (hB.mono (unhide HB).size))
          clear hO hB
          go_wp2_with fail
          go_roundw
          case rel => exact ⟨k + 1, by omega, by go_num, by rw [unhide HSTEP]; exact unhide HO9, unhide HB9⟩
          case measure => simp [intOf]; omega
    · obtain rfl : k = x.lists.length := by omega
      rw [List.take_length] at hO
      have HO := hide hO
      have HB := hide hB
      clear hO hB
      go_wp2_with fail
      go_ret
      exact ⟨_, rfl, unhide HO, unhide HB⟩

end Go.Proofs.Ytfgadegpdknocaa

namespace Go.Proofs.Ytfgadegpdknocaa
open Go.RowKit

set_option maxRecDepth 100000 in
set_option maxHeartbeats 4000000 in
theorem specFault7 (b : Nat) (x : DIvf) (ac : Option Addr) (dc : Nat) (al : Option Addr) (dl : Nat) (w : World) (h : IvfAt w b x ac dc al dl) :
    Calls Try.prog 55 #[.pointer (some ⟨b, 0, none⟩)] w fun e w' => e = .returned (.int .i64 (ivfFault x)) ∧ Below w.heap.size w w' := by
  generalize hF0 : ivfFault x = F0
  have HF0 := hide hF0
  have HX := hide h
  have c0 := h.c0
  have c1 := h.c1
  have L1 := hide (specCen _ x.centers w h.cens)
  clear h hF0
  go_enter Try.func55, Try.ntmps55
  go_wp2_with fail
  refine (unhide L1).mono ?_
  rintro e w1 ⟨rfl, hb1⟩
  have HX1 := hide ((unhide HX).later hb1)
  have HB := hide hb1
  clear c0 c1 L1 hb1
  by_cases hcf : centersFault x.centers = 0
  · rw [hcf]
    have c0 := (unhide HX1).c0
    have c1 := (unhide HX1).c1
    have HCF := hide hcf
    by_cases hne : x.lists.length = x.centers.length
    · have hd : ((x.lists.length : Int) != (x.centers.length : Int)) = false := by rw [hne]; simp
      have hn6 : x.lists.length ≤ 6 := by rw [hne]; exact (centersFault_zero hcf).1.2
      have HNE : Hid (x.lists.length = x.centers.length) := hne
      clear hcf hne
      go_wp2_with fail
      go_quiet (fail)
      clear c0 c1 hd
      go_wp2_with fail
      refine (specLists7 b x ac dc al dl _ ((unhide HX1).later (below_drawn (Below.refl _ _) _)) (unhide HCF) (by omega)).mono ?_
      rintro e w3 ⟨rfl, hb3⟩
      have HX3 := hide (((unhide HX1).later (below_drawn (Below.refl _ _) _)).later hb3)
      replace HB := hide ((below_drawn (unhide HB) _).trans (hb3.mono (unhide HB).size))
      clear hb3 HX1
      by_cases hlf : listsFrom x.centers 0 x.lists = 0
      · rw [hlf]
        have HLF := hide hlf
        have HTF := hide (list_facts (x := x) hlf)
        clear hlf
        have HCB : Hid (∀ k, countIs (x.lists.take k) ≤ 180) := fun k => by
          have h1 := countIs_le (ls := x.lists.take k) (fun l hm => (tableFault_zero (unhide HTF l (List.mem_of_mem_take hm))).1)
          have h2 : (x.lists.take k).length ≤ 6 := by simp; omega
          omega
        go_wp2_with fail
        go_loopw [5, 6] (fun n i wr => ∃ k : Nat, k ≤ x.lists.length ∧ i = .int .i64 k ∧ n = .int .i64 (countIs (x.lists.take k) : Nat) ∧ wr = w3) (fun _ i _ => x.lists.length - (intOf i).toNat)
        case atStart => exact ⟨0, Nat.zero_le _, rfl, rfl, rfl⟩
        case round =>
          obtain ⟨k, hk, rfl, rfl, rfl⟩ := hrel
          have c1 := (unhide HX3).c1
          by_cases hlt : k < x.lists.length
          · obtain ⟨bl, ol, rfl, hbl⟩ := Lay.sl_addr (unhide HX3).lists (by omega)
            obtain ⟨row, hc, hr⟩ := Lay.row_at (unhide HX3).lists hlt
            obtain ⟨a5, d5, rfl, -⟩ := open_IvfList hr
            have c2 : wr.cell? ⟨bl, ol + k, none⟩ = some (.slice a5 (x.lists[k]).items.length d5) := one_cell (hc 0 (by decide))
            have hstep := countIs_take x.lists k hlt
            have hcb := unhide HCB (k + 1)
            rw [hstep] at hcb
            have HST := hide hstep
            clear hc hr hstep
            generalize (x.lists[k]).items.length = m at *
            generalize countIs (x.lists.take k) = n at *
            go_wp2_with fail
            go_roundw
            case rel => exact ⟨k + 1, by omega, by go_num, by rw [unhide HST]; go_num, by simp⟩
            case measure => simp [intOf]; omega
          · obtain rfl : k = x.lists.length := by omega
            rw [List.take_length]
            have LI := hide (specItems7 b x ac dc al dl wr (unhide HX3) (unhide HTF) hn6)
            have hc180 := unhide HCB x.lists.length
            rw [List.take_length] at hc180
            go_wp2_with fail
            clear c1
            refine (unhide LI).mono ?_
            rintro e w5 ⟨v5, rfl, hO5, hb5⟩
            obtain ⟨a5, d5, rfl⟩ := open_sl hO5.reads
            replace HB := hide ((unhide HB).trans (hb5.mono (unhide HB).size))
            clear hO5 hb5 LI
            by_cases hal : (allIs x.lists).length = countIs x.lists
            · have hd2 : (((allIs x.lists).length : Int) != ((countIs x.lists : Nat) : Int)) = false := by rw [hal]; simp
              by_cases h30 : countIs x.lists ≤ 30
              · have hd3 : decide ((30 : Int) < ((countIs x.lists : Nat) : Int)) = false := by simp; omega
                have HF1 : Hid (0 = F0) := by
                  have := unhide HF0
                  rw [ivfFault, if_pos (unhide HCF), if_pos (unhide HNE), if_pos (unhide HLF), if_pos hal, if_pos h30] at this
                  exact this
                clear hal h30
                go_wp2_with fail
                go_ret
                exact ⟨by rw [← unhide HF1]; rfl, unhide HB⟩
              · have hd3 : decide ((30 : Int) < ((countIs x.lists : Nat) : Int)) = true := by simp; omega
                have HF1 : Hid (2 = F0) := by
                  have := unhide HF0
                  rw [ivfFault, if_pos (unhide HCF), if_pos (unhide HNE), if_pos (unhide HLF), if_pos hal, if_neg h30] at this
                  exact this
                clear hal h30
                go_wp2_with fail
                go_ret
                exact ⟨by rw [← unhide HF1]; rfl, unhide HB⟩
            · have hd2 : (((allIs x.lists).length : Int) != ((countIs x.lists : Nat) : Int)) = true := by rw [bne_iff_ne]; omega
              have HF1 : Hid (6 = F0) := by
                have := unhide HF0
                rw [ivfFault, if_pos (unhide HCF), if_pos (unhide HNE), if_pos (unhide HLF), if_neg hal] at this
                exact this
              clear hal
              go_wp2_with fail
              go_ret
              exact ⟨by rw [← unhide HF1]; rfl, unhide HB⟩
      · have hd2 : (listsFrom x.centers 0 x.lists != 0) = true := by simpa using hlf
        have HF1 : Hid (listsFrom x.centers 0 x.lists = F0) := by
          have := unhide HF0
          rw [ivfFault, if_pos (unhide HCF), if_pos (unhide HNE), if_neg hlf] at this
          exact this
        clear hlf
        go_wp2_with fail
        go_ret
        exact ⟨by rw [← unhide HF1]; rfl, unhide HB⟩
    · have hd : ((x.lists.length : Int) != (x.centers.length : Int)) = true := by rw [bne_iff_ne]; omega
      have HF1 : Hid (1 = F0) := by
        have := unhide HF0
        rw [ivfFault, if_pos hcf, if_neg hne] at this
        exact this
      clear hcf hne HCF
      go_wp2_with fail
      go_quiet (fail)
      go_wp2_with fail
      go_ret
      exact ⟨by rw [← unhide HF1]; rfl, below_drewN (unhide HB) _⟩
  · have hd : (centersFault x.centers != 0) = true := by simpa using hcf
    have HF1 : Hid (centersFault x.centers = F0) := by
      have := unhide HF0
      rw [ivfFault, if_neg hcf] at this
      exact this
    clear hcf
    go_wp2_with fail
    go_ret
    exact ⟨by rw [← unhide HF1]; rfl, unhide HB⟩

end Go.Proofs.Ytfgadegpdknocaa

namespace Go.Proofs.Ytfgadegpdknocaa
open Go.RowKit

theorem l7N (n : Int) (w : World) :
    Calls Try.prog 71 #[.int .i64 n] w fun e w' => e = .returned (.bool (decide (0 ≤ n) && decide (n ≤ 6))) ∧ w' = w := by
  go_enter Try.func71, Try.ntmps71
  go_wp2_with fail
  refine (l1In n 0 6 _).mono ?_
  rintro e w1 ⟨rfl, rfl⟩
  go_wp2_with fail
  go_ret
  exact ⟨rfl, rfl⟩

set_option maxRecDepth 10000 in
set_option maxHeartbeats 1000000 in
theorem specProbesOf (cs : List Value) (x : DIvf) (vq : Value) (q : List Int) (n : Int) (w : World) (h : Lay.tIvf.Reads w cs x) (hq : (Lay.sl Lay.int).Reads w [vq] q) :
    Calls Try.prog 27 #[.agg cs.toArray, vq, .int .i64 n] w fun e w' => ∃ cs', e = .returned (.agg cs'.toArray) ∧ Lay.tIntsResult.Reads w' cs' (probesR x q n) ∧ Below w.heap.size w w' := by
  obtain ⟨ac, dc, al, dl, rfl, R0, R1⟩ := open_Ivf h
  have HB0 : Below w.heap.size w ((w.alloc (.cells #[.slice ac x.centers.length dc, .slice al x.lists.length dl] 31)).alloc (.cells #[.int .i64 0, .slice none 0 0] 53)) := ((Below.refl _ _).alloc (Nat.le_refl _) _).alloc (by simp) _
  have bx : Box w.heap.size #[.slice ac x.centers.length dc, .slice al x.lists.length dl] 31 ((w.alloc (.cells #[.slice ac x.centers.length dc, .slice al x.lists.length dl] 31)).alloc (.cells #[.int .i64 0, .slice none 0 0] 53)) w.heap.size := (newBox (Nat.le_refl _)).grow _
  have bR : Box w.heap.size #[.int .i64 0, .slice none 0 0] 53 ((w.alloc (.cells #[.slice ac x.centers.length dc, .slice al x.lists.length dl] 31)).alloc (.cells #[.int .i64 0, .slice none 0 0] 53)) (w.heap.size + 1) := newBoxAt (by omega) (by simp)
  have hA := ivfAt_box bx (R0.later HB0) (R1.later HB0)
  have HQ := hide (Lay.ints_reads (hq.later HB0))
  obtain ⟨aq, dq, rfl⟩ := open_sl hq
  clear h R0 R1 bx hq
  go_enter Try.func27, Try.ntmps27
  go_wp2_with fail
  generalize (w.alloc (.cells #[.slice ac x.centers.length dc, .slice al x.lists.length dl] 31)).alloc (.cells #[.int .i64 0, .slice none 0 0] 53) = W0 at *
  refine (specFault7 w.heap.size x ac dc al dl W0 hA).mono ?_
  rintro e w1 ⟨rfl, hb⟩
  have HA := hide (hA.later hb)
  replace HQ := hide ((unhide HQ).later hb)
  replace bR := bR.keep hb
  replace HB0 := HB0.trans (hb.mono HB0.size)
  have z0 : w1.cell? ⟨w.heap.size + 1, 0, none⟩ = some (.int .i64 0) := bR.at 0 _ rfl
  have z1 : w1.cell? ⟨w.heap.size + 1, 1, none⟩ = some (.slice none 0 0) := bR.at 1 _ rfl
  have f0 := bR.soft 0
  have f1 := bR.soft 1
  have l0 := bR.lt
  have HB := hide HB0
  have HR := hide bR
  clear hb HB0 bR hA
  by_cases hf : ivfFault x = 0
  · rw [hf]
    go_wp2_with fail
    refine (modelFault _ q _ (unhide HQ)).mono ?_
    rintro e w1 ⟨rfl, rfl⟩
    by_cases hfq : vecFault q = 0
    · rw [hfq]
      go_wp2_with fail
      refine (l7N n _).mono ?_
      rintro e w1 ⟨rfl, rfl⟩
      rw [show (decide (0 ≤ n) && decide (n ≤ 6)) = nB n from rfl]
      cases hk : nB n with
      | false =>
        have HG : Hid (probesR x q n = ⟨3, []⟩) := by
          show probesR x q n = _
          rw [probesR, if_pos hf, if_pos hfq, hk, if_neg (by simp)]
        clear hk hf hfq HA
        go_wp2_with fail
        refine bodyPost_ret (v := .agg #[.int .i64 3, .slice none 0 0]) (by simp [results, Try.results27, go_sem, z0, z1]) rfl ?_
        rw [unhide HG]
        exact ⟨[.int .i64 3, .slice none 0 0], rfl, (own_codeInts (lo := 0) (hi := 0) (by decide)).reads, ((unhide HB).setCell (by simp) _).setCell (by simp) _⟩
      | true =>
        have HG : Hid (probesR x q n = ⟨0, probesI x.centers q n.toNat⟩) := by
          show probesR x q n = _
          rw [probesR, if_pos hf, if_pos hfq, hk, if_pos rfl]
        have hkb : 0 ≤ n ∧ n ≤ 6 := by simpa [nB] using hk
        have hcf := (ivfFault_zero hf).1
        have L := specProbes _ x.centers _ q n.toNat w1 (unhide HA).cens (unhide HQ) hcf hfq (by omega)
        rw [show ((n.toNat : Nat) : Int) = n by omega] at L
        have HL := hide L
        have HW := hide (probe_wf (q := q) (n := n.toNat) (Nat.le_trans (centersFault_zero hcf).1.2 (by decide)))
        have hpn := probe_len x.centers q n.toNat
        have c0 := (unhide HA).c0
        clear hk hf hfq hcf L HA HQ
        generalize probesI x.centers q n.toNat = ps at *
        go_wp2_with fail
        clear z0 z1 f0 f1 l0 c0
        refine (unhide HL).mono ?_
        rintro e w2 ⟨v2, rfl, ho, hb⟩
        have hO := Lay.ownInts (unhide HW) (by omega) ho
        obtain ⟨ao9, cp9, rfl⟩ := open_sl hO.reads
        have hlt := (unhide HR).lt
        have bR := (unhide HR).keep hb
        have z0 : w2.cell? ⟨w.heap.size + 1, 0, none⟩ = some (.int .i64 0) := bR.at 0 _ rfl
        have z1 : w2.cell? ⟨w.heap.size + 1, 1, none⟩ = some (.slice none 0 0) := bR.at 1 _ rfl
        have f0 := bR.soft 0
        have f1 := bR.soft 1
        have l0 := bR.lt
        have HB9 := hide ((unhide HB).trans (hb.mono (unhide HB).size))
        have HO9 := hide hO
        clear hb bR hO ho HR HL
        go_wp2_with fail
        refine bodyPost_ret (v := .agg #[.int .i64 0, .slice ao9 ps.length cp9]) (by simp [results, Try.results27, go_sem, z0, z1]) rfl ?_
        rw [unhide HG]
        have hE : Ext (fun c => c = w.heap.size + 1) w2 ((w2.setCell ⟨w.heap.size + 1, 0, none⟩ (.int .i64 0)).setCell ⟨w.heap.size + 1, 1, none⟩ (.slice ao9 ps.length cp9)) := ((Ext.refl (fun c => c = w.heap.size + 1) _).setCell ⟨w.heap.size + 1, 0, none⟩ _ rfl).setCell ⟨w.heap.size + 1, 1, none⟩ _ rfl
        exact ⟨[.int .i64 0, .slice ao9 ps.length cp9], rfl, (own_ints (by decide) ((unhide HO9).ext hE (fun c h1 _ h3 => by omega))).reads, ((unhide HB9).setCell (by simp) _).setCell (by simp) _⟩
    · have HG : Hid (probesR x q n = ⟨vecFault q, []⟩) := by
        show probesR x q n = _
        rw [probesR, if_pos hf, if_neg hfq]
      have hd : (vecFault q != 0) = true := by simpa using hfq
      clear hf hfq HQ HA
      go_wp2_with fail
      refine bodyPost_ret (v := .agg #[.int .i64 (vecFault q), .slice none 0 0]) (by simp [results, Try.results27, go_sem, z0, z1]) rfl ?_
      rw [unhide HG]
      exact ⟨[.int .i64 (vecFault q), .slice none 0 0], rfl, (own_codeInts (lo := 0) (hi := 0) (vcode_wf q)).reads, ((unhide HB).setCell (by simp) _).setCell (by simp) _⟩
  · have HG : Hid (probesR x q n = ⟨ivfFault x, []⟩) := if_neg hf
    have hd : (ivfFault x != 0) = true := by simpa using hf
    clear hf HA HQ
    go_wp2_with fail
    refine bodyPost_ret (v := .agg #[.int .i64 (ivfFault x), .slice none 0 0]) (by simp [results, Try.results27, go_sem, z0, z1]) rfl ?_
    rw [unhide HG]
    exact ⟨[.int .i64 (ivfFault x), .slice none 0 0], rfl, (own_codeInts (lo := 0) (hi := 0) (ivfFault_wf x)).reads, ((unhide HB).setCell (by simp) _).setCell (by simp) _⟩

end Go.Proofs.Ytfgadegpdknocaa

namespace Go.Proofs.Ytfgadegpdknocaa
open Go.RowKit

theorem cnt_ints7 (zs : List Int) : cntAll Lay.int.cnt zs = zs.length := by
  induction zs with
  | nil => rfl
  | cons z zs ih => simp only [cntAll, ih, List.length_cons]; show 1 + zs.length = zs.length + 1; omega
theorem probesR_few (x : DIvf) (q : List Int) (n : Int) : Lay.tIntsResult.vcnt (probesR x q n) ≤ 100000000 := by
  rw [vcnt_IntsResult]
  show cntAll Lay.int.cnt (probesR x q n).list ≤ 100000000
  rw [cnt_ints7]
  unfold probesR
  split
  · split
    · split
      · rename_i hn
        have h1 := probe_len x.centers q n.toNat
        simp only [nB, Bool.and_eq_true, decide_eq_true_eq] at hn
        show (probesI x.centers q n.toNat).length ≤ 100000000
        omega
      · exact Nat.zero_le _
    · exact Nat.zero_le _
  · exact Nat.zero_le _
theorem lawProbesOf (cs : List Value) (x : DIvf) (vq : Value) (q : List Int) (n : Int) (w : World) (h : Lay.tIvf.Reads w cs x) (hq : (Lay.sl Lay.int).Reads w [vq] q) :
    Calls Try.prog 5 #[.agg cs.toArray, vq, .int .i64 n] w fun e w' => e = .returned (.bool true) ∧ Below w.heap.size w w' := by
  by_cases h2 : q.length ≤ 1048576
  · have hz : (Lay.sl Lay.int).sz q ≤ 1048576 := by rw [sz_ints]; exact h2
    by_cases hn : Lay.tIvf.sz x ≤ 1048576
    · exact lawx_ProbesOf cs x vq q n (probesR x q n) w h hq hz hn (fun W a b ha hb => specProbesOf a x b q n W ha hb) (fun W a b ha hb => implProbesOf a x b q n W ha hb) (probesR_few x q n)
    · exact lawover_ProbesOf cs x vq q n w h hq hz (by omega)
  · obtain ⟨ao, cap, rfl⟩ := open_sl hq
    exact lawmany_ProbesOf_1 _ ao q.length cap _ w (by omega)

end Go.Proofs.Ytfgadegpdknocaa

namespace Go.Proofs.Ytfgadegpdknocaa
open Go.RowKit Go.ChangeShapes Go.WideShapes

/-- Whatever reads as data of the type t lies as A says. -/
def Opens {α : Type} (A : Lay α) (t : TypeId) : Prop :=
  ∀ {H : Type} (enc : TypeId × Value → H) (W : World) (base : Nat) (spare : Nat → Bool) (held : Bool) (fuel : Nat) (cs : List Value) (x : DataW H × List MemPlace), DataW.trod enc Try.prog W base spare held fuel t cs = some x → ∃ y, A.Reads W cs y

theorem reads_pair {α β : Type} {A : Lay α} {B : Lay β} {W : World} {c1 c2 : List Value} {x : α} {y : β} (h : A.Reads W c1 x) (k : B.Reads W c2 y) : (Lay.pair A B).Reads W (c1 ++ c2) (x, y) := by
  obtain ⟨b1, h⟩ := h
  obtain ⟨b2, k⟩ := k
  exact ⟨b1 ++ b2, c1, c2, b1, b2, rfl, rfl, h, k⟩

theorem opens_int {t : TypeId} (ht : Try.prog.underlying t = some (.int .i64)) : Opens Lay.int t := by
  intro H enc W base spare held fuel cs x h
  obtain ⟨n, rfl, -, hw⟩ := DataW.trod_int ht h
  exact ⟨n, [], rfl, hw, rfl⟩
theorem opens_bool {t : TypeId} (ht : Try.prog.underlying t = some .bool) : Opens Lay.bool t := by
  intro H enc W base spare held fuel cs x h
  obtain ⟨b, rfl, -⟩ := DataW.trod_bool ht h
  exact ⟨b, [], rfl, rfl⟩
theorem opens_str {t : TypeId} (ht : Try.prog.underlying t = some .string) : Opens Lay.str t := by
  intro H enc W base spare held fuel cs x h
  obtain ⟨s, rfl, -, -⟩ := DataW.trod_string ht h
  exact ⟨s, [], rfl, rfl⟩

theorem opens_sl {α : Type} {A : Lay α} {t e : TypeId} (ht : Try.prog.underlying t = some (.slice e)) (hn : Try.prog.cellsOf e = A.n) (h0 : 0 < A.n) (h : Opens A e) : Opens (Lay.sl A) t := by
  intro H enc W base spare held fuel cs x hx
  rcases Go.Deep.open_slice ht hx with ⟨rfl, -⟩ | ⟨a, len, cap, m, n, D, Pl, rfl, hb, hl, hm, hmm, -, hel⟩
  · exact ⟨[], [], none, 0, rfl, ⟨Nat.le_refl _, by simp⟩, Or.inl ⟨rfl, rfl⟩⟩
  · have hlm : len ≤ m := by rw [hmm]; split <;> omega
    rw [hn] at hel
    have each : ∀ i, i < len → ∃ q : List Value × α, (∀ j, j < A.n → W.cell? (a.add (i * A.n + j)) = q.1[j]?) ∧ q.1.length = A.n ∧ A.Reads W q.1 q.2 := by
      intro i hi
      obtain ⟨cs', h1, h2⟩ := hel i (by omega)
      obtain ⟨-, hlen, hc⟩ := World.cells?_some h1
      obtain ⟨y, hy⟩ := h enc W base spare held n cs' _ h2
      refine ⟨(cs', y), fun j hj => ?_, hlen, hy⟩
      have := hc j hj
      rw [Addr.add_add] at this
      exact this
    by_cases hp : 0 < len
    · obtain ⟨b, off, spot⟩ := a
      obtain ⟨q0, c0, l0, -⟩ := each 0 hp
      have hc0 := c0 0 h0
      have hs0 : ∃ v, W.cell? ((⟨b, off, spot⟩ : Addr).add (0 * A.n + 0)) = some v := ⟨_, hc0.trans (List.getElem?_eq_getElem (by omega))⟩
      obtain ⟨v0, hv0⟩ := hs0
      have hspot : spot = none := by simpa [Addr.add] using World.cell?_spot hv0
      subst hspot
      have hbl : b < W.heap.size := by
        have := World.block_lt_of_cell? _ _ hv0
        simpa [Addr.add] using this
      have pick : ∃ f : (i : Nat) → i < len → List Value × α, ∀ i (hi : i < len), (∀ j, j < A.n → W.cell? ((⟨b, off, none⟩ : Addr).add (i * A.n + j)) = (f i hi).1[j]?) ∧ (f i hi).1.length = A.n ∧ A.Reads W (f i hi).1 (f i hi).2 :=
        ⟨fun i hi => Classical.choose (each i hi), fun i hi => Classical.choose_spec (each i hi)⟩
      obtain ⟨f, hf⟩ := pick
      have pick2 : ∃ g : (i : Nat) → i < len → List Nat, ∀ i (hi : i < len), A.lies W (f i hi).1 (f i hi).2 (g i hi) :=
        ⟨fun i hi => Classical.choose (hf i hi).2.2, fun i hi => Classical.choose_spec (hf i hi).2.2⟩
      obtain ⟨g, hg⟩ := pick2
      refine ⟨(List.finRange len).map (fun i => (f i.1 i.2).2), b :: ((List.finRange len).map (fun i => g i.1 i.2)).flatten, some ⟨b, off, none⟩, cap, by simp, ⟨by simpa using hl, by simp; unfold maxLen at hm; omega⟩, Or.inr ⟨b, off, (List.finRange len).map (fun i => (f i.1 i.2).1), (List.finRange len).map (fun i => g i.1 i.2), rfl, hbl, rfl, by simp, by simp, fun j h1 h2 h3 => ?_⟩⟩
      have hj : j < len := by simpa using h1
      refine ⟨fun k hk => ?_, ?_⟩
      · have := (hf j hj).1 k hk
        rw [Addr.add_lit] at this
        simpa [Nat.add_assoc] using this
      · simpa using hg j hj
    · obtain rfl : len = 0 := by omega
      exact ⟨[], [], some a, cap, rfl, ⟨hl, by simp⟩, Or.inl ⟨rfl, rfl⟩⟩

theorem open_arg {α : Type} {A : Lay α} {t : TypeId} (O : Opens A t) {H : Type} {enc : TypeId × Value → H} {W : World} {base : Nat} {spare : Nat → Bool} {held : Bool} {a : Option Addr} {len cap : Nat} {d : DataW H} {p : List MemPlace}
    (h : DataW.Trod enc Try.prog W base spare held t (.slice a len cap) d p) : ∃ y, A.Reads W [.slice a len cap] y := by
  obtain ⟨fuel, hf⟩ := h
  exact O enc W base spare held fuel _ _ (by simpa [Value.cells] using hf)
theorem open_arg_st {α : Type} {A : Lay α} {t : TypeId} (O : Opens A t) {H : Type} {enc : TypeId × Value → H} {W : World} {base : Nat} {spare : Nat → Bool} {held : Bool} {cs : Array Value} {d : DataW H} {p : List MemPlace}
    (h : DataW.Trod enc Try.prog W base spare held t (.agg cs) d p) : ∃ y, A.Reads W cs.toList y := by
  obtain ⟨fuel, hf⟩ := h
  exact O enc W base spare held fuel _ _ (by simpa [Value.cells] using hf)

end Go.Proofs.Ytfgadegpdknocaa

namespace Go.Proofs.Ytfgadegpdknocaa
open Go.RowKit

set_option maxRecDepth 10000 in
theorem opens_Center : Opens Lay.tCenter 98 := by
  intro H enc W base spare held fuel cs x h
  obtain ⟨xs, n, _, _, hlen, hl, hfi⟩ := DataW.trod_struct Try.underlying98 h
  rw [show Try.prog.cellsOf 98 = 1 by kernel_rfl] at hlen
  match cs, hlen with
  | [c0], _ =>
  match xs, hl with
  | [y0], _ =>
  have z0 : Try.prog.cellsOf 51 = 1 := by kernel_rfl
  have f0 : DataW.trod enc Try.prog W base spare held n 51 (([c0].drop 0).take (Try.prog.cellsOf 51)) = some y0 := hfi 0 _ rfl
  rw [z0] at f0
  obtain ⟨d0, r0⟩ := (opens_sl Try.underlying51 (by kernel_rfl) (by decide) (opens_int Try.underlying2)) enc W base spare held n _ _ f0
  exact ⟨⟨d0⟩, r0⟩

end Go.Proofs.Ytfgadegpdknocaa
