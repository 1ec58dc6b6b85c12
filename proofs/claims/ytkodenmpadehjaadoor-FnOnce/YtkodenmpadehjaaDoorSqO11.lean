/-
  Texts of this proof in one: AppWriteAt, SpecApp5, SpecApp, ImplLast.
  Their conditions stand in their theorems.
-/
import Derived.Test.YtkodenmpadehjaaDoorSqO04
import Derived.Test.YtkodenmpadehjaaDoorSqO10
import Derived.Test.YtkodenmpadehjaaDoorSqO06
import Derived.Deep.RegionHeld3
import Derived.Test.YtkodenmpadehjaaDoorSqO05
import Derived.Test.YtkodenmpadehjaaDoorSqO09

namespace Go.Proofs.YtkodenmpadehjaaDoor
open Go.RowKit

/-- At a step of a region that draws its order: the new one lies in any block. -/
theorem step_append_WriteAt {bR : Nat} {w1 : World} {base : Nat} {v : Value} {rows : List (List Value)} {xs : List DWrite} {bls : List (List Nat)} (hG : Grow Lay.tWrite w1 base 27 v rows xs bls) {row : List Value} {x : DWrite} {bl : List Nat} (hR : w1.heap[bR]? = some (.cells row.toArray 27 (0, 0))) (hl : Lay.tWrite.lies w1 row x bl) (hbl : ∀ b ∈ bl, v.ownBlock ≠ some b) {ops : Array Oper} {o : Oper} {a : Act} {K : Act → World → Prop} {Q : Exit → Act → World → Prop} {E : Prop} (hgd : o.guard = none) (s y : Operand)
    (ho : o.op = .call { callee := .builtin .append, args := #[s, y], argTypes := #[24, 24] }) (hs : a.eval s = v) (hy : a.eval y = .slice (some ⟨bR, 0, none⟩) 1 1) (hn : xs.length + 1 ≤ 100000000) (hbase : base ≤ w1.heap.size)
    (h : ∀ g cap w', Grow Lay.tWrite w' base 27 (.slice (some ⟨g, 0, none⟩) (xs.length + 1) cap) (rows ++ [row]) (xs ++ [x]) (bls ++ [bl]) → Below base w1 w' → Ext (fun q => v.ownBlock = some q) w1 w' → g < w'.heap.size → w1.heap.size ≤ w'.heap.size → (v.ownBlock = some g ∨ w1.heap.size ≤ g) → K (a.put o.dst (.slice (some ⟨g, 0, none⟩) (xs.length + 1) cap)) w') :
    if Region.wanted o (yielded ops a.tmps) = true then Oper.wp Tryd.prog o a w1 K Q else E := by
  obtain ⟨i0, hi0, hz0, hz1, hz2⟩ := info_parts infoAppWrite
  obtain ⟨h1, hlen⟩ := one_Write hl
  refine step_append_lies _ hgd s y 24 ho base 27 i0 _ 5 56 Tryd.underlying24 hi0 hz0 hz1 hz2 rfl (by omega) v xs.length rows.flatten hs hG.own ⟨bR, 0, none⟩ 1 1 row hy hlen (World.news_of_block (cs := row.toArray) (t := 27) (fr := (0, 0)) hR) h1 (by omega) (by unfold maxLen; omega) (by omega) (by first | omega | (simp; omega)) w1.heap.size rfl ?_
  intro g cap w' h2 h3 h4 h5
  have hg := h3
  have hbw : Below base w1 w' := (Below.refl _ _).grown hg hbase (fun j hj => (hG.own.lt j hj).1)
  have hor : v.ownBlock = some g ∨ w1.heap.size ≤ g := by
    rcases h4 with h4 | h4
    · exact Or.inl h4
    · exact Or.inr (by rw [h4]; exact Nat.le_refl _)
  exact h g cap w' (hG.snoc hl hbl h2 hg hor) hbw ⟨hbw.os, hbw.tape, hbw.output, hbw.size, fun k hk hn => hg.block k hk (fun e => hn e.symm)⟩ h5 hbw.size hor

end Go.Proofs.YtkodenmpadehjaaDoor

namespace Go.Proofs.YtkodenmpadehjaaDoor
open Go.RowKit

theorem vec_few5 {x : DWrite} (h : wF x = 0) : x.vec.length ≤ 3 := by
  obtain ⟨-, -, -, hk⟩ := writeFault_zero h
  rcases hk with ⟨-, hv⟩ | ⟨-, hv⟩
  · have := (vecFault_zero hv).1; omega
  · rw [hv]; simp
theorem wF_wf4 {x : DWrite} (h : wF x = 0) : (Lit.int .i64 x.kind).wf = true ∧ (Lit.int .i64 x.id).wf = true ∧ (Lit.int .i64 x.session).wf = true ∧ (Lit.int .i64 x.seq).wf = true := by
  obtain ⟨hi, hs, hq, hk⟩ := writeFault_zero h
  refine ⟨wf_of_bd ?_, wf_of_bd (by omega), wf_of_bd (by omega), wf_of_bd (by omega)⟩
  rcases hk with ⟨e, -⟩ | ⟨e, -⟩ <;> omega
theorem lies_none {w : World} {lo hi : Nat} : (Lay.sl Lay.tWrite).LiesIn w [.slice none 0 0] [] lo hi := ⟨[], ⟨none, 0, rfl, by simp, Or.inl ⟨rfl, rfl⟩⟩, by simp⟩

set_option maxRecDepth 100000 in
set_option maxHeartbeats 4000000 in
theorem l5AppendC (v : Value) (ws : List DWrite) (b : Nat) (a2 : Option Addr) (d2 : Nat) (x : DWrite) (w : World) (h : (Lay.sl Lay.tWrite).Reads w [v] ws) (hQ : Box 0 #[.int .i64 x.kind, .int .i64 x.id, .slice a2 x.vec.length d2, .int .i64 x.session, .int .i64 x.seq] 27 w b) (R2 : (Lay.sl Lay.int).Reads w [.slice a2 x.vec.length d2] x.vec) (hfw : writesF ws = 0) (hf : wF x = 0) :
    Calls Tryd.prog 39 #[v, .pointer (some ⟨b, 0, none⟩)] w fun e w' => ∃ (a : Option Addr) (n c : Nat), e = .returned (.tuple #[.slice a n c, .int .i64 (appR ws x).place, .int .i64 (appR ws x).code]) ∧ n = (appR ws x).writes.length ∧ (Lay.sl Lay.tWrite).LiesIn w' [.slice a n c] (appR ws x).writes w.heap.size w'.heap.size ∧ Below w.heap.size w w' := by
  obtain ⟨hlen, hall⟩ := writesF_zero hfw
  have HVF : Hid (∀ y ∈ ws, y.vec.length ≤ 100000000) := fun y hy => Nat.le_trans (vec_few5 (hall y hy)) (by decide)
  have hd0 : Below w.heap.size w w.drew := (Below.refl _ _).drew
  have HS1 := hide (l5SeenC v ws x.session x.seq w.drew (h.later hd0) (by omega))
  have HFW := hide hfw
  have HF := hide hf
  have HR := hide (h.later hd0)
  have HR2 := hide (R2.later hd0)
  have HB1 := hide hd0
  obtain ⟨ao, cap, rfl⟩ := open_sl h
  clear h R2 hfw hf hall hd0
  go_enter Tryd.func39, Tryd.ntmps39
  go_wp2_with fail
  refine wp_region_noPanic ?_
  refine wp_region_held_drew (S := fun w' => w' = w.drew) (by kernel_rfl) rfl (fun hHeld => ?_)
  refine wpAnyH_take (i := 0) (oi := { dst := some 9, op := Go.Op.move (Go.Operand.tmp 0), type := 24, pos := "l05_session.go:60", after := #[], guard := none }) (v := ?va0) rfl (by kernel_rfl) (by kernel_rfl) (by kernel_rfl) (fun _ _ _ h => h) (Or.inl ⟨by rfl, ?ha0⟩) hHeld ?ra0
  case ha0 =>
    intro wS hSw
    (try dsimp only at hSw)
    go_simp
    try with_reducible rfl
  case ra0 =>
  simp only [Act.put, List.setIfInBounds_toArray, List.set_cons_zero, List.set_cons_succ]
  refine wpAnyH_take (i := 1) (oi := { dst := some 10, op := Go.Op.move (Go.Operand.tmp 1), type := 83, pos := "l05_session.go:60", after := #[], guard := none }) (v := ?va1) rfl (by kernel_rfl) (by kernel_rfl) (by kernel_rfl) (fun _ _ _ h => h) (Or.inl ⟨by rfl, ?ha1⟩) hHeld ?ra1
  case ha1 =>
    intro wS hSw
    (try dsimp only at hSw)
    go_simp
    try with_reducible rfl
  case ra1 =>
  simp only [Act.put, List.setIfInBounds_toArray, List.set_cons_zero, List.set_cons_succ]
  refine wpAnyH_take (i := 2) (oi := { dst := some 11, op := Go.Op.nilCheck (Go.Operand.tmp 10), type := 0, pos := "l05_session.go:60", after := #[{ on := 1, ground := Go.Ground.data }], guard := none }) (v := ?va2) rfl (by kernel_rfl) (by kernel_rfl) (by kernel_rfl) (fun _ _ _ h => h) (Or.inl ⟨by rfl, ?ha2⟩) hHeld ?ra2
  case ha2 =>
    intro wS hSw
    (try dsimp only at hSw)
    go_simp
    try with_reducible rfl
  case ra2 =>
  simp only [Act.put, List.setIfInBounds_toArray, List.set_cons_zero, List.set_cons_succ]
  refine wpAnyH_take (i := 3) (oi := { dst := some 12, op := Go.Op.fieldAddr 27 (Go.Operand.tmp 11) 3, type := 0, pos := "l05_session.go:60", after := #[{ on := 2, ground := Go.Ground.data }], guard := none }) (v := ?va3) rfl (by kernel_rfl) (by kernel_rfl) (by kernel_rfl) (fun _ _ _ h => h) (Or.inl ⟨by rfl, ?ha3⟩) hHeld ?ra3
  case ha3 =>
    intro wS hSw
    (try dsimp only at hSw)
    go_simp
    try with_reducible rfl
  case ra3 =>
  simp only [Act.put, List.setIfInBounds_toArray, List.set_cons_zero, List.set_cons_succ]
  refine wpAnyH_take (i := 4) (oi := { dst := some 13, op := Go.Op.load 2 (Go.Operand.tmp 12), type := 2, pos := "l05_session.go:60", after := #[{ on := 3, ground := Go.Ground.data }], guard := none }) (v := ?va4) rfl (by kernel_rfl) (by kernel_rfl) (by kernel_rfl) (fun _ _ _ h => h) (Or.inl ⟨by rfl, ?ha4⟩) hHeld ?ra4
  case ha4 =>
    intro wS hSw
    have y3 : wS.cell? ⟨b, 3, none⟩ = some (.int .i64 x.session) := by rw [hSw]; exact hQ.at 3 _ rfl
    have y4 : wS.cell? ⟨b, 4, none⟩ = some (.int .i64 x.seq) := by rw [hSw]; exact hQ.at 4 _ rfl
    clear hSw
    (try dsimp only at hSw)
    go_simp
    try with_reducible rfl
  case ra4 =>
  simp only [Act.put, List.setIfInBounds_toArray, List.set_cons_zero, List.set_cons_succ]
  refine wpAnyH_take (i := 5) (oi := { dst := some 14, op := Go.Op.move (Go.Operand.tmp 1), type := 83, pos := "l05_session.go:60", after := #[], guard := none }) (v := ?va5) rfl (by kernel_rfl) (by kernel_rfl) (by kernel_rfl) (fun _ _ _ h => h) (Or.inl ⟨by rfl, ?ha5⟩) hHeld ?ra5
  case ha5 =>
    intro wS hSw
    (try dsimp only at hSw)
    go_simp
    try with_reducible rfl
  case ra5 =>
  simp only [Act.put, List.setIfInBounds_toArray, List.set_cons_zero, List.set_cons_succ]
  refine wpAnyH_take (i := 6) (oi := { dst := some 15, op := Go.Op.nilCheck (Go.Operand.tmp 14), type := 0, pos := "l05_session.go:60", after := #[{ on := 5, ground := Go.Ground.data }], guard := none }) (v := ?va6) rfl (by kernel_rfl) (by kernel_rfl) (by kernel_rfl) (fun _ _ _ h => h) (Or.inl ⟨by rfl, ?ha6⟩) hHeld ?ra6
  case ha6 =>
    intro wS hSw
    (try dsimp only at hSw)
    go_simp
    try with_reducible rfl
  case ra6 =>
  simp only [Act.put, List.setIfInBounds_toArray, List.set_cons_zero, List.set_cons_succ]
  refine wpAnyH_take (i := 7) (oi := { dst := some 16, op := Go.Op.fieldAddr 27 (Go.Operand.tmp 15) 4, type := 0, pos := "l05_session.go:60", after := #[{ on := 6, ground := Go.Ground.data }], guard := none }) (v := ?va7) rfl (by kernel_rfl) (by kernel_rfl) (by kernel_rfl) (fun _ _ _ h => h) (Or.inl ⟨by rfl, ?ha7⟩) hHeld ?ra7
  case ha7 =>
    intro wS hSw
    (try dsimp only at hSw)
    go_simp
    try with_reducible rfl
  case ra7 =>
  simp only [Act.put, List.setIfInBounds_toArray, List.set_cons_zero, List.set_cons_succ]
  refine wpAnyH_take (i := 8) (oi := { dst := some 17, op := Go.Op.load 2 (Go.Operand.tmp 16), type := 2, pos := "l05_session.go:60", after := #[{ on := 7, ground := Go.Ground.data }], guard := none }) (v := ?va8) rfl (by kernel_rfl) (by kernel_rfl) (by kernel_rfl) (fun _ _ _ h => h) (Or.inl ⟨by rfl, ?ha8⟩) hHeld ?ra8
  case ha8 =>
    intro wS hSw
    have y3 : wS.cell? ⟨b, 3, none⟩ = some (.int .i64 x.session) := by rw [hSw]; exact hQ.at 3 _ rfl
    have y4 : wS.cell? ⟨b, 4, none⟩ = some (.int .i64 x.seq) := by rw [hSw]; exact hQ.at 4 _ rfl
    clear hSw
    (try dsimp only at hSw)
    go_simp
    try with_reducible rfl
  case ra8 =>
  simp only [Act.put, List.setIfInBounds_toArray, List.set_cons_zero, List.set_cons_succ]
  refine wpAnyH_ready (rs := [9]) (by kernel_rfl) (by simp) ?_
  refine AllReadyH.cons (o := { dst := some 18, op := Go.Op.call { callee := Go.Callee.value (Go.Operand.func 62), args := #[Go.Operand.tmp 9, Go.Operand.tmp 13, Go.Operand.tmp 17], argTypes := #[24, 2, 2] }, type := 2, pos := "l05_session.go:60", after := #[{ on := 0, ground := Go.Ground.data }, { on := 4, ground := Go.Ground.data }, { on := 8, ground := Go.Ground.data }], guard := none }) rfl (fun K hK => ?_) AllReadyH.nil
  go_simp
  go_at_call 62
  refine (unhide HS1).mono ?_
  rintro e w3 ⟨rfl, rfl⟩
  try go_wp2_with fail
  refine hK.out _ _ rfl (fun hHeld => ?_)
  clear hK K
  try simp only [Act.put, List.setIfInBounds_toArray, List.set_cons_zero, List.set_cons_succ]
  refine wpAnyH_take (i := 10) (oi := { dst := some 7, op := Go.Op.assign (Go.Operand.tmp 18), type := 2, pos := "l05_session.go:60", after := #[{ on := 9, ground := Go.Ground.data }, { on := 9, ground := Go.Ground.chain }, { on := 0, ground := Go.Ground.phase }, { on := 1, ground := Go.Ground.phase }, { on := 2, ground := Go.Ground.phase }, { on := 3, ground := Go.Ground.phase }, { on := 4, ground := Go.Ground.phase }, { on := 5, ground := Go.Ground.phase }, { on := 6, ground := Go.Ground.phase }, { on := 7, ground := Go.Ground.phase }, { on := 8, ground := Go.Ground.phase }, { on := 9, ground := Go.Ground.phase }], guard := none }) (v := ?va10) rfl (by kernel_rfl) (by kernel_rfl) (by kernel_rfl) (fun _ _ _ h => h) (Or.inl ⟨by rfl, ?ha10⟩) hHeld ?ra10
  case ha10 =>
    intro wS hSw
    (try dsimp only at hSw)
    go_simp
    try with_reducible rfl
  case ra10 =>
  simp only [Act.put, List.setIfInBounds_toArray, List.set_cons_zero, List.set_cons_succ]
  refine wpAnyH_done (by kernel_rfl) ?_ _
  refine NoPanic.normal ?_
  clear hHeld HS1
  have hQ1 : Box 0 #[.int .i64 x.kind, .int .i64 x.id, .slice a2 x.vec.length d2, .int .i64 x.session, .int .i64 x.seq] 27 w.drew b := hQ
  have HZ1 : Hid (w.heap.size ≤ w.drew.heap.size) := Nat.le_refl _
  clear hQ
  generalize w.drew = w1 at *
  by_cases hsn : seenI ws x.session x.seq = 0
  · have hg : decide ((0 : Int) < (seenI ws x.session x.seq : Int)) = false := by simp [hsn]
    have HS2 := hide (l5LastC _ ws x.session w1.drew ((unhide HR).later (Below.refl _ _).drew) (by omega))
    have HSN := hide hsn
    rw [hsn] at hg
    rw [hsn]
    clear hsn
    go_wp2_with fail
    refine wp_region_noPanic ?_
    refine wp_region_held_drew (S := fun w' => w' = w1.drew) (by kernel_rfl) rfl (fun hHeld => ?_)
    refine wpAnyH_take (i := 0) (oi := { dst := some 24, op := Go.Op.move (Go.Operand.tmp 1), type := 83, pos := "l05_session.go:63", after := #[], guard := none }) (v := ?vb0) rfl (by kernel_rfl) (by kernel_rfl) (by kernel_rfl) (fun _ _ _ h => h) (Or.inl ⟨by rfl, ?hb0⟩) hHeld ?rb0
    case hb0 =>
      intro wS hSw
      (try dsimp only at hSw)
      go_simp
      try with_reducible rfl
    case rb0 =>
    simp only [Act.put, List.setIfInBounds_toArray, List.set_cons_zero, List.set_cons_succ]
    refine wpAnyH_take (i := 1) (oi := { dst := some 25, op := Go.Op.nilCheck (Go.Operand.tmp 24), type := 0, pos := "l05_session.go:63", after := #[{ on := 0, ground := Go.Ground.data }], guard := none }) (v := ?vb1) rfl (by kernel_rfl) (by kernel_rfl) (by kernel_rfl) (fun _ _ _ h => h) (Or.inl ⟨by rfl, ?hb1⟩) hHeld ?rb1
    case hb1 =>
      intro wS hSw
      (try dsimp only at hSw)
      go_simp
      try with_reducible rfl
    case rb1 =>
    simp only [Act.put, List.setIfInBounds_toArray, List.set_cons_zero, List.set_cons_succ]
    refine wpAnyH_take (i := 2) (oi := { dst := some 26, op := Go.Op.fieldAddr 27 (Go.Operand.tmp 25) 4, type := 0, pos := "l05_session.go:63", after := #[{ on := 1, ground := Go.Ground.data }], guard := none }) (v := ?vb2) rfl (by kernel_rfl) (by kernel_rfl) (by kernel_rfl) (fun _ _ _ h => h) (Or.inl ⟨by rfl, ?hb2⟩) hHeld ?rb2
    case hb2 =>
      intro wS hSw
      (try dsimp only at hSw)
      go_simp
      try with_reducible rfl
    case rb2 =>
    simp only [Act.put, List.setIfInBounds_toArray, List.set_cons_zero, List.set_cons_succ]
    refine wpAnyH_take (i := 3) (oi := { dst := some 27, op := Go.Op.load 2 (Go.Operand.tmp 26), type := 2, pos := "l05_session.go:63", after := #[{ on := 2, ground := Go.Ground.data }], guard := none }) (v := ?vb3) rfl (by kernel_rfl) (by kernel_rfl) (by kernel_rfl) (fun _ _ _ h => h) (Or.inl ⟨by rfl, ?hb3⟩) hHeld ?rb3
    case hb3 =>
      intro wS hSw
      have y3 : wS.cell? ⟨b, 3, none⟩ = some (.int .i64 x.session) := by rw [hSw]; exact hQ1.at 3 _ rfl
      have y4 : wS.cell? ⟨b, 4, none⟩ = some (.int .i64 x.seq) := by rw [hSw]; exact hQ1.at 4 _ rfl
      clear hSw
      (try dsimp only at hSw)
      go_simp
      try with_reducible rfl
    case rb3 =>
    simp only [Act.put, List.setIfInBounds_toArray, List.set_cons_zero, List.set_cons_succ]
    refine wpAnyH_take (i := 4) (oi := { dst := some 28, op := Go.Op.move (Go.Operand.tmp 0), type := 24, pos := "l05_session.go:63", after := #[], guard := none }) (v := ?vb4) rfl (by kernel_rfl) (by kernel_rfl) (by kernel_rfl) (fun _ _ _ h => h) (Or.inl ⟨by rfl, ?hb4⟩) hHeld ?rb4
    case hb4 =>
      intro wS hSw
      (try dsimp only at hSw)
      go_simp
      try with_reducible rfl
    case rb4 =>
    simp only [Act.put, List.setIfInBounds_toArray, List.set_cons_zero, List.set_cons_succ]
    refine wpAnyH_take (i := 5) (oi := { dst := some 29, op := Go.Op.move (Go.Operand.tmp 1), type := 83, pos := "l05_session.go:63", after := #[], guard := none }) (v := ?vb5) rfl (by kernel_rfl) (by kernel_rfl) (by kernel_rfl) (fun _ _ _ h => h) (Or.inl ⟨by rfl, ?hb5⟩) hHeld ?rb5
    case hb5 =>
      intro wS hSw
      (try dsimp only at hSw)
      go_simp
      try with_reducible rfl
    case rb5 =>
    simp only [Act.put, List.setIfInBounds_toArray, List.set_cons_zero, List.set_cons_succ]
    refine wpAnyH_take (i := 6) (oi := { dst := some 30, op := Go.Op.nilCheck (Go.Operand.tmp 29), type := 0, pos := "l05_session.go:63", after := #[{ on := 5, ground := Go.Ground.data }], guard := none }) (v := ?vb6) rfl (by kernel_rfl) (by kernel_rfl) (by kernel_rfl) (fun _ _ _ h => h) (Or.inl ⟨by rfl, ?hb6⟩) hHeld ?rb6
    case hb6 =>
      intro wS hSw
      (try dsimp only at hSw)
      go_simp
      try with_reducible rfl
    case rb6 =>
    simp only [Act.put, List.setIfInBounds_toArray, List.set_cons_zero, List.set_cons_succ]
    refine wpAnyH_take (i := 7) (oi := { dst := some 31, op := Go.Op.fieldAddr 27 (Go.Operand.tmp 30) 3, type := 0, pos := "l05_session.go:63", after := #[{ on := 6, ground := Go.Ground.data }], guard := none }) (v := ?vb7) rfl (by kernel_rfl) (by kernel_rfl) (by kernel_rfl) (fun _ _ _ h => h) (Or.inl ⟨by rfl, ?hb7⟩) hHeld ?rb7
    case hb7 =>
      intro wS hSw
      (try dsimp only at hSw)
      go_simp
      try with_reducible rfl
    case rb7 =>
    simp only [Act.put, List.setIfInBounds_toArray, List.set_cons_zero, List.set_cons_succ]
    refine wpAnyH_take (i := 8) (oi := { dst := some 32, op := Go.Op.load 2 (Go.Operand.tmp 31), type := 2, pos := "l05_session.go:63", after := #[{ on := 7, ground := Go.Ground.data }], guard := none }) (v := ?vb8) rfl (by kernel_rfl) (by kernel_rfl) (by kernel_rfl) (fun _ _ _ h => h) (Or.inl ⟨by rfl, ?hb8⟩) hHeld ?rb8
    case hb8 =>
      intro wS hSw
      have y3 : wS.cell? ⟨b, 3, none⟩ = some (.int .i64 x.session) := by rw [hSw]; exact hQ1.at 3 _ rfl
      have y4 : wS.cell? ⟨b, 4, none⟩ = some (.int .i64 x.seq) := by rw [hSw]; exact hQ1.at 4 _ rfl
      clear hSw
      (try dsimp only at hSw)
      go_simp
      try with_reducible rfl
    case rb8 =>
    simp only [Act.put, List.setIfInBounds_toArray, List.set_cons_zero, List.set_cons_succ]
    refine wpAnyH_ready (rs := [9]) (by kernel_rfl) (by simp) ?_
    refine AllReadyH.cons (o := { dst := some 33, op := Go.Op.call { callee := Go.Callee.value (Go.Operand.func 64), args := #[Go.Operand.tmp 28, Go.Operand.tmp 32], argTypes := #[24, 2] }, type := 2, pos := "l05_session.go:63", after := #[{ on := 4, ground := Go.Ground.data }, { on := 8, ground := Go.Ground.data }], guard := none }) rfl (fun K hK => ?_) AllReadyH.nil
    go_simp
    go_at_call 64
    refine (unhide HS2).mono ?_
    rintro e w3 ⟨rfl, rfl⟩
    try go_wp2_with fail
    refine hK.out _ _ rfl (fun hHeld => ?_)
    clear hK K
    try simp only [Act.put, List.setIfInBounds_toArray, List.set_cons_zero, List.set_cons_succ]
    refine wpAnyH_take (i := 10) (oi := { dst := some 34, op := Go.Op.binOp Go.BinOp.lss 2 (Go.Operand.tmp 27) (Go.Operand.tmp 33) 2, type := 4, pos := "l05_session.go:63", after := #[{ on := 3, ground := Go.Ground.data }, { on := 9, ground := Go.Ground.data }], guard := none }) (v := ?vb10) rfl (by kernel_rfl) (by kernel_rfl) (by kernel_rfl) (fun _ _ _ h => h) (Or.inl ⟨by rfl, ?hb10⟩) hHeld ?rb10
    case hb10 =>
      intro wS hSw
      (try dsimp only at hSw)
      go_simp
      try with_reducible rfl
    case rb10 =>
    simp only [Act.put, List.setIfInBounds_toArray, List.set_cons_zero, List.set_cons_succ]
    refine wpAnyH_done (by kernel_rfl) ?_ _
    refine NoPanic.normal ?_
    clear hHeld HS2
    have hQ2 : Box 0 #[.int .i64 x.kind, .int .i64 x.id, .slice a2 x.vec.length d2, .int .i64 x.session, .int .i64 x.seq] 27 w1.drew b := hQ1
    have HB2 := hide (unhide HB1).drew
    have HR3 := hide ((unhide HR).later (Below.refl _ _).drew)
    have HR4 := hide ((unhide HR2).later (Below.refl _ _).drew)
    have HZ2 : Hid (w.heap.size ≤ w1.drew.heap.size) := unhide HZ1
    clear hQ1 HB1 HR HR2 HZ1
    generalize w1.drew = w2 at *
    by_cases c1 : x.seq < lastI ws x.session
    · have hd : decide (x.seq < lastI ws x.session) = true := by simpa using c1
      have HG : Hid (appR ws x = ⟨7, false, 0, []⟩) := appR_old (unhide HFW) (unhide HF) (unhide HSN) c1
      clear c1 HSN
      rw [hd]
      go_wp2_with fail
      refine bodyPost_ret (v := .tuple #[.slice none 0 0, .int .i64 0, .int .i64 7]) (by simp [results, Tryd.results39, go_sem]) rfl ?_
      rw [unhide HG]
      exact ⟨_, _, _, rfl, rfl, lies_none, unhide HB2⟩
    · have hd : decide (x.seq < lastI ws x.session) = false := by simpa using c1
      rw [hd]
      by_cases c2 : 200 ≤ ws.length
      · have hd2 : decide ((200 : Int) ≤ (ws.length : Int)) = true := by simp; omega
        have HG : Hid (appR ws x = ⟨2, false, 0, []⟩) := appR_full (unhide HFW) (unhide HF) (unhide HSN) c1 c2
        clear c1 c2 HSN
        go_wp2_with fail
        refine bodyPost_ret (v := .tuple #[.slice none 0 0, .int .i64 0, .int .i64 2]) (by simp [results, Tryd.results39, go_sem]) rfl ?_
        rw [unhide HG]
        exact ⟨_, _, _, rfl, rfl, lies_none, unhide HB2⟩
      · have hd2 : decide ((200 : Int) ≤ (ws.length : Int)) = false := by simp; omega
        have HG : Hid (appR ws x = ⟨0, true, (ws.length : Int) + 1, ws ++ [x]⟩) := appR_new (unhide HFW) (unhide HF) (unhide HSN) c1 c2
        clear c1 c2 HSN
        have HRW := HR3
        have y0 : w2.cell? ⟨b, 0, none⟩ = some (.int .i64 x.kind) := hQ2.at 0 _ rfl
        have y1 : w2.cell? ⟨b, 1, none⟩ = some (.int .i64 x.id) := hQ2.at 1 _ rfl
        have y2 : w2.cell? ⟨b, 2, none⟩ = some (.slice a2 x.vec.length d2) := hQ2.at 2 _ rfl
        have y3 : w2.cell? ⟨b, 3, none⟩ = some (.int .i64 x.session) := hQ2.at 3 _ rfl
        have y4 : w2.cell? ⟨b, 4, none⟩ = some (.int .i64 x.seq) := hQ2.at 4 _ rfl
        have hbw : b < w2.heap.size := hQ2.lt
        have nb : Below w2.heap.size w2 (w2.alloc (.cells #[.int .i64 x.kind, .int .i64 x.id, .slice a2 x.vec.length d2, .int .i64 x.session, .int .i64 x.seq] 27)) := (Below.refl _ _).alloc (Nat.le_refl _) _
        have HQB := hide (hQ2.keep nb)
        have HQ4 : Hid (Box 0 #[.int .i64 x.kind, .int .i64 x.id, .slice a2 x.vec.length d2, .int .i64 x.session, .int .i64 x.seq] 27 (w2.alloc (.cells #[.int .i64 x.kind, .int .i64 x.id, .slice a2 x.vec.length d2, .int .i64 x.session, .int .i64 x.seq] 27)) w2.heap.size) := newBox (Nat.zero_le _)
        have HI := hide (l1Ints _ x.vec _ (Lay.ints_reads ((unhide HR4).later nb)) (Nat.le_trans (vec_few5 (unhide HF)) (by decide)))
        have HWV := hide (Lay.ints_reads (unhide HR4)).wf
        have HRA := hide ((unhide HR3).later nb)
        have HBW := hide nb
        have HBA := hide ((unhide HB2).trans (nb.mono (unhide HB2).size))
        clear nb HR3 HR4 HB2 hQ2
        go_upto_region 9 with fail
        clear y0 y1 y2 y3 y4
        generalize hw4 : w2.alloc (.cells #[.int .i64 x.kind, .int .i64 x.id, .slice a2 x.vec.length d2, .int .i64 x.session, .int .i64 x.seq] 27) = WA at *
        clear hw4
        have y2 : WA.cell? ⟨b, 2, none⟩ = some (.slice a2 x.vec.length d2) := (unhide HQB).at 2 _ rfl
        go_wp2_with fail
        clear y2 HQB
        refine (unhide HI).mono ?_
        rintro e w3 ⟨v3, rfl, hO, hb3⟩
        have hO2 := Lay.ownInts (unhide HWV) (by have := vec_few5 (unhide HF); omega) hO
        obtain ⟨ao2, cp2, rfl⟩ := open_sl hO2.reads
        obtain ⟨bl2, ⟨hl2, -, -⟩, hr2⟩ := hO2
        have bI := (unhide HQ4).keep hb3
        have z2 : w3.cell? ⟨w2.heap.size, 2, none⟩ = some (.slice a2 x.vec.length d2) := bI.at 2 _ rfl
        have f2 := bI.soft 2
        have l2 := bI.lt
        have hqA : w2.heap.size < WA.heap.size := (unhide HQ4).lt
        have hE : Ext (fun c => c = w2.heap.size) w3 (w3.setCell ⟨w2.heap.size, 2, none⟩ (.slice ao2 x.vec.length cp2)) := (Ext.refl (fun c => c = w2.heap.size) w3).setCell ⟨w2.heap.size, 2, none⟩ _ rfl
        have HL5 : Hid (Lay.tWrite.lies (w3.setCell ⟨w2.heap.size, 2, none⟩ (.slice ao2 x.vec.length cp2)) [.int .i64 x.kind, .int .i64 x.id, .slice ao2 x.vec.length cp2, .int .i64 x.session, .int .i64 x.seq] x bl2) := lies_Write.2 ⟨ao2, cp2, bl2, rfl, rfl, (wF_wf4 (unhide HF)).1, (wF_wf4 (unhide HF)).2.1, (Lay.sl Lay.int).keep hl2 (fun c hc => hE.block c ((Lay.sl Lay.int).lt hl2 c hc) (by have := (hr2 c hc).1; omega)), (wF_wf4 (unhide HF)).2.2.1, (wF_wf4 (unhide HF)).2.2.2⟩
        have HLB : Hid (∀ c ∈ bl2, w.heap.size ≤ c) := fun c hc => by have := (hr2 c hc).1; have := unhide HZ2; omega
        have hQ5 : Box 0 #[.int .i64 x.kind, .int .i64 x.id, .slice ao2 x.vec.length cp2, .int .i64 x.session, .int .i64 x.seq] 27 (w3.setCell ⟨w2.heap.size, 2, none⟩ (.slice ao2 x.vec.length cp2)) w2.heap.size := bI.set 2 (.slice ao2 x.vec.length cp2)
        have hR5a := (unhide HRA).later hb3
        have HR5 : Hid ((Lay.sl Lay.tWrite).Reads (w3.setCell ⟨w2.heap.size, 2, none⟩ (.slice ao2 x.vec.length cp2)) [.slice ao ws.length cap] ws) := by
          obtain ⟨blR, lR⟩ := unhide HRW
          refine ⟨blR, (Lay.sl Lay.tWrite).keep lR fun c hc => ?_⟩
          have hcl := (Lay.sl Lay.tWrite).lt lR c hc
          exact (hE.block c (by have := (unhide HBW).size; have := hb3.size; omega) (by omega)).trans ((hb3.block c (by omega)).trans ((unhide HBW).block c hcl))
        have HB5 : Hid (Below w.heap.size w (w3.setCell ⟨w2.heap.size, 2, none⟩ (.slice ao2 x.vec.length cp2))) := ((unhide HBA).trans (hb3.mono (unhide HBA).size)).setCell (by simpa using unhide HZ2) _
        have HZ5 : Hid (w.heap.size ≤ (w3.setCell ⟨w2.heap.size, 2, none⟩ (.slice ao2 x.vec.length cp2)).heap.size) := (unhide HB5).size
        clear hO hb3 hl2 hr2 bI hE HI HQ4 HRA HBA hR5a
        go_upto_region 10 with fail
        clear z2 f2 l2
        generalize hw5 : w3.setCell ⟨w2.heap.size, 2, none⟩ (.slice ao2 x.vec.length cp2) = w5 at *
        clear hw5
        have hwr : IntKind.i64.wrap ((ws.length : Int) + 1) = (ws.length : Int) + 1 := by rw [IntKind.wrap_i64]; omega
        have HDZ : Hid (w5.heap.size ≤ w5.drew.heap.size) := Nat.le_refl _
        generalize w2 = w4 at *
        refine wp_region_noPanic ?_
        refine wp_region_held_drew (S := fun w' => Below w5.heap.size w5 w') (by kernel_rfl) (Below.refl _ _).drew (fun hHeld => ?_)
        generalize w5.drew = wD at hHeld HDZ ⊢
        refine wpAnyH_take (i := 0) (oi := { dst := some 47, op := Go.Op.move (Go.Operand.tmp 0), type := 24, pos := "l05_session.go:71", after := #[], guard := none }) (v := ?vc0_1) rfl (by kernel_rfl) (by kernel_rfl) (by kernel_rfl) (fun _ _ _ h => h) (Or.inl ⟨by rfl, ?hc0_1⟩) hHeld ?rc0_1
        case hc0_1 =>
          intro wS hSw
          (try dsimp only at hSw)
          go_simp
          try with_reducible rfl
        case rc0_1 =>
        simp only [Act.put, List.setIfInBounds_toArray, List.set_cons_zero, List.set_cons_succ]
        refine wpAnyH_take (i := 2) (oi := { dst := some 49, op := Go.Op.load 27 (Go.Operand.tmp 8), type := 27, pos := "l05_session.go:71", after := #[], guard := none }) (v := ?vc2_2) rfl (by kernel_rfl) (by kernel_rfl) (by kernel_rfl) (fun _ _ _ h => h) (Or.inl ⟨by rfl, ?hc2_2⟩) hHeld ?rc2_2
        case hc2_2 =>
          intro wS hSw
          have y0 : wS.cell? ⟨w4.heap.size, 0, none⟩ = some (.int .i64 x.kind) := (hQ5.keep hSw).at 0 _ rfl
          have y1 : wS.cell? ⟨w4.heap.size, 1, none⟩ = some (.int .i64 x.id) := (hQ5.keep hSw).at 1 _ rfl
          have y2 : wS.cell? ⟨w4.heap.size, 2, none⟩ = some (.slice ao2 x.vec.length cp2) := (hQ5.keep hSw).at 2 _ rfl
          have y3 : wS.cell? ⟨w4.heap.size, 3, none⟩ = some (.int .i64 x.session) := (hQ5.keep hSw).at 3 _ rfl
          have y4 : wS.cell? ⟨w4.heap.size, 4, none⟩ = some (.int .i64 x.seq) := (hQ5.keep hSw).at 4 _ rfl
          clear hSw
          (try dsimp only at hSw)
          go_simp
          try with_reducible rfl
        case rc2_2 =>
        simp only [Act.put, List.setIfInBounds_toArray, List.set_cons_zero, List.set_cons_succ]
        refine wpAnyH_take (i := 5) (oi := { dst := some 52, op := Go.Op.move (Go.Operand.tmp 0), type := 24, pos := "l05_session.go:71", after := #[], guard := none }) (v := ?vc5_3) rfl (by kernel_rfl) (by kernel_rfl) (by kernel_rfl) (fun _ _ _ h => h) (Or.inl ⟨by rfl, ?hc5_3⟩) hHeld ?rc5_3
        case hc5_3 =>
          intro wS hSw
          (try dsimp only at hSw)
          go_simp
          try with_reducible rfl
        case rc5_3 =>
        simp only [Act.put, List.setIfInBounds_toArray, List.set_cons_zero, List.set_cons_succ]
        refine wpAnyH_take (i := 6) (oi := { dst := some 53, op := Go.Op.call { callee := Go.Callee.builtin Go.Builtin.len, args := #[Go.Operand.tmp 52], argTypes := #[24] }, type := 3, pos := "l05_session.go:71", after := #[{ on := 5, ground := Go.Ground.data }], guard := none }) (v := ?vc6_4) rfl (by kernel_rfl) (by kernel_rfl) (by kernel_rfl) (fun _ _ _ h => h) (Or.inl ⟨by rfl, ?hc6_4⟩) hHeld ?rc6_4
        case hc6_4 =>
          intro wS hSw
          (try dsimp only at hSw)
          go_simp
          try with_reducible rfl
        case rc6_4 =>
        simp only [Act.put, List.setIfInBounds_toArray, List.set_cons_zero, List.set_cons_succ]
        refine wpAnyH_take (i := 7) (oi := { dst := some 54, op := Go.Op.binOp Go.BinOp.add 2 (Go.Operand.tmp 53) (Go.Operand.const (Go.Value.int Go.IntKind.i64 1)) 2, type := 2, pos := "l05_session.go:71", after := #[{ on := 6, ground := Go.Ground.data }, { on := 8, ground := Go.Ground.gcOnly Go.Departure.lateStores }], guard := none }) (v := ?vc7_5) rfl (by kernel_rfl) (by kernel_rfl) (by kernel_rfl) (fun _ _ _ h => h) (Or.inl ⟨by rfl, ?hc7_5⟩) hHeld ?rc7_5
        case hc7_5 =>
          intro wS hSw
          (try dsimp only at hSw)
          go_simp
          try with_reducible rfl
        case rc7_5 =>
        simp only [Act.put, List.setIfInBounds_toArray, List.set_cons_zero, List.set_cons_succ]
        refine wpAnyH_ready (rs := [1, 3]) (by kernel_rfl) (by simp) ?_
        refine AllReadyH.cons (o := { dst := some 48, op := Go.Op.call { callee := Go.Callee.value (Go.Operand.func 63), args := #[Go.Operand.tmp 47], argTypes := #[24] }, type := 24, pos := "l05_session.go:71", after := #[{ on := 0, ground := Go.Ground.data }], guard := none }) rfl (fun K hK => ?o1) (AllReadyH.cons (o := { dst := some 50, op := Go.Op.buildSlice 24 1 #[(0, Go.Operand.tmp 49)], type := 24, pos := "l05_session.go:71", after := #[{ on := 2, ground := Go.Ground.data }], guard := none }) rfl (fun K hK => ?o3) AllReadyH.nil)
        case o1 =>
          go_simp
          go_at_call 63
          refine (wcopyC _ ws _ ((unhide HR5).later hHeld) (by omega) (unhide HVF)).mono ?_
          rintro e w6 ⟨v6, rfl, ⟨rows6, bls6, hG6, hS6⟩, hb6⟩
          try go_wp2_with fail
          refine hK.out _ _ (hHeld.trans (hb6.mono hHeld.size)) (fun hHeld => ?_)
          clear hK K
          try simp only [Act.put, List.setIfInBounds_toArray, List.set_cons_zero, List.set_cons_succ]
          refine wpAnyH_ready (rs := [3]) (by kernel_rfl) (by simp) ?_
          refine AllReadyH.cons (o := { dst := some 50, op := Go.Op.buildSlice 24 1 #[(0, Go.Operand.tmp 49)], type := 24, pos := "l05_session.go:71", after := #[{ on := 2, ground := Go.Ground.data }], guard := none }) rfl (fun K hK => ?_) AllReadyH.nil
          have hH6 := hHeld
          go_simp
          refine hK.out _ _ (hHeld.alloc hHeld.size _) (fun hHeld => ?_)
          clear hK K
          try simp only [Act.put, List.setIfInBounds_toArray, List.set_cons_zero, List.set_cons_succ]
          refine wpAnyH_ready (rs := [4]) (by kernel_rfl) (by simp) ?_
          refine AllReadyH.cons (o := { dst := some 51, op := Go.Op.call { callee := Go.Callee.builtin Go.Builtin.append, args := #[Go.Operand.tmp 48, Go.Operand.tmp 50], argTypes := #[24, 24] }, type := 24, pos := "l05_session.go:71", after := #[{ on := 1, ground := Go.Ground.data }, { on := 3, ground := Go.Ground.data }, { on := 1, ground := Go.Ground.chain }], guard := none }) rfl (fun K hK => ?_) AllReadyH.nil
          refine step_append_Write hG6 (row := [.int .i64 x.kind, .int .i64 x.id, .slice ao2 x.vec.length cp2, .int .i64 x.session, .int .i64 x.seq]) (x := x) (bl := bl2) (Lay.tWrite.keep (unhide HL5) fun c hc => hH6.block c (Lay.tWrite.lt (unhide HL5) c hc)) (fun c hc e => by have h1 := (hG6.own.lt c e).1; have h2 := Lay.tWrite.lt (unhide HL5) c hc; have := unhide HDZ; omega) rfl _ _ rfl rfl rfl (by omega) (by have := hH6.size; have := hb6.size; omega) ?_
          rintro g9 cp9 w9 hG9 hb9 hE9 hg9 hz9 hor9
          refine hK.out _ _ (hH6.trans (hb9.mono (unhide HDZ))) (fun hHeld => ?_)
          clear hK K
          try simp only [Act.put, List.setIfInBounds_toArray, List.set_cons_zero, List.set_cons_succ]
          refine wpAnyH_take (i := 8) (oi := { dst := some 4, op := Go.Op.assign (Go.Operand.tmp 51), type := 24, pos := "l05_session.go:71", after := #[{ on := 4, ground := Go.Ground.data }, { on := 4, ground := Go.Ground.chain }, { on := 0, ground := Go.Ground.phase }, { on := 1, ground := Go.Ground.phase }, { on := 2, ground := Go.Ground.phase }, { on := 3, ground := Go.Ground.phase }, { on := 4, ground := Go.Ground.phase }, { on := 5, ground := Go.Ground.textOnly Go.Departure.lateStores }, { on := 6, ground := Go.Ground.textOnly Go.Departure.lateStoresUnsure }, { on := 7, ground := Go.Ground.textOnly Go.Departure.lateStores }], guard := none }) (v := ?vc8_6) rfl (by kernel_rfl) (by kernel_rfl) (by kernel_rfl) (fun _ _ _ h => h) (Or.inl ⟨by rfl, ?hc8_6⟩) hHeld ?rc8_6
          case hc8_6 =>
            intro wS hSw
            (try dsimp only at hSw)
            go_simp
            try with_reducible rfl
          case rc8_6 =>
          simp only [Act.put, List.setIfInBounds_toArray, List.set_cons_zero, List.set_cons_succ]
          refine wpAnyH_take (i := 9) (oi := { dst := some 5, op := Go.Op.assign (Go.Operand.tmp 54), type := 2, pos := "l05_session.go:71", after := #[{ on := 7, ground := Go.Ground.data }, { on := 8, ground := Go.Ground.chain }, { on := 0, ground := Go.Ground.phase }, { on := 1, ground := Go.Ground.phase }, { on := 2, ground := Go.Ground.phase }, { on := 3, ground := Go.Ground.phase }, { on := 4, ground := Go.Ground.phase }, { on := 5, ground := Go.Ground.phase }, { on := 6, ground := Go.Ground.phase }, { on := 7, ground := Go.Ground.phase }, { on := 8, ground := Go.Ground.phase }], guard := none }) (v := ?vc9_7) rfl (by kernel_rfl) (by kernel_rfl) (by kernel_rfl) (fun _ _ _ h => h) (Or.inl ⟨by rfl, ?hc9_7⟩) hHeld ?rc9_7
          case hc9_7 =>
            intro wS hSw
            (try dsimp only at hSw)
            go_simp
            try with_reducible rfl
          case rc9_7 =>
          simp only [Act.put, List.setIfInBounds_toArray, List.set_cons_zero, List.set_cons_succ]
          refine wpAnyH_take (i := 10) (oi := { dst := some 6, op := Go.Op.assign (Go.Operand.const (Go.Value.int Go.IntKind.i64 0)), type := 2, pos := "l05_session.go:71", after := #[{ on := 9, ground := Go.Ground.chain }, { on := 0, ground := Go.Ground.phase }, { on := 1, ground := Go.Ground.phase }, { on := 2, ground := Go.Ground.phase }, { on := 3, ground := Go.Ground.phase }, { on := 4, ground := Go.Ground.phase }, { on := 5, ground := Go.Ground.phase }, { on := 6, ground := Go.Ground.phase }, { on := 7, ground := Go.Ground.phase }, { on := 8, ground := Go.Ground.phase }, { on := 9, ground := Go.Ground.phase }], guard := none }) (v := ?vc10_8) rfl (by kernel_rfl) (by kernel_rfl) (by kernel_rfl) (fun _ _ _ h => h) (Or.inl ⟨by rfl, ?hc10_8⟩) hHeld ?rc10_8
          case hc10_8 =>
            intro wS hSw
            (try dsimp only at hSw)
            go_simp
            try with_reducible rfl
          case rc10_8 =>
          simp only [Act.put, List.setIfInBounds_toArray, List.set_cons_zero, List.set_cons_succ]
          refine wpAnyH_done (by kernel_rfl) ?_ _
          refine NoPanic.normal ?_
          have HX := hide hH6
          clear hH6
          have HF9 : Hid (∀ c ∈ (bls6 ++ [bl2]).flatten, w.heap.size ≤ c) := by
            intro c hc
            rw [List.flatten_append] at hc
            rcases List.mem_append.1 hc with hc | hc
            · have := hS6 c hc; have := unhide HDZ; have := unhide HZ5; omega
            · have := unhide HLB c (by simpa using hc); omega
          have HB9 := hide ((unhide HB5).trans (hHeld.mono (unhide HB5).size))
          have HG9 := hide (hG9.lower (b' := w.heap.size) (by have := unhide HDZ; have := unhide HZ5; omega))
          clear hG9 hb9 hE9 hg9 hz9 hor9 hHeld hG6 hS6 hb6 HX
          go_wp2_with fail
          refine bodyPost_ret (v := .tuple #[.slice (some ⟨g9, 0, none⟩) (ws.length + 1) cp9, .int .i64 ((ws.length : Int) + 1), .int .i64 0]) (by simp [results, Tryd.results39, go_sem]) rfl ?_
          rw [unhide HG]
          refine ⟨_, _, _, rfl, by simp, ?_, unhide HB9⟩
          have := (unhide HG9).toLies (by simp; omega) (unhide HF9)
          simpa using this
        case o3 =>
          have hH6 := hHeld
          go_simp
          refine hK.out _ _ (hHeld.alloc hHeld.size _) (fun hHeld => ?_)
          clear hK K
          try simp only [Act.put, List.setIfInBounds_toArray, List.set_cons_zero, List.set_cons_succ]
          refine wpAnyH_ready (rs := [1]) (by kernel_rfl) (by simp) ?_
          refine AllReadyH.cons (o := { dst := some 48, op := Go.Op.call { callee := Go.Callee.value (Go.Operand.func 63), args := #[Go.Operand.tmp 47], argTypes := #[24] }, type := 24, pos := "l05_session.go:71", after := #[{ on := 0, ground := Go.Ground.data }], guard := none }) rfl (fun K hK => ?_) AllReadyH.nil
          have hR6 : (wD.alloc (.cells #[.int .i64 x.kind, .int .i64 x.id, .slice ao2 x.vec.length cp2, .int .i64 x.session, .int .i64 x.seq] 27)).heap[wD.heap.size]? = some (.cells #[.int .i64 x.kind, .int .i64 x.id, .slice ao2 x.vec.length cp2, .int .i64 x.session, .int .i64 x.seq] 27 (0, 0)) := heap_alloc_new wD _
          go_simp
          go_at_call 63
          refine (wcopyC _ ws _ ((unhide HR5).later hHeld) (by omega) (unhide HVF)).mono ?_
          rintro e w6 ⟨v6, rfl, ⟨rows6, bls6, hG6, hS6⟩, hb6⟩
          try go_wp2_with fail
          have hR7 := (hb6.block _ (lt_of_block hR6)).trans hR6
          have hH7 := hHeld.trans (hb6.mono hHeld.size)
          refine hK.out _ _ (hHeld.trans (hb6.mono hHeld.size)) (fun hHeld => ?_)
          clear hK K
          try simp only [Act.put, List.setIfInBounds_toArray, List.set_cons_zero, List.set_cons_succ]
          refine wpAnyH_ready (rs := [4]) (by kernel_rfl) (by simp) ?_
          refine AllReadyH.cons (o := { dst := some 51, op := Go.Op.call { callee := Go.Callee.builtin Go.Builtin.append, args := #[Go.Operand.tmp 48, Go.Operand.tmp 50], argTypes := #[24, 24] }, type := 24, pos := "l05_session.go:71", after := #[{ on := 1, ground := Go.Ground.data }, { on := 3, ground := Go.Ground.data }, { on := 1, ground := Go.Ground.chain }], guard := none }) rfl (fun K hK => ?_) AllReadyH.nil
          refine step_append_WriteAt hG6 (bR := wD.heap.size) (row := [.int .i64 x.kind, .int .i64 x.id, .slice ao2 x.vec.length cp2, .int .i64 x.session, .int .i64 x.seq]) (x := x) (bl := bl2) hR7 (Lay.tWrite.keep (unhide HL5) fun c hc => hH7.block c (Lay.tWrite.lt (unhide HL5) c hc)) (fun c hc e => by have h1 := (hG6.own.lt c e).1; have h2 := Lay.tWrite.lt (unhide HL5) c hc; have h3 := hH6.size; have h4 : (wD.alloc (.cells #[.int .i64 x.kind, .int .i64 x.id, .slice ao2 x.vec.length cp2, .int .i64 x.session, .int .i64 x.seq] 27)).heap.size = wD.heap.size + 1 := (by simp); omega) rfl _ _ rfl rfl rfl (by omega) hb6.size ?_
          rintro g9 cp9 w9 hG9 hb9 hE9 hg9 hz9 hor9
          refine hK.out _ _ (hH7.trans (hb9.mono (by have h3 := hH6.size; have h4 : (wD.alloc (.cells #[.int .i64 x.kind, .int .i64 x.id, .slice ao2 x.vec.length cp2, .int .i64 x.session, .int .i64 x.seq] 27)).heap.size = wD.heap.size + 1 := (by simp); omega))) (fun hHeld => ?_)
          clear hK K
          try simp only [Act.put, List.setIfInBounds_toArray, List.set_cons_zero, List.set_cons_succ]
          refine wpAnyH_take (i := 8) (oi := { dst := some 4, op := Go.Op.assign (Go.Operand.tmp 51), type := 24, pos := "l05_session.go:71", after := #[{ on := 4, ground := Go.Ground.data }, { on := 4, ground := Go.Ground.chain }, { on := 0, ground := Go.Ground.phase }, { on := 1, ground := Go.Ground.phase }, { on := 2, ground := Go.Ground.phase }, { on := 3, ground := Go.Ground.phase }, { on := 4, ground := Go.Ground.phase }, { on := 5, ground := Go.Ground.textOnly Go.Departure.lateStores }, { on := 6, ground := Go.Ground.textOnly Go.Departure.lateStoresUnsure }, { on := 7, ground := Go.Ground.textOnly Go.Departure.lateStores }], guard := none }) (v := ?vc8_9) rfl (by kernel_rfl) (by kernel_rfl) (by kernel_rfl) (fun _ _ _ h => h) (Or.inl ⟨by rfl, ?hc8_9⟩) hHeld ?rc8_9
          case hc8_9 =>
            intro wS hSw
            (try dsimp only at hSw)
            go_simp
            try with_reducible rfl
          case rc8_9 =>
          simp only [Act.put, List.setIfInBounds_toArray, List.set_cons_zero, List.set_cons_succ]
          refine wpAnyH_take (i := 9) (oi := { dst := some 5, op := Go.Op.assign (Go.Operand.tmp 54), type := 2, pos := "l05_session.go:71", after := #[{ on := 7, ground := Go.Ground.data }, { on := 8, ground := Go.Ground.chain }, { on := 0, ground := Go.Ground.phase }, { on := 1, ground := Go.Ground.phase }, { on := 2, ground := Go.Ground.phase }, { on := 3, ground := Go.Ground.phase }, { on := 4, ground := Go.Ground.phase }, { on := 5, ground := Go.Ground.phase }, { on := 6, ground := Go.Ground.phase }, { on := 7, ground := Go.Ground.phase }, { on := 8, ground := Go.Ground.phase }], guard := none }) (v := ?vc9_10) rfl (by kernel_rfl) (by kernel_rfl) (by kernel_rfl) (fun _ _ _ h => h) (Or.inl ⟨by rfl, ?hc9_10⟩) hHeld ?rc9_10
          case hc9_10 =>
            intro wS hSw
            (try dsimp only at hSw)
            go_simp
            try with_reducible rfl
          case rc9_10 =>
          simp only [Act.put, List.setIfInBounds_toArray, List.set_cons_zero, List.set_cons_succ]
          refine wpAnyH_take (i := 10) (oi := { dst := some 6, op := Go.Op.assign (Go.Operand.const (Go.Value.int Go.IntKind.i64 0)), type := 2, pos := "l05_session.go:71", after := #[{ on := 9, ground := Go.Ground.chain }, { on := 0, ground := Go.Ground.phase }, { on := 1, ground := Go.Ground.phase }, { on := 2, ground := Go.Ground.phase }, { on := 3, ground := Go.Ground.phase }, { on := 4, ground := Go.Ground.phase }, { on := 5, ground := Go.Ground.phase }, { on := 6, ground := Go.Ground.phase }, { on := 7, ground := Go.Ground.phase }, { on := 8, ground := Go.Ground.phase }, { on := 9, ground := Go.Ground.phase }], guard := none }) (v := ?vc10_11) rfl (by kernel_rfl) (by kernel_rfl) (by kernel_rfl) (fun _ _ _ h => h) (Or.inl ⟨by rfl, ?hc10_11⟩) hHeld ?rc10_11
          case hc10_11 =>
            intro wS hSw
            (try dsimp only at hSw)
            go_simp
            try with_reducible rfl
          case rc10_11 =>
          simp only [Act.put, List.setIfInBounds_toArray, List.set_cons_zero, List.set_cons_succ]
          refine wpAnyH_done (by kernel_rfl) ?_ _
          refine NoPanic.normal ?_
          have HX := hide hH6
          have h4 : (wD.alloc (.cells #[.int .i64 x.kind, .int .i64 x.id, .slice ao2 x.vec.length cp2, .int .i64 x.session, .int .i64 x.seq] 27)).heap.size = wD.heap.size + 1 := (by simp)
          have h3 := hH6.size
          clear hH6 hR6 hR7 hH7
          have HF9 : Hid (∀ c ∈ (bls6 ++ [bl2]).flatten, w.heap.size ≤ c) := by
            intro c hc
            rw [List.flatten_append] at hc
            rcases List.mem_append.1 hc with hc | hc
            · have := hS6 c hc; have := unhide HZ5; omega
            · have := unhide HLB c (by simpa using hc); omega
          have HB9 := hide ((unhide HB5).trans (hHeld.mono (unhide HB5).size))
          have HG9 := hide (hG9.lower (b' := w.heap.size) (by have := unhide HZ5; omega))
          clear hG9 hb9 hE9 hg9 hz9 hor9 hHeld hG6 hS6 hb6 HX
          go_wp2_with fail
          refine bodyPost_ret (v := .tuple #[.slice (some ⟨g9, 0, none⟩) (ws.length + 1) cp9, .int .i64 ((ws.length : Int) + 1), .int .i64 0]) (by simp [results, Tryd.results39, go_sem]) rfl ?_
          rw [unhide HG]
          refine ⟨_, _, _, rfl, by simp, ?_, unhide HB9⟩
          have := (unhide HG9).toLies (by simp; omega) (unhide HF9)
          simpa using this
  · have HG : Hid (appR ws x = ⟨0, false, seenI ws x.session x.seq, ws⟩) := appR_seen (unhide HFW) (unhide HF) hsn
    have HC := hide (wcopyC _ ws w1 (unhide HR) (by omega) (unhide HVF))
    generalize seenI ws x.session x.seq = k9 at *
    obtain ⟨m9, rfl⟩ : ∃ m, k9 = m + 1 := ⟨k9 - 1, by omega⟩
    have hg : decide ((0 : Int) < (m9 : Int) + 1) = true := decide_eq_true (by omega)
    clear hsn hQ1
    go_wp2_with fail
    refine (unhide HC).mono ?_
    rintro e w4 ⟨v4, rfl, ⟨rows4, bls4, hG4, hS4⟩, hb4⟩
    have hLI := hG4.toLies (by omega) hS4
    obtain ⟨ao9, cp9, rfl⟩ := open_sl hLI.reads
    have HL9 := hide (hLI.mono (lo' := w.heap.size) (unhide HZ1) (Nat.le_refl _))
    have HB9 := hide ((unhide HB1).trans (hb4.mono (unhide HB1).size))
    clear hG4 hS4 hb4 hLI HC
    go_wp2_with fail
    refine bodyPost_ret (v := .tuple #[.slice ao9 ws.length cp9, .int .i64 ((m9 : Int) + 1), .int .i64 0]) (by simp [results, Tryd.results39, go_sem]) rfl ?_
    rw [unhide HG]
    exact ⟨_, _, _, by simp, rfl, unhide HL9, unhide HB9⟩

end Go.Proofs.YtkodenmpadehjaaDoor

namespace Go.Proofs.YtkodenmpadehjaaDoor
open Go.RowKit

theorem lies_once {w : World} {c : Int} {b : Bool} {n : Int} {v : Value} {xs : List DWrite} {lo hi : Nat} (hc : (Lit.int .i64 c).wf = true) (hn : (Lit.int .i64 n).wf = true) (h : (Lay.sl Lay.tWrite).LiesIn w [v] xs lo hi) : Lay.tOnceResult.LiesIn w [.int .i64 c, .bool b, .int .i64 n, v] ⟨c, b, n, xs⟩ lo hi := by
  obtain ⟨bl, l, i⟩ := h
  have l2 := l
  obtain ⟨a3, d3, e, -⟩ := l2
  simp only [List.cons.injEq, and_true] at e
  subst e
  exact ⟨bl, lies_OnceResult.2 ⟨a3, d3, bl, rfl, rfl, hc, hn, l⟩, i⟩
theorem below4s {B b : Nat} {w w' : World} (h : Below B w w') (hb : B ≤ b) (v0 v1 v2 v3 : Value) : Below B w ((((w'.setCell ⟨b, 0, none⟩ v0).setCell ⟨b, 1, none⟩ v1).setCell ⟨b, 2, none⟩ v2).setCell ⟨b, 3, none⟩ v3) := (((h.setCell (by simpa using hb) _).setCell (by simpa using hb) _).setCell (by simpa using hb) _).setCell (by simpa using hb) _
theorem appR_isNew {ws : List DWrite} {x : DWrite} (h : writesF ws = 0) (hf : wF x = 0) : decide ((ws.length : Int) < ((appR ws x).writes.length : Int)) = (appR ws x).isNew := by
  by_cases hs : seenI ws x.session x.seq = 0
  · by_cases c : x.seq < lastI ws x.session
    · rw [appR_old h hf hs c]; exact decide_eq_false (by simp)
    · by_cases c2 : 200 ≤ ws.length
      · rw [appR_full h hf hs c c2]; exact decide_eq_false (by simp)
      · rw [appR_new h hf hs c c2]; exact decide_eq_true (by simp; omega)
  · rw [appR_seen h hf hs]; exact decide_eq_false (by simp)
theorem appR_wf {ws : List DWrite} {x : DWrite} (h : writesF ws = 0) (hf : wF x = 0) : (Lit.int .i64 (appR ws x).code).wf = true ∧ (Lit.int .i64 (appR ws x).place).wf = true := by
  have hl := (writesF_zero h).1
  by_cases hs : seenI ws x.session x.seq = 0
  · by_cases c : x.seq < lastI ws x.session
    · rw [appR_old h hf hs c]; exact ⟨by decide, by decide⟩
    · by_cases c2 : 200 ≤ ws.length
      · rw [appR_full h hf hs c c2]; exact ⟨by decide, by decide⟩
      · rw [appR_new h hf hs c c2]; exact ⟨show (Lit.int .i64 0).wf = true by decide, wf_of_bd (by simp only; omega)⟩
  · rw [appR_seen h hf hs]
    have := seenI_le ws x.session x.seq
    exact ⟨show (Lit.int .i64 0).wf = true by decide, wf_of_bd (by simp only; omega)⟩

set_option maxRecDepth 100000 in
set_option maxHeartbeats 2000000 in
theorem specApp (v : Value) (ws : List DWrite) (u : List Value) (x : DWrite) (w : World) (h : (Lay.sl Lay.tWrite).Reads w [v] ws) (hx : Lay.tWrite.Reads w u x) :
    Calls Tryd.prog 8 #[v, .agg u.toArray] w fun e w' => ∃ cs, e = .returned (.agg cs.toArray) ∧ Lay.tOnceResult.LiesIn w' cs (appR ws x) w.heap.size w'.heap.size ∧ Below w.heap.size w w' := by
  obtain ⟨a2, d2, rfl, R2⟩ := open_Write hx
  have n1 : Below w.heap.size w (w.alloc (.cells #[.int .i64 x.kind, .int .i64 x.id, .slice a2 x.vec.length d2, .int .i64 x.session, .int .i64 x.seq] 27)) := (Below.refl _ _).alloc (Nat.le_refl _) _
  have nb := n1.alloc n1.size (.cells #[.int .i64 0, .bool false, .int .i64 0, .slice none 0 0] 31)
  have hQ1 : Box 0 #[.int .i64 x.kind, .int .i64 x.id, .slice a2 x.vec.length d2, .int .i64 x.session, .int .i64 x.seq] 27 (w.alloc (.cells #[.int .i64 x.kind, .int .i64 x.id, .slice a2 x.vec.length d2, .int .i64 x.session, .int .i64 x.seq] 27)) w.heap.size := newBox (Nat.zero_le _)
  have HQ := hide (hQ1.keep ((Below.refl _ _).alloc (Nat.le_refl _) (.cells #[.int .i64 0, .bool false, .int .i64 0, .slice none 0 0] 31)))
  have hsz1 : (w.alloc (.cells #[.int .i64 x.kind, .int .i64 x.id, .slice a2 x.vec.length d2, .int .i64 x.session, .int .i64 x.seq] 27)).heap.size = w.heap.size + 1 := by simp
  have HBR : Hid (Box w.heap.size #[.int .i64 0, .bool false, .int .i64 0, .slice none 0 0] 31 ((w.alloc (.cells #[.int .i64 x.kind, .int .i64 x.id, .slice a2 x.vec.length d2, .int .i64 x.session, .int .i64 x.seq] 27)).alloc (.cells #[.int .i64 0, .bool false, .int .i64 0, .slice none 0 0] 31)) (w.heap.size + 1)) := by
    have := newBox (lo := w.heap.size) (cs := #[.int .i64 0, .bool false, .int .i64 0, .slice none 0 0]) (T := 31) (W := w.alloc (.cells #[.int .i64 x.kind, .int .i64 x.id, .slice a2 x.vec.length d2, .int .i64 x.session, .int .i64 x.seq] 27)) n1.size
    rwa [hsz1] at this
  have HR := hide (h.later nb)
  have HR2 := hide (R2.later nb)
  have HB0 := hide nb
  have HSZ : Hid (((w.alloc (.cells #[.int .i64 x.kind, .int .i64 x.id, .slice a2 x.vec.length d2, .int .i64 x.session, .int .i64 x.seq] 27)).alloc (.cells #[.int .i64 0, .bool false, .int .i64 0, .slice none 0 0] 31)).heap.size = w.heap.size + 2) := by
    show ((w.alloc (.cells #[.int .i64 x.kind, .int .i64 x.id, .slice a2 x.vec.length d2, .int .i64 x.session, .int .i64 x.seq] 27)).alloc (.cells #[.int .i64 0, .bool false, .int .i64 0, .slice none 0 0] 31)).heap.size = w.heap.size + 2
    simp
  obtain ⟨ao, cap, rfl⟩ := open_sl h
  clear n1 nb hQ1 hsz1 h hx R2
  go_enter Tryd.func8, Tryd.ntmps8
  go_wp2_with fail
  generalize (w.alloc (.cells #[.int .i64 x.kind, .int .i64 x.id, .slice a2 x.vec.length d2, .int .i64 x.session, .int .i64 x.seq] 27)).alloc (.cells #[.int .i64 0, .bool false, .int .i64 0, .slice none 0 0] 31) = w2 at *
  refine (specWrites _ ws w2 (unhide HR)).mono ?_
  rintro e w3 ⟨rfl, hw3⟩
  rw [hw3]
  clear hw3 w3
  have bR := unhide HBR
  by_cases hfw : writesF ws = 0
  · rw [hfw]
    have HFW := hide hfw
    clear hfw
    have HL := hide (l3FaultO w.heap.size 0 x.kind x.id _ x.session x.seq x.vec w2 ⟨(unhide HQ).at 0 _ rfl, (unhide HQ).at 1 _ rfl, (unhide HQ).at 2 _ rfl, (unhide HQ).at 3 _ rfl, (unhide HQ).at 4 _ rfl⟩ (Lay.ints_reads (unhide HR2)))
    rw [show writeFault x.kind x.id x.vec x.session x.seq = wF x from rfl] at HL
    clear bR
    go_wp2_with fail
    refine (unhide HL).mono ?_
    rintro e w3 ⟨rfl, hw3⟩
    rw [hw3]
    clear hw3 w3 HL
    have bR := unhide HBR
    by_cases hf : wF x = 0
    · rw [hf]
      have HF := hide hf
      have HA := hide (l5AppendC _ ws w.heap.size a2 d2 x w2 (unhide HR) (unhide HQ) (unhide HR2) (unhide HFW) hf)
      clear hf bR
      go_wp2_with fail
      refine (unhide HA).mono ?_
      rintro e w4 ⟨a4, n4, c4, rfl, rfl, hLI, hb4⟩
      have bR := (unhide HBR).keep hb4
      have z0 : w4.cell? ⟨w.heap.size + 1, 0, none⟩ = some (.int .i64 0) := bR.at 0 _ rfl
      have z1 : w4.cell? ⟨w.heap.size + 1, 1, none⟩ = some (.bool false) := bR.at 1 _ rfl
      have z2 : w4.cell? ⟨w.heap.size + 1, 2, none⟩ = some (.int .i64 0) := bR.at 2 _ rfl
      have z3 : w4.cell? ⟨w.heap.size + 1, 3, none⟩ = some (.slice none 0 0) := bR.at 3 _ rfl
      have f0 := bR.soft 0
      have f1 := bR.soft 1
      have f2 := bR.soft 2
      have f3 := bR.soft 3
      have l0 := bR.lt
      have hwf := appR_wf (unhide HFW) (unhide HF)
      have hnew := appR_isNew (unhide HFW) (unhide HF)
      have hE : Ext (fun c => c = w.heap.size + 1) w4 ((((w4.setCell ⟨w.heap.size + 1, 0, none⟩ (.int .i64 (appR ws x).code)).setCell ⟨w.heap.size + 1, 1, none⟩ (.bool (appR ws x).isNew)).setCell ⟨w.heap.size + 1, 2, none⟩ (.int .i64 (appR ws x).place)).setCell ⟨w.heap.size + 1, 3, none⟩ (.slice a4 (appR ws x).writes.length c4)) := ((((Ext.refl (fun c => c = w.heap.size + 1) _).setCell ⟨w.heap.size + 1, 0, none⟩ _ rfl).setCell ⟨w.heap.size + 1, 1, none⟩ _ rfl).setCell ⟨w.heap.size + 1, 2, none⟩ _ rfl).setCell ⟨w.heap.size + 1, 3, none⟩ _ rfl
      have HLZ : Hid ((Lay.sl Lay.tWrite).LiesIn ((((w4.setCell ⟨w.heap.size + 1, 0, none⟩ (.int .i64 (appR ws x).code)).setCell ⟨w.heap.size + 1, 1, none⟩ (.bool (appR ws x).isNew)).setCell ⟨w.heap.size + 1, 2, none⟩ (.int .i64 (appR ws x).place)).setCell ⟨w.heap.size + 1, 3, none⟩ (.slice a4 (appR ws x).writes.length c4)) [.slice a4 (appR ws x).writes.length c4] (appR ws x).writes w.heap.size ((((w4.setCell ⟨w.heap.size + 1, 0, none⟩ (.int .i64 (appR ws x).code)).setCell ⟨w.heap.size + 1, 1, none⟩ (.bool (appR ws x).isNew)).setCell ⟨w.heap.size + 1, 2, none⟩ (.int .i64 (appR ws x).place)).setCell ⟨w.heap.size + 1, 3, none⟩ (.slice a4 (appR ws x).writes.length c4)).heap.size) := by
        obtain ⟨bl, l, i⟩ := hLI
        refine ⟨bl, (Lay.sl Lay.tWrite).keep l fun c hc => hE.block c ((Lay.sl Lay.tWrite).lt l c hc) ?_, fun c hc => ⟨?_, ?_⟩⟩
        · have := (i c hc).1; have := unhide HSZ; omega
        · have := (i c hc).1; have := unhide HSZ; omega
        · have := (i c hc).2; simpa using this
      have HBZ := hide (below4s ((unhide HB0).trans (hb4.mono (unhide HB0).size)) (Nat.le_add_right _ 1) (.int .i64 (appR ws x).code) (.bool (appR ws x).isNew) (.int .i64 (appR ws x).place) (.slice a4 (appR ws x).writes.length c4))
      have HWF := hide hwf
      clear hb4 hLI hE bR hwf HBR HQ HR HR2 HA HB0 HF HFW
      generalize hy : appR ws x = y at *
      have HY := hide hy
      clear hy
      have hnewN : decide (ws.length < y.writes.length) = y.isNew := by rw [← hnew]; simp
      go_wp2_with fail
      try simp only [hnew]
      try simp only [hnewN]
      refine bodyPost_ret (v := .agg #[.int .i64 y.code, .bool y.isNew, .int .i64 y.place, .slice a4 y.writes.length c4]) (by simp [results, Tryd.results8, go_sem, z0, z1, z2, z3]) rfl ?_
      rw [unhide HY]
      exact ⟨_, rfl, lies_once (unhide HWF).1 (unhide HWF).2 (unhide HLZ), unhide HBZ⟩
    · have hd : (wF x != 0) = true := by simpa using hf
      have HG : Hid (appR ws x = ⟨wF x, false, 0, []⟩) := appR_bad (unhide HFW) hf
      have HWF := hide (wF_wf x)
      have z0 : w2.cell? ⟨w.heap.size + 1, 0, none⟩ = some (.int .i64 0) := bR.at 0 _ rfl
      have z1 : w2.cell? ⟨w.heap.size + 1, 1, none⟩ = some (.bool false) := bR.at 1 _ rfl
      have z2 : w2.cell? ⟨w.heap.size + 1, 2, none⟩ = some (.int .i64 0) := bR.at 2 _ rfl
      have z3 : w2.cell? ⟨w.heap.size + 1, 3, none⟩ = some (.slice none 0 0) := bR.at 3 _ rfl
      have f0 := bR.soft 0
      have f1 := bR.soft 1
      have f2 := bR.soft 2
      have f3 := bR.soft 3
      have l0 := bR.lt
      clear hf bR HBR HQ HR HR2
      go_wp2_with fail
      refine bodyPost_ret (v := .agg #[.int .i64 (wF x), .bool false, .int .i64 0, .slice none 0 0]) (by simp [results, Tryd.results8, go_sem, z0, z1, z2, z3]) rfl ?_
      rw [unhide HG]
      exact ⟨_, rfl, lies_once (unhide HWF) (by decide) lies_none, below4s (unhide HB0) (Nat.le_add_right _ 1) _ _ _ _⟩
  · have HG : Hid (appR ws x = ⟨writesF ws, false, 0, []⟩) := appR_wrong hfw
    have HWF := hide (wsF_wf ws)
    have hd : (writesF ws != 0) = true := by simpa using hfw
    have z0 : w2.cell? ⟨w.heap.size + 1, 0, none⟩ = some (.int .i64 0) := bR.at 0 _ rfl
    have z1 : w2.cell? ⟨w.heap.size + 1, 1, none⟩ = some (.bool false) := bR.at 1 _ rfl
    have z2 : w2.cell? ⟨w.heap.size + 1, 2, none⟩ = some (.int .i64 0) := bR.at 2 _ rfl
    have z3 : w2.cell? ⟨w.heap.size + 1, 3, none⟩ = some (.slice none 0 0) := bR.at 3 _ rfl
    have f0 := bR.soft 0
    have f1 := bR.soft 1
    have f2 := bR.soft 2
    have f3 := bR.soft 3
    have l0 := bR.lt
    clear hfw bR HBR HQ HR HR2
    go_wp2_with fail
    refine bodyPost_ret (v := .agg #[.int .i64 (writesF ws), .bool false, .int .i64 0, .slice none 0 0]) (by simp [results, Tryd.results8, go_sem, z0, z1, z2, z3]) rfl ?_
    rw [unhide HG]
    exact ⟨_, rfl, lies_once (unhide HWF) (by decide) lies_none, below4s (unhide HB0) (Nat.le_add_right _ 1) _ _ _ _⟩

end Go.Proofs.YtkodenmpadehjaaDoor

namespace Go.Proofs.YtkodenmpadehjaaDoor
open Go.RowKit

set_option maxRecDepth 10000 in
set_option maxHeartbeats 1000000 in
theorem implLast (v : Value) (ws : List DWrite) (s : Int) (w : World) (h : (Lay.sl Lay.tWrite).Reads w [v] ws) :
    Calls Tryd.prog 10 #[v, .int .i64 s ] w fun e w' => ∃ cs, e = .returned (.agg cs.toArray) ∧ Lay.tIntResult.OwnIn w' cs (lastR ws s) w.heap.size w'.heap.size ∧ Below w.heap.size w w' := by
  have nb : Below w.heap.size w (w.alloc (.cells #[.int .i64 0, .int .i64 0] 34)) := (Below.refl _ _).alloc (Nat.le_refl _) _
  have bR0 : Box w.heap.size #[.int .i64 0, .int .i64 0] 34 (w.alloc (.cells #[.int .i64 0, .int .i64 0] 34)) w.heap.size := newBox (Nat.le_refl _)
  have HR := hide (h.later nb)
  have HB0 := hide nb
  have HBR := hide bR0
  obtain ⟨ao, cap, rfl⟩ := open_sl h
  clear nb bR0 h
  have HL := hide (storyC _ ws _ (unhide HR))
  go_enter Tryd.func10, Tryd.ntmps10
  go_wp2_with fail
  refine (unhide HL).mono ?_
  rintro e w2 ⟨r, rfl, g0, g1, hb⟩
  have bR := (unhide HBR).keep hb
  have HB2 := hide ((unhide HB0).trans (hb.mono (unhide HB0).size))
  have hsz : (w.alloc (.cells #[.int .i64 0, .int .i64 0] 34)).heap.size = w.heap.size + 1 := by simp
  rw [hsz] at g0
  clear hb HL HB0 HBR HR hsz
  by_cases hf : writesF ws = 0
  · obtain ⟨rfl, v2, rows, bls, hT⟩ := g0 hf
    clear g0 g1
    have HF := hide hf
    rw [hf]
    clear hf
    have HS := hide (isSessionC s w2)
    by_cases hs : 1 ≤ s ∧ s ≤ 9
    · rw [dec9 hs] at HS
      have HG : Hid (lastR ws s = ⟨0, lastI ws s⟩) := by show lastR ws s = _; rw [lastR, if_pos (asked_ok (unhide HF) hs)]
      have hsi : (s.toNat : Int) = s := by omega
      have zl : w2.cell? ⟨w.heap.size + 1 + 1, 2 + s.toNat, none⟩ = some (.int .i64 (lastI ws s)) := by
        have := hT.box.at _ _ (tcells_at v2 _ (lastI ws) s.toNat (by omega))
        rwa [hsi] at this
      have i1 : (0 : Int) ≤ s := by omega
      have i2 : s < 10 := by omega
      have HBD := hide (last_bd s (unhide HF))
      clear hs hT hsi
      go_wp2_with fail
      refine (unhide HS).mono ?_
      rintro e w3 ⟨rfl, hw3⟩
      rw [hw3]
      clear hw3 w3
      clear HS
      have z0 : w2.cell? ⟨w.heap.size, 0, none⟩ = some (.int .i64 0) := bR.at 0 _ rfl
      have z1 : w2.cell? ⟨w.heap.size, 1, none⟩ = some (.int .i64 0) := bR.at 1 _ rfl
      have f0 := bR.soft 0
      have f1 := bR.soft 1
      have l0 := bR.lt
      clear bR
      go_wp2_with fail
      refine bodyPost_ret (v := .agg #[.int .i64 (0), .int .i64 (lastI ws s)]) (by simp [results, Tryd.results10, go_sem, z0, z1]) rfl ?_
      rw [unhide HG]
      exact ⟨_, rfl, own_IntR (by decide) (wf_of_bd (by have := unhide HBD; omega)), ((unhide HB2).setCell (by simp) _).setCell (by simp) _⟩
    · rw [dec9n hs] at HS
      have HG : Hid (lastR ws s = ⟨3, 0⟩) := by show lastR ws s = _; rw [lastR, asked_out (unhide HF) hs, if_neg (by decide)]
      clear hs hT HF
      go_wp2_with fail
      refine (unhide HS).mono ?_
      rintro e w3 ⟨rfl, hw3⟩
      rw [hw3]
      clear hw3 w3
      clear HS
      have z0 : w2.cell? ⟨w.heap.size, 0, none⟩ = some (.int .i64 0) := bR.at 0 _ rfl
      have z1 : w2.cell? ⟨w.heap.size, 1, none⟩ = some (.int .i64 0) := bR.at 1 _ rfl
      have f0 := bR.soft 0
      have f1 := bR.soft 1
      have l0 := bR.lt
      clear bR
      go_wp2_with fail
      refine bodyPost_ret (v := .agg #[.int .i64 (3), .int .i64 (0)]) (by simp [results, Tryd.results10, go_sem, z0, z1]) rfl ?_
      rw [unhide HG]
      exact ⟨_, rfl, own_IntR (by decide) (by decide), ((unhide HB2).setCell (by simp) _).setCell (by simp) _⟩
  · obtain rfl := g1 hf
    clear g0 g1
    have HG : Hid (lastR ws s = ⟨writesF ws, 0⟩) := by show lastR ws s = _; rw [lastR, asked_bad s hf, if_neg hf]
    have HWF := hide (wsF_wf ws)
    have hd : (writesF ws != 0) = true := by simpa using hf
    clear hf
    have z0 : w2.cell? ⟨w.heap.size, 0, none⟩ = some (.int .i64 0) := bR.at 0 _ rfl
    have z1 : w2.cell? ⟨w.heap.size, 1, none⟩ = some (.int .i64 0) := bR.at 1 _ rfl
    have f0 := bR.soft 0
    have f1 := bR.soft 1
    have l0 := bR.lt
    clear bR
    go_wp2_with fail
    refine bodyPost_ret (v := .agg #[.int .i64 (writesF ws), .int .i64 (0)]) (by simp [results, Tryd.results10, go_sem, z0, z1]) rfl ?_
    rw [unhide HG]
    exact ⟨_, rfl, own_IntR (unhide HWF) (by decide), ((unhide HB2).setCell (by simp) _).setCell (by simp) _⟩

end Go.Proofs.YtkodenmpadehjaaDoor
