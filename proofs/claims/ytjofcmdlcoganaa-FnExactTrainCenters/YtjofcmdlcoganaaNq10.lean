/-
  Texts of this proof in one: AppCenter, SpecMove, SpecCost, SpecTrain, SzCenter, SzCenterS, ToCenter.
  Their conditions stand in their theorems.
-/
import Derived.Test.YtjofcmdlcoganaaChecked
import Derived.Test.YtjofcmdlcoganaaNq01
import Derived.Test.YtjofcmdlcoganaaNq03
import Derived.Test.YtjofcmdlcoganaaNq05
import Derived.Test.YtjofcmdlcoganaaNq09
import Derived.Test.YtjofcmdlcoganaaNq08
import Derived.Test.YtjofcmdlcoganaaNq02

namespace Go.Proofs.Ytjofcmdlcoganaa
open Go.RowKit

theorem infoAppCenter : (Try.prog.info? 77).map (fun i => (i.zero, i.size, i.bytes)) = some (some (.agg #[.slice none 0 0]), 1, 24) := by kernel_rfl
theorem one_Center {w : World} {row : List Value} {x : DCenter} {bl : List Nat} (h : Lay.tCenter.lies w row x bl) : (∀ u ∈ row, u.oneCell' = true) ∧ row.length = 1 * 1 := by
  obtain ⟨_, _, _, rfl, -⟩ := lies_Center.1 h
  simp [Value.oneCell']

/-- At an operation of a plain region: the new one lies in a block of its own. -/
theorem wpList_append_Center {w1 : World} {base : Nat} {v : Value} {rows : List (List Value)} {xs : List DCenter} {bls : List (List Nat)} (hG : Grow Lay.tCenter w1 base 77 v rows xs bls) {row : List Value} {x : DCenter} {bl : List Nat} (hl : Lay.tCenter.lies w1 row x bl) (hbl : ∀ b ∈ bl, v.ownBlock ≠ some b) {ops : Array Oper} {rest : List Oper} {o : Oper} {a : Act} {Q : Exit → Act → World → Prop} (hgd : o.guard = none) (s y : Operand)
    (ho : o.op = .call { callee := .builtin .append, args := #[s, y], argTypes := #[28, 28] }) (hs : a.eval s = v) (hy : a.eval y = .slice (some ⟨w1.heap.size, 0, none⟩) 1 1) (hn : xs.length + 1 ≤ 100000000) (hbase : base ≤ w1.heap.size)
    (h : ∀ g cap w', Grow Lay.tCenter w' base 77 (.slice (some ⟨g, 0, none⟩) (xs.length + 1) cap) (rows ++ [row]) (xs ++ [x]) (bls ++ [bl]) → Below base w1 w' → Ext (fun q => v.ownBlock = some q) w1 w' → g < w'.heap.size → w1.heap.size ≤ w'.heap.size → (v.ownBlock = some g ∨ w1.heap.size ≤ g) → wpList Try.prog ops Q rest (a.put o.dst (.slice (some ⟨g, 0, none⟩) (xs.length + 1) cap)) w') :
    wpList Try.prog ops Q (o :: rest) a (w1.alloc (.cells row.toArray 77)) := by
  obtain ⟨i0, hi0, hz0, hz1, hz2⟩ := info_parts infoAppCenter
  obtain ⟨h1, hlen⟩ := one_Center hl
  refine wpList_append_lies _ hgd s y 28 ho base 77 i0 _ 1 24 Try.underlying28 hi0 hz0 hz1 hz2 rfl (by omega) v xs.length rows.flatten hs (hG.own.alloc _) ⟨w1.heap.size, 0, none⟩ 1 1 row hy hlen (World.news_of_block (cs := row.toArray) (t := 77) (fr := (0, 0)) (heap_alloc_new w1 _)) h1 (by omega) (by unfold maxLen; omega) (by omega) (by simp; omega) (w1.alloc (.cells row.toArray 77)).heap.size rfl ?_
  intro g cap w' h2 h3 h4 h5
  have hg := grown_alloc h3
  have hbw : Below base w1 w' := (Below.refl _ _).grown hg hbase (fun j hj => (hG.own.lt j hj).1)
  have hor : v.ownBlock = some g ∨ w1.heap.size ≤ g := by
    rcases h4 with h4 | h4
    · exact Or.inl h4
    · exact Or.inr (by rw [h4]; simp)
  exact h g cap w' (hG.snoc hl hbl h2 hg hor) hbw ⟨hbw.os, hbw.tape, hbw.output, hbw.size, fun k hk hn => hg.block k hk (fun e => hn e.symm)⟩ h5 hbw.size hor

/-- At a step of a region that draws its order. -/
theorem step_append_Center {w1 : World} {base : Nat} {v : Value} {rows : List (List Value)} {xs : List DCenter} {bls : List (List Nat)} (hG : Grow Lay.tCenter w1 base 77 v rows xs bls) {row : List Value} {x : DCenter} {bl : List Nat} (hl : Lay.tCenter.lies w1 row x bl) (hbl : ∀ b ∈ bl, v.ownBlock ≠ some b) {ops : Array Oper} {o : Oper} {a : Act} {K : Act → World → Prop} {Q : Exit → Act → World → Prop} {E : Prop} (hgd : o.guard = none) (s y : Operand)
    (ho : o.op = .call { callee := .builtin .append, args := #[s, y], argTypes := #[28, 28] }) (hs : a.eval s = v) (hy : a.eval y = .slice (some ⟨w1.heap.size, 0, none⟩) 1 1) (hn : xs.length + 1 ≤ 100000000) (hbase : base ≤ w1.heap.size)
    (h : ∀ g cap w', Grow Lay.tCenter w' base 77 (.slice (some ⟨g, 0, none⟩) (xs.length + 1) cap) (rows ++ [row]) (xs ++ [x]) (bls ++ [bl]) → Below base w1 w' → Ext (fun q => v.ownBlock = some q) w1 w' → g < w'.heap.size → w1.heap.size ≤ w'.heap.size → (v.ownBlock = some g ∨ w1.heap.size ≤ g) → K (a.put o.dst (.slice (some ⟨g, 0, none⟩) (xs.length + 1) cap)) w') :
    if Region.wanted o (yielded ops a.tmps) = true then Oper.wp Try.prog o a (w1.alloc (.cells row.toArray 77)) K Q else E := by
  obtain ⟨i0, hi0, hz0, hz1, hz2⟩ := info_parts infoAppCenter
  obtain ⟨h1, hlen⟩ := one_Center hl
  refine step_append_lies _ hgd s y 28 ho base 77 i0 _ 1 24 Try.underlying28 hi0 hz0 hz1 hz2 rfl (by omega) v xs.length rows.flatten hs (hG.own.alloc _) ⟨w1.heap.size, 0, none⟩ 1 1 row hy hlen (World.news_of_block (cs := row.toArray) (t := 77) (fr := (0, 0)) (heap_alloc_new w1 _)) h1 (by omega) (by unfold maxLen; omega) (by omega) (by simp; omega) (w1.alloc (.cells row.toArray 77)).heap.size rfl ?_
  intro g cap w' h2 h3 h4 h5
  have hg := grown_alloc h3
  have hbw : Below base w1 w' := (Below.refl _ _).grown hg hbase (fun j hj => (hG.own.lt j hj).1)
  have hor : v.ownBlock = some g ∨ w1.heap.size ≤ g := by
    rcases h4 with h4 | h4
    · exact Or.inl h4
    · exact Or.inr (by rw [h4]; simp)
  exact h g cap w' (hG.snoc hl hbl h2 hg hor) hbw ⟨hbw.os, hbw.tape, hbw.output, hbw.size, fun k hk hn => hg.block k hk (fun e => hn e.symm)⟩ h5 hbw.size hor

end Go.Proofs.Ytjofcmdlcoganaa

namespace Go.Proofs.Ytjofcmdlcoganaa
open Go.RowKit

set_option maxRecDepth 100000 in
set_option maxHeartbeats 2000000 in
theorem specMove (v : Value) (cs : List DCenter) (vx : Value) (xs : List DItem) (w : World) (hcs : (Lay.sl Lay.tCenter).Reads w [v] cs) (h : (Lay.sl Lay.tItem).Reads w [vx] xs) (hfc : centersFault cs = 0) (hft : tableFault xs = 0) :
    Calls Try.prog 53 #[v, vx] w fun e w' => ∃ v', e = .returned v' ∧ (Lay.sl Lay.tCenter).LiesIn w' [v'] (moved cs xs) w.heap.size w'.heap.size ∧ Below w.heap.size w w' := by
  obtain ⟨ao, cap, rfl⟩ := open_sl hcs
  obtain ⟨ao2, cap2, rfl⟩ := open_sl h
  have hn6 := (centersFault_zero hfc).1.2
  have nb : Below w.heap.size w (w.alloc (.cells #[] 77)) := (Below.refl _ _).alloc (Nat.le_refl _) _
  have O : (w.alloc (.cells #[] 77)).ownsRow w.heap.size 77 1 (.slice (some ⟨w.heap.size, 0, none⟩) 0 0) 0 [] := World.ownsRow_lit w _ 0 (Nat.le_refl _) (by unfold maxLen; omega) rfl
  have HG0 := hide (Grow.nil (A := Lay.tCenter) O)
  have HB0 := hide nb
  have HC := hide hcs
  have HX := hide h
  have HFC := hide hfc
  have HFT := hide hft
  clear hcs h hfc hft nb O
  go_enter Try.func53, Try.ntmps53
  go_wp2_with fail
  go_loopw [5, 6] (fun u i wr => ∃ (k : Nat) (rows : List (List Value)) (bls : List (List Nat)), k ≤ cs.length ∧ i = .int .i64 k ∧ Grow Lay.tCenter wr w.heap.size 77 u rows ((moved cs xs).take k) bls ∧ (∀ b ∈ bls.flatten, w.heap.size ≤ b) ∧ Below w.heap.size w wr) (fun _ i _ => cs.length - (intOf i).toNat)
  case atStart => exact ⟨0, [], [], Nat.zero_le _, rfl, unhide HG0, by simp, unhide HB0⟩
  case round =>
    obtain ⟨k, rows, bls, hk, rfl, hG, hin, hB⟩ := hrel
    clear HG0 HB0
    by_cases hlt : k < cs.length
    · have HT := hide (moved_take cs xs k hlt)
      have HL : Hid (((moved cs xs).take k).length = k) := by show ((moved cs xs).take k).length = k; rw [List.length_take, moved_len]; omega
      have L := hide (specMean6 _ cs _ xs k wr ((unhide HC).later hB) ((unhide HX).later hB) (unhide HFC) (unhide HFT) hlt)
      have HG := hide hG
      have HB := hide hB
      clear hG hB
      go_wp2_with fail
      refine (unhide L).mono ?_
      rintro e w1 ⟨v1, rfl, O1, hb⟩
      have hG1 := (unhide HG).later hb
      have hB1 := (unhide HB).trans (hb.mono (unhide HB).size)
      have hsz := hb.size
      obtain ⟨bl, ⟨hl1, -, -⟩, hi1⟩ := O1
      have hlies : Lay.tCenter.lies w1 [v1] ⟨meanAt cs xs k⟩ bl := hl1
      have hoff : ∀ b ∈ bl, u5.ownBlock ≠ some b := fun b hb2 e => by have h1 := ((unhide HG).own.lt b e).2; have h2 := (hi1 b hb2).1; omega
      obtain ⟨a9, c9, rfl⟩ := open_sl ⟨bl, hl1⟩
      have HIN : Hid (∀ b ∈ (bls ++ [bl]).flatten, w.heap.size ≤ b) := by
        show ∀ b ∈ (bls ++ [bl]).flatten, w.heap.size ≤ b
        intro b hm
        rw [List.flatten_append] at hm
        rcases List.mem_append.1 hm with hm | hm
        · exact hin b hm
        · have := (hi1 b (by simpa using hm)).1; have := (unhide HB).size; omega
      have HB1 := hide hB1
      have hlen := unhide HL
      have hbs := hB1.size
      clear hl1 hi1 hb hB1 L HG HB
      generalize hm : (meanAt cs xs k).length = ml at *
      clear hm
      go_wp2_with (at_builtin; refine wpList_append_Center hG1 hlies hoff rfl _ _ rfl rfl rfl (by omega) (by omega) ?_)
      rintro g5 cp5 w5 hG5 hb5 - hl5 hz5 -
      have HG5 := hide hG5
      have HB5 := hide ((unhide HB1).trans hb5)
      clear hG5 hb5 hG1 hlies hoff HB1 hlen
      go_wp2_with fail
      go_roundw
      case rel => exact ⟨k + 1, _, _, by omega, by go_num, by rw [unhide HT]; exact unhide HG5, unhide HIN, unhide HB5⟩
      case measure => simp [intOf]; omega
    · obtain rfl : k = cs.length := by omega
      rw [show (moved cs xs).take cs.length = moved cs xs by rw [← moved_len cs xs, List.take_length]] at hG
      have HR := hide (hG.toLies (by rw [moved_len]; omega) hin)
      have HB := hide hB
      clear hG hB
      go_wp2_with fail
      go_ret
      exact ⟨_, rfl, unhide HR, unhide HB⟩

end Go.Proofs.Ytjofcmdlcoganaa

namespace Go.Proofs.Ytjofcmdlcoganaa
open Go.RowKit

set_option maxRecDepth 100000 in
set_option maxHeartbeats 2000000 in
theorem specCost_pos (b2 off2 cap2 : Nat) (cs : List DCenter) (b off cap : Nat) (xs : List DItem) (w : World) (hcs : (Lay.sl Lay.tCenter).Reads w [.slice (some ⟨b2, off2, none⟩) cs.length cap2] cs) (hbl2 : b2 < w.heap.size) (h : (Lay.sl Lay.tItem).Reads w [.slice (some ⟨b, off, none⟩) xs.length cap] xs) (hbl : b < w.heap.size) (hc0 : centersFault cs = 0) (ht : tableFault xs = 0) :
    Calls Try.prog 54 #[.slice (some ⟨b2, off2, none⟩) cs.length cap2, .slice (some ⟨b, off, none⟩) xs.length cap] w fun e w' => e = .returned (.int .i64 (cost cs xs)) ∧ Below w.heap.size w w' := by
  obtain ⟨hlen, hall, -⟩ := tableFault_zero ht
  have hxv : ∀ x ∈ xs, vecFault x.vec = 0 := fun x hm => (hall x hm).2
  have HXV := hide hxv
  have HC := hide hcs
  have HCF := hide hc0
  have H := hide h
  clear h hcs hall hc0 hxv ht
  go_enter Try.func54, Try.ntmps54
  go_wp2_with fail
  go_loopw [5, 6] (fun a i wr => ∃ k : Nat, k ≤ xs.length ∧ i = .int .i64 k ∧ a = .int .i64 (costK cs xs k) ∧ Below w.heap.size w wr) (fun _ i _ => xs.length - (intOf i).toNat)
  case atStart => exact ⟨0, Nat.zero_le _, rfl, rfl, Below.refl _ _⟩
  case round =>
    obtain ⟨k, hk, rfl, rfl, hB⟩ := hrel
    by_cases hlt : k < xs.length
    · obtain ⟨row, hc, hr⟩ := Lay.row_at (unhide H) hlt
      obtain ⟨a1, d1, rfl, R1⟩ := open_Item hr
      have c0 : w.cell? ⟨b, off + k * 2, none⟩ = some (.int .i64 (xs[k]).id) := hc 0 (by decide)
      have c1 : w.cell? ⟨b, off + k * 2 + 1, none⟩ = some (.slice a1 (xs[k]).vec.length d1) := hc 1 (by decide)
      have hvx := unhide HXV xs[k] (List.getElem_mem hlt)
      have hb1 := costK_bd (unhide HCF) (unhide HXV) k hk
      have hstep := costK_step cs xs k hlt
      clear hc hr
      generalize hx : xs[k] = x at *
      clear hx
      have hml := near_lt (unhide HCF) hvx
      obtain ⟨hse, hs1, hs2⟩ := nearS_eq (unhide HCF) hvx hml
      obtain ⟨row2, hc2, hr2⟩ := Lay.row_at (unhide HC) hml
      obtain ⟨a3, d3, rfl, R2⟩ := open_Center hr2
      have c2 : w.cell? ⟨b2, off2 + near cs x.vec, none⟩ = some (.slice a3 (cs[near cs x.vec]).vec.length d3) := cen_cell (hc2 0 (by decide))
      have hvy := (centersFault_zero (unhide HCF)).2 cs[near cs x.vec] (List.getElem_mem hml)
      clear hc2 hr2
      generalize hy : cs[near cs x.vec] = y at *
      clear hy
      rw [hse] at hs1 hs2 hstep
      have HST := hide hstep
      have I1 := hide (Lay.ints_reads R1)
      have I2 := hide (Lay.ints_reads R2)
      have HX := hide hvx
      have HY := hide hvy
      have HB := hide hB
      clear R1 R2 hB hvx hvy hse hstep
      have LN : Hid (∀ W, Below w.heap.size w W → Calls Try.prog 65 #[.slice (some ⟨b2, off2, none⟩) cs.length cap2, .slice a1 x.vec.length d1] W fun e w' => e = .returned (.int .i64 (near cs x.vec : Nat)) ∧ Below W.heap.size W w') := fun W hW => specNear _ cs _ x.vec W ((unhide HC).later hW) ((unhide I1).later hW) (unhide HCF) (unhide HX)
      generalize hm : near cs x.vec = m at *
      clear hm
      generalize costK cs xs k = ck at *
      have ew : IntKind.i64.wrap (ck + score3 y.vec x.vec) = ck + score3 y.vec x.vec := by simp only [IntKind.wrap_i64]; omega
      have i1 : (0 : Int) ≤ (k : Int) := by omega
      have i2 : (k : Int) < (xs.length : Int) := by omega
      have i3 : (0 : Int) ≤ (m : Int) := by omega
      have i4 : (m : Int) < (cs.length : Int) := by omega
      go_wp2_with fail
      refine wp_region_noPanic ?_
      refine wp_region_held_drew (S := fun w' => Below w.heap.size w w') (by kernel_rfl) (unhide HB).drew (fun hHeld => ?_)
      generalize wr.drew = wD at hHeld ⊢
      refine wpAnyH_take (i := 0) (oi := { dst := some 13, op := Go.Op.move (Go.Operand.tmp 5), type := 2, pos := "l06_center.go:62", after := #[], guard := none }) (v := ?v0) rfl (by kernel_rfl) (by kernel_rfl) (by kernel_rfl) (fun _ _ _ h => h) (Or.inl ⟨by rfl, ?h0⟩) hHeld ?r0
      case h0 =>
        intro wS hSw
        (try dsimp only at hSw)
        go_simp
        try with_reducible rfl
      case r0 =>
      simp only [Act.put, List.setIfInBounds_toArray, List.set_cons_zero, List.set_cons_succ]
      refine wpAnyH_take (i := 1) (oi := { dst := some 14, op := Go.Op.move (Go.Operand.tmp 0), type := 28, pos := "l06_center.go:62", after := #[], guard := none }) (v := ?v1) rfl (by kernel_rfl) (by kernel_rfl) (by kernel_rfl) (fun _ _ _ h => h) (Or.inl ⟨by rfl, ?h1⟩) hHeld ?r1
      case h1 =>
        intro wS hSw
        (try dsimp only at hSw)
        go_simp
        try with_reducible rfl
      case r1 =>
      simp only [Act.put, List.setIfInBounds_toArray, List.set_cons_zero, List.set_cons_succ]
      refine wpAnyH_take (i := 2) (oi := { dst := some 15, op := Go.Op.move (Go.Operand.tmp 0), type := 28, pos := "l06_center.go:62", after := #[], guard := none }) (v := ?v2) rfl (by kernel_rfl) (by kernel_rfl) (by kernel_rfl) (fun _ _ _ h => h) (Or.inl ⟨by rfl, ?h2⟩) hHeld ?r2
      case h2 =>
        intro wS hSw
        (try dsimp only at hSw)
        go_simp
        try with_reducible rfl
      case r2 =>
      simp only [Act.put, List.setIfInBounds_toArray, List.set_cons_zero, List.set_cons_succ]
      refine wpAnyH_take (i := 3) (oi := { dst := some 16, op := Go.Op.move (Go.Operand.tmp 1), type := 24, pos := "l06_center.go:62", after := #[], guard := none }) (v := ?v3) rfl (by kernel_rfl) (by kernel_rfl) (by kernel_rfl) (fun _ _ _ h => h) (Or.inl ⟨by rfl, ?h3⟩) hHeld ?r3
      case h3 =>
        intro wS hSw
        (try dsimp only at hSw)
        go_simp
        try with_reducible rfl
      case r3 =>
      simp only [Act.put, List.setIfInBounds_toArray, List.set_cons_zero, List.set_cons_succ]
      refine wpAnyH_take (i := 4) (oi := { dst := some 17, op := Go.Op.move (Go.Operand.tmp 6), type := 3, pos := "l06_center.go:62", after := #[], guard := none }) (v := ?v4) rfl (by kernel_rfl) (by kernel_rfl) (by kernel_rfl) (fun _ _ _ h => h) (Or.inl ⟨by rfl, ?h4⟩) hHeld ?r4
      case h4 =>
        intro wS hSw
        (try dsimp only at hSw)
        go_simp
        try with_reducible rfl
      case r4 =>
      simp only [Act.put, List.setIfInBounds_toArray, List.set_cons_zero, List.set_cons_succ]
      refine wpAnyH_take (i := 5) (oi := { dst := some 18, op := Go.Op.indexAddr 24 (Go.Operand.tmp 16) (Go.Operand.tmp 17), type := 0, pos := "l06_center.go:62", after := #[{ on := 3, ground := Go.Ground.data }, { on := 4, ground := Go.Ground.data }], guard := none }) (v := ?v5) rfl (by kernel_rfl) (by kernel_rfl) (by kernel_rfl) (fun _ _ _ h => h) (Or.inl ⟨by rfl, ?h5⟩) hHeld ?r5
      case h5 =>
        intro wS hSw
        (try dsimp only at hSw)
        go_simp
        try with_reducible rfl
      case r5 =>
      simp only [Act.put, List.setIfInBounds_toArray, List.set_cons_zero, List.set_cons_succ]
      refine wpAnyH_take (i := 6) (oi := { dst := some 19, op := Go.Op.fieldAddr 41 (Go.Operand.tmp 18) 1, type := 0, pos := "l06_center.go:62", after := #[{ on := 5, ground := Go.Ground.data }], guard := none }) (v := ?v6) rfl (by kernel_rfl) (by kernel_rfl) (by kernel_rfl) (fun _ _ _ h => h) (Or.inl ⟨by rfl, ?h6⟩) hHeld ?r6
      case h6 =>
        intro wS hSw
        (try dsimp only at hSw)
        go_simp
        try with_reducible rfl
      case r6 =>
      simp only [Act.put, List.setIfInBounds_toArray, List.set_cons_zero, List.set_cons_succ]
      refine wpAnyH_take (i := 7) (oi := { dst := some 20, op := Go.Op.load 25 (Go.Operand.tmp 19), type := 25, pos := "l06_center.go:62", after := #[{ on := 6, ground := Go.Ground.data }], guard := none }) (v := ?v7) rfl (by kernel_rfl) (by kernel_rfl) (by kernel_rfl) (fun _ _ _ h => h) (Or.inl ⟨by rfl, ?h7⟩) hHeld ?r7
      case h7 =>
        intro wS hSw
        have y0 := (hSw.cell (p := ⟨b, off + k * 2, none⟩) hbl).trans c0
        have y1 := (hSw.cell (p := ⟨b, off + k * 2 + 1, none⟩) hbl).trans c1
        clear hSw
        (try dsimp only at hSw)
        go_simp
        try with_reducible rfl
      case r7 =>
      simp only [Act.put, List.setIfInBounds_toArray, List.set_cons_zero, List.set_cons_succ]
      refine wpAnyH_take (i := 12) (oi := { dst := some 25, op := Go.Op.move (Go.Operand.tmp 1), type := 24, pos := "l06_center.go:62", after := #[], guard := none }) (v := ?v12) rfl (by kernel_rfl) (by kernel_rfl) (by kernel_rfl) (fun _ _ _ h => h) (Or.inl ⟨by rfl, ?h12⟩) hHeld ?r12
      case h12 =>
        intro wS hSw
        (try dsimp only at hSw)
        go_simp
        try with_reducible rfl
      case r12 =>
      simp only [Act.put, List.setIfInBounds_toArray, List.set_cons_zero, List.set_cons_succ]
      refine wpAnyH_take (i := 13) (oi := { dst := some 26, op := Go.Op.move (Go.Operand.tmp 6), type := 3, pos := "l06_center.go:62", after := #[], guard := none }) (v := ?v13) rfl (by kernel_rfl) (by kernel_rfl) (by kernel_rfl) (fun _ _ _ h => h) (Or.inl ⟨by rfl, ?h13⟩) hHeld ?r13
      case h13 =>
        intro wS hSw
        (try dsimp only at hSw)
        go_simp
        try with_reducible rfl
      case r13 =>
      simp only [Act.put, List.setIfInBounds_toArray, List.set_cons_zero, List.set_cons_succ]
      refine wpAnyH_take (i := 14) (oi := { dst := some 27, op := Go.Op.indexAddr 24 (Go.Operand.tmp 25) (Go.Operand.tmp 26), type := 0, pos := "l06_center.go:62", after := #[{ on := 12, ground := Go.Ground.data }, { on := 13, ground := Go.Ground.data }], guard := none }) (v := ?v14) rfl (by kernel_rfl) (by kernel_rfl) (by kernel_rfl) (fun _ _ _ h => h) (Or.inl ⟨by rfl, ?h14⟩) hHeld ?r14
      case h14 =>
        intro wS hSw
        (try dsimp only at hSw)
        go_simp
        try with_reducible rfl
      case r14 =>
      simp only [Act.put, List.setIfInBounds_toArray, List.set_cons_zero, List.set_cons_succ]
      refine wpAnyH_take (i := 15) (oi := { dst := some 28, op := Go.Op.fieldAddr 41 (Go.Operand.tmp 27) 1, type := 0, pos := "l06_center.go:62", after := #[{ on := 14, ground := Go.Ground.data }], guard := none }) (v := ?v15) rfl (by kernel_rfl) (by kernel_rfl) (by kernel_rfl) (fun _ _ _ h => h) (Or.inl ⟨by rfl, ?h15⟩) hHeld ?r15
      case h15 =>
        intro wS hSw
        (try dsimp only at hSw)
        go_simp
        try with_reducible rfl
      case r15 =>
      simp only [Act.put, List.setIfInBounds_toArray, List.set_cons_zero, List.set_cons_succ]
      refine wpAnyH_take (i := 16) (oi := { dst := some 29, op := Go.Op.load 25 (Go.Operand.tmp 28), type := 25, pos := "l06_center.go:62", after := #[{ on := 15, ground := Go.Ground.data }], guard := none }) (v := ?v16) rfl (by kernel_rfl) (by kernel_rfl) (by kernel_rfl) (fun _ _ _ h => h) (Or.inl ⟨by rfl, ?h16⟩) hHeld ?r16
      case h16 =>
        intro wS hSw
        have y0 := (hSw.cell (p := ⟨b, off + k * 2, none⟩) hbl).trans c0
        have y1 := (hSw.cell (p := ⟨b, off + k * 2 + 1, none⟩) hbl).trans c1
        clear hSw
        (try dsimp only at hSw)
        go_simp
        try with_reducible rfl
      case r16 =>
      simp only [Act.put, List.setIfInBounds_toArray, List.set_cons_zero, List.set_cons_succ]
      refine wpAnyH_ready (rs := [8]) (by kernel_rfl) (by simp) ?_
      refine AllReadyH.cons (o := { dst := some 21, op := Go.Op.call { callee := Go.Callee.value (Go.Operand.func 65), args := #[Go.Operand.tmp 15, Go.Operand.tmp 20], argTypes := #[28, 25] }, type := 2, pos := "l06_center.go:62", after := #[{ on := 2, ground := Go.Ground.data }, { on := 7, ground := Go.Ground.data }], guard := none }) rfl (fun K hK => ?_) AllReadyH.nil
      go_simp
      go_at_call 65
      refine (unhide LN _ hHeld).mono ?_
      rintro e w3 ⟨rfl, hbw⟩
      try go_wp2_with fail
      refine hK.out _ _ (hHeld.trans (hbw.mono hHeld.size)) (fun hHeld => ?_)
      clear hK K
      try simp only [Act.put, List.setIfInBounds_toArray, List.set_cons_zero, List.set_cons_succ]
      refine wpAnyH_take (i := 9) (oi := { dst := some 22, op := Go.Op.indexAddr 28 (Go.Operand.tmp 14) (Go.Operand.tmp 21), type := 0, pos := "l06_center.go:62", after := #[{ on := 1, ground := Go.Ground.data }, { on := 8, ground := Go.Ground.data }], guard := none }) (v := ?v9) rfl (by kernel_rfl) (by kernel_rfl) (by kernel_rfl) (fun _ _ _ h => h) (Or.inl ⟨by rfl, ?h9⟩) hHeld ?r9
      case h9 =>
        intro wS hSw
        (try dsimp only at hSw)
        go_simp
        try with_reducible rfl
      case r9 =>
      simp only [Act.put, List.setIfInBounds_toArray, List.set_cons_zero, List.set_cons_succ]
      refine wpAnyH_take (i := 10) (oi := { dst := some 23, op := Go.Op.fieldAddr 77 (Go.Operand.tmp 22) 0, type := 0, pos := "l06_center.go:62", after := #[{ on := 9, ground := Go.Ground.data }], guard := none }) (v := ?v10) rfl (by kernel_rfl) (by kernel_rfl) (by kernel_rfl) (fun _ _ _ h => h) (Or.inl ⟨by rfl, ?h10⟩) hHeld ?r10
      case h10 =>
        intro wS hSw
        (try dsimp only at hSw)
        go_simp
        try with_reducible rfl
      case r10 =>
      simp only [Act.put, List.setIfInBounds_toArray, List.set_cons_zero, List.set_cons_succ]
      refine wpAnyH_take (i := 11) (oi := { dst := some 24, op := Go.Op.load 25 (Go.Operand.tmp 23), type := 25, pos := "l06_center.go:62", after := #[{ on := 10, ground := Go.Ground.data }], guard := none }) (v := ?v11) rfl (by kernel_rfl) (by kernel_rfl) (by kernel_rfl) (fun _ _ _ h => h) (Or.inl ⟨by rfl, ?h11⟩) hHeld ?r11
      case h11 =>
        intro wS hSw
        have y1 := (hSw.cell (p := ⟨b2, off2 + m, none⟩) hbl2).trans c2
        clear hSw
        (try dsimp only at hSw)
        go_simp
        try with_reducible rfl
      case r11 =>
      simp only [Act.put, List.setIfInBounds_toArray, List.set_cons_zero, List.set_cons_succ]
      refine wpAnyH_ready (rs := [17]) (by kernel_rfl) (by simp) ?_
      refine AllReadyH.cons (o := { dst := some 30, op := Go.Op.call { callee := Go.Callee.value (Go.Operand.func 86), args := #[Go.Operand.tmp 24, Go.Operand.tmp 29], argTypes := #[25, 25] }, type := 2, pos := "l06_center.go:62", after := #[{ on := 11, ground := Go.Ground.data }, { on := 16, ground := Go.Ground.data }, { on := 8, ground := Go.Ground.chain }], guard := none }) rfl (fun K hK => ?_) AllReadyH.nil
      go_simp
      go_at_call 86
      refine (modelScore3 _ _ y.vec x.vec _ ((unhide I2).later hHeld) ((unhide I1).later hHeld) (unhide HY) (unhide HX)).mono ?_
      rintro e w3 ⟨rfl, hbw⟩
      try go_wp2_with fail
      refine hK.out _ _ (hHeld.trans (hbw.mono hHeld.size)) (fun hHeld => ?_)
      clear hK K
      try simp only [Act.put, List.setIfInBounds_toArray, List.set_cons_zero, List.set_cons_succ]
      refine wpAnyH_take (i := 18) (oi := { dst := some 31, op := Go.Op.binOp Go.BinOp.add 2 (Go.Operand.tmp 13) (Go.Operand.tmp 30) 2, type := 2, pos := "l06_center.go:62", after := #[{ on := 0, ground := Go.Ground.data }, { on := 17, ground := Go.Ground.data }], guard := none }) (v := ?v18) rfl (by kernel_rfl) (by kernel_rfl) (by kernel_rfl) (fun _ _ _ h => h) (Or.inl ⟨by rfl, ?h18⟩) hHeld ?r18
      case h18 =>
        intro wS hSw
        (try dsimp only at hSw)
        go_simp
        try with_reducible rfl
      case r18 =>
      simp only [Act.put, List.setIfInBounds_toArray, List.set_cons_zero, List.set_cons_succ]
      refine wpAnyH_take (i := 19) (oi := { dst := some 5, op := Go.Op.assign (Go.Operand.tmp 31), type := 2, pos := "l06_center.go:62", after := #[{ on := 18, ground := Go.Ground.data }, { on := 17, ground := Go.Ground.chain }, { on := 0, ground := Go.Ground.phase }, { on := 1, ground := Go.Ground.phase }, { on := 2, ground := Go.Ground.phase }, { on := 3, ground := Go.Ground.phase }, { on := 4, ground := Go.Ground.phase }, { on := 5, ground := Go.Ground.phase }, { on := 6, ground := Go.Ground.phase }, { on := 7, ground := Go.Ground.phase }, { on := 8, ground := Go.Ground.phase }, { on := 9, ground := Go.Ground.phase }, { on := 10, ground := Go.Ground.phase }, { on := 11, ground := Go.Ground.phase }, { on := 12, ground := Go.Ground.phase }, { on := 13, ground := Go.Ground.phase }, { on := 14, ground := Go.Ground.phase }, { on := 15, ground := Go.Ground.phase }, { on := 16, ground := Go.Ground.phase }, { on := 17, ground := Go.Ground.phase }, { on := 18, ground := Go.Ground.phase }], guard := none }) (v := ?v19) rfl (by kernel_rfl) (by kernel_rfl) (by kernel_rfl) (fun _ _ _ h => h) (Or.inl ⟨by rfl, ?h19⟩) hHeld ?r19
      case h19 =>
        intro wS hSw
        (try dsimp only at hSw)
        go_simp
        try with_reducible rfl
      case r19 =>
      simp only [Act.put, List.setIfInBounds_toArray, List.set_cons_zero, List.set_cons_succ]
      refine wpAnyH_done (by kernel_rfl) ?_ _
      refine NoPanic.normal ?_
      have HB3 := hide hHeld
      clear hHeld c0 c1 c2 HB I1 I2
      go_wp2_with fail
      go_roundw
      case rel => exact ⟨k + 1, by omega, by go_num, by rw [unhide HST], unhide HB3⟩
      case measure => simp [intOf]; omega
    · obtain rfl : k = xs.length := by omega
      have HB := hide hB
      clear hB H
      go_wp2_with fail
      go_ret
      exact ⟨rfl, unhide HB⟩

theorem specCost_zero (v : Value) (ao : Option Addr) (cap : Nat) (w : World) :
    Calls Try.prog 54 #[v, .slice ao 0 cap] w fun e w' => e = .returned (.int .i64 0) ∧ Below w.heap.size w w' := by
  go_enter Try.func54, Try.ntmps54
  go_wp2_with fail
  refine wp_loop_rounds 1 ?_
  rw [rounds_succ]
  go_wp2_with fail
  go_ret
  exact ⟨rfl, Below.refl _ _⟩

/-- l6Cost of the model. -/
theorem specCost (v : Value) (cs : List DCenter) (vx : Value) (xs : List DItem) (w : World) (hcs : (Lay.sl Lay.tCenter).Reads w [v] cs) (h : (Lay.sl Lay.tItem).Reads w [vx] xs) (hc0 : centersFault cs = 0) (ht : tableFault xs = 0) :
    Calls Try.prog 54 #[v, vx] w fun e w' => e = .returned (.int .i64 (cost cs xs)) ∧ Below w.heap.size w w' := by
  obtain ⟨ao2, cap2, rfl⟩ := open_sl hcs
  obtain ⟨b2, off2, rfl, hbl2⟩ := Lay.sl_addr hcs (centersFault_zero hc0).1.1
  obtain ⟨ao, cap, rfl⟩ := open_sl h
  by_cases hp : 0 < xs.length
  · obtain ⟨b, off, rfl, hbl⟩ := Lay.sl_addr h hp
    exact specCost_pos b2 off2 cap2 cs b off cap xs w hcs hbl2 h hbl hc0 ht
  · obtain rfl : xs = [] := List.eq_nil_of_length_eq_zero (by omega)
    exact specCost_zero _ ao cap w

end Go.Proofs.Ytjofcmdlcoganaa

namespace Go.Proofs.Ytjofcmdlcoganaa
open Go.RowKit

theorem trainR_code {xs : List DItem} {ss : List Int} {r c : Int} (h : trainFault xs ss r = c) (hc : c ≠ 0) : trainR xs ss r = ⟨c, []⟩ := by rw [trainR, h, if_neg hc]

set_option maxRecDepth 100000 in
set_option maxHeartbeats 4000000 in
theorem specTrain (vx : Value) (xs : List DItem) (vs : Value) (ss : List Int) (r : Int) (w : World) (h : (Lay.sl Lay.tItem).Reads w [vx] xs) (hs : (Lay.sl Lay.int).Reads w [vs] ss) :
    Calls Try.prog 13 #[vx, vs, .int .i64 r] w fun e w' => ∃ cs', e = .returned (.agg cs'.toArray) ∧ Lay.tCentersResult.Reads w' cs' (trainR xs ss r) ∧ Below w.heap.size w w' := by
  have HB0 : Below w.heap.size w (w.alloc (.cells #[.int .i64 0, .slice none 0 0] 30)) := (Below.refl _ _).alloc (Nat.le_refl _) _
  have bR : Box w.heap.size #[.int .i64 0, .slice none 0 0] 30 (w.alloc (.cells #[.int .i64 0, .slice none 0 0] 30)) w.heap.size := newBox (Nat.le_refl _)
  have hx1 := h.later HB0
  have hs1 := Lay.ints_reads (hs.later HB0)
  have hbig := hs.big
  obtain ⟨ao, cap, rfl⟩ := open_sl h
  obtain ⟨ao2, cap2, rfl⟩ := open_sl hs
  clear h hs
  go_enter Try.func13, Try.ntmps13
  go_wp2_with fail
  generalize w.alloc (.cells #[.int .i64 0, .slice none 0 0] 30) = W0 at *
  refine (specTab _ xs W0 hx1).mono ?_
  rintro e w1 ⟨rfl, hb⟩
  have HX := hide (hx1.later hb)
  have HI := hide (hs1.later hb)
  replace bR := bR.keep hb
  replace HB0 := HB0.trans (hb.mono HB0.size)
  have hw1 := bR.lt
  have HB := hide HB0
  have HR := hide bR
  clear hb HB0 bR hx1 hs1
  by_cases hf : tableFault xs = 0
  · rw [hf]
    by_cases h0 : xs.length = 0
    · have HG := hide (trainR_code (trainFault_none hf h0 ss r) (by decide))
      have hd : ((xs.length : Int) == 0) = true := by rw [beq_iff_eq]; omega
      clear hf h0
      have bR := unhide HR
      have z0 : w1.cell? ⟨w.heap.size, 0, none⟩ = some (.int .i64 0) := bR.at 0 _ rfl
      have z1 : w1.cell? ⟨w.heap.size, 1, none⟩ = some (.slice none 0 0) := bR.at 1 _ rfl
      have f0 := bR.soft 0
      have f1 := bR.soft 1
      have l0 := bR.lt
      clear bR
      go_wp2_with fail
      refine bodyPost_ret (v := .agg #[.int .i64 4, .slice none 0 0]) (by simp [results, Try.results13, go_sem, z0, z1]) rfl ?_
      rw [unhide HG]
      exact ⟨[.int .i64 4, .slice none 0 0], rfl, (own_codeCens (lo := 0) (hi := 0) (by decide)).reads, ((unhide HB).setCell (by simp) _).setCell (by simp) _⟩
    · have hd : ((xs.length : Int) == 0) = false := by rw [beq_eq_false_iff_ne]; omega
      have HF := hide hf
      have H0 := hide h0
      clear hf
      by_cases hm : ss.length < 1 ∨ 6 < ss.length
      · have HG := hide (trainR_code (trainFault_many (unhide HF) (unhide H0) hm r) (by decide))
        by_cases hm1 : ss.length < 1
        · have d1 : decide ((ss.length : Int) < 1) = true := by simp; omega
          clear hm hm1 h0
          have bR := unhide HR
          have z0 : w1.cell? ⟨w.heap.size, 0, none⟩ = some (.int .i64 0) := bR.at 0 _ rfl
          have z1 : w1.cell? ⟨w.heap.size, 1, none⟩ = some (.slice none 0 0) := bR.at 1 _ rfl
          have f0 := bR.soft 0
          have f1 := bR.soft 1
          have l0 := bR.lt
          clear bR
          go_wp2_with fail
          refine bodyPost_ret (v := .agg #[.int .i64 2, .slice none 0 0]) (by simp [results, Try.results13, go_sem, z0, z1]) rfl ?_
          rw [unhide HG]
          exact ⟨[.int .i64 2, .slice none 0 0], rfl, (own_codeCens (lo := 0) (hi := 0) (by decide)).reads, ((unhide HB).setCell (by simp) _).setCell (by simp) _⟩
        · have d1 : decide ((ss.length : Int) < 1) = false := by simp; omega
          have d2 : decide ((6 : Int) < (ss.length : Int)) = true := by simp; omega
          clear hm hm1 h0
          have bR := unhide HR
          have z0 : w1.cell? ⟨w.heap.size, 0, none⟩ = some (.int .i64 0) := bR.at 0 _ rfl
          have z1 : w1.cell? ⟨w.heap.size, 1, none⟩ = some (.slice none 0 0) := bR.at 1 _ rfl
          have f0 := bR.soft 0
          have f1 := bR.soft 1
          have l0 := bR.lt
          clear bR
          go_wp2_with fail
          refine bodyPost_ret (v := .agg #[.int .i64 2, .slice none 0 0]) (by simp [results, Try.results13, go_sem, z0, z1]) rfl ?_
          rw [unhide HG]
          exact ⟨[.int .i64 2, .slice none 0 0], rfl, (own_codeCens (lo := 0) (hi := 0) (by decide)).reads, ((unhide HB).setCell (by simp) _).setCell (by simp) _⟩
      · have d1 : decide ((ss.length : Int) < 1) = false := by simp; omega
        have d2 : decide ((6 : Int) < (ss.length : Int)) = false := by simp; omega
        have HM := hide hm
        have hn : 1 ≤ ss.length ∧ ss.length ≤ 6 := by omega
        obtain ⟨b2, off2, rfl⟩ := ints_addr (unhide HI) (by omega)
        obtain ⟨b, off, rfl, hbl⟩ := Lay.sl_addr (unhide HX) (by omega)
        have hbl2 : b2 < w1.heap.size := World.block_lt_of_cell? _ _ (ints_cell (unhide HI) 0 (by omega))
        have HXV : Hid (∀ x ∈ xs, vecFault x.vec = 0) := fun x hm => ((tableFault_zero (unhide HF)).2.1 x hm).2
        have hlen := (tableFault_zero (unhide HF)).1
        have HB8 : Hid (Below w1.heap.size w1 (w1.alloc (.cells #[] 77))) := (Below.refl _ _).alloc (Nat.le_refl _) _
        have O : (w1.alloc (.cells #[] 77)).ownsRow w1.heap.size 77 1 (.slice (some ⟨w1.heap.size, 0, none⟩) 0 0) 0 [] := World.ownsRow_lit w1 _ 0 (Nat.le_refl _) (by unfold maxLen; omega) rfl
        have HG0 := hide (Grow.nil (A := Lay.tCenter) O)
        clear O hm h0
        go_wp2_with fail
        go_loopw [8, 9] (fun u i wr => ∃ (k : Nat) (rows : List (List Value)) (bls : List (List Nat)), k ≤ ss.length ∧ i = .int .i64 k ∧ (ss.drop k).all seedB = ss.all seedB ∧ Grow Lay.tCenter wr w1.heap.size 77 u rows ((seedCs xs ss).take k) bls ∧ (∀ b ∈ bls.flatten, w1.heap.size ≤ b) ∧ Below w1.heap.size w1 wr) (fun _ i _ => ss.length - (intOf i).toNat)
        case atStart => exact ⟨0, [], [], Nat.zero_le _, rfl, rfl, unhide HG0, by simp, unhide HB8⟩
        case round =>
          obtain ⟨k, rows, bls, hk, rfl, hall, hG, hin, hB⟩ := hrel
          clear HG0 HB8
          by_cases hlt : k < ss.length
          · have c2 : wr.cell? ⟨b2, off2 + k, none⟩ = some (.int .i64 ss[k]) := (hB.cell (p := ⟨b2, off2 + k, none⟩) hbl2).trans (ints_cell (unhide HI) k hlt)
            rw [all_step ss k hlt] at hall
            have HT := hide (seedCs_take xs ss k hlt)
            have HLn : Hid (((seedCs xs ss).take k).length = k) := by show ((seedCs xs ss).take k).length = k; rw [List.length_take, seedCs_len]; omega
            generalize hz : ss[k] = z at *
            clear hz
            have HG1 := hide hG
            have HBr := hide hB
            have HIN := hide hin
            have HALL := hide hall
            clear hG hB hin hall
            go_wp2_with fail
            refine (inC z 0 9999 _).mono ?_
            rintro e wr ⟨rfl, rfl⟩
            rw [show (decide (0 ≤ z) && decide (z ≤ 9999)) = seedB z from rfl]
            cases hsb : seedB z with
            | false =>
              have ha : ss.all seedB = false := by rw [← unhide HALL, hsb]; rfl
              have HG := hide (trainR_code (trainFault_bad (r := r) (unhide HF) (unhide H0) (unhide HM) ha) (by decide))
              replace HR := hide ((unhide HR).keep (unhide HBr))
              have HB9 := hide ((unhide HB).trans ((unhide HBr).mono (unhide HB).size))
              clear HG1 HBr HIN HALL hsb ha
              have bR := unhide HR
              have z0 : wr.cell? ⟨w.heap.size, 0, none⟩ = some (.int .i64 0) := bR.at 0 _ rfl
              have z1 : wr.cell? ⟨w.heap.size, 1, none⟩ = some (.slice none 0 0) := bR.at 1 _ rfl
              have f0 := bR.soft 0
              have f1 := bR.soft 1
              have l0 := bR.lt
              clear bR
              go_wp2_with fail
              refine bodyPost_ret (v := .agg #[.int .i64 3, .slice none 0 0]) (by simp [results, Try.results13, go_sem, z0, z1]) rfl ?_
              rw [unhide HG]
              exact ⟨[.int .i64 3, .slice none 0 0], rfl, (own_codeCens (lo := 0) (hi := 0) (by decide)).reads, ((unhide HB9).setCell (by simp) _).setCell (by simp) _⟩
            | true =>
              have hzb : 0 ≤ z ∧ z ≤ 9999 := by simpa [seedB] using hsb
              have HALL2 : Hid ((ss.drop (k + 1)).all seedB = ss.all seedB) := by
                have := unhide HALL
                rw [hsb, Bool.true_and] at this
                exact this
              have hml : z.toNat % xs.length < xs.length := Nat.mod_lt _ (by have := unhide H0; omega)
              have hrem := seed_rem z xs.length hzb.1
              have HT2 : Hid ((seedCs xs ss).take (k + 1) = (seedCs xs ss).take k ++ [⟨(xs[z.toNat % xs.length]).vec⟩]) := by
                show (seedCs xs ss).take (k + 1) = _
                rw [unhide HT, seedC, getD_at hml]
              obtain ⟨row, hc, hr⟩ := Lay.row_at (unhide HX) hml
              obtain ⟨a1, d9, rfl, R1⟩ := open_Item hr
              have hvx := unhide HXV xs[z.toNat % xs.length] (List.getElem_mem hml)
              have c1 : wr.cell? ⟨b, off + (z.toNat % xs.length) * 2 + 1, none⟩ = some (.slice a1 (xs[z.toNat % xs.length]).vec.length d9) := ((unhide HBr).cell (p := ⟨b, off + (z.toNat % xs.length) * 2 + 1, none⟩) hbl).trans (hc 1 (by decide))
              clear hc hr HT hsb HALL
              generalize hx : xs[z.toNat % xs.length] = x at *
              clear hx
              generalize z.toNat % xs.length = m at *
              have hl3 := (vecFault_zero hvx).1
              have L := hide (l1Ints _ x.vec wr ((Lay.ints_reads R1).later (unhide HBr)) (by omega))
              have HWF := hide (ints_wf (Lay.ints_reads R1))
              have HL3 := hide hl3
              have hne2 : ¬ (xs.length : Int) = 0 := by have := unhide H0; omega
              clear R1 hvx hl3
              go_wp2_with fail
              refine (unhide L).mono ?_
              rintro e w4 ⟨v4, rfl, ho4, hb4⟩
              have O4 := Lay.ownInts (unhide HWF) (by have := unhide HL3; omega) ho4
              have hG4 := (unhide HG1).later hb4
              have hB4 := (unhide HBr).trans (hb4.mono (unhide HBr).size)
              obtain ⟨bl, ⟨hl4, -, -⟩, hi4⟩ := O4
              have hlies : Lay.tCenter.lies w4 [v4] ⟨x.vec⟩ bl := hl4
              have hoff : ∀ b ∈ bl, u8.ownBlock ≠ some b := fun b hb2 e => by have h1 := ((unhide HG1).own.lt b e).2; have h2 := (hi4 b hb2).1; omega
              have HIN2 : Hid (∀ b ∈ (bls ++ [bl]).flatten, w1.heap.size ≤ b) := by
                show ∀ b ∈ (bls ++ [bl]).flatten, w1.heap.size ≤ b
                intro b hm
                rw [List.flatten_append] at hm
                rcases List.mem_append.1 hm with hm | hm
                · exact unhide HIN b hm
                · have := (hi4 b (by simpa using hm)).1; have := (unhide HBr).size; omega
              obtain ⟨a9, c9, rfl⟩ := open_sl ⟨bl, hl4⟩
              have HB4 := hide hB4
              have hln := unhide HLn
              have hbs := hB4.size
              clear hl4 hi4 hb4 hB4 L HG1 HBr ho4 c1 c2
              generalize hmm : x.vec.length = ml at *
              clear hmm
              go_wp2_with (at_builtin; refine wpList_append_Center hG4 hlies hoff rfl _ _ rfl rfl rfl (by omega) (by omega) ?_)
              rintro g5 cp5 w5 hG5 hb5 - hl5 hz5 -
              have HG5 := hide hG5
              have HB5 := hide ((unhide HB4).trans hb5)
              clear hG5 hb5 hG4 hlies hoff HB4 hln
              go_wp2_with fail
              go_roundw
              case rel => exact ⟨k + 1, _, _, by omega, by go_num, unhide HALL2, by rw [unhide HT2]; exact unhide HG5, unhide HIN2, unhide HB5⟩
              case measure => simp [intOf]; omega
          · obtain rfl : k = ss.length := by omega
            rw [List.drop_length] at hall
            have hall2 : ss.all seedB = true := hall.symm
            rw [show (seedCs xs ss).take ss.length = seedCs xs ss by rw [← seedCs_len xs ss, List.take_length]] at hG
            have hO0 := hG.toLies (by rw [seedCs_len]; omega) hin
            have HO0 := hide hO0
            have HBr := hide hB
            have HCF0 := hide (seedCs_right (unhide HF) (unhide H0) hn)
            clear hG hin hB hall hO0
            go_wp2_with fail
            refine (inC r 0 20 _).mono ?_
            rintro e wr ⟨rfl, rfl⟩
            cases hr : (decide (0 ≤ r) && decide (r ≤ 20)) with
            | false =>
              have HG := hide (trainR_code (trainFault_rounds (unhide HF) (unhide H0) (unhide HM) hr) (by decide))
              replace HR := hide ((unhide HR).keep (unhide HBr))
              have HB9 := hide ((unhide HB).trans ((unhide HBr).mono (unhide HB).size))
              clear HBr hr HO0
              have bR := unhide HR
              have z0 : wr.cell? ⟨w.heap.size, 0, none⟩ = some (.int .i64 0) := bR.at 0 _ rfl
              have z1 : wr.cell? ⟨w.heap.size, 1, none⟩ = some (.slice none 0 0) := bR.at 1 _ rfl
              have f0 := bR.soft 0
              have f1 := bR.soft 1
              have l0 := bR.lt
              clear bR
              go_wp2_with fail
              refine bodyPost_ret (v := .agg #[.int .i64 3, .slice none 0 0]) (by simp [results, Try.results13, go_sem, z0, z1]) rfl ?_
              rw [unhide HG]
              exact ⟨[.int .i64 3, .slice none 0 0], rfl, (own_codeCens (lo := 0) (hi := 0) (by decide)).reads, ((unhide HB9).setCell (by simp) _).setCell (by simp) _⟩
            | true =>
              have hrb : 0 ≤ r ∧ r ≤ 20 := by simpa using hr
              have HG : Hid (trainR xs ss r = ⟨0, trainN xs r.toNat (seedCs xs ss)⟩) := if_pos (by rw [trainFault_seeds (unhide HF) (unhide H0) (unhide HM) hr, hall2, if_pos rfl])
              have HRN : Hid (r = ((r.toNat : Nat) : Int)) := by show r = ((r.toNat : Nat) : Int); omega
              clear hr hall2
              go_wp2_with fail
              rename World => wo
              go_loopw [2, 8] (fun i u wr => ∃ (m : Nat) (cur : List DCenter), m ≤ 20 ∧ i = .int .i64 m ∧ centersFault cur = 0 ∧ trainN xs m cur = trainN xs r.toNat (seedCs xs ss) ∧ (Lay.sl Lay.tCenter).LiesIn wr [u] cur w1.heap.size wr.heap.size ∧ Below w1.heap.size w1 wr) (fun i _ _ => (intOf i).toNat)
              case atStart => exact ⟨r.toNat, _, by omega, by rw [← unhide HRN], unhide HCF0, rfl, unhide HO0, unhide HBr⟩
              case round =>
                obtain ⟨m, cur, hm20, rfl, hcf, htn, hO, hB⟩ := hrel
                clear HO0 HBr
                by_cases hm0 : 0 < m
                · obtain ⟨m, rfl⟩ : ∃ q, m = q + 1 := ⟨m - 1, by omega⟩
                  have hmf := moved_right hcf (unhide HF)
                  have L := hide (specMove _ cur _ xs wr hO.reads ((unhide HX).later hB) hcf (unhide HF))
                  have HTN0 : Hid ((if cost cur xs ≤ cost (moved cur xs) xs then cur else trainN xs m (moved cur xs)) = trainN xs r.toNat (seedCs xs ss)) := htn
                  have HMF := hide hmf
                  have HCF := hide hcf
                  have HO := hide hO
                  have HBr := hide hB
                  have hwr := hB.size
                  have d3 : decide ((0 : Int) < (((m + 1 : Nat)) : Int)) = true := by simp
                  have d4 : decide ((0 : Int) < (m : Int) + 1) = true := by simp
                  clear htn hmf hcf hO hB hm0
                  go_wp2_with fail
                  refine (unhide L).mono ?_
                  rintro e w4 ⟨v4, rfl, O4, hb4⟩
                  have HX4 := hide (((unhide HX).later (unhide HBr)).later hb4)
                  have LC := hide (specCost _ (moved cur xs) _ xs w4 O4.reads (unhide HX4) (unhide HMF) (unhide HF))
                  have HO4 := hide O4
                  have HOc := hide (((unhide HO).later hb4).mono (Nat.le_refl _) hb4.size)
                  have HB4 := hide ((unhide HBr).trans (hb4.mono (unhide HBr).size))
                  clear L O4 hb4 HO HBr
                  go_wp2_with fail
                  refine (unhide LC).mono ?_
                  rintro e w5 ⟨rfl, hb5⟩
                  have LD := hide (specCost _ cur _ xs w5 ((unhide HOc).later hb5).reads ((unhide HX4).later hb5) (unhide HCF) (unhide HF))
                  have HO5 := hide ((((unhide HO4).later hb5).mono (Nat.le_refl _) hb5.size).mono (lo' := w1.heap.size) hwr (Nat.le_refl _))
                  replace HOc := hide (((unhide HOc).later hb5).mono (Nat.le_refl _) hb5.size)
                  have HB5 := hide ((unhide HB4).trans (hb5.mono (unhide HB4).size))
                  clear LC hb5 HO4 HB4 HX4
                  go_wp2_with fail
                  refine (unhide LD).mono ?_
                  rintro e w6 ⟨rfl, hb6⟩
                  have HO6 := hide (((unhide HO5).later hb6).mono (Nat.le_refl _) hb6.size)
                  replace HOc := hide (((unhide HOc).later hb6).mono (Nat.le_refl _) hb6.size)
                  have HB6 := hide ((unhide HB5).trans (hb6.mono (unhide HB5).size))
                  clear LD hb6 HO5 HB5
                  by_cases hc : cost cur xs ≤ cost (moved cur xs) xs
                  · have HTN : Hid (cur = trainN xs r.toNat (seedCs xs ss)) := by
                      have := unhide HTN0
                      rw [if_pos hc] at this
                      exact this
                    have hd9 : decide (cost cur xs ≤ cost (moved cur xs) xs) = true := by simpa using hc
                    clear hc HTN0 HO6
                    rename World => wr
                    have hO := unhide HOc
                    have hB := unhide HB6
                    clear HOc HB6
                    generalize cost cur xs = c1 at *
                    generalize cost (moved cur xs) xs = c2 at *
                    obtain ⟨a9, c9, rfl⟩ := open_sl hO.reads
                    have bR := (unhide HR).keep hB
                    have z0 : wr.cell? ⟨w.heap.size, 0, none⟩ = some (.int .i64 0) := bR.at 0 _ rfl
                    have z1 : wr.cell? ⟨w.heap.size, 1, none⟩ = some (.slice none 0 0) := bR.at 1 _ rfl
                    have f0 := bR.soft 0
                    have f1 := bR.soft 1
                    have l0 := bR.lt
                    have HB9 := hide ((unhide HB).trans (hB.mono (unhide HB).size))
                    have HO9 := hide hO
                    clear hO hB bR
                    generalize hm9 : cur.length = n9 at *
                    clear hm9
                    go_wp2_with fail
                    refine bodyPost_ret (v := .agg #[.int .i64 0, .slice a9 n9 c9]) (by simp [results, Try.results13, go_sem, z0, z1]) rfl ?_
                    have hE : Ext (fun c => c = w.heap.size) wr ((wr.setCell ⟨w.heap.size, 0, none⟩ (.int .i64 0)).setCell ⟨w.heap.size, 1, none⟩ (.slice a9 n9 c9)) := ((Ext.refl (fun c => c = w.heap.size) _).setCell ⟨w.heap.size, 0, none⟩ _ rfl).setCell ⟨w.heap.size, 1, none⟩ _ rfl
                    rw [unhide HG, ← unhide HTN]
                    exact ⟨[.int .i64 0, .slice a9 n9 c9], rfl, read_censR (by decide) (((unhide HO9).ext hE (fun c h1 _ h3 => by omega)).reads), ((unhide HB9).setCell (by simp) _).setCell (by simp) _⟩
                  · have HTN : Hid (trainN xs m (moved cur xs) = trainN xs r.toNat (seedCs xs ss)) := by
                      have := unhide HTN0
                      rw [if_neg hc] at this
                      exact this
                    have hd9 : decide (cost cur xs ≤ cost (moved cur xs) xs) = false := by simpa using hc
                    clear hc HTN0 HOc
                    generalize cost cur xs = c1 at *
                    generalize cost (moved cur xs) xs = c2 at *
                    go_wp2_with fail
                    go_roundw
                    case rel => exact ⟨m, moved cur xs, by omega, by go_num, unhide HMF, unhide HTN, unhide HO6, unhide HB6⟩
                    case measure => simp [intOf]
                · obtain rfl : m = 0 := by omega
                  have HTN : Hid (cur = trainN xs r.toNat (seedCs xs ss)) := htn
                  clear htn hcf
                  obtain ⟨a9, c9, rfl⟩ := open_sl hO.reads
                  have bR := (unhide HR).keep hB
                  have z0 : wr.cell? ⟨w.heap.size, 0, none⟩ = some (.int .i64 0) := bR.at 0 _ rfl
                  have z1 : wr.cell? ⟨w.heap.size, 1, none⟩ = some (.slice none 0 0) := bR.at 1 _ rfl
                  have f0 := bR.soft 0
                  have f1 := bR.soft 1
                  have l0 := bR.lt
                  have HB9 := hide ((unhide HB).trans (hB.mono (unhide HB).size))
                  have HO9 := hide hO
                  clear hO hB bR
                  generalize hm9 : cur.length = n9 at *
                  clear hm9
                  go_wp2_with fail
                  refine bodyPost_ret (v := .agg #[.int .i64 0, .slice a9 n9 c9]) (by simp [results, Try.results13, go_sem, z0, z1]) rfl ?_
                  have hE : Ext (fun c => c = w.heap.size) wr ((wr.setCell ⟨w.heap.size, 0, none⟩ (.int .i64 0)).setCell ⟨w.heap.size, 1, none⟩ (.slice a9 n9 c9)) := ((Ext.refl (fun c => c = w.heap.size) _).setCell ⟨w.heap.size, 0, none⟩ _ rfl).setCell ⟨w.heap.size, 1, none⟩ _ rfl
                  rw [unhide HG, ← unhide HTN]
                  exact ⟨[.int .i64 0, .slice a9 n9 c9], rfl, read_censR (by decide) (((unhide HO9).ext hE (fun c h1 _ h3 => by omega)).reads), ((unhide HB9).setCell (by simp) _).setCell (by simp) _⟩
  · have HG := hide (trainR_code (trainFault_tab hf ss r) hf)
    have hd : (tableFault xs != 0) = true := by simpa using hf
    clear hf
    have bR := unhide HR
    have z0 : w1.cell? ⟨w.heap.size, 0, none⟩ = some (.int .i64 0) := bR.at 0 _ rfl
    have z1 : w1.cell? ⟨w.heap.size, 1, none⟩ = some (.slice none 0 0) := bR.at 1 _ rfl
    have f0 := bR.soft 0
    have f1 := bR.soft 1
    have l0 := bR.lt
    clear bR
    go_wp2_with fail
    refine bodyPost_ret (v := .agg #[.int .i64 (tableFault xs), .slice none 0 0]) (by simp [results, Try.results13, go_sem, z0, z1]) rfl ?_
    rw [unhide HG]
    exact ⟨[.int .i64 (tableFault xs), .slice none 0 0], rfl, (own_codeCens (lo := 0) (hi := 0) (wf_of_bd (by have := tableFault_bd xs; omega))).reads, ((unhide HB).setCell (by simp) _).setCell (by simp) _⟩

end Go.Proofs.Ytjofcmdlcoganaa

namespace Go.Proofs.Ytjofcmdlcoganaa
open Go.RowKit

theorem szsum_Center (x : DCenter) : Lay.tCenter.sz x = (Lay.sl Lay.int).sz x.vec := by
  show (Lay.sl Lay.int).sz x.vec = (Lay.sl Lay.int).sz x.vec
  omega
set_option maxRecDepth 10000 in
set_option maxHeartbeats 1000000 in
theorem sz_Center (cs : List Value) (x : DCenter) (l : Nat) (w : World) (h : Lay.tCenter.Reads w cs x) (hl : l ≤ 1048576) :
    Calls Try.prog 60 #[.agg cs.toArray, .int .i64 l] w fun e w' => e = .returned (.int .i64 (szR l (Lay.tCenter.sz x))) ∧ Below w.heap.size w w' := by
  obtain ⟨a0, d0, rfl, R0⟩ := open_Center h
  clear h
  have HB0 : Below w.heap.size w (w.alloc (.cells #[.slice a0 x.vec.length d0] 83)) := (Below.refl _ _).alloc (Nat.le_refl _) _
  have bA : Box w.heap.size #[.slice a0 x.vec.length d0] 83 (w.alloc (.cells #[.slice a0 x.vec.length d0] 83)) w.heap.size := newBox (Nat.le_refl _)
  have HV := hide (szsum_Center x)
  go_enter Try.func60, Try.ntmps60
  go_wp2_with fail
  generalize w.alloc (.cells #[.slice a0 x.vec.length d0] 83) = W0 at *
  replace R0 := R0.later HB0
  refine (sz_Int64S _ x.vec (l) _ R0 (by omega)).mono ?_
  rintro e w1 ⟨rfl, hb⟩
  replace HB0 := HB0.trans (hb.mono HB0.size)
  replace bA := bA.keep hb
  clear hb R0
  by_cases hs0 : (Lay.sl Lay.int).sz x.vec ≤ l
  · rw [szR_ok hs0]
    have hq : decide (((l - (Lay.sl Lay.int).sz x.vec : Nat) : Int) < 0) = false := by simp
    have HX := hide HB0
    have HA := hide bA
    clear HB0 bA
    go_wp2_with fail
    clear hq
    go_ret
    refine ⟨?_, unhide HX⟩
    rw [unhide HV, szR_ok (by omega), show l - ((Lay.sl Lay.int).sz x.vec) = l - (Lay.sl Lay.int).sz x.vec by omega]
    rfl
  · rw [szR_many (by omega)]
    have HX := hide HB0
    clear HB0 bA
    go_wp2_with fail
    go_ret
    refine ⟨?_, unhide HX⟩
    rw [unhide HV, szR_many (by omega)]
    rfl

end Go.Proofs.Ytjofcmdlcoganaa

namespace Go.Proofs.Ytjofcmdlcoganaa
open Go.RowKit

set_option maxRecDepth 10000 in
set_option maxHeartbeats 1000000 in
theorem sz_CenterS (v : Value) (xs : List DCenter) (l : Nat) (w : World) (h : (Lay.sl Lay.tCenter).Reads w [v] xs) (hl : l ≤ 1048576) :
    Calls Try.prog 20 #[v, .int .i64 l] w fun e w' => e = .returned (.int .i64 (szR l ((Lay.sl Lay.tCenter).sz xs))) ∧ Below w.heap.size w w' := by
  have hbig := h.big
  obtain ⟨ao, cap, rfl⟩ := open_sl h
  have HV : Hid ((Lay.sl Lay.tCenter).sz xs = xs.length + cntAll Lay.tCenter.sz xs) := rfl
  by_cases hn : xs.length ≤ l
  · have e1 : (l : Int) - (xs.length : Int) = ((l - xs.length : Nat) : Int) := by omega
    have e2 : decide (((l - xs.length : Nat) : Int) < 0) = false := by simp
    by_cases hp : 0 < xs.length
    · obtain ⟨b, off, rfl, hbl⟩ := Lay.sl_addr h hp
      have H := hide h
      clear h
      go_enter Try.func20, Try.ntmps20
      go_wp2_with fail
      go_loopw [1, 5] (fun lf i wr => ∃ k s : Nat, k ≤ xs.length ∧ i = .int .i64 k ∧ s = cntAll Lay.tCenter.sz (xs.take k) ∧ xs.length + s ≤ l ∧ lf = .int .i64 ((l - (xs.length + s) : Nat) : Int) ∧ Below w.heap.size w wr) (fun _ i _ => xs.length - (intOf i).toNat)
      case atStart => exact ⟨0, 0, Nat.zero_le _, rfl, rfl, by omega, by simp, Below.refl _ _⟩
      case round =>
        obtain ⟨k, s, hk, rfl, hs, hsl, rfl, hB⟩ := hrel
        have HS := hide hs
        clear hs e1 e2
        by_cases hlt : k < xs.length
        · obtain ⟨row, hc, hr⟩ := Lay.row_at (unhide H) hlt
          replace hr := hr.later hB
          have hr2 := hr
          obtain ⟨a0, d0, rfl, -⟩ := open_Center hr2
          have c0 : wr.cell? ⟨b, off + k, none⟩ = some (.slice a0 (xs[k]).vec.length d0) := (hB.cell (p := ⟨b, off + k, none⟩) hbl).trans (by have q1 : w.cell? ⟨b, off + k * 1 + 0, none⟩ = some (.slice a0 (xs[k]).vec.length d0) := hc 0 (by decide); rw [Nat.mul_one, Nat.add_zero] at q1; exact q1)
          have HB := hide hB
          have HR := hide hr
          have HT := hide (Lay.cntAll_take (f := Lay.tCenter.sz) hlt)
          have HL := hide (Lay.cntAll_take_le (f := Lay.tCenter.sz) (xs := xs) (k := k + 1))
          clear hB hr hc
          generalize hxk : xs[k] = x at *
          clear hxk
          go_wp2_with fail
          refine (sz_Center _ x (l - (xs.length + s)) wr (unhide HR) (by omega)).mono ?_
          rintro e w2 ⟨rfl, hb⟩
          replace HB := hide ((unhide HB).trans (hb.mono (unhide HB).size))
          clear hb HR c0
          have ht := unhide HT
          rw [← unhide HS] at ht
          have hle := unhide HL
          rw [ht] at hle
          have HQ := hide ht
          by_cases hq : xs.length + s + Lay.tCenter.sz x ≤ l
          · rw [szR_ok (by omega)]
            have e3 : l - (xs.length + s) - Lay.tCenter.sz x = l - (xs.length + (s + Lay.tCenter.sz x)) := by omega
            rw [e3]
            have e4 : decide (((l - (xs.length + (s + Lay.tCenter.sz x)) : Nat) : Int) < 0) = false := by simp
            clear ht hle e3
            generalize hz : s + Lay.tCenter.sz x = s2 at *
            have hs2 : xs.length + s2 ≤ l := by omega
            clear hz hq
            go_wp2_with fail
            go_roundw
            case rel => exact ⟨k + 1, s2, by omega, by go_num, (unhide HQ).symm, hs2, rfl, unhide HB⟩
            case measure => simp [intOf]; omega
          · rw [szR_many (by omega)]
            have HN : Hid (l < xs.length + cntAll Lay.tCenter.sz xs) := by
              show l < xs.length + cntAll Lay.tCenter.sz xs
              omega
            clear ht hle
            go_wp2_with fail
            go_ret
            refine ⟨?_, unhide HB⟩
            rw [unhide HV, szR_many (unhide HN)]
            rfl
        · obtain rfl : k = xs.length := by omega
          have HE : Hid (s = cntAll Lay.tCenter.sz xs) := by
            have := unhide HS
            rw [List.take_length] at this
            exact this
          have HB := hide hB
          clear hB HS
          go_wp2_with fail
          go_ret
          refine ⟨?_, unhide HB⟩
          rw [unhide HV, ← unhide HE, szR_ok hsl]
          rfl
    · obtain rfl : xs = [] := List.eq_nil_of_length_eq_zero (by omega)
      clear h hp
      rw [unhide HV]
      simp only [List.length_nil, cntAll, Nat.add_zero, Nat.sub_zero] at *
      rw [szR_ok (Nat.zero_le _)]
      have e3 : decide ((l : Int) < 0) = false := by simp
      go_enter Try.func20, Try.ntmps20
      go_wp2_with fail
      refine wp_loop_rounds 1 ?_
      rw [rounds_succ]
      go_wp2_with fail
      go_ret
      exact ⟨by simp, Below.refl _ _⟩
  · have HN : Hid (szR l ((Lay.sl Lay.tCenter).sz xs) = -1) := szR_many (by rw [unhide HV]; omega)
    rw [unhide HN]
    have e2 : decide ((l : Int) - (xs.length : Int) < 0) = true := by simp; omega
    clear h HV HN
    generalize xs.length = n at *
    go_enter Try.func20, Try.ntmps20
    go_wp2_with fail
    go_ret
    exact ⟨rfl, Below.refl _ _⟩

end Go.Proofs.Ytjofcmdlcoganaa

namespace Go.Proofs.Ytjofcmdlcoganaa
open Go.RowKit

set_option maxRecDepth 10000 in
set_option maxHeartbeats 2000000 in
theorem to_Center (cs : List Value) (x : DCenter) (w : World) (h : Lay.tCenter.Reads w cs x) (hn : Lay.tCenter.sz x ≤ 1048576) :
    Calls Try.prog 62 #[.agg cs.toArray] w fun e w' => ∃ cs', e = .returned (.agg cs'.toArray) ∧ Lay.tCenter.OwnIn w' cs' x w.heap.size w'.heap.size ∧ Below w.heap.size w w' := by
  obtain ⟨a0, d0, rfl, R0⟩ := open_Center h
  clear h
  rw [szsum_Center] at hn
  have HB0 : Below w.heap.size w (((w.alloc (.cells #[.slice a0 x.vec.length d0] 83)).alloc (.cells #[.slice none 0 0] 77)).alloc (.cells #[.slice none 0 0] 77)) := (((Below.refl _ _).alloc (Nat.le_refl _) _).alloc (by simp) _).alloc (by simp; omega) _
  have bA : Box w.heap.size #[.slice a0 x.vec.length d0] 83 (((w.alloc (.cells #[.slice a0 x.vec.length d0] 83)).alloc (.cells #[.slice none 0 0] 77)).alloc (.cells #[.slice none 0 0] 77)) w.heap.size := ((newBox (Nat.le_refl _)).grow _).grow _
  have bR : Box w.heap.size #[.slice none 0 0] 77 (((w.alloc (.cells #[.slice a0 x.vec.length d0] 83)).alloc (.cells #[.slice none 0 0] 77)).alloc (.cells #[.slice none 0 0] 77)) (w.heap.size + 1) := (newBoxAt (by omega) (by simp)).grow _
  have bX : Box w.heap.size #[.slice none 0 0] 77 (((w.alloc (.cells #[.slice a0 x.vec.length d0] 83)).alloc (.cells #[.slice none 0 0] 77)).alloc (.cells #[.slice none 0 0] 77)) (w.heap.size + 2) := newBoxAt (by omega) (by simp)
  have hz0 : w.heap.size + 3 ≤ (((w.alloc (.cells #[.slice a0 x.vec.length d0] 83)).alloc (.cells #[.slice none 0 0] 77)).alloc (.cells #[.slice none 0 0] 77)).heap.size := by simp
  go_enter Try.func62, Try.ntmps62
  go_wp2_with fail
  generalize ((w.alloc (.cells #[.slice a0 x.vec.length d0] 83)).alloc (.cells #[.slice none 0 0] 77)).alloc (.cells #[.slice none 0 0] 77) = W0 at *
  replace R0 := R0.later HB0
  refine (to_Int64S _ x.vec W0 R0 (by omega)).mono ?_
  rintro e w1 ⟨v0, rfl, O0, hb⟩
  have Z0 : W0.heap.size ≤ w1.heap.size := hb.size
  replace HB0 := HB0.trans (hb.mono HB0.size)
  replace bA := bA.keep hb
  replace bR := bR.keep hb
  replace bX := bX.keep hb
  clear hb R0
  obtain ⟨a0z, d0z, rfl⟩ := open_sl O0.reads
  have q0 := bX.at 0 _ rfl
  have qf := bX.soft
  have ql := bX.lt
  have pl := bA.lt
  have r0 := bR.at 0 _ rfl
  have rf := bR.soft
  have rl := bR.lt
  simp only [List.getElem_toArray, List.getElem_cons_zero] at q0 r0
  have hA := hide bA
  have hR := hide bR
  have hX := hide bX
  have hB := hide HB0
  clear bA bR bX HB0
  have hO0 := hide O0
  clear O0
  go_wp2_with fail
  refine bodyPost_ret (v := .agg #[.slice a0z x.vec.length d0z]) (by simp [results, Try.results62, go_sem, r0]) rfl ?_
  have E : Ext (fun q => q = w.heap.size + 2 ∨ q = w.heap.size + 1) w1 _ := ext_setL (ext_setL (Ext.refl _ _) (w.heap.size + 2) [(0, .slice a0z x.vec.length d0z)] (Or.inl rfl)) (w.heap.size + 1) [(0, .slice a0z x.vec.length d0z)] (Or.inr rfl)
  have own : Lay.tCenter.OwnIn _ [.slice a0z x.vec.length d0z] x W0.heap.size w1.heap.size := ((unhide hO0).ext E (fun k h1 h2 h3 => by omega))
  have hsz := E.size
  have told := Lay.toldOwn (w := w) own (by omega) (by omega) ((unhide hB).trans (E.below (unhide hB).size (fun k h1 h2 => by omega)))
  exact told

end Go.Proofs.Ytjofcmdlcoganaa
