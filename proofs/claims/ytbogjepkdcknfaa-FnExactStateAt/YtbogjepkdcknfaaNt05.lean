/-
  Texts of this proof in one: SpecNCopy, AppItem, SpecCopy, SpecSet, SpecSet2, SpecTab, SpecAt4, SpecAt, SpecAsk, SpecApply, SpecTOf, SpecStateAt, TickMap, ToldPlain, ImplTell, VecOf.
  Their conditions stand in their theorems.
-/
import Derived.Test.YtbogjepkdcknfaaNt03
import Derived.Test.YtbogjepkdcknfaaNt04
import Derived.Test.YtbogjepkdcknfaaChecked
import Derived.Test.YtbogjepkdcknfaaNt01
import Derived.Deep.RegionHeld3
import Derived.Test.YtbogjepkdcknfaaNt02
import Derived.BigQuiet
import Derived.Deep.QuietTactic
import Derived.Maps.OwnSet
import Derived.DeepKeys4
import Derived.WalkSmall
import Derived.Outline

namespace Go.Proofs.Ytbogjepkdcknfaa
open Go.RowKit

theorem node_vecs9 {x : DNode} (h : NodeOK x) : ∀ y ∈ x.writes, y.vec.length ≤ 100000000 := fun y hy => by
  obtain ⟨-, -, -, hk⟩ := writeFault_zero (h.ws y hy)
  rcases hk with ⟨-, hv⟩ | ⟨-, hv⟩
  · have := (vecFault_zero hv).1; omega
  · rw [hv]; simp
set_option maxRecDepth 10000 in
set_option maxHeartbeats 2000000 in
theorem ncopyC (cs : List Value) (x : DNode) (w : World) (h : Lay.tNode.Reads w cs x) (hn : x.writes.length ≤ 1000000) (hv : ∀ y ∈ x.writes, y.vec.length ≤ 100000000) :
    Calls Try.prog 45 #[.agg cs.toArray] w fun e w' => ∃ a6 d6, e = .returned (.agg #[.int .i64 x.id, .bool x.up, .int .i64 x.epoch, .int .i64 x.lease, .slice a6 x.writes.length d6, .int .i64 x.sure, .int .i64 x.clean]) ∧ (Lay.sl Lay.tWrite).LiesIn w' [.slice a6 x.writes.length d6] x.writes w.heap.size w'.heap.size ∧ Below w.heap.size w w' := by
  obtain ⟨a4, d4, rfl, R4⟩ := open_Node h
  have nb : Below w.heap.size w ((w.alloc (.cells #[.int .i64 x.id, .bool x.up, .int .i64 x.epoch, .int .i64 x.lease, .slice a4 x.writes.length d4, .int .i64 x.sure, .int .i64 x.clean] 29)).alloc (.cells #[.int .i64 0, .bool false, .int .i64 0, .int .i64 0, .slice none 0 0, .int .i64 0, .int .i64 0] 29)) := ((Below.refl _ _).alloc (Nat.le_refl _) _).alloc (by simp) _
  have bX : Box 0 #[.int .i64 x.id, .bool x.up, .int .i64 x.epoch, .int .i64 x.lease, .slice a4 x.writes.length d4, .int .i64 x.sure, .int .i64 x.clean] 29 ((w.alloc (.cells #[.int .i64 x.id, .bool x.up, .int .i64 x.epoch, .int .i64 x.lease, .slice a4 x.writes.length d4, .int .i64 x.sure, .int .i64 x.clean] 29)).alloc (.cells #[.int .i64 0, .bool false, .int .i64 0, .int .i64 0, .slice none 0 0, .int .i64 0, .int .i64 0] 29)) w.heap.size := (newBox (Nat.zero_le _)).grow _
  have bR : Box 0 #[.int .i64 0, .bool false, .int .i64 0, .int .i64 0, .slice none 0 0, .int .i64 0, .int .i64 0] 29 ((w.alloc (.cells #[.int .i64 x.id, .bool x.up, .int .i64 x.epoch, .int .i64 x.lease, .slice a4 x.writes.length d4, .int .i64 x.sure, .int .i64 x.clean] 29)).alloc (.cells #[.int .i64 0, .bool false, .int .i64 0, .int .i64 0, .slice none 0 0, .int .i64 0, .int .i64 0] 29)) (w.heap.size + 1) := newBoxAt (Nat.zero_le _) (by simp)
  have HL := hide (wcopyC _ x.writes _ (R4.later nb) (by omega) hv)
  have HX := hide bX
  have HR := hide bR
  have HB := hide nb
  clear h nb bX bR R4 hv
  go_enter Try.func45, Try.ntmps45
  go_wp2_with fail
  generalize (w.alloc (.cells #[.int .i64 x.id, .bool x.up, .int .i64 x.epoch, .int .i64 x.lease, .slice a4 x.writes.length d4, .int .i64 x.sure, .int .i64 x.clean] 29)).alloc (.cells #[.int .i64 0, .bool false, .int .i64 0, .int .i64 0, .slice none 0 0, .int .i64 0, .int .i64 0] 29) = W0 at *
  refine (unhide HL).mono ?_
  rintro e w1 ⟨v6, rfl, ⟨rows, bls, hG, hS⟩, hb⟩
  have hl := hG.toLies (by omega) hS
  obtain ⟨a6, d6, rfl⟩ := open_sl hl.reads
  have bX1 := (unhide HX).keep hb
  have bR1 := (unhide HR).keep hb
  have hlo := (unhide HR).lt
  have y0 := Box.at bX1 0 _ rfl
  have y1 := Box.at bX1 1 _ rfl
  have y2 := Box.at bX1 2 _ rfl
  have y3 := Box.at bX1 3 _ rfl
  have y4 := Box.at bX1 4 _ rfl
  have y5 := Box.at bX1 5 _ rfl
  have y6 := Box.at bX1 6 _ rfl
  simp only [List.getElem_toArray, List.getElem_cons_zero, List.getElem_cons_succ] at y0 y1 y2 y3 y4 y5 y6
  have z0 := Box.at bR1 0 _ rfl
  have z1 := Box.at bR1 1 _ rfl
  have z2 := Box.at bR1 2 _ rfl
  have z3 := Box.at bR1 3 _ rfl
  have z4 := Box.at bR1 4 _ rfl
  have z5 := Box.at bR1 5 _ rfl
  have z6 := Box.at bR1 6 _ rfl
  simp only [List.getElem_toArray, List.getElem_cons_zero, List.getElem_cons_succ] at z0 z1 z2 z3 z4 z5 z6
  have yf := Box.soft bX1
  have yl := Box.lt bX1
  have ff := Box.soft bR1
  have l0 := Box.lt bR1
  have HB1 := hide ((unhide HB).trans (hb.mono (unhide HB).size))
  have HO1 := hide hl
  clear hb hG hS hl bX1 bR1 HL HX HR HB
  go_wp2_with fail
  refine bodyPost_ret (v := .agg #[.int .i64 x.id, .bool x.up, .int .i64 x.epoch, .int .i64 x.lease, .slice a6 x.writes.length d6, .int .i64 x.sure, .int .i64 x.clean]) (by simp [results, Try.results45, go_sem, z0, z1, z2, z3, z4, z5, z6]) rfl ?_
  have hB8 : Below w.heap.size w (w1.setCell ⟨w.heap.size, 4, none⟩ (.slice a6 x.writes.length d6)) := (unhide HB1).setCell (by simp) _
  have hB9 := below_setAll hB8 (w.heap.size + 1) 0 [.int .i64 x.id, .bool x.up, .int .i64 x.epoch, .int .i64 x.lease, .slice a6 x.writes.length d6, .int .i64 x.sure, .int .i64 x.clean] (by omega)
  have e1 : Ext (fun q => q = w.heap.size) w1 (w1.setCell ⟨w.heap.size, 4, none⟩ (.slice a6 x.writes.length d6)) := (Ext.refl (fun q => q = w.heap.size) _).setCell ⟨w.heap.size, 4, none⟩ _ rfl
  have o1 := (unhide HO1).ext e1 (fun q h1 h2 h3 => by omega)
  have o2 := lies_store' (s := w.heap.size + 1) (vs := [.int .i64 x.id, .bool x.up, .int .i64 x.epoch, .int .i64 x.lease, .slice a6 x.writes.length d6, .int .i64 x.sure, .int .i64 x.clean]) o1 (by omega)
  have hz := size_setAll (w1.setCell ⟨w.heap.size, 4, none⟩ (.slice a6 x.writes.length d6)) (w.heap.size + 1) 0 [.int .i64 x.id, .bool x.up, .int .i64 x.epoch, .int .i64 x.lease, .slice a6 x.writes.length d6, .int .i64 x.sure, .int .i64 x.clean]
  refine ⟨a6, d6, rfl, o2.mono (by omega) ?_, hB9⟩
  refine Nat.le_trans ?_ (Nat.le_of_eq hz.symm)
  simp
end Go.Proofs.Ytbogjepkdcknfaa

namespace Go.Proofs.Ytbogjepkdcknfaa
open Go.RowKit

theorem infoAppItem : (Try.prog.info? 104).map (fun i => (i.zero, i.size, i.bytes)) = some (some (.agg #[.int .i64 0, .slice none 0 0]), 2, 32) := by kernel_rfl
theorem one_Item {w : World} {row : List Value} {x : DItem} {bl : List Nat} (h : Lay.tItem.lies w row x bl) : (∀ u ∈ row, u.oneCell' = true) ∧ row.length = 1 * 2 := by
  obtain ⟨_, _, _, rfl, -⟩ := lies_Item.1 h
  simp [Value.oneCell']

/-- At an operation of a plain region: the new one lies in a block of its own. -/
theorem wpList_append_Item {w1 : World} {base : Nat} {v : Value} {rows : List (List Value)} {xs : List DItem} {bls : List (List Nat)} (hG : Grow Lay.tItem w1 base 104 v rows xs bls) {row : List Value} {x : DItem} {bl : List Nat} (hl : Lay.tItem.lies w1 row x bl) (hbl : ∀ b ∈ bl, v.ownBlock ≠ some b) {ops : Array Oper} {rest : List Oper} {o : Oper} {a : Act} {Q : Exit → Act → World → Prop} (hgd : o.guard = none) (s y : Operand)
    (ho : o.op = .call { callee := .builtin .append, args := #[s, y], argTypes := #[44, 44] }) (hs : a.eval s = v) (hy : a.eval y = .slice (some ⟨w1.heap.size, 0, none⟩) 1 1) (hn : xs.length + 1 ≤ 100000000) (hbase : base ≤ w1.heap.size)
    (h : ∀ g cap w', Grow Lay.tItem w' base 104 (.slice (some ⟨g, 0, none⟩) (xs.length + 1) cap) (rows ++ [row]) (xs ++ [x]) (bls ++ [bl]) → Below base w1 w' → Ext (fun q => v.ownBlock = some q) w1 w' → g < w'.heap.size → w1.heap.size ≤ w'.heap.size → (v.ownBlock = some g ∨ w1.heap.size ≤ g) → wpList Try.prog ops Q rest (a.put o.dst (.slice (some ⟨g, 0, none⟩) (xs.length + 1) cap)) w') :
    wpList Try.prog ops Q (o :: rest) a (w1.alloc (.cells row.toArray 104)) := by
  obtain ⟨i0, hi0, hz0, hz1, hz2⟩ := info_parts infoAppItem
  obtain ⟨h1, hlen⟩ := one_Item hl
  refine wpList_append_lies _ hgd s y 44 ho base 104 i0 _ 2 32 Try.underlying44 hi0 hz0 hz1 hz2 rfl (by omega) v xs.length rows.flatten hs (hG.own.alloc _) ⟨w1.heap.size, 0, none⟩ 1 1 row hy hlen (World.news_of_block (cs := row.toArray) (t := 104) (fr := (0, 0)) (heap_alloc_new w1 _)) h1 (by omega) (by unfold maxLen; omega) (by omega) (by simp; omega) (w1.alloc (.cells row.toArray 104)).heap.size rfl ?_
  intro g cap w' h2 h3 h4 h5
  have hg := grown_alloc h3
  have hbw : Below base w1 w' := (Below.refl _ _).grown hg hbase (fun j hj => (hG.own.lt j hj).1)
  have hor : v.ownBlock = some g ∨ w1.heap.size ≤ g := by
    rcases h4 with h4 | h4
    · exact Or.inl h4
    · exact Or.inr (by rw [h4]; simp)
  exact h g cap w' (hG.snoc hl hbl h2 hg hor) hbw ⟨hbw.os, hbw.tape, hbw.output, hbw.size, fun k hk hn => hg.block k hk (fun e => hn e.symm)⟩ h5 hbw.size hor

/-- At a step of a region that draws its order. -/
theorem step_append_Item {w1 : World} {base : Nat} {v : Value} {rows : List (List Value)} {xs : List DItem} {bls : List (List Nat)} (hG : Grow Lay.tItem w1 base 104 v rows xs bls) {row : List Value} {x : DItem} {bl : List Nat} (hl : Lay.tItem.lies w1 row x bl) (hbl : ∀ b ∈ bl, v.ownBlock ≠ some b) {ops : Array Oper} {o : Oper} {a : Act} {K : Act → World → Prop} {Q : Exit → Act → World → Prop} {E : Prop} (hgd : o.guard = none) (s y : Operand)
    (ho : o.op = .call { callee := .builtin .append, args := #[s, y], argTypes := #[44, 44] }) (hs : a.eval s = v) (hy : a.eval y = .slice (some ⟨w1.heap.size, 0, none⟩) 1 1) (hn : xs.length + 1 ≤ 100000000) (hbase : base ≤ w1.heap.size)
    (h : ∀ g cap w', Grow Lay.tItem w' base 104 (.slice (some ⟨g, 0, none⟩) (xs.length + 1) cap) (rows ++ [row]) (xs ++ [x]) (bls ++ [bl]) → Below base w1 w' → Ext (fun q => v.ownBlock = some q) w1 w' → g < w'.heap.size → w1.heap.size ≤ w'.heap.size → (v.ownBlock = some g ∨ w1.heap.size ≤ g) → K (a.put o.dst (.slice (some ⟨g, 0, none⟩) (xs.length + 1) cap)) w') :
    if Region.wanted o (yielded ops a.tmps) = true then Oper.wp Try.prog o a (w1.alloc (.cells row.toArray 104)) K Q else E := by
  obtain ⟨i0, hi0, hz0, hz1, hz2⟩ := info_parts infoAppItem
  obtain ⟨h1, hlen⟩ := one_Item hl
  refine step_append_lies _ hgd s y 44 ho base 104 i0 _ 2 32 Try.underlying44 hi0 hz0 hz1 hz2 rfl (by omega) v xs.length rows.flatten hs (hG.own.alloc _) ⟨w1.heap.size, 0, none⟩ 1 1 row hy hlen (World.news_of_block (cs := row.toArray) (t := 104) (fr := (0, 0)) (heap_alloc_new w1 _)) h1 (by omega) (by unfold maxLen; omega) (by omega) (by simp; omega) (w1.alloc (.cells row.toArray 104)).heap.size rfl ?_
  intro g cap w' h2 h3 h4 h5
  have hg := grown_alloc h3
  have hbw : Below base w1 w' := (Below.refl _ _).grown hg hbase (fun j hj => (hG.own.lt j hj).1)
  have hor : v.ownBlock = some g ∨ w1.heap.size ≤ g := by
    rcases h4 with h4 | h4
    · exact Or.inl h4
    · exact Or.inr (by rw [h4]; simp)
  exact h g cap w' (hG.snoc hl hbl h2 hg hor) hbw ⟨hbw.os, hbw.tape, hbw.output, hbw.size, fun k hk hn => hg.block k hk (fun e => hn e.symm)⟩ h5 hbw.size hor

end Go.Proofs.Ytbogjepkdcknfaa

namespace Go.Proofs.Ytbogjepkdcknfaa
open Go.RowKit

set_option maxRecDepth 100000 in
set_option maxHeartbeats 4000000 in
theorem specCopy_pos (b off cap : Nat) (xs : List DItem) (w : World) (h : (Lay.sl Lay.tItem).Reads w [.slice (some ⟨b, off, none⟩) xs.length cap] xs) (hbl : b < w.heap.size) (hn : xs.length ≤ 10000000) (hv : ∀ x ∈ xs, x.vec.length ≤ 100000000) :
    Calls Try.prog 97 #[.slice (some ⟨b, off, none⟩) xs.length cap] w fun e w' => ∃ v', e = .returned v' ∧ (∃ rows bls, Grow Lay.tItem w' w.heap.size 104 v' rows xs bls ∧ ∀ c ∈ bls.flatten, w.heap.size ≤ c) ∧ Below w.heap.size w w' := by
  have H := hide h
  have HV := hide hv
  clear h hv
  have G0 : Grow Lay.tItem (w.alloc (.cells #[] 104)) w.heap.size 104 (.slice (some ⟨w.heap.size, 0, none⟩) 0 0) [] [] [] := Grow.nil (World.ownsRow_lit w #[] 0 (Nat.le_refl _) (Nat.zero_le _) rfl)
  have HG := hide G0
  have HB0 := hide ((Below.refl w.heap.size w).alloc (Nat.le_refl _) (.cells #[] 104))
  clear G0
  go_enter Try.func97, Try.ntmps97
  go_wp2_with fail
  go_loopw [3, 4] (fun v i wr => ∃ (k : Nat) (rows : List (List Value)) (bls : List (List Nat)), k ≤ xs.length ∧ i = .int .i64 k ∧ Grow Lay.tItem wr w.heap.size 104 v rows (xs.take k) bls ∧ (∀ c ∈ bls.flatten, w.heap.size ≤ c) ∧ Below w.heap.size w wr) (fun _ i _ => xs.length - (intOf i).toNat)
  case atStart => exact ⟨0, [], [], Nat.zero_le _, rfl, unhide HG, by simp, unhide HB0⟩
  case round =>
    obtain ⟨k, rows, bls, hk, rfl, hG, hS, hB⟩ := hrel
    have HS := hide hS
    clear hS
    clear HG HB0
    by_cases hlt : k < xs.length
    · obtain ⟨row, hc, hr⟩ := Lay.row_at (unhide H) hlt
      have hr2 := hr
      obtain ⟨a1, d1, rfl, R1⟩ := open_Item hr
      have c0 : w.cell? ⟨b, off + k * 2, none⟩ = some (.int .i64 (xs[k]).id) := hc 0 (by decide)
      have c1 : w.cell? ⟨b, off + k * 2 + 1, none⟩ = some (.slice a1 (xs[k]).vec.length d1) := hc 1 (by decide)
      have hwi : (Lit.int .i64 xs[k].id).wf = true := by obtain ⟨_, hq⟩ := hr2; obtain ⟨_, _, _, _, _, q, _⟩ := lies_Item.1 hq; exact q
      have HT : Hid (xs.take (k + 1) = xs.take k ++ [xs[k]]) := List.take_succ_eq_append_getElem hlt
      have HL : Hid ((xs.take k).length = k) := by show (xs.take k).length = k; rw [List.length_take]; omega
      have HN := hide (unhide HV xs[k] (List.getElem_mem hlt))
      clear hc hr hr2
      generalize hx : xs[k] = x at *
      clear hx
      have HW := hide (Lay.ints_reads R1).wf
      have HR := hide R1
      have HI := hide hwi
      have HB := hide hB
      have HK : Hid ((xs.take k).length + 1 ≤ 100000000) := by show (xs.take k).length + 1 ≤ 100000000; rw [unhide HL]; omega
      have hGD : Grow Lay.tItem wr.drew w.heap.size 104 u3 rows (xs.take k) bls := hG.later (below_drawn (Below.refl _ _) 1)
      have HDZ : Hid (wr.heap.size ≤ wr.drew.heap.size) := Nat.le_refl _
      clear R1 hwi hB hG
      have i1 : (0 : Int) ≤ (k : Int) := by omega
      have i2 : (k : Int) < (xs.length : Int) := by omega
      go_wp2_with fail
      refine wp_region_noPanic ?_
      refine wp_region_held_drew (S := fun w' => Below w.heap.size w w') (by kernel_rfl) (unhide HB).drew (fun hHeld => ?_)
      generalize wr.drew = wD at hHeld hGD HDZ ⊢
      refine wpAnyH_take (i := 0) (oi := { dst := some 12, op := Go.Op.move (Go.Operand.tmp 3), type := 44, pos := "l04_table.go:30", after := #[], guard := none }) (v := ?v0) rfl (by kernel_rfl) (by kernel_rfl) (by kernel_rfl) (fun _ _ _ h => h) (Or.inl ⟨by rfl, ?h0⟩) hHeld ?r0
      case h0 =>
        intro wS hSw
        (try dsimp only at hSw)
        go_simp
        try with_reducible rfl
      case r0 =>
      simp only [Act.put, List.setIfInBounds_toArray, List.set_cons_zero, List.set_cons_succ]
      refine wpAnyH_take (i := 1) (oi := { dst := some 13, op := Go.Op.move (Go.Operand.tmp 0), type := 44, pos := "l04_table.go:30", after := #[], guard := none }) (v := ?v1) rfl (by kernel_rfl) (by kernel_rfl) (by kernel_rfl) (fun _ _ _ h => h) (Or.inl ⟨by rfl, ?h1⟩) hHeld ?r1
      case h1 =>
        intro wS hSw
        (try dsimp only at hSw)
        go_simp
        try with_reducible rfl
      case r1 =>
      simp only [Act.put, List.setIfInBounds_toArray, List.set_cons_zero, List.set_cons_succ]
      refine wpAnyH_take (i := 2) (oi := { dst := some 14, op := Go.Op.move (Go.Operand.tmp 4), type := 3, pos := "l04_table.go:30", after := #[], guard := none }) (v := ?v2) rfl (by kernel_rfl) (by kernel_rfl) (by kernel_rfl) (fun _ _ _ h => h) (Or.inl ⟨by rfl, ?h2⟩) hHeld ?r2
      case h2 =>
        intro wS hSw
        (try dsimp only at hSw)
        go_simp
        try with_reducible rfl
      case r2 =>
      simp only [Act.put, List.setIfInBounds_toArray, List.set_cons_zero, List.set_cons_succ]
      refine wpAnyH_take (i := 3) (oi := { dst := some 15, op := Go.Op.indexAddr 44 (Go.Operand.tmp 13) (Go.Operand.tmp 14), type := 0, pos := "l04_table.go:30", after := #[{ on := 1, ground := Go.Ground.data }, { on := 2, ground := Go.Ground.data }], guard := none }) (v := ?v3) rfl (by kernel_rfl) (by kernel_rfl) (by kernel_rfl) (fun _ _ _ h => h) (Or.inl ⟨by rfl, ?h3⟩) hHeld ?r3
      case h3 =>
        intro wS hSw
        (try dsimp only at hSw)
        go_simp
        try with_reducible rfl
      case r3 =>
      simp only [Act.put, List.setIfInBounds_toArray, List.set_cons_zero, List.set_cons_succ]
      refine wpAnyH_take (i := 4) (oi := { dst := some 16, op := Go.Op.fieldAddr 104 (Go.Operand.tmp 15) 0, type := 0, pos := "l04_table.go:30", after := #[{ on := 3, ground := Go.Ground.data }], guard := none }) (v := ?v4) rfl (by kernel_rfl) (by kernel_rfl) (by kernel_rfl) (fun _ _ _ h => h) (Or.inl ⟨by rfl, ?h4⟩) hHeld ?r4
      case h4 =>
        intro wS hSw
        (try dsimp only at hSw)
        go_simp
        try with_reducible rfl
      case r4 =>
      simp only [Act.put, List.setIfInBounds_toArray, List.set_cons_zero, List.set_cons_succ]
      refine wpAnyH_take (i := 5) (oi := { dst := some 17, op := Go.Op.load 2 (Go.Operand.tmp 16), type := 2, pos := "l04_table.go:30", after := #[{ on := 4, ground := Go.Ground.data }], guard := none }) (v := ?v5) rfl (by kernel_rfl) (by kernel_rfl) (by kernel_rfl) (fun _ _ _ h => h) (Or.inl ⟨by rfl, ?h5⟩) hHeld ?r5
      case h5 =>
        intro wS hSw
        have y0 := (hSw.cell (p := ⟨b, off + k * 2, none⟩) hbl).trans c0
        have y1 := (hSw.cell (p := ⟨b, off + k * 2 + 1, none⟩) hbl).trans c1
        clear hSw
        (try dsimp only at hSw)
        go_simp
        try with_reducible rfl
      case r5 =>
      simp only [Act.put, List.setIfInBounds_toArray, List.set_cons_zero, List.set_cons_succ]
      refine wpAnyH_take (i := 6) (oi := { dst := some 18, op := Go.Op.move (Go.Operand.tmp 0), type := 44, pos := "l04_table.go:30", after := #[], guard := none }) (v := ?v6) rfl (by kernel_rfl) (by kernel_rfl) (by kernel_rfl) (fun _ _ _ h => h) (Or.inl ⟨by rfl, ?h6⟩) hHeld ?r6
      case h6 =>
        intro wS hSw
        (try dsimp only at hSw)
        go_simp
        try with_reducible rfl
      case r6 =>
      simp only [Act.put, List.setIfInBounds_toArray, List.set_cons_zero, List.set_cons_succ]
      refine wpAnyH_take (i := 7) (oi := { dst := some 19, op := Go.Op.move (Go.Operand.tmp 4), type := 3, pos := "l04_table.go:30", after := #[], guard := none }) (v := ?v7) rfl (by kernel_rfl) (by kernel_rfl) (by kernel_rfl) (fun _ _ _ h => h) (Or.inl ⟨by rfl, ?h7⟩) hHeld ?r7
      case h7 =>
        intro wS hSw
        (try dsimp only at hSw)
        go_simp
        try with_reducible rfl
      case r7 =>
      simp only [Act.put, List.setIfInBounds_toArray, List.set_cons_zero, List.set_cons_succ]
      refine wpAnyH_take (i := 8) (oi := { dst := some 20, op := Go.Op.indexAddr 44 (Go.Operand.tmp 18) (Go.Operand.tmp 19), type := 0, pos := "l04_table.go:30", after := #[{ on := 6, ground := Go.Ground.data }, { on := 7, ground := Go.Ground.data }], guard := none }) (v := ?v8) rfl (by kernel_rfl) (by kernel_rfl) (by kernel_rfl) (fun _ _ _ h => h) (Or.inl ⟨by rfl, ?h8⟩) hHeld ?r8
      case h8 =>
        intro wS hSw
        (try dsimp only at hSw)
        go_simp
        try with_reducible rfl
      case r8 =>
      simp only [Act.put, List.setIfInBounds_toArray, List.set_cons_zero, List.set_cons_succ]
      refine wpAnyH_take (i := 9) (oi := { dst := some 21, op := Go.Op.fieldAddr 104 (Go.Operand.tmp 20) 1, type := 0, pos := "l04_table.go:30", after := #[{ on := 8, ground := Go.Ground.data }], guard := none }) (v := ?v9) rfl (by kernel_rfl) (by kernel_rfl) (by kernel_rfl) (fun _ _ _ h => h) (Or.inl ⟨by rfl, ?h9⟩) hHeld ?r9
      case h9 =>
        intro wS hSw
        (try dsimp only at hSw)
        go_simp
        try with_reducible rfl
      case r9 =>
      simp only [Act.put, List.setIfInBounds_toArray, List.set_cons_zero, List.set_cons_succ]
      refine wpAnyH_take (i := 10) (oi := { dst := some 22, op := Go.Op.load 79 (Go.Operand.tmp 21), type := 79, pos := "l04_table.go:30", after := #[{ on := 9, ground := Go.Ground.data }], guard := none }) (v := ?v10) rfl (by kernel_rfl) (by kernel_rfl) (by kernel_rfl) (fun _ _ _ h => h) (Or.inl ⟨by rfl, ?h10⟩) hHeld ?r10
      case h10 =>
        intro wS hSw
        have y0 := (hSw.cell (p := ⟨b, off + k * 2, none⟩) hbl).trans c0
        have y1 := (hSw.cell (p := ⟨b, off + k * 2 + 1, none⟩) hbl).trans c1
        clear hSw
        (try dsimp only at hSw)
        go_simp
        try with_reducible rfl
      case r10 =>
      simp only [Act.put, List.setIfInBounds_toArray, List.set_cons_zero, List.set_cons_succ]
      refine wpAnyH_ready (rs := [11]) (by kernel_rfl) (by simp) ?_
      refine AllReadyH.cons (o := { dst := some 23, op := Go.Op.call { callee := Go.Callee.value (Go.Operand.func 92), args := #[Go.Operand.tmp 22], argTypes := #[79] }, type := 79, pos := "l04_table.go:30", after := #[{ on := 10, ground := Go.Ground.data }], guard := none }) rfl (fun K hK => ?_) AllReadyH.nil
      go_simp
      go_at_call 92
      refine (l1Ints _ x.vec _ (Lay.ints_reads ((unhide HR).later hHeld)) (unhide HN)).mono ?_
      rintro e w3 ⟨v2, rfl, hO, hbw⟩
      have hO2 := Lay.ownInts (unhide HW) (by have := unhide HN; omega) hO
      clear hO
      obtain ⟨ao2, cp2, rfl⟩ := open_sl hO2.reads
      have hG3 := hGD.later hbw
      have hz3 := hbw.size
      try go_wp2_with fail
      refine hK.out _ _ (hHeld.trans (hbw.mono hHeld.size)) (fun hHeld => ?_)
      clear hK K
      try simp only [Act.put, List.setIfInBounds_toArray, List.set_cons_zero, List.set_cons_succ]
      refine wpAnyH_take (i := 12) (oi := { dst := some 24, op := Go.Op.build 104 #[(0, Go.Operand.tmp 17), (1, Go.Operand.tmp 23)], type := 104, pos := "l04_table.go:30", after := #[{ on := 5, ground := Go.Ground.data }, { on := 11, ground := Go.Ground.data }], guard := none }) (v := ?v12) rfl (by kernel_rfl) (by kernel_rfl) (by kernel_rfl) (fun _ _ _ h => h) (Or.inl ⟨by rfl, ?h12⟩) hHeld ?r12
      case h12 =>
        intro wS hSw
        (try dsimp only at hSw)
        go_simp
        try with_reducible rfl
      case r12 =>
      simp only [Act.put, List.setIfInBounds_toArray, List.set_cons_zero, List.set_cons_succ]
      refine wpAnyH_ready (rs := [13]) (by kernel_rfl) (by simp) ?_
      refine AllReadyH.cons (o := { dst := some 25, op := Go.Op.buildSlice 44 1 #[(0, Go.Operand.tmp 24)], type := 44, pos := "l04_table.go:30", after := #[{ on := 12, ground := Go.Ground.data }], guard := none }) rfl (fun K hK => ?_) AllReadyH.nil
      have hH3 := hHeld
      go_simp
      refine hK.out _ _ (hHeld.alloc hHeld.size _) (fun hHeld => ?_)
      clear hK K
      try simp only [Act.put, List.setIfInBounds_toArray, List.set_cons_zero, List.set_cons_succ]
      refine wpAnyH_ready (rs := [14]) (by kernel_rfl) (by simp) ?_
      refine AllReadyH.cons (o := { dst := some 26, op := Go.Op.call { callee := Go.Callee.builtin Go.Builtin.append, args := #[Go.Operand.tmp 12, Go.Operand.tmp 25], argTypes := #[44, 44] }, type := 44, pos := "l04_table.go:30", after := #[{ on := 0, ground := Go.Ground.data }, { on := 13, ground := Go.Ground.data }, { on := 11, ground := Go.Ground.chain }], guard := none }) rfl (fun K hK => ?_) AllReadyH.nil
      obtain ⟨bl2, ⟨hl2, -, -⟩, hr2⟩ := hO2
      refine step_append_Item hG3 (row := [.int .i64 x.id, .slice ao2 x.vec.length cp2]) (x := x) (lies_Item.2 ⟨ao2, cp2, bl2, rfl, rfl, unhide HI, hl2⟩) (fun c hc e => by have h1 := hr2 c hc; have h2 := (hGD.own.lt c e).2; omega) rfl _ _ rfl rfl rfl (by have := unhide HK; omega) (by have := hH3.size; omega) ?_
      rintro g5 cp5 w5 hG5 hb5 - hl5 hz5 -
      have HS5 : Hid (∀ c ∈ (bls ++ [bl2]).flatten, w.heap.size ≤ c) := by
        intro c hc
        rw [List.flatten_append] at hc
        rcases List.mem_append.1 hc with hc | hc
        · exact unhide HS c hc
        · have h1 := hr2 c (by simpa using hc)
          have h2 := (unhide HB).size
          have h4 := unhide HDZ
          omega
      refine hK.out _ _ (hH3.trans hb5) (fun hHeld => ?_)
      clear hK K
      try simp only [Act.put, List.setIfInBounds_toArray, List.set_cons_zero, List.set_cons_succ]
      refine wpAnyH_take (i := 15) (oi := { dst := some 3, op := Go.Op.assign (Go.Operand.tmp 26), type := 44, pos := "l04_table.go:30", after := #[{ on := 14, ground := Go.Ground.data }, { on := 14, ground := Go.Ground.chain }, { on := 0, ground := Go.Ground.phase }, { on := 1, ground := Go.Ground.phase }, { on := 2, ground := Go.Ground.phase }, { on := 3, ground := Go.Ground.phase }, { on := 4, ground := Go.Ground.phase }, { on := 5, ground := Go.Ground.phase }, { on := 6, ground := Go.Ground.phase }, { on := 7, ground := Go.Ground.phase }, { on := 8, ground := Go.Ground.phase }, { on := 9, ground := Go.Ground.phase }, { on := 10, ground := Go.Ground.phase }, { on := 11, ground := Go.Ground.phase }, { on := 12, ground := Go.Ground.phase }, { on := 13, ground := Go.Ground.phase }, { on := 14, ground := Go.Ground.phase }], guard := none }) (v := ?v15) rfl (by kernel_rfl) (by kernel_rfl) (by kernel_rfl) (fun _ _ _ h => h) (Or.inl ⟨by rfl, ?h15⟩) hHeld ?r15
      case h15 =>
        intro wS hSw
        (try dsimp only at hSw)
        go_simp
        try with_reducible rfl
      case r15 =>
      simp only [Act.put, List.setIfInBounds_toArray, List.set_cons_zero, List.set_cons_succ]
      refine wpAnyH_done (by kernel_rfl) ?_ _
      refine NoPanic.normal ?_
      have HG5 := hide hG5
      have HB5 := hide hHeld
      clear hHeld hG5 hGD hG3
      go_wp2_with fail
      go_roundw
      case rel =>
        have hg := unhide HG5
        rw [← unhide HT, unhide HL] at hg
        exact ⟨k + 1, _, _, by omega, by go_num, hg, unhide HS5, unhide HB5⟩
      case measure => simp [intOf]; omega
    · obtain rfl : k = xs.length := by omega
      rw [List.take_length] at hG
      have HG := hide hG
      have HB := hide hB
      clear hG hB H
      go_wp2_with fail
      go_ret
      exact ⟨_, rfl, ⟨_, _, unhide HG, unhide HS⟩, unhide HB⟩

theorem specCopyG (v : Value) (xs : List DItem) (w : World) (h : (Lay.sl Lay.tItem).Reads w [v] xs) (hn : xs.length ≤ 10000000) (hv : ∀ x ∈ xs, x.vec.length ≤ 100000000) :
    Calls Try.prog 97 #[v] w fun e w' => ∃ v', e = .returned v' ∧ (∃ rows bls, Grow Lay.tItem w' w.heap.size 104 v' rows xs bls ∧ ∀ c ∈ bls.flatten, w.heap.size ≤ c) ∧ Below w.heap.size w w' := by
  obtain ⟨ao, cap, rfl⟩ := open_sl h
  by_cases hp : 0 < xs.length
  · obtain ⟨b, off, rfl, hbl⟩ := Lay.sl_addr h hp
    exact specCopy_pos b off cap xs w h hbl hn hv
  · obtain rfl : xs = [] := List.eq_nil_of_length_eq_zero (by omega)
    clear h hp hn hv
    have HB := hide ((Below.refl w.heap.size w).alloc (Nat.le_refl _) (.cells #[] 104))
    have HG : Hid (Grow Lay.tItem (w.alloc (.cells #[] 104)) w.heap.size 104 (.slice (some ⟨w.heap.size, 0, none⟩) 0 0) [] [] []) := Grow.nil (World.ownsRow_lit w #[] 0 (Nat.le_refl _) (Nat.zero_le _) rfl)
    go_enter Try.func97, Try.ntmps97
    go_wp2_with fail
    refine wp_loop_rounds 1 ?_
    rw [rounds_succ]
    go_wp2_with fail
    go_ret
    exact ⟨_, rfl, ⟨_, _, unhide HG, by simp⟩, unhide HB⟩

/-- l4Copy of the model. -/
theorem specCopy (v : Value) (xs : List DItem) (w : World) (h : (Lay.sl Lay.tItem).Reads w [v] xs) (hn : xs.length ≤ 10000000) (hv : ∀ x ∈ xs, x.vec.length ≤ 100000000) :
    Calls Try.prog 97 #[v] w fun e w' => ∃ v', e = .returned v' ∧ (Lay.sl Lay.tItem).LiesIn w' [v'] xs w.heap.size w'.heap.size ∧ Below w.heap.size w w' := by
  refine (specCopyG v xs w h hn hv).mono ?_
  rintro e w' ⟨v', rfl, ⟨rows, bls, hG, hs⟩, hb⟩
  exact ⟨v', rfl, hG.toLies (by omega) hs, hb⟩

end Go.Proofs.Ytbogjepkdcknfaa

namespace Go.Proofs.Ytbogjepkdcknfaa
open Go.RowKit

theorem take_fold (nw : DItem) (st : List DItem × Bool) (xs : List DItem) (k : Nat) (h : k < xs.length) : (xs.take (k + 1)).foldl (setStep nw) st = setStep nw ((xs.take k).foldl (setStep nw) st) xs[k] := by
  rw [List.take_succ_eq_append_getElem h, List.foldl_append]
  rfl

set_option maxRecDepth 100000 in
set_option maxHeartbeats 4000000 in
theorem specSet_pos (b off cap : Nat) (xs : List DItem) (nw : DItem) (a2 : Option Addr) (d2 : Nat) (has : Bool) (w : World) (h : (Lay.sl Lay.tItem).Reads w [.slice (some ⟨b, off, none⟩) xs.length cap] xs) (hv : (Lay.sl Lay.int).Reads w [.slice a2 nw.vec.length d2] nw.vec) (hw : (Lit.int .i64 nw.id).wf = true)
    (hbl : b < w.heap.size) (hn : xs.length ≤ 1000000) (hx : ∀ x ∈ xs, x.vec.length ≤ 100000000) (hx2 : nw.vec.length ≤ 100000000) :
    Calls Try.prog 95 #[.slice (some ⟨b, off, none⟩) xs.length cap, .int .i64 nw.id, .slice a2 nw.vec.length d2, .bool has] w fun e w' => ∃ v', e = .returned v' ∧ (∃ rows bls, Grow Lay.tItem w' w.heap.size 104 v' rows (setM xs nw has) bls ∧ ∀ c ∈ bls.flatten, w.heap.size ≤ c) ∧ Below w.heap.size w w' := by
  obtain ⟨blN, hlN⟩ := hv
  have hN : Lay.tItem.lies w [.int .i64 nw.id, .slice a2 nw.vec.length d2] nw blN := lies_Item.2 ⟨a2, d2, blN, rfl, rfl, hw, hlN⟩
  have hNl : ∀ c ∈ blN, c < w.heap.size := Lay.tItem.lt hN
  have HN := hide hN
  have HNL := hide hNl
  have H := hide h
  have HX := hide hx
  clear h hx hlN hN hNl
  have G0 : Grow Lay.tItem (w.alloc (.cells #[] 104)) w.heap.size 104 (.slice (some ⟨w.heap.size, 0, none⟩) 0 0) [] [] [] := Grow.nil (World.ownsRow_lit w #[] 0 (Nat.le_refl _) (Nat.zero_le _) rfl)
  have HG := hide G0
  have HB0 := hide ((Below.refl w.heap.size w).alloc (Nat.le_refl _) (.cells #[] 104))
  clear G0
  go_enter Try.func95, Try.ntmps95
  go_wp2_with fail
  go_loopw [9, 10, 11] (fun v d i wr => ∃ (k : Nat) (rows : List (List Value)) (bls : List (List Nat)) (out : List DItem) (dn : Bool), k ≤ xs.length ∧ i = .int .i64 k ∧ d = .bool dn ∧ (xs.take k).foldl (setStep nw) ([], !has) = (out, dn) ∧ out.length ≤ 2 * k ∧ (∀ x ∈ out, x.vec.length ≤ 100000000) ∧ Grow Lay.tItem wr w.heap.size 104 v rows out bls ∧ Below w.heap.size w wr) (fun _ _ i _ => xs.length - (intOf i).toNat)
  case atStart => exact ⟨0, [], [], [], !has, Nat.zero_le _, rfl, rfl, rfl, by simp, by simp, unhide HG, unhide HB0⟩
  case round =>
    obtain ⟨k, rows, bls, out, dn, hk, rfl, rfl, hst, hol, hov, hG, hB⟩ := hrel
    clear HG HB0
    by_cases hlt : k < xs.length
    · obtain ⟨row, hc, hr⟩ := Lay.row_at (unhide H) hlt
      obtain ⟨blX, hlX⟩ := hr
      obtain ⟨a1, d1, bb, rfl, hbb, hwi, hlv⟩ := lies_Item.1 hlX
      have hXl : ∀ c ∈ blX, c < w.heap.size := Lay.tItem.lt hlX
      have c0 : wr.cell? ⟨b, off + k * 2, none⟩ = some (.int .i64 (xs[k]).id) := (hB.cell (p := ⟨b, off + k * 2, none⟩) hbl).trans (hc 0 (by decide))
      have c1 : wr.cell? ⟨b, off + k * 2 + 1, none⟩ = some (.slice a1 (xs[k]).vec.length d1) := (hB.cell (p := ⟨b, off + k * 2 + 1, none⟩) hbl).trans (hc 1 (by decide))
      have hbr : b < wr.heap.size := Nat.lt_of_lt_of_le hbl hB.size
      have HST : Hid ((xs.take (k + 1)).foldl (setStep nw) ([], !has) = setOld nw (setNew nw (out, dn) xs[k]) xs[k]) := by
        show (xs.take (k + 1)).foldl (setStep nw) ([], !has) = _
        rw [take_fold nw _ xs k hlt, hst]
        rfl
      have HXV := hide (unhide HX xs[k] (List.getElem_mem hlt))
      have HLX := hide (Lay.tItem.keep hlX fun c hc => hB.block c (hXl c hc))
      have HXL := hide hXl
      have HLN := hide (Lay.tItem.keep (unhide HN) fun c hc => hB.block c (unhide HNL c hc))
      clear hc hlX hbb hwi hlv hst
      generalize hx : xs[k] = x at *
      clear hx
      have HG := hide hG
      have HB := hide hB
      have HOV := hide hov
      clear hG hB hov
      have hnx : out.length + 3 ≤ 100000000 := by omega
      by_cases hA : dn = false ∧ nw.id ≤ x.id
      · obtain ⟨rfl, hle⟩ := hA
        have hd1 : decide (nw.id ≤ x.id) = true := by simpa using hle
        have e1 : setNew nw (out, false) x = (out ++ [nw], true) := by simp [setNew, hle]
        rw [e1] at HST
        have hG := unhide HG
        have hoff : ∀ c ∈ blN, u9.ownBlock ≠ some c := fun c hc e => by have h1 := unhide HNL c hc; have h2 := (hG.own.lt c e).1; omega
        have hLN := unhide HLN
        have HZ : Hid (w.heap.size ≤ wr.heap.size) := (unhide HB).size
        clear e1 hle HLN HG
        go_wp2_with (at_builtin; refine wpList_append_Item hG hLN hoff rfl _ _ rfl rfl rfl (by omega) (unhide HZ) ?_)
        rintro g5 cp5 w5 hG5 hb5 hE5 hl5 hz5 hor
        have d0 : w5.cell? ⟨b, off + k * 2, none⟩ = some (.int .i64 x.id) := (hb5.cell (p := ⟨b, off + k * 2, none⟩) hbl).trans c0
        have d1' : w5.cell? ⟨b, off + k * 2 + 1, none⟩ = some (.slice a1 x.vec.length d1) := (hb5.cell (p := ⟨b, off + k * 2 + 1, none⟩) hbl).trans c1
        have hbr5 : b < w5.heap.size := by omega
        have HLX5 := hide (Lay.tItem.keep (unhide HLX) fun c hc => hb5.block c (unhide HXL c hc))
        have HB5 := hide ((unhide HB).trans hb5)
        have HG5 := hide hG5
        clear hG hoff hLN hG5 hb5 hE5 hor HB HLX c0 c1 hd1 HZ hz5
        have HOV5 : Hid (∀ y ∈ out ++ [nw], y.vec.length ≤ 100000000) := by
          intro y hy
          rcases List.mem_append.1 hy with hy | hy
          · exact unhide HOV y hy
          · rw [List.mem_singleton.1 hy]; exact hx2
        by_cases he : x.id = nw.id
        · have hd2 : (x.id != nw.id) = false := by simpa using he
          have e2 : setOld nw (out ++ [nw], true) x = (out ++ [nw], true) := by rw [setOld, if_pos he]
          rw [e2] at HST
          clear he e2 HLX5
          go_wp2_with fail
          go_roundw
          case rel => exact ⟨k + 1, _, _, out ++ [nw], true, by omega, by go_num, rfl, unhide HST, by simp; omega, unhide HOV5, unhide HG5, unhide HB5⟩
          case measure => simp [intOf]; omega
        · have hd2 : (x.id != nw.id) = true := by simpa using he
          have e2 : setOld nw (out ++ [nw], true) x = (out ++ [nw] ++ [x], true) := by rw [setOld, if_neg he]
          rw [e2] at HST
          have hG := unhide HG5
          have hoff : ∀ c ∈ blX, (Value.slice (some ⟨g5, 0, none⟩) (out.length + 1) cp5).ownBlock ≠ some c := fun c hc e => by have h1 := unhide HXL c hc; have h2 := (hG.own.lt c e).1; omega
          have hLX := unhide HLX5
          have HZ : Hid (w.heap.size ≤ w5.heap.size) := (unhide HB5).size
          clear he e2 HLX5 HG5
          go_wp2_with (at_builtin; refine wpList_append_Item hG hLX hoff rfl _ _ rfl rfl rfl (by simp; omega) (unhide HZ) ?_)
          rintro g6 cp6 w6 hG6 hb6 hE6 hl6 hz6 hor6
          have HB6 := hide ((unhide HB5).trans hb6)
          have HG6 := hide hG6
          have HOV6 : Hid (∀ y ∈ out ++ [nw] ++ [x], y.vec.length ≤ 100000000) := by
            intro y hy
            rcases List.mem_append.1 hy with hy | hy
            · exact unhide HOV5 y hy
            · rw [List.mem_singleton.1 hy]; exact unhide HXV
          clear hG hoff hLX hG6 hb6 hE6 hor6 HB5 d0 d1' hd2 HZ hz6
          go_wp2_with fail
          go_roundw
          case rel =>
            have hg := unhide HG6
            have e3 : out ++ [nw] ++ [x] = out ++ [nw, x] := by simp
            have hs := unhide HST
            have ho := unhide HOV6
            rw [e3] at hs ho
            exact ⟨k + 1, _, _, out ++ [nw, x], true, by omega, by go_num, rfl, hs, by simp; omega, ho, hg, unhide HB6⟩
          case measure => simp [intOf]; omega
      · have e1 : setNew nw (out, dn) x = (out, dn) := by rw [setNew, if_neg hA]
        rw [e1] at HST
        have hcond : dn = true ∨ decide (nw.id ≤ x.id) = false := by
          cases dn with
          | true => exact Or.inl rfl
          | false => right; simpa using hA
        clear e1 hA
        by_cases he : x.id = nw.id
        · have hd2 : (x.id != nw.id) = false := by simpa using he
          have e2 : setOld nw (out, dn) x = (out, dn) := by rw [setOld, if_pos he]
          rw [e2] at HST
          clear he e2 HLX HLN
          rcases hcond with rfl | hd1
          · go_wp2_with fail
            go_roundw
            case rel => exact ⟨k + 1, _, _, out, true, by omega, by go_num, rfl, unhide HST, by omega, unhide HOV, unhide HG, unhide HB⟩
            case measure => simp [intOf]; omega
          · cases dn with
            | true =>
              go_wp2_with fail
              go_roundw
              case rel => exact ⟨k + 1, _, _, out, true, by omega, by go_num, rfl, unhide HST, by omega, unhide HOV, unhide HG, unhide HB⟩
              case measure => simp [intOf]; omega
            | false =>
              go_wp2_with fail
              go_roundw
              case rel => exact ⟨k + 1, _, _, out, false, by omega, by go_num, rfl, unhide HST, by omega, unhide HOV, unhide HG, unhide HB⟩
              case measure => simp [intOf]; omega
        · have hd2 : (x.id != nw.id) = true := by simpa using he
          have e2 : setOld nw (out, dn) x = (out ++ [x], dn) := by rw [setOld, if_neg he]
          rw [e2] at HST
          have hG := unhide HG
          have hoff : ∀ c ∈ blX, u9.ownBlock ≠ some c := fun c hc e => by have h1 := unhide HXL c hc; have h2 := (hG.own.lt c e).1; omega
          have hLX := unhide HLX
          have HZ : Hid (w.heap.size ≤ wr.heap.size) := (unhide HB).size
          have HOV6 : Hid (∀ y ∈ out ++ [x], y.vec.length ≤ 100000000) := by
            intro y hy
            rcases List.mem_append.1 hy with hy | hy
            · exact unhide HOV y hy
            · rw [List.mem_singleton.1 hy]; exact unhide HXV
          clear he e2 HLX HLN HG
          have hcd : (dn = true) ∨ (dn = false ∧ decide (nw.id ≤ x.id) = false) := by
            rcases hcond with h | h
            · exact Or.inl h
            · cases dn with
              | true => exact Or.inl rfl
              | false => exact Or.inr ⟨rfl, h⟩
          clear hcond
          rcases hcd with rfl | ⟨rfl, hd1⟩
          · go_wp2_with (at_builtin; refine wpList_append_Item hG hLX hoff rfl _ _ rfl rfl rfl (by omega) (unhide HZ) ?_)
            rintro g6 cp6 w6 hG6 hb6 hE6 hl6 hz6 hor6
            have HB6 := hide ((unhide HB).trans hb6)
            have HG6 := hide hG6
            clear hG hoff hLX hG6 hb6 hE6 hor6 HB c0 c1 hd2 HZ hz6
            go_wp2_with fail
            go_roundw
            case rel => exact ⟨k + 1, _, _, out ++ [x], true, by omega, by go_num, rfl, unhide HST, by simp; omega, unhide HOV6, unhide HG6, unhide HB6⟩
            case measure => simp [intOf]; omega
          · go_wp2_with (at_builtin; refine wpList_append_Item hG hLX hoff rfl _ _ rfl rfl rfl (by omega) (unhide HZ) ?_)
            rintro g6 cp6 w6 hG6 hb6 hE6 hl6 hz6 hor6
            have HB6 := hide ((unhide HB).trans hb6)
            have HG6 := hide hG6
            clear hG hoff hLX hG6 hb6 hE6 hor6 HB c0 c1 hd2 HZ hz6 hd1
            go_wp2_with fail
            go_roundw
            case rel => exact ⟨k + 1, _, _, out ++ [x], false, by omega, by go_num, rfl, unhide HST, by simp; omega, unhide HOV6, unhide HG6, unhide HB6⟩
            case measure => simp [intOf]; omega
    · obtain rfl : k = xs.length := by omega
      rw [List.take_length] at hst
      have HM : Hid (setM xs nw has = setFin nw (out, dn)) := by
        show setM xs nw has = _
        rw [setM, hst]
      have HG := hide hG
      have HB := hide hB
      have HOV := hide hov
      have HLN := hide (Lay.tItem.keep (unhide HN) fun c hc => hB.block c (unhide HNL c hc))
      clear hG hB hov hst H
      cases dn with
      | true =>
        have hR := (unhide HG).toReads (by omega)
        have L := specCopyG u9 out wr hR (by omega) (unhide HOV)
        have HL := hide L
        rw [setFin, if_pos rfl] at HM
        clear hR L HLN HG
        go_wp2_with fail
        refine (unhide HL).mono ?_
        rintro e w6 ⟨v6, rfl, hR6, hb6⟩
        have HB6 := hide ((unhide HB).trans (hb6.mono (unhide HB).size))
        obtain ⟨rows6, bls6, hG6, hs6⟩ := hR6
        have HR6 : Hid (∃ rows bls, Grow Lay.tItem w6 w.heap.size 104 v6 rows _ bls ∧ ∀ c ∈ bls.flatten, w.heap.size ≤ c) := ⟨rows6, bls6, hG6.lower (unhide HB).size, fun c hc => Nat.le_trans (unhide HB).size (hs6 c hc)⟩
        clear hb6 hG6 hs6
        go_wp2_with fail
        go_ret
        exact ⟨_, rfl, by rw [unhide HM]; exact unhide HR6, unhide HB6⟩
      | false =>
        have hG := unhide HG
        have hoff : ∀ c ∈ blN, u9.ownBlock ≠ some c := fun c hc e => by have h1 := unhide HNL c hc; have h2 := (hG.own.lt c e).1; omega
        have hLN := unhide HLN
        have HZ : Hid (w.heap.size ≤ wr.heap.size) := (unhide HB).size
        rw [setFin, if_neg (by simp)] at HM
        clear HLN HG
        go_wp2_with (at_builtin; refine wpList_append_Item hG hLN hoff rfl _ _ rfl rfl rfl (by omega) (unhide HZ) ?_)
        rintro g5 cp5 w5 hG5 hb5 hE5 hl5 hz5 hor
        have HOV5 : Hid (∀ y ∈ out ++ [nw], y.vec.length ≤ 100000000) := by
          intro y hy
          rcases List.mem_append.1 hy with hy | hy
          · exact unhide HOV y hy
          · rw [List.mem_singleton.1 hy]; exact hx2
        have hR := hG5.toReads (by simp; omega)
        have HL := hide (specCopyG _ (out ++ [nw]) w5 hR (by simp; omega) (unhide HOV5))
        have HB5 := hide ((unhide HB).trans hb5)
        clear hG hoff hLN hG5 hb5 hE5 hor HB HZ hR hz5
        go_wp2_with fail
        refine (unhide HL).mono ?_
        rintro e w6 ⟨v6, rfl, hR6, hb6⟩
        have HB6 := hide ((unhide HB5).trans (hb6.mono (unhide HB5).size))
        obtain ⟨rows6, bls6, hG6, hs6⟩ := hR6
        have HR6 : Hid (∃ rows bls, Grow Lay.tItem w6 w.heap.size 104 v6 rows _ bls ∧ ∀ c ∈ bls.flatten, w.heap.size ≤ c) := ⟨rows6, bls6, hG6.lower (unhide HB5).size, fun c hc => Nat.le_trans (unhide HB5).size (hs6 c hc)⟩
        clear hb6 hG6 hs6
        go_wp2_with fail
        go_ret
        exact ⟨_, rfl, by rw [unhide HM]; exact unhide HR6, unhide HB6⟩

end Go.Proofs.Ytbogjepkdcknfaa

namespace Go.Proofs.Ytbogjepkdcknfaa
open Go.RowKit

set_option maxRecDepth 100000 in
set_option maxHeartbeats 1000000 in
theorem specSet_zero (ao : Option Addr) (cap : Nat) (nw : DItem) (a2 : Option Addr) (d2 : Nat) (has : Bool) (w : World) (hv : (Lay.sl Lay.int).Reads w [.slice a2 nw.vec.length d2] nw.vec) (hw : (Lit.int .i64 nw.id).wf = true) (hx2 : nw.vec.length ≤ 100000000) :
    Calls Try.prog 95 #[.slice ao 0 cap, .int .i64 nw.id, .slice a2 nw.vec.length d2, .bool has] w fun e w' => ∃ v', e = .returned v' ∧ (∃ rows bls, Grow Lay.tItem w' w.heap.size 104 v' rows (setM [] nw has) bls ∧ ∀ c ∈ bls.flatten, w.heap.size ≤ c) ∧ Below w.heap.size w w' := by
  obtain ⟨blN, hlN⟩ := hv
  have hN : Lay.tItem.lies w [.int .i64 nw.id, .slice a2 nw.vec.length d2] nw blN := lies_Item.2 ⟨a2, d2, blN, rfl, rfl, hw, hlN⟩
  have hNl : ∀ c ∈ blN, c < w.heap.size := Lay.tItem.lt hN
  have nb : Below w.heap.size w (w.alloc (.cells #[] 104)) := (Below.refl w.heap.size w).alloc (Nat.le_refl _) (.cells #[] 104)
  have G0 : Grow Lay.tItem (w.alloc (.cells #[] 104)) w.heap.size 104 (.slice (some ⟨w.heap.size, 0, none⟩) 0 0) [] [] [] := Grow.nil (World.ownsRow_lit w #[] 0 (Nat.le_refl _) (Nat.zero_le _) rfl)
  have hLN := Lay.tItem.keep hN fun c hc => nb.block c (hNl c hc)
  have hoff : ∀ c ∈ blN, (Value.slice (some ⟨w.heap.size, 0, none⟩) 0 0).ownBlock ≠ some c := fun c hc e => by have h1 := hNl c hc; simp [Value.ownBlock] at e; omega
  have HZ : Hid (w.heap.size ≤ (w.alloc (.cells #[] 104)).heap.size) := nb.size
  have HB0 := hide nb
  cases has with
  | false =>
    have HL := hide (specCopyG _ [] _ (G0.toReads (by simp)) (by simp) (by simp))
    clear G0 hLN hoff hN hNl hlN nb
    go_enter Try.func95, Try.ntmps95
    go_wp2_with fail
    refine wp_loop_rounds 1 ?_
    rw [rounds_succ]
    go_wp2_with fail
    refine (unhide HL).mono ?_
    rintro e w6 ⟨v6, rfl, hR6, hb6⟩
    have HB6 := hide ((unhide HB0).trans (hb6.mono (unhide HB0).size))
    obtain ⟨rows6, bls6, hG6, hs6⟩ := hR6
    have HR6 : Hid (∃ rows bls, Grow Lay.tItem w6 w.heap.size 104 v6 rows _ bls ∧ ∀ c ∈ bls.flatten, w.heap.size ≤ c) := ⟨rows6, bls6, hG6.lower (unhide HB0).size, fun c hc => Nat.le_trans (unhide HB0).size (hs6 c hc)⟩
    clear hb6 hG6 hs6
    go_wp2_with fail
    go_ret
    exact ⟨_, rfl, unhide HR6, unhide HB6⟩
  | true =>
    clear hN hNl hlN nb
    go_enter Try.func95, Try.ntmps95
    go_wp2_with fail
    refine wp_loop_rounds 1 ?_
    rw [rounds_succ]
    generalize hW : w.alloc (.cells #[] 104) = W1 at *
    have hsz : w.heap.size < W1.heap.size := by rw [← hW]; simp
    clear hW
    go_wp2_with (at_builtin; refine wpList_append_Item G0 hLN hoff rfl _ _ rfl rfl rfl (by simp) (unhide HZ) ?_)
    rintro g5 cp5 w5 hG5 hb5 hE5 hl5 hz5 hor
    have hR := hG5.toReads (by simp)
    have HL := hide (specCopyG _ ([] ++ [nw]) w5 hR (by simp) (by intro y hy; rw [List.mem_singleton.1 hy]; exact hx2))
    have HB5 := hide ((unhide HB0).trans hb5)
    clear G0 hoff hLN hG5 hb5 hE5 hor HZ hR hz5
    go_wp2_with fail
    refine (unhide HL).mono ?_
    rintro e w6 ⟨v6, rfl, hR6, hb6⟩
    have HB6 := hide ((unhide HB5).trans (hb6.mono (unhide HB5).size))
    obtain ⟨rows6, bls6, hG6, hs6⟩ := hR6
    have HR6 : Hid (∃ rows bls, Grow Lay.tItem w6 w.heap.size 104 v6 rows _ bls ∧ ∀ c ∈ bls.flatten, w.heap.size ≤ c) := ⟨rows6, bls6, hG6.lower (unhide HB5).size, fun c hc => Nat.le_trans (unhide HB5).size (hs6 c hc)⟩
    clear hb6 hG6 hs6
    go_wp2_with fail
    go_ret
    exact ⟨_, rfl, unhide HR6, unhide HB6⟩

theorem specSetG (v : Value) (xs : List DItem) (id : Int) (vec : List Int) (vv : Value) (has : Bool) (w : World) (h : (Lay.sl Lay.tItem).Reads w [v] xs) (hv : (Lay.sl Lay.int).Reads w [vv] vec) (hw : (Lit.int .i64 id).wf = true)
    (hn : xs.length ≤ 1000000) (hx : ∀ x ∈ xs, x.vec.length ≤ 100000000) (hx2 : vec.length ≤ 100000000) :
    Calls Try.prog 95 #[v, .int .i64 id, vv, .bool has] w fun e w' => ∃ v', e = .returned v' ∧ (∃ rows bls, Grow Lay.tItem w' w.heap.size 104 v' rows (setM xs ⟨id, vec⟩ has) bls ∧ ∀ c ∈ bls.flatten, w.heap.size ≤ c) ∧ Below w.heap.size w w' := by
  obtain ⟨ao, cap, rfl⟩ := open_sl h
  obtain ⟨ao2, cap2, rfl⟩ := open_sl hv
  by_cases hp : 0 < xs.length
  · obtain ⟨b, off, rfl, hbl⟩ := Lay.sl_addr h hp
    exact specSet_pos b off cap xs ⟨id, vec⟩ ao2 cap2 has w h hv hw hbl hn hx hx2
  · obtain rfl : xs = [] := List.eq_nil_of_length_eq_zero (by omega)
    exact specSet_zero ao cap ⟨id, vec⟩ ao2 cap2 has w hv hw hx2

/-- l4Set of the model. -/
theorem specSet (v : Value) (xs : List DItem) (id : Int) (vec : List Int) (vv : Value) (has : Bool) (w : World) (h : (Lay.sl Lay.tItem).Reads w [v] xs) (hv : (Lay.sl Lay.int).Reads w [vv] vec) (hw : (Lit.int .i64 id).wf = true)
    (hn : xs.length ≤ 1000000) (hx : ∀ x ∈ xs, x.vec.length ≤ 100000000) (hx2 : vec.length ≤ 100000000) :
    Calls Try.prog 95 #[v, .int .i64 id, vv, .bool has] w fun e w' => ∃ v', e = .returned v' ∧ (Lay.sl Lay.tItem).LiesIn w' [v'] (setM xs ⟨id, vec⟩ has) w.heap.size w'.heap.size ∧ Below w.heap.size w w' := by
  refine (specSetG v xs id vec vv has w h hv hw hn hx hx2).mono ?_
  rintro e w' ⟨v', rfl, ⟨rows, bls, hG, hs⟩, hb⟩
  have hl := setM_size xs ⟨id, vec⟩ has
  exact ⟨v', rfl, hG.toLies (by omega) hs, hb⟩

end Go.Proofs.Ytbogjepkdcknfaa

namespace Go.Proofs.Ytbogjepkdcknfaa
open Go.RowKit


end Go.Proofs.Ytbogjepkdcknfaa

namespace Go.Proofs.Ytbogjepkdcknfaa
open Go.RowKit

def askF (xs : List DItem) (id : Int) : Int := if tableFault xs = 0 then (if idB id then 0 else 3) else tableFault xs
theorem find_first {xs : List DItem} {id : Int} (k : Nat) (hk : k < xs.length) (h : ∀ j (hj : j < xs.length), j < k → xs[j].id ≠ id) (e : xs[k].id = id) : xs.find? (fun x => x.id == id) = some xs[k] := by
  induction xs generalizing k with
  | nil => simp at hk
  | cons x xs ih =>
    match k with
    | 0 => rw [List.find?_cons_of_pos (by simpa using e)]; rfl
    | k + 1 =>
      have h0 : x.id ≠ id := h 0 (by simp) (by omega)
      rw [List.find?_cons_of_neg (by simpa using h0)]
      exact ih k (by simpa using hk) (fun j hj hjk => h (j + 1) (by simpa using hj) (by omega)) (by simpa using e)
theorem has_none {xs : List DItem} {id : Int} (h : ∀ j (hj : j < xs.length), xs[j].id ≠ id) : hasI xs id = false := by
  simp only [hasI, List.any_eq_false, beq_iff_eq]
  intro x hx
  obtain ⟨j, hj, rfl⟩ := List.getElem_of_mem hx
  exact h j hj

/-- Where an item is: its place, or -1. -/
def AtI (xs : List DItem) (id r : Int) : Prop := (r = -1 ∧ hasI xs id = false) ∨ ∃ (k : Nat) (h : k < xs.length), r = k ∧ xs.find? (fun x => x.id == id) = some xs[k]

set_option maxRecDepth 10000 in
set_option maxHeartbeats 1000000 in
theorem specAt_pos (b off cap : Nat) (xs : List DItem) (id : Int) (w : World) (h : (Lay.sl Lay.tItem).Reads w [.slice (some ⟨b, off, none⟩) xs.length cap] xs) :
    Calls Try.prog 96 #[.slice (some ⟨b, off, none⟩) xs.length cap, .int .i64 id] w fun e w' => (∃ r, e = .returned (.int .i64 r) ∧ AtI xs id r) ∧ w' = w := by
  have hbig := h.big
  have H := hide h
  clear h
  go_enter Try.func96, Try.ntmps96
  go_wp2_with fail
  go_loop [5] (fun i => ∃ k : Nat, k ≤ xs.length ∧ i = .int .i64 k ∧ ∀ j (hj : j < xs.length), j < k → xs[j].id ≠ id) (fun i => xs.length - (intOf i).toNat)
  case atStart => exact ⟨0, Nat.zero_le _, rfl, fun j _ hj => by omega⟩
  case round =>
    obtain ⟨k, hk, rfl, hq⟩ := hrel
    have HQ := hide hq
    clear hq
    by_cases hlt : k < xs.length
    · obtain ⟨row, hc, hr⟩ := Lay.row_at (unhide H) hlt
      obtain ⟨a1, d1, rfl, -⟩ := open_Item hr
      have c0 : w.cell? ⟨b, off + k * 2, none⟩ = some (.int .i64 (xs[k]).id) := hc 0 (by decide)
      clear hc hr
      by_cases e : xs[k].id = id
      · have HA : Hid (AtI xs id k) := Or.inr ⟨k, hlt, rfl, find_first k hlt (unhide HQ) e⟩
        have hd : (xs[k].id == id) = true := by simpa using e
        clear e
        go_wp2_with fail
        go_ret
        exact ⟨⟨_, rfl, unhide HA⟩, rfl⟩
      · have hd : (xs[k].id == id) = false := by simpa using e
        have HE := hide e
        clear e
        go_wp2_with fail
        go_round
        case rel =>
          refine ⟨k + 1, by omega, by go_num, fun j hj hjk => ?_⟩
          by_cases hjk2 : j < k
          · exact unhide HQ j hj hjk2
          · obtain rfl : j = k := by omega
            exact unhide HE
        case measure => simp [intOf]; omega
    · have HA : Hid (AtI xs id (-1)) := Or.inl ⟨rfl, has_none fun j hj => unhide HQ j hj (by omega)⟩
      clear H HQ
      go_wp2_with fail
      go_ret
      exact ⟨⟨_, rfl, unhide HA⟩, rfl⟩

/-- l4At of the model. -/
theorem specAt (v : Value) (xs : List DItem) (id : Int) (w : World) (h : (Lay.sl Lay.tItem).Reads w [v] xs) :
    Calls Try.prog 96 #[v, .int .i64 id] w fun e w' => (∃ r, e = .returned (.int .i64 r) ∧ AtI xs id r) ∧ w' = w := by
  obtain ⟨ao, cap, rfl⟩ := open_sl h
  by_cases hp : 0 < xs.length
  · obtain ⟨b, off, rfl, hbl⟩ := Lay.sl_addr h hp
    exact specAt_pos b off cap xs id w h
  · obtain rfl : xs = [] := List.eq_nil_of_length_eq_zero (by omega)
    clear h hp
    go_enter Try.func96, Try.ntmps96
    go_wp2_with fail
    refine wp_loop_rounds 1 ?_
    rw [rounds_succ]
    go_wp2_with fail
    go_ret
    exact ⟨⟨_, rfl, Or.inl ⟨rfl, rfl⟩⟩, rfl⟩

end Go.Proofs.Ytbogjepkdcknfaa

namespace Go.Proofs.Ytbogjepkdcknfaa
open Go.RowKit


end Go.Proofs.Ytbogjepkdcknfaa

namespace Go.Proofs.Ytbogjepkdcknfaa
open Go.RowKit

theorem ask_zero {xs : List DItem} {id : Int} (hf : askF xs id = 0) : tableFault xs = 0 ∧ idB id = true := by
  unfold askF at hf
  by_cases h1 : tableFault xs = 0
  · rw [if_pos h1] at hf
    cases h2 : idB id with
    | true => exact ⟨h1, rfl⟩
    | false => rw [h2] at hf; cases hf
  · rw [if_neg h1] at hf; exact absurd hf h1
theorem ask_vals (xs : List DItem) (id : Int) : 0 ≤ askF xs id ∧ askF xs id ≤ 3 := by
  unfold askF
  have := tableFault_vals xs
  split
  · split <;> decide
  · exact this
theorem right_small {xs : List DItem} (h : Right xs) : xs.length ≤ 1000000 ∧ ∀ x ∈ xs, x.vec.length ≤ 100000000 := by
  obtain ⟨hl, ha, -⟩ := tableFault_zero h
  exact ⟨by omega, fun x hx => by have := (vecFault_zero (ha x hx).2).1; omega⟩

end Go.Proofs.Ytbogjepkdcknfaa

namespace Go.Proofs.Ytbogjepkdcknfaa
open Go.RowKit

theorem WriteAtO.later {w w' : World} {b o : Nat} {k i s q : Int} {v : Value} (h : WriteAtO w b o k i v s q) (hb : Below w.heap.size w w') : WriteAtO w' b o k i v s q :=
  ⟨cell_keep hb h.1, cell_keep hb h.2.1, cell_keep hb h.2.2.1, cell_keep hb h.2.2.2.1, cell_keep hb h.2.2.2.2⟩

set_option maxRecDepth 100000 in
set_option maxHeartbeats 2000000 in
theorem specApplyC (v : Value) (xs : List DItem) (b o : Nat) (vv : Value) (x : DWrite) (w : World) (h : (Lay.sl Lay.tItem).Reads w [v] xs) (hR : Right xs) (hA : WriteAtO w b o x.kind x.id vv x.session x.seq) (hv : (Lay.sl Lay.int).Reads w [vv] x.vec) (hx : wF x = 0) :
    Calls Try.prog 80 #[v, .pointer (some ⟨b, o, none⟩)] w fun e w' => ∃ v', e = .returned v' ∧ (Lay.sl Lay.tItem).LiesIn w' [v'] (applyI xs x) w.heap.size w'.heap.size ∧ Below w.heap.size w w' := by
  obtain ⟨hi, -, -, hk⟩ := writeFault_zero hx
  have hw := id_wf (idB_of hi)
  obtain ⟨s1, s2⟩ := right_small hR
  obtain ⟨hlen, -, hris⟩ := tableFault_zero hR
  obtain ⟨c0, c1, c2, -, -⟩ := hA
  have hbl : b < w.heap.size := World.block_lt_of_cell? _ _ c0
  obtain ⟨ao, cap, rfl⟩ := open_sl h
  obtain ⟨a2, d2, rfl⟩ := open_sl hv
  rcases hk with ⟨hk1, hvf⟩ | ⟨hk2, -⟩
  · have hv3 := (vecFault_zero hvf).1
    have LP : Hid (∀ W, Below w.heap.size w W → Calls Try.prog 95 #[.slice ao xs.length cap, .int .i64 x.id, .slice a2 x.vec.length d2, .bool true] W fun e w' => ∃ v', e = .returned v' ∧ (Lay.sl Lay.tItem).LiesIn w' [v'] (putI xs x.id x.vec) W.heap.size w'.heap.size ∧ Below W.heap.size W w') := fun W hW => by
      have L := specSet _ xs x.id x.vec _ true W (h.later hW) (hv.later hW) hw s1 s2 (by omega)
      rw [setM_put hris] at L
      exact L
    have LA := hide (specAt _ xs x.id w h)
    have LC := hide (specCopy _ xs w h (by omega) s2)
    rw [hk1] at c0
    have HK := hide hk1
    have HB := hide (Below.refl w.heap.size w)
    have HDZ : Hid (w.heap.size ≤ w.drew.heap.size) := Nat.le_refl _
    clear h hv hvf hv3 hw hi s1 s2 hris hR hx hk1
    cases hro : roomB xs x.id with
    | true =>
      have HE : Hid (applyI xs x = putI xs x.id x.vec) := by
        show applyI xs x = _
        rw [applyI, if_neg (by rw [unhide HK]; decide), hro, if_pos rfl]
      by_cases hl : xs.length < 30
      · have hd : decide ((30 : Int) ≤ (xs.length : Int)) = false := by simp; omega
        clear hro LA LC
        go_enter Try.func80, Try.ntmps80
        go_wp2_with fail
        refine wp_region_noPanic ?_
        refine wp_region_held_drew (S := fun w' => Below w.heap.size w w') (by kernel_rfl) (unhide HB).drew (fun hHeld => ?_)
        generalize w.drew = wD at hHeld HDZ ⊢
        refine wpAnyH_take (i := 0) (oi := { dst := some 30, op := Go.Op.move (Go.Operand.tmp 0), type := 44, pos := "l04_table.go:135", after := #[], guard := none }) (v := ?vp0) rfl (by kernel_rfl) (by kernel_rfl) (by kernel_rfl) (fun _ _ _ h => h) (Or.inl ⟨by rfl, ?hp0⟩) hHeld ?rp0
        case hp0 =>
          intro wS hSw
          (try dsimp only at hSw)
          go_simp
          try with_reducible rfl
        case rp0 =>
        simp only [Act.put, List.setIfInBounds_toArray, List.set_cons_zero, List.set_cons_succ]
        refine wpAnyH_take (i := 1) (oi := { dst := some 31, op := Go.Op.move (Go.Operand.tmp 1), type := 93, pos := "l04_table.go:135", after := #[], guard := none }) (v := ?vp1) rfl (by kernel_rfl) (by kernel_rfl) (by kernel_rfl) (fun _ _ _ h => h) (Or.inl ⟨by rfl, ?hp1⟩) hHeld ?rp1
        case hp1 =>
          intro wS hSw
          (try dsimp only at hSw)
          go_simp
          try with_reducible rfl
        case rp1 =>
        simp only [Act.put, List.setIfInBounds_toArray, List.set_cons_zero, List.set_cons_succ]
        refine wpAnyH_take (i := 2) (oi := { dst := some 32, op := Go.Op.nilCheck (Go.Operand.tmp 31), type := 0, pos := "l04_table.go:135", after := #[{ on := 1, ground := Go.Ground.data }], guard := none }) (v := ?vp2) rfl (by kernel_rfl) (by kernel_rfl) (by kernel_rfl) (fun _ _ _ h => h) (Or.inl ⟨by rfl, ?hp2⟩) hHeld ?rp2
        case hp2 =>
          intro wS hSw
          (try dsimp only at hSw)
          go_simp
          try with_reducible rfl
        case rp2 =>
        simp only [Act.put, List.setIfInBounds_toArray, List.set_cons_zero, List.set_cons_succ]
        refine wpAnyH_take (i := 3) (oi := { dst := some 33, op := Go.Op.fieldAddr 83 (Go.Operand.tmp 32) 1, type := 0, pos := "l04_table.go:135", after := #[{ on := 2, ground := Go.Ground.data }], guard := none }) (v := ?vp3) rfl (by kernel_rfl) (by kernel_rfl) (by kernel_rfl) (fun _ _ _ h => h) (Or.inl ⟨by rfl, ?hp3⟩) hHeld ?rp3
        case hp3 =>
          intro wS hSw
          (try dsimp only at hSw)
          go_simp
          try with_reducible rfl
        case rp3 =>
        simp only [Act.put, List.setIfInBounds_toArray, List.set_cons_zero, List.set_cons_succ]
        refine wpAnyH_take (i := 4) (oi := { dst := some 34, op := Go.Op.load 2 (Go.Operand.tmp 33), type := 2, pos := "l04_table.go:135", after := #[{ on := 3, ground := Go.Ground.data }], guard := none }) (v := ?vp4) rfl (by kernel_rfl) (by kernel_rfl) (by kernel_rfl) (fun _ _ _ h => h) (Or.inl ⟨by rfl, ?hp4⟩) hHeld ?rp4
        case hp4 =>
          intro wS hSw
          have y1 := (hSw.cell (p := ⟨b, o + 1, none⟩) hbl).trans c1
          have y2 := (hSw.cell (p := ⟨b, o + 2, none⟩) hbl).trans c2
          clear hSw
          (try dsimp only at hSw)
          go_simp
          try with_reducible rfl
        case rp4 =>
        simp only [Act.put, List.setIfInBounds_toArray, List.set_cons_zero, List.set_cons_succ]
        refine wpAnyH_take (i := 5) (oi := { dst := some 35, op := Go.Op.move (Go.Operand.tmp 1), type := 93, pos := "l04_table.go:135", after := #[], guard := none }) (v := ?vp5) rfl (by kernel_rfl) (by kernel_rfl) (by kernel_rfl) (fun _ _ _ h => h) (Or.inl ⟨by rfl, ?hp5⟩) hHeld ?rp5
        case hp5 =>
          intro wS hSw
          (try dsimp only at hSw)
          go_simp
          try with_reducible rfl
        case rp5 =>
        simp only [Act.put, List.setIfInBounds_toArray, List.set_cons_zero, List.set_cons_succ]
        refine wpAnyH_take (i := 6) (oi := { dst := some 36, op := Go.Op.nilCheck (Go.Operand.tmp 35), type := 0, pos := "l04_table.go:135", after := #[{ on := 5, ground := Go.Ground.data }], guard := none }) (v := ?vp6) rfl (by kernel_rfl) (by kernel_rfl) (by kernel_rfl) (fun _ _ _ h => h) (Or.inl ⟨by rfl, ?hp6⟩) hHeld ?rp6
        case hp6 =>
          intro wS hSw
          (try dsimp only at hSw)
          go_simp
          try with_reducible rfl
        case rp6 =>
        simp only [Act.put, List.setIfInBounds_toArray, List.set_cons_zero, List.set_cons_succ]
        refine wpAnyH_take (i := 7) (oi := { dst := some 37, op := Go.Op.fieldAddr 83 (Go.Operand.tmp 36) 2, type := 0, pos := "l04_table.go:135", after := #[{ on := 6, ground := Go.Ground.data }], guard := none }) (v := ?vp7) rfl (by kernel_rfl) (by kernel_rfl) (by kernel_rfl) (fun _ _ _ h => h) (Or.inl ⟨by rfl, ?hp7⟩) hHeld ?rp7
        case hp7 =>
          intro wS hSw
          (try dsimp only at hSw)
          go_simp
          try with_reducible rfl
        case rp7 =>
        simp only [Act.put, List.setIfInBounds_toArray, List.set_cons_zero, List.set_cons_succ]
        refine wpAnyH_take (i := 8) (oi := { dst := some 38, op := Go.Op.load 79 (Go.Operand.tmp 37), type := 79, pos := "l04_table.go:135", after := #[{ on := 7, ground := Go.Ground.data }], guard := none }) (v := ?vp8) rfl (by kernel_rfl) (by kernel_rfl) (by kernel_rfl) (fun _ _ _ h => h) (Or.inl ⟨by rfl, ?hp8⟩) hHeld ?rp8
        case hp8 =>
          intro wS hSw
          have y1 := (hSw.cell (p := ⟨b, o + 1, none⟩) hbl).trans c1
          have y2 := (hSw.cell (p := ⟨b, o + 2, none⟩) hbl).trans c2
          clear hSw
          (try dsimp only at hSw)
          go_simp
          try with_reducible rfl
        case rp8 =>
        simp only [Act.put, List.setIfInBounds_toArray, List.set_cons_zero, List.set_cons_succ]
        refine wpAnyH_ready (rs := [9]) (by kernel_rfl) (by simp) ?_
        refine AllReadyH.cons (o := { dst := some 39, op := Go.Op.call { callee := Go.Callee.value (Go.Operand.func 95), args := #[Go.Operand.tmp 30, Go.Operand.tmp 34, Go.Operand.tmp 38, Go.Operand.const (Go.Value.bool true)], argTypes := #[44, 2, 79, 4] }, type := 44, pos := "l04_table.go:135", after := #[{ on := 0, ground := Go.Ground.data }, { on := 4, ground := Go.Ground.data }, { on := 8, ground := Go.Ground.data }], guard := none }) rfl (fun K hK => ?_) AllReadyH.nil
        go_simp
        go_at_call 95
        refine (unhide LP _ hHeld).mono ?_
        rintro e w3 ⟨v3, rfl, hO, hbw⟩
        try go_wp2_with fail
        refine hK.out _ _ (hHeld.trans (hbw.mono hHeld.size)) (fun hHeld => ?_)
        clear hK K
        try simp only [Act.put, List.setIfInBounds_toArray, List.set_cons_zero, List.set_cons_succ]
        refine wpAnyH_take (i := 10) (oi := { dst := some 4, op := Go.Op.assign (Go.Operand.tmp 39), type := 44, pos := "l04_table.go:135", after := #[{ on := 9, ground := Go.Ground.data }, { on := 9, ground := Go.Ground.chain }, { on := 0, ground := Go.Ground.phase }, { on := 1, ground := Go.Ground.phase }, { on := 2, ground := Go.Ground.phase }, { on := 3, ground := Go.Ground.phase }, { on := 4, ground := Go.Ground.phase }, { on := 5, ground := Go.Ground.phase }, { on := 6, ground := Go.Ground.phase }, { on := 7, ground := Go.Ground.phase }, { on := 8, ground := Go.Ground.phase }, { on := 9, ground := Go.Ground.phase }], guard := none }) (v := ?vp10) rfl (by kernel_rfl) (by kernel_rfl) (by kernel_rfl) (fun _ _ _ h => h) (Or.inl ⟨by rfl, ?hp10⟩) hHeld ?rp10
        case hp10 =>
          intro wS hSw
          (try dsimp only at hSw)
          go_simp
          try with_reducible rfl
        case rp10 =>
        simp only [Act.put, List.setIfInBounds_toArray, List.set_cons_zero, List.set_cons_succ]
        refine wpAnyH_done (by kernel_rfl) ?_ _
        refine NoPanic.normal ?_
        have HB3 := hide hHeld
        have HO := hide (hO.mono (lo' := w.heap.size) (unhide HDZ) (Nat.le_refl _))
        clear hHeld hO
        go_wp2_with fail
        go_ret
        exact ⟨_, rfl, by rw [unhide HE]; exact unhide HO, unhide HB3⟩
      · have hd : decide ((30 : Int) ≤ (xs.length : Int)) = true := by simp; omega
        have hh : hasI xs x.id = true := by
          rcases room_true hro with h | h
          · exact h
          · omega
        have HH := hide hh
        clear hro hh LC
        go_enter Try.func80, Try.ntmps80
        go_wp2_with fail
        refine (unhide LA).mono ?_
        rintro e w ⟨⟨r, rfl, hA⟩, rfl⟩
        rcases hA with ⟨rfl, hno⟩ | ⟨k, hk, rfl, -⟩
        · rw [unhide HH] at hno; cases hno
        · have hd2 : decide ((k : Int) < 0) = false := by simp
          go_wp2_with fail
          refine wp_region_noPanic ?_
          refine wp_region_held_drew (S := fun w' => Below w.heap.size w w') (by kernel_rfl) (unhide HB).drew (fun hHeld => ?_)
          generalize w.drew = wD at hHeld HDZ ⊢
          refine wpAnyH_take (i := 0) (oi := { dst := some 30, op := Go.Op.move (Go.Operand.tmp 0), type := 44, pos := "l04_table.go:135", after := #[], guard := none }) (v := ?vq0) rfl (by kernel_rfl) (by kernel_rfl) (by kernel_rfl) (fun _ _ _ h => h) (Or.inl ⟨by rfl, ?hq0⟩) hHeld ?rq0
          case hq0 =>
            intro wS hSw
            (try dsimp only at hSw)
            go_simp
            try with_reducible rfl
          case rq0 =>
          simp only [Act.put, List.setIfInBounds_toArray, List.set_cons_zero, List.set_cons_succ]
          refine wpAnyH_take (i := 1) (oi := { dst := some 31, op := Go.Op.move (Go.Operand.tmp 1), type := 93, pos := "l04_table.go:135", after := #[], guard := none }) (v := ?vq1) rfl (by kernel_rfl) (by kernel_rfl) (by kernel_rfl) (fun _ _ _ h => h) (Or.inl ⟨by rfl, ?hq1⟩) hHeld ?rq1
          case hq1 =>
            intro wS hSw
            (try dsimp only at hSw)
            go_simp
            try with_reducible rfl
          case rq1 =>
          simp only [Act.put, List.setIfInBounds_toArray, List.set_cons_zero, List.set_cons_succ]
          refine wpAnyH_take (i := 2) (oi := { dst := some 32, op := Go.Op.nilCheck (Go.Operand.tmp 31), type := 0, pos := "l04_table.go:135", after := #[{ on := 1, ground := Go.Ground.data }], guard := none }) (v := ?vq2) rfl (by kernel_rfl) (by kernel_rfl) (by kernel_rfl) (fun _ _ _ h => h) (Or.inl ⟨by rfl, ?hq2⟩) hHeld ?rq2
          case hq2 =>
            intro wS hSw
            (try dsimp only at hSw)
            go_simp
            try with_reducible rfl
          case rq2 =>
          simp only [Act.put, List.setIfInBounds_toArray, List.set_cons_zero, List.set_cons_succ]
          refine wpAnyH_take (i := 3) (oi := { dst := some 33, op := Go.Op.fieldAddr 83 (Go.Operand.tmp 32) 1, type := 0, pos := "l04_table.go:135", after := #[{ on := 2, ground := Go.Ground.data }], guard := none }) (v := ?vq3) rfl (by kernel_rfl) (by kernel_rfl) (by kernel_rfl) (fun _ _ _ h => h) (Or.inl ⟨by rfl, ?hq3⟩) hHeld ?rq3
          case hq3 =>
            intro wS hSw
            (try dsimp only at hSw)
            go_simp
            try with_reducible rfl
          case rq3 =>
          simp only [Act.put, List.setIfInBounds_toArray, List.set_cons_zero, List.set_cons_succ]
          refine wpAnyH_take (i := 4) (oi := { dst := some 34, op := Go.Op.load 2 (Go.Operand.tmp 33), type := 2, pos := "l04_table.go:135", after := #[{ on := 3, ground := Go.Ground.data }], guard := none }) (v := ?vq4) rfl (by kernel_rfl) (by kernel_rfl) (by kernel_rfl) (fun _ _ _ h => h) (Or.inl ⟨by rfl, ?hq4⟩) hHeld ?rq4
          case hq4 =>
            intro wS hSw
            have y1 := (hSw.cell (p := ⟨b, o + 1, none⟩) hbl).trans c1
            have y2 := (hSw.cell (p := ⟨b, o + 2, none⟩) hbl).trans c2
            clear hSw
            (try dsimp only at hSw)
            go_simp
            try with_reducible rfl
          case rq4 =>
          simp only [Act.put, List.setIfInBounds_toArray, List.set_cons_zero, List.set_cons_succ]
          refine wpAnyH_take (i := 5) (oi := { dst := some 35, op := Go.Op.move (Go.Operand.tmp 1), type := 93, pos := "l04_table.go:135", after := #[], guard := none }) (v := ?vq5) rfl (by kernel_rfl) (by kernel_rfl) (by kernel_rfl) (fun _ _ _ h => h) (Or.inl ⟨by rfl, ?hq5⟩) hHeld ?rq5
          case hq5 =>
            intro wS hSw
            (try dsimp only at hSw)
            go_simp
            try with_reducible rfl
          case rq5 =>
          simp only [Act.put, List.setIfInBounds_toArray, List.set_cons_zero, List.set_cons_succ]
          refine wpAnyH_take (i := 6) (oi := { dst := some 36, op := Go.Op.nilCheck (Go.Operand.tmp 35), type := 0, pos := "l04_table.go:135", after := #[{ on := 5, ground := Go.Ground.data }], guard := none }) (v := ?vq6) rfl (by kernel_rfl) (by kernel_rfl) (by kernel_rfl) (fun _ _ _ h => h) (Or.inl ⟨by rfl, ?hq6⟩) hHeld ?rq6
          case hq6 =>
            intro wS hSw
            (try dsimp only at hSw)
            go_simp
            try with_reducible rfl
          case rq6 =>
          simp only [Act.put, List.setIfInBounds_toArray, List.set_cons_zero, List.set_cons_succ]
          refine wpAnyH_take (i := 7) (oi := { dst := some 37, op := Go.Op.fieldAddr 83 (Go.Operand.tmp 36) 2, type := 0, pos := "l04_table.go:135", after := #[{ on := 6, ground := Go.Ground.data }], guard := none }) (v := ?vq7) rfl (by kernel_rfl) (by kernel_rfl) (by kernel_rfl) (fun _ _ _ h => h) (Or.inl ⟨by rfl, ?hq7⟩) hHeld ?rq7
          case hq7 =>
            intro wS hSw
            (try dsimp only at hSw)
            go_simp
            try with_reducible rfl
          case rq7 =>
          simp only [Act.put, List.setIfInBounds_toArray, List.set_cons_zero, List.set_cons_succ]
          refine wpAnyH_take (i := 8) (oi := { dst := some 38, op := Go.Op.load 79 (Go.Operand.tmp 37), type := 79, pos := "l04_table.go:135", after := #[{ on := 7, ground := Go.Ground.data }], guard := none }) (v := ?vq8) rfl (by kernel_rfl) (by kernel_rfl) (by kernel_rfl) (fun _ _ _ h => h) (Or.inl ⟨by rfl, ?hq8⟩) hHeld ?rq8
          case hq8 =>
            intro wS hSw
            have y1 := (hSw.cell (p := ⟨b, o + 1, none⟩) hbl).trans c1
            have y2 := (hSw.cell (p := ⟨b, o + 2, none⟩) hbl).trans c2
            clear hSw
            (try dsimp only at hSw)
            go_simp
            try with_reducible rfl
          case rq8 =>
          simp only [Act.put, List.setIfInBounds_toArray, List.set_cons_zero, List.set_cons_succ]
          refine wpAnyH_ready (rs := [9]) (by kernel_rfl) (by simp) ?_
          refine AllReadyH.cons (o := { dst := some 39, op := Go.Op.call { callee := Go.Callee.value (Go.Operand.func 95), args := #[Go.Operand.tmp 30, Go.Operand.tmp 34, Go.Operand.tmp 38, Go.Operand.const (Go.Value.bool true)], argTypes := #[44, 2, 79, 4] }, type := 44, pos := "l04_table.go:135", after := #[{ on := 0, ground := Go.Ground.data }, { on := 4, ground := Go.Ground.data }, { on := 8, ground := Go.Ground.data }], guard := none }) rfl (fun K hK => ?_) AllReadyH.nil
          go_simp
          go_at_call 95
          refine (unhide LP _ hHeld).mono ?_
          rintro e w3 ⟨v3, rfl, hO, hbw⟩
          try go_wp2_with fail
          refine hK.out _ _ (hHeld.trans (hbw.mono hHeld.size)) (fun hHeld => ?_)
          clear hK K
          try simp only [Act.put, List.setIfInBounds_toArray, List.set_cons_zero, List.set_cons_succ]
          refine wpAnyH_take (i := 10) (oi := { dst := some 4, op := Go.Op.assign (Go.Operand.tmp 39), type := 44, pos := "l04_table.go:135", after := #[{ on := 9, ground := Go.Ground.data }, { on := 9, ground := Go.Ground.chain }, { on := 0, ground := Go.Ground.phase }, { on := 1, ground := Go.Ground.phase }, { on := 2, ground := Go.Ground.phase }, { on := 3, ground := Go.Ground.phase }, { on := 4, ground := Go.Ground.phase }, { on := 5, ground := Go.Ground.phase }, { on := 6, ground := Go.Ground.phase }, { on := 7, ground := Go.Ground.phase }, { on := 8, ground := Go.Ground.phase }, { on := 9, ground := Go.Ground.phase }], guard := none }) (v := ?vq10) rfl (by kernel_rfl) (by kernel_rfl) (by kernel_rfl) (fun _ _ _ h => h) (Or.inl ⟨by rfl, ?hq10⟩) hHeld ?rq10
          case hq10 =>
            intro wS hSw
            (try dsimp only at hSw)
            go_simp
            try with_reducible rfl
          case rq10 =>
          simp only [Act.put, List.setIfInBounds_toArray, List.set_cons_zero, List.set_cons_succ]
          refine wpAnyH_done (by kernel_rfl) ?_ _
          refine NoPanic.normal ?_
          have HB3 := hide hHeld
          have HO := hide (hO.mono (lo' := w.heap.size) (unhide HDZ) (Nat.le_refl _))
          clear hHeld hO
          go_wp2_with fail
          go_ret
          exact ⟨_, rfl, by rw [unhide HE]; exact unhide HO, unhide HB3⟩
    | false =>
      have HE : Hid (applyI xs x = xs) := by
        show applyI xs x = _
        rw [applyI, if_neg (by rw [unhide HK]; decide), hro, if_neg (by simp)]
      obtain ⟨r1, r2⟩ := room_false hro
      have hd : decide ((30 : Int) ≤ (xs.length : Int)) = true := by simp; omega
      have HH := hide r1
      clear hro r1 r2 LP
      go_enter Try.func80, Try.ntmps80
      go_wp2_with fail
      refine (unhide LA).mono ?_
      rintro e w ⟨⟨r, rfl, hA⟩, rfl⟩
      rcases hA with ⟨rfl, hno⟩ | ⟨k, hk, rfl, hfd⟩
      · clear hno
        go_wp2_with fail
        refine (unhide LC).mono ?_
        rintro e w3 ⟨v3, rfl, hO, hb⟩
        have HB3 := hide hb
        have HO := hide hO
        clear hb hO
        go_wp2_with fail
        go_ret
        exact ⟨_, rfl, by rw [unhide HE]; exact unhide HO, unhide HB3⟩
      · obtain ⟨hx, hxi⟩ := find_at hfd
        exact absurd hxi (hasI_false (unhide HH) _ hx)
  · have L := specSet _ xs x.id [] (.slice none 0 0) false w h (own_noInts (lo := 0) (hi := 0)).reads hw s1 s2 (by simp)
    rw [setM_drop] at L
    have HL := hide L
    have HE : Hid (applyI xs x = dropI xs x.id) := by
      show applyI xs x = _
      rw [applyI, if_pos hk2]
    rw [hk2] at c0
    clear h hv hw hi s1 s2 hris hR hx hk2 L
    go_enter Try.func80, Try.ntmps80
    go_wp2_with fail
    refine (unhide HL).mono ?_
    rintro e w3 ⟨v3, rfl, hO, hb⟩
    have HB3 := hide hb
    have HO := hide hO
    clear hb hO HL
    go_wp2_with fail
    go_ret
    exact ⟨_, rfl, by rw [unhide HE]; exact unhide HO, unhide HB3⟩

end Go.Proofs.Ytbogjepkdcknfaa

namespace Go.Proofs.Ytbogjepkdcknfaa
open Go.RowKit

set_option maxRecDepth 10000 in
set_option maxHeartbeats 1000000 in
theorem specOf_pos (b off cap : Nat) (ws : List DWrite) (w : World) (h : (Lay.sl Lay.tWrite).Reads w [.slice (some ⟨b, off, none⟩) ws.length cap] ws) (hbl : b < w.heap.size) (hn : ws.length ≤ 200) (hall : ∀ x ∈ ws, wF x = 0) :
    Calls Try.prog 61 #[.slice (some ⟨b, off, none⟩) ws.length cap] w fun e w' => ∃ v', e = .returned v' ∧ (Lay.sl Lay.tItem).LiesIn w' [v'] (ofI ws) w.heap.size w'.heap.size ∧ Below w.heap.size w w' := by
  have H := hide h
  have HA := hide hall
  clear h hall
  have HB0 := hide ((Below.refl w.heap.size w).alloc (Nat.le_refl _) (.cells #[] 104))
  have HL0 : Hid ((Lay.sl Lay.tItem).LiesIn (w.alloc (.cells #[] 104)) [.slice (some ⟨w.heap.size, 0, none⟩) 0 0] [] w.heap.size (w.alloc (.cells #[] 104)).heap.size) := ⟨[], ⟨_, _, rfl, by simp, Or.inl ⟨rfl, rfl⟩⟩, by simp⟩
  go_enter Try.func61, Try.ntmps61
  go_wp2_with fail
  go_loopw [3, 4] (fun v i wr => ∃ k : Nat, k ≤ ws.length ∧ i = .int .i64 k ∧ (Lay.sl Lay.tItem).LiesIn wr [v] (ofI (ws.take k)) w.heap.size wr.heap.size ∧ Below w.heap.size w wr) (fun _ i _ => ws.length - (intOf i).toNat)
  case atStart => exact ⟨0, Nat.zero_le _, rfl, unhide HL0, unhide HB0⟩
  case round =>
    obtain ⟨k, hk, rfl, hO, hB⟩ := hrel
    clear HL0 HB0
    by_cases hlt : k < ws.length
    · obtain ⟨row, hc, hr⟩ := Lay.row_at (unhide H) hlt
      replace hr := hr.later hB
      obtain ⟨a2, d2, rfl, R2⟩ := open_Write hr
      have c0 : wr.cell? ⟨b, off + k * 5, none⟩ = some (.int .i64 (ws[k]).kind) := (hB.cell (p := ⟨b, off + k * 5, none⟩) hbl).trans (hc 0 (by decide))
      have c1 : wr.cell? ⟨b, off + k * 5 + 1, none⟩ = some (.int .i64 (ws[k]).id) := (hB.cell (p := ⟨b, off + k * 5 + 1, none⟩) hbl).trans (hc 1 (by decide))
      have c2 : wr.cell? ⟨b, off + k * 5 + 2, none⟩ = some (.slice a2 (ws[k]).vec.length d2) := (hB.cell (p := ⟨b, off + k * 5 + 2, none⟩) hbl).trans (hc 2 (by decide))
      have c3 : wr.cell? ⟨b, off + k * 5 + 3, none⟩ = some (.int .i64 (ws[k]).session) := (hB.cell (p := ⟨b, off + k * 5 + 3, none⟩) hbl).trans (hc 3 (by decide))
      have c4 : wr.cell? ⟨b, off + k * 5 + 4, none⟩ = some (.int .i64 (ws[k]).seq) := (hB.cell (p := ⟨b, off + k * 5 + 4, none⟩) hbl).trans (hc 4 (by decide))
      have HST := hide (ofI_snoc ws k hlt)
      have hRt := right_of_writes (ws.take k) fun x hx => unhide HA x (List.mem_of_mem_take hx)
      have hf := unhide HA ws[k] (List.getElem_mem hlt)
      clear hc hr
      generalize hx : ws[k] = x at *
      clear hx
      have L := specApplyC u3 (ofI (ws.take k)) b (off + k * 5) _ x wr hO.reads hRt ⟨c0, c1, c2, c3, c4⟩ R2 hf
      rw [← unhide HST] at L
      have HL := hide L
      have HB := hide hB
      clear L R2 hO hB hRt hf c0 c1 c2 c3 c4
      go_wp2_with fail
      refine (unhide HL).mono ?_
      rintro e w3 ⟨v3, rfl, hO3, hb⟩
      have HO3 := hide (hO3.mono (lo' := w.heap.size) (unhide HB).size (Nat.le_refl _))
      have HB3 := hide ((unhide HB).trans (hb.mono (unhide HB).size))
      clear hO3 hb HB HL
      go_wp2_with fail
      go_roundw
      case rel => exact ⟨k + 1, by omega, by go_num, unhide HO3, unhide HB3⟩
      case measure => simp [intOf]; omega
    · obtain rfl : k = ws.length := by omega
      rw [List.take_length] at hO
      have HO := hide hO
      have HB := hide hB
      clear hO hB H
      go_wp2_with fail
      go_ret
      exact ⟨_, rfl, unhide HO, unhide HB⟩

theorem specOf (v : Value) (ws : List DWrite) (w : World) (h : (Lay.sl Lay.tWrite).Reads w [v] ws) (hn : ws.length ≤ 200) (hall : ∀ x ∈ ws, wF x = 0) :
    Calls Try.prog 61 #[v] w fun e w' => ∃ v', e = .returned v' ∧ (Lay.sl Lay.tItem).LiesIn w' [v'] (ofI ws) w.heap.size w'.heap.size ∧ Below w.heap.size w w' := by
  obtain ⟨ao, cap, rfl⟩ := open_sl h
  by_cases hp : 0 < ws.length
  · obtain ⟨b, off, rfl, hbl⟩ := Lay.sl_addr h hp
    exact specOf_pos b off cap ws w h hbl hn hall
  · obtain rfl : ws = [] := List.eq_nil_of_length_eq_zero (by omega)
    clear h hp hn hall
    have HB := hide ((Below.refl w.heap.size w).alloc (Nat.le_refl _) (.cells #[] 104))
    go_enter Try.func61, Try.ntmps61
    go_wp2_with fail
    refine wp_loop_rounds 1 ?_
    rw [rounds_succ]
    go_wp2_with fail
    go_ret
    exact ⟨_, rfl, ⟨[], ⟨_, _, rfl, by simp [ofI], Or.inl ⟨rfl, rfl⟩⟩, by simp⟩, unhide HB⟩


end Go.Proofs.Ytbogjepkdcknfaa

namespace Go.Proofs.Ytbogjepkdcknfaa
open Go.RowKit

set_option maxRecDepth 10000 in
set_option maxHeartbeats 2000000 in
theorem specStateAt (cs : List Value) (x : DNode) (c : Int) (w : World) (h : Lay.tNode.Reads w cs x) :
    Calls Try.prog 29 #[.agg cs.toArray, .int .i64 c] w fun e w' => ∃ cs, e = .returned (.agg cs.toArray) ∧ Lay.tTableResult.Reads w' cs (stateR x c) ∧ Below w.heap.size w w' := by
  have hN := h
  obtain ⟨a4, d4, rfl, R4⟩ := open_Node h
  have nb : Below w.heap.size w ((w.alloc (.cells #[.int .i64 x.id, .bool x.up, .int .i64 x.epoch, .int .i64 x.lease, .slice a4 x.writes.length d4, .int .i64 x.sure, .int .i64 x.clean] 29)).alloc (.cells #[.int .i64 0, .slice none 0 0] 46)) := ((Below.refl _ _).alloc (Nat.le_refl _) _).alloc (by simp) _
  have bX : Box 0 #[.int .i64 x.id, .bool x.up, .int .i64 x.epoch, .int .i64 x.lease, .slice a4 x.writes.length d4, .int .i64 x.sure, .int .i64 x.clean] 29 ((w.alloc (.cells #[.int .i64 x.id, .bool x.up, .int .i64 x.epoch, .int .i64 x.lease, .slice a4 x.writes.length d4, .int .i64 x.sure, .int .i64 x.clean] 29)).alloc (.cells #[.int .i64 0, .slice none 0 0] 46)) w.heap.size := (newBox (Nat.zero_le _)).grow _
  have bR : Box 0 #[.int .i64 0, .slice none 0 0] 46 ((w.alloc (.cells #[.int .i64 x.id, .bool x.up, .int .i64 x.epoch, .int .i64 x.lease, .slice a4 x.writes.length d4, .int .i64 x.sure, .int .i64 x.clean] 29)).alloc (.cells #[.int .i64 0, .slice none 0 0] 46)) (w.heap.size + 1) := newBoxAt (Nat.zero_le _) (by simp)
  have HL := hide (l9FaultC w.heap.size a4 d4 x _ bX (R4.later nb))
  have HX := hide bX
  have HR := hide bR
  have HB := hide nb
  have H4 := hide (R4.later nb)
  clear h hN nb bX bR R4
  go_enter Try.func29, Try.ntmps29
  go_wp2_with fail
  generalize (w.alloc (.cells #[.int .i64 x.id, .bool x.up, .int .i64 x.epoch, .int .i64 x.lease, .slice a4 x.writes.length d4, .int .i64 x.sure, .int .i64 x.clean] 29)).alloc (.cells #[.int .i64 0, .slice none 0 0] 46) = W0 at *
  refine (unhide HL).mono ?_
  rintro e w1 ⟨rfl, hb⟩
  have HB1 := hide ((unhide HB).trans (hb.mono (unhide HB).size))
  have bX := (unhide HX).keep hb
  have bR := (unhide HR).keep hb
  have H41 := hide ((unhide H4).later hb)
  clear hb HL HX HR HB H4
  by_cases hf : nodeFault x = 0
  · have hok := nodeFault_zero hf
    have HF := hide hf
    rw [hf]
    have HOK := hide hok
    have hln := hok.len
    clear hf hok
    have x4 := Box.at bX 4 _ rfl
    simp only [List.getElem_toArray, List.getElem_cons_zero, List.getElem_cons_succ] at x4
    have xl := bX.lt
    have HRR := hide bR
    clear bX bR
    have LU := hide (inC c 0 (x.writes.length : Int) w1)
    go_wp2_with fail
    refine (unhide LU).mono ?_
    rintro e w9 ⟨rfl, h9⟩
    subst w9
    clear LU
    by_cases hc : 0 ≤ c ∧ c ≤ (x.writes.length : Int)
    · have hd2 : (decide (0 ≤ c) && decide (c ≤ (x.writes.length : Int))) = true := by simpa using hc
      rw [hd2]
      clear hd2
      obtain ⟨k, rfl⟩ : ∃ k : Nat, c = (k : Int) := ⟨c.toNat, by omega⟩
      have hk : k ≤ x.writes.length := by omega
      have hkd : k ≤ d4 := Nat.le_trans hk (unhide H41).cap.2
      have HY : Hid (stateR x (k : Int) = ⟨0, ofI (x.writes.take k)⟩) := by show stateR x (k : Int) = _; rw [stateR, if_pos (unhide HF), if_pos hc, Int.toNat_natCast]
      have HT := hide (sl_take_lies (unhide H41).liesIn k hk)
      have HO := hide (specOf _ (x.writes.take k) w1 (unhide HT).reads (by rw [List.length_take]; omega) (fun y hy => (unhide HOK).ws y (List.mem_of_mem_take hy)))
      clear hc
      go_wp2_with fail
      refine (unhide HO).mono ?_
      rintro e w2 ⟨v9, rfl, O9, hb⟩
      obtain ⟨a9, d9, rfl⟩ := open_sl O9.reads
      have bR := (unhide HRR).keep hb
      have hrl : w.heap.size + 1 < w1.heap.size := (unhide HRR).lt
      have z0 := Box.at bR 0 _ rfl
      have z1 := Box.at bR 1 _ rfl
      simp only [List.getElem_toArray, List.getElem_cons_zero, List.getElem_cons_succ] at z0 z1
      have ff := Box.soft bR
      have l0 := Box.lt bR
      have HBF := hide (below_setAll ((unhide HB1).trans (hb.mono (unhide HB1).size)) (w.heap.size + 1) 0 [.int .i64 0, .slice a9 (ofI (x.writes.take k)).length d9] (by omega))
      have HOF := hide (lies_store' (s := w.heap.size + 1) (vs := [.int .i64 0, .slice a9 (ofI (x.writes.take k)).length d9]) O9 (by omega))
      clear bR hb O9 HO HT H41 HRR HB1
      generalize (ofI (x.writes.take k)).length = nn at *
      go_wp2_with fail
      refine bodyPost_ret (v := .agg #[.int .i64 0, .slice a9 nn d9]) (by simp [results, Try.results29, go_sem, z0, z1]) rfl ?_
      rw [unhide HY]
      exact ⟨[.int .i64 0, .slice a9 nn d9], rfl, reads_items (by decide) (unhide HOF).reads, unhide HBF⟩
    · have hd2 : (decide (0 ≤ c) && decide (c ≤ (x.writes.length : Int))) = false := by
        by_cases h1 : 0 ≤ c
        · simp [h1]; omega
        · simp [h1]
      rw [hd2]
      clear hd2
      have HY : Hid (stateR x c = ⟨3, []⟩) := by show stateR x c = _; rw [stateR, if_pos (unhide HF), if_neg hc]
      have bR := unhide HRR
      have z0 := Box.at bR 0 _ rfl
      have z1 := Box.at bR 1 _ rfl
      simp only [List.getElem_toArray, List.getElem_cons_zero, List.getElem_cons_succ] at z0 z1
      have ff := Box.soft bR
      have l0 := Box.lt bR
      clear bR
      go_wp2_with fail
      refine bodyPost_ret (v := .agg #[.int .i64 3, .slice none 0 0]) (by simp [results, Try.results29, go_sem, z0, z1]) rfl ?_
      rw [unhide HY]
      have hB9 := below_setAll (unhide HB1) (w.heap.size + 1) 0 [.int .i64 3, .slice none 0 0] (by omega)
      exact ⟨[.int .i64 3, .slice none 0 0], rfl, (own_codeItems (lo := 0) (hi := 0) (by decide)).reads, hB9⟩
  · have hd : (nodeFault x != 0) = true := by simpa using hf
    have HY : Hid (stateR x c = ⟨nodeFault x, []⟩) := by show stateR x c = _; rw [stateR, if_neg hf]
    have HW := hide (nodeFault_wf x)
    clear hf bX
    generalize nodeFault x = cc at *
    have z0 := Box.at bR 0 _ rfl
    have z1 := Box.at bR 1 _ rfl
    simp only [List.getElem_toArray, List.getElem_cons_zero, List.getElem_cons_succ] at z0 z1
    have ff := Box.soft bR
    have l0 := Box.lt bR
    clear bR
    go_wp2_with fail
    refine bodyPost_ret (v := .agg #[.int .i64 cc, .slice none 0 0]) (by simp [results, Try.results29, go_sem, z0, z1]) rfl ?_
    rw [unhide HY]
    have hB9 := below_setAll (unhide HB1) (w.heap.size + 1) 0 [.int .i64 cc, .slice none 0 0] (by omega)
    exact ⟨[.int .i64 cc, .slice none 0 0], rfl, (own_codeItems (lo := 0) (hi := 0) (unhide HW)).reads, hB9⟩

end Go.Proofs.Ytbogjepkdcknfaa

namespace Go.Proofs.Ytbogjepkdcknfaa
open Go.RowKit Go.Maps

def tick (s q : Int) : Value := .agg #[.int .i64 s, .int .i64 q]
theorem tickLaid : laidOutB Try.prog = true := by kernel_rfl
theorem tickRow : (140 : TypeId) < Try.prog.types.size := of_decide_eq_true (by kernel_rfl)
theorem tickWide : (match Try.prog.underlying 140 with | some (.array _ _) | some (.struct _) => true | _ => false) = true := by kernel_rfl
set_option maxRecDepth 100000 in
theorem tickKeyed : Keyed Try.prog 140 := Keyed.of_law (deep_law_laid tickLaid (m := 2) (by omega) tickRow (by kernel_rfl) tickWide)
set_option maxRecDepth 100000 in
theorem tickKey {s q : Int} (hs : (Lit.int .i64 s).wf = true) (hq : (Lit.int .i64 q).wf = true) : keyOf Try.prog 140 (tick s q) = some (.string (keyBytes [.int .i64 s, .int .i64 q])) := by
  have hk : Try.prog.keyType 140 = true := by kernel_rfl
  have hc : Try.prog.cellsOf 140 = 2 := by kernel_rfl
  have hc1 : Try.prog.cellsOf 2 = 1 := by kernel_rfl
  have hf : (tick s q).formed Try.prog 140 = true := by simp [tick, Value.formed, Try.underlying140, hc]
  obtain ⟨m, hm⟩ : ∃ m, Try.prog.types.size = m + 1 := ⟨_, (Nat.succ_pred_eq_of_pos (Nat.lt_of_le_of_lt (Nat.zero_le _) tickRow)).symm⟩
  unfold keyOf
  simp only [Try.underlying140]
  rw [if_pos (by rw [hk, hf]; rfl), hm]
  unfold Program.keyLits
  simp only [Try.underlying140, tick, Value.cells]
  simp [hc, hc1, Program.keyLits, Try.underlying2, hs, hq]
theorem tickZero (w : World) : (zeroValue 2).run Try.prog w = .ok (.int .i64 0) w := by kernel_rfl

/-- Block b is a map of at most n entries that tells f. -/
def Ticks (w : World) (b n : Nat) (f : Int → Int → Nat) : Prop := ∃ D : DataW Unit, w.ownsMap Try.prog 140 (plainElem Try.prog 2) b n D ∧
  ∀ s q, (Lit.int .i64 s).wf = true → (Lit.int .i64 q).wf = true → Maps.has D (.string (keyBytes [.int .i64 s, .int .i64 q])) = decide (f s q ≠ 0) ∧ D.atKey (.string (keyBytes [.int .i64 s, .int .i64 q])) (.lit (.int .i64 0)) = .lit (.int .i64 (f s q))
theorem Ticks.ext {S : Nat → Prop} {w w' : World} {b n : Nat} {f : Int → Int → Nat} (h : Ticks w b n f) (e : Ext S w w') (hb : ¬ S b) : Ticks w' b n f := by
  obtain ⟨D, h, r⟩ := h
  have hlt := World.ownsMap.lt h
  obtain ⟨es, clock, hb', r'⟩ := h
  exact ⟨D, ⟨es, clock, (e.block b hlt hb).trans hb', r'⟩, r⟩
theorem Ticks.lt {w : World} {b n : Nat} {f : Int → Int → Nat} (h : Ticks w b n f) : b < w.heap.size := by
  obtain ⟨D, h, -⟩ := h
  exact World.ownsMap.lt h
theorem Ticks.mono {w : World} {b n n' : Nat} {f : Int → Int → Nat} (h : Ticks w b n f) (hn : n ≤ n') : Ticks w b n' f := by
  obtain ⟨D, h, r⟩ := h
  exact ⟨D, World.ownsMap.mono h hn, r⟩
theorem Ticks.congr {w : World} {b n : Nat} {f g : Int → Int → Nat} (h : Ticks w b n f) (e : ∀ s q, f s q = g s q) : Ticks w b n g := by
  obtain ⟨D, h, r⟩ := h
  exact ⟨D, h, fun s q hs hq => by rw [← e]; exact r s q hs hq⟩
theorem Ticks.look {w : World} {b n : Nat} {f : Int → Int → Nat} (h : Ticks w b n f) {s q : Int} (hs : (Lit.int .i64 s).wf = true) (hq : (Lit.int .i64 q).wf = true) :
    (Instr.lookup 132 (.map (some b)) (tick s q) true).run Try.prog w = .ok (.tuple #[.int .i64 (f s q), .bool (decide (f s q ≠ 0))]) w := by
  obtain ⟨D, h, r⟩ := h
  obtain ⟨r1, r2⟩ := r s q hs hq
  obtain ⟨v, ps, hrun, hv⟩ := World.ownsMap.look_ok h tickKeyed Try.underlying132 (tickZero w) (plainElem_int Try.underlying2 (by decide)) (tickKey hs hq)
  rw [r2] at hv
  obtain ⟨c, rfl, hc, -⟩ := plainElem_int_inv Try.underlying2 hv
  rw [r1] at hrun
  simp only [Prod.mk.injEq, DataW.lit.injEq, Lit.int.injEq, true_and] at hc
  rw [hc.1]
  exact hrun
theorem Ticks.put {w : World} {b n : Nat} {f : Int → Int → Nat} (h : Ticks w b n f) (hn : n < 100000) {s q : Int} (hs : (Lit.int .i64 s).wf = true) (hq : (Lit.int .i64 q).wf = true) {m : Nat} (hm : m ≠ 0) (hw : (Lit.int .i64 (m : Int)).wf = true) :
    ∃ w', (Instr.mapUpdate 132 (.map (some b)) (tick s q) (.int .i64 m)).run Try.prog w = .ok () w' ∧ Ticks w' b (n + 1) (fun s' q' => if s' = s ∧ q' = q then m else f s' q') ∧ Ext (fun c => c = b) w w' := by
  obtain ⟨D, h, r⟩ := h
  obtain ⟨w', h1, h2, h3⟩ := World.ownsMap.store h tickKeyed Try.underlying132 (by unfold maxLen; omega) (tickKey hs hq) (plainElem_int Try.underlying2 hw)
  refine ⟨w', h1, ⟨_, h2, fun s' q' hs' hq' => ?_⟩, ?_⟩
  · have hk : WideAt.IsKeyLit (.string (keyBytes [.int .i64 s, .int .i64 q])) := trivial
    by_cases e : s' = s ∧ q' = q
    · obtain ⟨rfl, rfl⟩ := e
      rw [Maps.has_put_same (World.ownsMap.isMap h) hk, Maps.atKey_put_same (World.ownsMap.isMap h) hk]
      simp [hm]
    · have hne : Lit.string (keyBytes [.int .i64 s', .int .i64 q']) ≠ Lit.string (keyBytes [.int .i64 s, .int .i64 q]) := by
        intro e2
        have k1 := tickKey hs' hq'
        rw [e2] at k1
        have k2 := tickKeyed.inj k1 (tickKey hs hq)
        simp only [tick, Value.agg.injEq, Array.mk.injEq, List.cons.injEq, Value.int.injEq, true_and, and_true] at k2
        exact e k2
      rw [Maps.has_put_other hne, Maps.atKey_put_other hne]
      simp only [if_neg e]
      exact r s' q' hs' hq'
  · have g := h3.grown
    obtain ⟨es, clock, es', clock', hb, rfl⟩ := h3
    exact ⟨rfl, rfl, rfl, by simp [ChangeMaps.setBlock], fun k hk hn => g.block k hk (fun e => hn (by simpa using e))⟩
theorem ticks_new (w : World) : Ticks (w.alloc (.map #[] 0)) w.heap.size 0 (fun _ _ => 0) := ⟨.map [], World.ownsMap_made w _ _ _, fun _ _ _ _ => ⟨rfl, rfl⟩⟩

end Go.Proofs.Ytbogjepkdcknfaa

namespace Go.Proofs.Ytbogjepkdcknfaa
open Go.RowKit

def tcells (v : Value) (mb : Nat) (f : Int → Int) : Array Value := #[v, .map (some mb), .int .i64 (f 0), .int .i64 (f 1), .int .i64 (f 2), .int .i64 (f 3), .int .i64 (f 4), .int .i64 (f 5), .int .i64 (f 6), .int .i64 (f 7), .int .i64 (f 8), .int .i64 (f 9)]
theorem tcells_at (v : Value) (mb : Nat) (f : Int → Int) (i : Nat) (h : i < 10) : (tcells v mb f)[2 + i]? = some (.int .i64 (f i)) := by
  match i, h with
  | 0, _ => rfl
  | 1, _ => rfl
  | 2, _ => rfl
  | 3, _ => rfl
  | 4, _ => rfl
  | 5, _ => rfl
  | 6, _ => rfl
  | 7, _ => rfl
  | 8, _ => rfl
  | 9, _ => rfl
theorem tcells_set (v : Value) (mb : Nat) (f : Int → Int) (i : Nat) (h : i < 10) (z : Int) : (tcells v mb f).setIfInBounds (2 + i) (.int .i64 z) = tcells v mb (fun j => if j = i then z else f j) := by
  match i, h with
  | 0, _ => rfl
  | 1, _ => rfl
  | 2, _ => rfl
  | 3, _ => rfl
  | 4, _ => rfl
  | 5, _ => rfl
  | 6, _ => rfl
  | 7, _ => rfl
  | 8, _ => rfl
  | 9, _ => rfl
theorem tcells_congr {v : Value} {mb : Nat} {f g : Int → Int} (h : ∀ j, f j = g j) : tcells v mb f = tcells v mb g := by rw [funext h]

theorem frozen_of_block {w w' : World} {b : Nat} (h : w'.heap[b]? = w.heap[b]?) (o : Nat) : w'.frozen? ⟨b, o, none⟩ = w.frozen? ⟨b, o, none⟩ := by
  unfold World.frozen?
  simp only [h]
/-- Block p is a story of the writes ws, with the last numbers f and the places g; its map is block mb; all that it holds lies below N. -/
structure Told0 (w : World) (p mb N n : Nat) (ws : List DWrite) (f : Int → Int) (g : Int → Int → Nat) (v : Value) (rows : List (List Value)) (bls : List (List Nat)) : Prop where
  lt : mb < p
  box : Box 0 (tcells v mb f) 134 w p
  grow : Grow Lay.tWrite w (p + 1) 83 v rows ws bls
  sub : ∀ b ∈ bls.flatten, p + 1 ≤ b ∧ ∀ o, w.frozen? ⟨b, o, none⟩ = false
  nd : bls.flatten.Nodup
  seen : Ticks w mb n g
  hiB : ∀ b ∈ bls.flatten, b < N
  hiV : ∀ b, v.ownBlock = some b → b < N
  pN : p < N
namespace Told0
variable {w w' : World} {p mb N n : Nat} {ws : List DWrite} {f : Int → Int} {g : Int → Int → Nat} {v : Value} {rows : List (List Value)} {bls : List (List Nat)}
theorem kept (h : Told0 w p mb N n ws f g v rows bls) {S : Nat → Prop} (e : Ext S w w') (hS : ∀ c, mb ≤ c → c < w.heap.size → ¬ S c) : Told0 w' p mb N n ws f g v rows bls := by
  have hs : ∀ b ∈ bls.flatten, w'.heap[b]? = w.heap[b]? := fun b hb => e.block b (h.grow.sub_lt b hb) (hS b (by have := (h.sub b hb).1; have := h.lt; omega) (h.grow.sub_lt b hb))
  refine ⟨h.lt, h.box.ext e (hS p (Nat.le_of_lt h.lt) h.box.lt), h.grow.kept ?_ hs, fun b hm => ⟨(h.sub b hm).1, fun o => (frozen_of_block (hs b hm) o).trans ((h.sub b hm).2 o)⟩, h.nd, h.seen.ext e (hS mb (Nat.le_refl _) h.seen.lt), h.hiB, h.hiV, h.pN⟩
  obtain ⟨h1, h2⟩ := h.grow.own
  refine ⟨h1, ?_⟩
  rcases h2 with h2 | ⟨gb, cap, cur, hv, hg, hh, r⟩
  · exact Or.inl h2
  · exact Or.inr ⟨gb, cap, cur, hv, hg, (e.block gb (lt_of_block hh) (hS gb (by have := h.lt; omega) (lt_of_block hh))).trans hh, r⟩
theorem later (h : Told0 w p mb N n ws f g v rows bls) (hb : Below w.heap.size w w') : Told0 w' p mb N n ws f g v rows bls := h.kept (ext_of_below hb (fun _ => False)) (fun _ _ _ e => e)
theorem raise (h : Told0 w p mb N n ws f g v rows bls) {N' : Nat} (hN : N ≤ N') : Told0 w p mb N' n ws f g v rows bls :=
  ⟨h.lt, h.box, h.grow, h.sub, h.nd, h.seen, fun b hb => Nat.lt_of_lt_of_le (h.hiB b hb) hN, fun b hb => Nat.lt_of_lt_of_le (h.hiV b hb) hN, Nat.lt_of_lt_of_le h.pN hN⟩
theorem top (h : Told0 w p mb N n ws f g v rows bls) : Told0 w p mb w.heap.size n ws f g v rows bls :=
  ⟨h.lt, h.box, h.grow, h.sub, h.nd, h.seen, fun b hb => h.grow.sub_lt b hb, fun b hb => (h.grow.own.lt b hb).2, h.box.lt⟩
theorem own (h : Told0 w p mb N n ws f g v rows bls) (hn : ws.length ≤ 9223372036854775807) : (Lay.sl Lay.tWrite).OwnIn w [v] ws (p + 1) w.heap.size := h.grow.toOwn hn h.nd h.sub
/-- The slice has grown, and stands in its cell. -/
theorem added (h : Told0 w p mb N n ws f g v rows bls) {v' : Value} {rows' : List (List Value)} {ws' : List DWrite} {bls' : List (List Nat)} (hG : Grow Lay.tWrite w' (p + 1) 83 v' rows' ws' bls') (hE : Ext (fun q => v.ownBlock = some q) w w') (hs : ∀ b ∈ bls'.flatten, p + 1 ≤ b ∧ ∀ o, w'.frozen? ⟨b, o, none⟩ = false) (hnd : bls'.flatten.Nodup) :
    Told0 (w'.setCell ⟨p, 0, none⟩ v') p mb (w'.setCell ⟨p, 0, none⟩ v').heap.size n ws' f g v' rows' bls' := by
  have hb : Box 0 (tcells v mb f) 134 w' p := h.box.ext hE (fun e => by have := (h.grow.own.lt p e).1; omega)
  have hb2 : Box 0 (tcells v' mb f) 134 (w'.setCell ⟨p, 0, none⟩ v') p := hb.set 0 v'
  have e2 : Ext (fun c => c = p) w' (w'.setCell ⟨p, 0, none⟩ v') := (Ext.refl (fun c => c = p) w').setCell ⟨p, 0, none⟩ v' rfl
  have hk : ∀ b ∈ bls'.flatten, (w'.setCell ⟨p, 0, none⟩ v').heap[b]? = w'.heap[b]? := fun b hb => e2.block b (hG.sub_lt b hb) (by have := (hs b hb).1; omega)
  have hG2 : Grow Lay.tWrite (w'.setCell ⟨p, 0, none⟩ v') (p + 1) 83 v' rows' ws' bls' := hG.kept (own_setC (a := ⟨p, 0, none⟩) hG.own (by simp) v') hk
  refine ⟨h.lt, hb2, hG2, fun b hm => ⟨(hs b hm).1, fun o => (frozen_of_block (hk b hm) o).trans ((hs b hm).2 o)⟩, hnd, ?_, fun b hm => hG2.sub_lt b hm, fun b hm => (hG2.own.lt b hm).2, hb2.lt⟩
  exact (h.seen.ext hE (fun e => by have := (h.grow.own.lt mb e).1; have := h.lt; omega)).ext e2 (by have := h.lt; omega)
/-- The map has turned. -/
theorem marked (h : Told0 w p mb N n ws f g v rows bls) {n' : Nat} {g' : Int → Int → Nat} (hE : Ext (fun c => c = mb) w w') (hT : Ticks w' mb n' g') : Told0 w' p mb N n' ws f g' v rows bls := by
  have hs : ∀ b ∈ bls.flatten, w'.heap[b]? = w.heap[b]? := fun b hb => hE.block b (h.grow.sub_lt b hb) (by have := (h.sub b hb).1; have := h.lt; omega)
  refine ⟨h.lt, h.box.ext hE (by have := h.lt; omega), h.grow.kept ?_ hs, fun b hm => ⟨(h.sub b hm).1, fun o => (frozen_of_block (hs b hm) o).trans ((h.sub b hm).2 o)⟩, h.nd, hT, h.hiB, h.hiV, h.pN⟩
  obtain ⟨h1, h2⟩ := h.grow.own
  refine ⟨h1, ?_⟩
  rcases h2 with h2 | ⟨gb, cap, cur, hv, hg, hh, r⟩
  · exact Or.inl h2
  · exact Or.inr ⟨gb, cap, cur, hv, hg, (hE.block gb (lt_of_block hh) (by have := h.lt; omega)).trans hh, r⟩
/-- A last number is another. -/
theorem lasted (h : Told0 w p mb N n ws f g v rows bls) (i : Nat) (hi : i < 10) (z : Int) : Told0 (w.setCell ⟨p, 2 + i, none⟩ (.int .i64 z)) p mb N n ws (fun j => if j = i then z else f j) g v rows bls := by
  have e2 : Ext (fun c => c = p) w (w.setCell ⟨p, 2 + i, none⟩ (.int .i64 z)) := (Ext.refl (fun c => c = p) w).setCell ⟨p, 2 + i, none⟩ _ rfl
  have hs : ∀ b ∈ bls.flatten, (w.setCell ⟨p, 2 + i, none⟩ (.int .i64 z)).heap[b]? = w.heap[b]? := fun b hb => e2.block b (h.grow.sub_lt b hb) (by have := (h.sub b hb).1; omega)
  refine ⟨h.lt, ?_, h.grow.kept (own_setC (a := ⟨p, 2 + i, none⟩) h.grow.own (by simp) _) hs, fun b hm => ⟨(h.sub b hm).1, fun o => (frozen_of_block (hs b hm) o).trans ((h.sub b hm).2 o)⟩, h.nd, h.seen.ext e2 (by have := h.lt; omega), h.hiB, h.hiV, h.pN⟩
  rw [← tcells_set v mb f i hi z]
  exact h.box.set (2 + i) _
theorem same (h : Told0 w p mb N n ws f g v rows bls) {n' : Nat} {f' : Int → Int} {g' : Int → Int → Nat} (hn : n ≤ n') (hf : ∀ j, f j = f' j) (hg : ∀ s q, g s q = g' s q) : Told0 w p mb N n' ws f' g' v rows bls := by
  rw [funext hf] at h
  exact ⟨h.lt, h.box, h.grow, h.sub, h.nd, (h.seen.mono hn).congr hg, h.hiB, h.hiV, h.pN⟩
end Told0
/-- Block p is a story of the writes ws. -/
abbrev Told (w : World) (p mb N : Nat) (ws : List DWrite) (v : Value) (rows : List (List Value)) (bls : List (List Nat)) : Prop := Told0 w p mb N ws.length ws (lastI ws) (fun s q => seenI ws s q) v rows bls
theorem told_new (w : World) : Told ((w.alloc (.map #[] 0)).alloc (.cells (tcells (.slice none 0 0) w.heap.size (lastI [])) 134)) (w.heap.size + 1) w.heap.size ((w.alloc (.map #[] 0)).alloc (.cells (tcells (.slice none 0 0) w.heap.size (lastI [])) 134)).heap.size [] (.slice none 0 0) [] [] := by
  have e : (w.alloc (.map #[] 0)).heap.size = w.heap.size + 1 := by simp
  have b : Box 0 (tcells (.slice none 0 0) w.heap.size (lastI [])) 134 ((w.alloc (.map #[] 0)).alloc (.cells (tcells (.slice none 0 0) w.heap.size (lastI [])) 134)) (w.alloc (.map #[] 0)).heap.size := newBox (Nat.zero_le _)
  rw [e] at b
  refine ⟨by omega, b, Grow.nil ⟨by simp, Or.inl ⟨rfl, rfl⟩⟩, by simp, by simp, ?_, by simp, by simp [Value.ownBlock], b.lt⟩
  exact (ticks_new w).ext (ext_of_below ((Below.refl _ _).alloc (Nat.le_refl _) _) (fun _ => False)) (fun h => h)

end Go.Proofs.Ytbogjepkdcknfaa

namespace Go.Proofs.Ytbogjepkdcknfaa
open Go.RowKit

theorem Ext.drew3 {S : Nat → Prop} {a b : World} (h : Ext S a b) : Ext S a b.drew := ⟨h.os, h.tape, h.output, h.size, h.block⟩
theorem Ext.alloc1 {S : Nat → Prop} {a b : World} (h : Ext S a b) (o : Obj) : Ext S a (b.alloc o) := h.trans (ext_of_below ((Below.refl _ _).alloc (Nat.le_refl _) o) S)

set_option maxRecDepth 10000 in
theorem ticketC (k i : Int) (u1 : Option Addr) (u2 u3 : Nat) (s q : Int) (w : World) :
    Calls Try.prog 117 #[.agg #[.int .i64 k, .int .i64 i, .slice u1 u2 u3, .int .i64 s, .int .i64 q]] w fun e w' => e = .returned (tick s q) ∧ Below w.heap.size w w' := by
  have HB : Hid (∀ o o', Below w.heap.size w ((w.alloc o).alloc o')) := fun o o' => ((Below.refl _ _).alloc (Nat.le_refl _) _).alloc (by simp) _
  go_enter Try.func117, Try.ntmps117
  go_wp2_with fail
  refine bodyPost_ret (v := .agg #[.int .i64 s, .int .i64 q]) (by simp [results, Try.results117, go_sem]) rfl ?_
  exact ⟨rfl, unhide HB _ _⟩

set_option maxRecDepth 100000 in
set_option maxHeartbeats 4000000 in
theorem tellC {w : World} {p mb N : Nat} {ws : List DWrite} {v : Value} {rows : List (List Value)} {bls : List (List Nat)} (h : Told w p mb N ws v rows bls) {cs : List Value} {x : DWrite} {bl : List Nat} (hl : Lay.tWrite.lies w cs x bl) (hX : ∀ b ∈ bl, N ≤ b ∧ ∀ o, w.frozen? ⟨b, o, none⟩ = false) (hnd : bl.Nodup) (hNw : N ≤ w.heap.size) (hf : wF x = 0) (hn : ws.length < 1000) :
    Calls Try.prog 110 #[.pointer (some ⟨p, 0, none⟩), .agg cs.toArray] w fun e w' => e = .returned (.tuple #[]) ∧ (∃ v' rows' bls', Told w' p mb w'.heap.size (ws ++ [x]) v' rows' bls') ∧ Below mb w w' := by
  obtain ⟨a2, d2, b2, rfl, rfl, -, -, -, k3, k4⟩ := lies_Write.1 hl
  have nb : Below w.heap.size w (w.alloc (.cells #[.int .i64 x.kind, .int .i64 x.id, .slice a2 x.vec.length d2, .int .i64 x.session, .int .i64 x.seq] 83)) := (Below.refl _ _).alloc (Nat.le_refl _) _
  have hQ0 : Box 0 #[.int .i64 x.kind, .int .i64 x.id, .slice a2 x.vec.length d2, .int .i64 x.session, .int .i64 x.seq] 83 (w.alloc (.cells #[.int .i64 x.kind, .int .i64 x.id, .slice a2 x.vec.length d2, .int .i64 x.session, .int .i64 x.seq] 83)) w.heap.size := newBox (Nat.zero_le _)
  have hT0 := h.later nb
  have hL0 : Lay.tWrite.lies (w.alloc (.cells #[.int .i64 x.kind, .int .i64 x.id, .slice a2 x.vec.length d2, .int .i64 x.session, .int .i64 x.seq] 83)) [.int .i64 x.kind, .int .i64 x.id, .slice a2 x.vec.length d2, .int .i64 x.session, .int .i64 x.seq] x bl := Lay.tWrite.keep hl fun b hb => nb.block b (Lay.tWrite.lt hl b hb)
  have hpw := h.box.lt
  have hmp := h.lt
  have HNW := hide hNw
  have hF0 : ∀ b ∈ bl, ∀ o, (w.alloc (.cells #[.int .i64 x.kind, .int .i64 x.id, .slice a2 x.vec.length d2, .int .i64 x.session, .int .i64 x.seq] 83)).frozen? ⟨b, o, none⟩ = false := fun b hb o => (frozen_of_block (nb.block b (Lay.tWrite.lt hl b hb)) o).trans ((hX b hb).2 o)
  have hBw : Below mb w (w.alloc (.cells #[.int .i64 x.kind, .int .i64 x.id, .slice a2 x.vec.length d2, .int .i64 x.session, .int .i64 x.seq] 83)) := nb.mono (by omega)
  go_enter Try.func110, Try.ntmps110
  go_wp2_with fail
  generalize hW0 : w.alloc (.cells #[.int .i64 x.kind, .int .i64 x.id, .slice a2 x.vec.length d2, .int .i64 x.session, .int .i64 x.seq] 83) = W0 at *
  clear hW0
  have hHD : Ext (fun c => c = p ∨ v.ownBlock = some c) W0 W0.drew := (Ext.refl _ _).drew3
  have hTD : Told W0.drew p mb N ws v rows bls := hT0.later (below_drawn (Below.refl _ _) 1)
  have hLD : Lay.tWrite.lies W0.drew [.int .i64 x.kind, .int .i64 x.id, .slice a2 x.vec.length d2, .int .i64 x.session, .int .i64 x.seq] x bl := hL0
  have hFD : ∀ b ∈ bl, ∀ o, W0.drew.frozen? ⟨b, o, none⟩ = false := hF0
  refine wp_region_noPanic ?_
  refine wp_region_held_drew (S := fun w' => Ext (fun c => c = p ∨ v.ownBlock = some c) W0 w') (by kernel_rfl) (Ext.refl _ _).drew3 (fun hHeld => ?_)
  generalize W0.drew = wD at hHeld hTD hLD hHD hFD ⊢
  refine wpAnyH_take (i := 0) (oi := { dst := some 7, op := Go.Op.move (Go.Operand.tmp 0), type := 108, pos := "l05_session.go:65", after := #[], guard := none }) (v := ?va0) rfl (by kernel_rfl) (by kernel_rfl) (by kernel_rfl) (fun _ _ _ h => h) (Or.inl ⟨by rfl, ?ha0⟩) hHeld ?ra0
  case ha0 =>
    intro wS hSw
    (try dsimp only at hSw)
    go_simp
    try with_reducible rfl
  case ra0 =>
  simp only [Act.put, List.setIfInBounds_toArray, List.set_cons_zero, List.set_cons_succ]
  refine wpAnyH_take (i := 1) (oi := { dst := some 8, op := Go.Op.move (Go.Operand.tmp 0), type := 108, pos := "l05_session.go:65", after := #[], guard := none }) (v := ?va1) rfl (by kernel_rfl) (by kernel_rfl) (by kernel_rfl) (fun _ _ _ h => h) (Or.inl ⟨by rfl, ?ha1⟩) hHeld ?ra1
  case ha1 =>
    intro wS hSw
    (try dsimp only at hSw)
    go_simp
    try with_reducible rfl
  case ra1 =>
  simp only [Act.put, List.setIfInBounds_toArray, List.set_cons_zero, List.set_cons_succ]
  refine wpAnyH_take (i := 2) (oi := { dst := some 9, op := Go.Op.nilCheck (Go.Operand.tmp 8), type := 0, pos := "l05_session.go:65", after := #[{ on := 1, ground := Go.Ground.data }], guard := none }) (v := ?va2) rfl (by kernel_rfl) (by kernel_rfl) (by kernel_rfl) (fun _ _ _ h => h) (Or.inl ⟨by rfl, ?ha2⟩) hHeld ?ra2
  case ha2 =>
    intro wS hSw
    (try dsimp only at hSw)
    go_simp
    try with_reducible rfl
  case ra2 =>
  simp only [Act.put, List.setIfInBounds_toArray, List.set_cons_zero, List.set_cons_succ]
  refine wpAnyH_take (i := 3) (oi := { dst := some 10, op := Go.Op.fieldAddr 134 (Go.Operand.tmp 9) 0, type := 0, pos := "l05_session.go:65", after := #[{ on := 2, ground := Go.Ground.data }], guard := none }) (v := ?va3) rfl (by kernel_rfl) (by kernel_rfl) (by kernel_rfl) (fun _ _ _ h => h) (Or.inl ⟨by rfl, ?ha3⟩) hHeld ?ra3
  case ha3 =>
    intro wS hSw
    (try dsimp only at hSw)
    go_simp
    try with_reducible rfl
  case ra3 =>
  simp only [Act.put, List.setIfInBounds_toArray, List.set_cons_zero, List.set_cons_succ]
  refine wpAnyH_take (i := 5) (oi := { dst := some 12, op := Go.Op.load 83 (Go.Operand.tmp 3), type := 83, pos := "l05_session.go:65", after := #[], guard := none }) (v := ?va5) rfl (by kernel_rfl) (by kernel_rfl) (by kernel_rfl) (fun _ _ _ h => h) (Or.inl ⟨by rfl, ?ha5⟩) hHeld ?ra5
  case ha5 =>
    intro wS hSw
    have y0 : wS.cell? ⟨w.heap.size, 0, none⟩ = some (.int .i64 x.kind) := (hQ0.ext hSw (by first | (rintro (e | e); omega; have := h.hiV _ e; have := unhide HNW; omega) | (intro e; omega) | exact fun e => e)).at 0 _ rfl
    have y1 : wS.cell? ⟨w.heap.size, 1, none⟩ = some (.int .i64 x.id) := (hQ0.ext hSw (by first | (rintro (e | e); omega; have := h.hiV _ e; have := unhide HNW; omega) | (intro e; omega) | exact fun e => e)).at 1 _ rfl
    have y2 : wS.cell? ⟨w.heap.size, 2, none⟩ = some (.slice a2 x.vec.length d2) := (hQ0.ext hSw (by first | (rintro (e | e); omega; have := h.hiV _ e; have := unhide HNW; omega) | (intro e; omega) | exact fun e => e)).at 2 _ rfl
    have y3 : wS.cell? ⟨w.heap.size, 3, none⟩ = some (.int .i64 x.session) := (hQ0.ext hSw (by first | (rintro (e | e); omega; have := h.hiV _ e; have := unhide HNW; omega) | (intro e; omega) | exact fun e => e)).at 3 _ rfl
    have y4 : wS.cell? ⟨w.heap.size, 4, none⟩ = some (.int .i64 x.seq) := (hQ0.ext hSw (by first | (rintro (e | e); omega; have := h.hiV _ e; have := unhide HNW; omega) | (intro e; omega) | exact fun e => e)).at 4 _ rfl
    clear hSw
    (try dsimp only at hSw)
    go_simp
    try with_reducible rfl
  case ra5 =>
  simp only [Act.put, List.setIfInBounds_toArray, List.set_cons_zero, List.set_cons_succ]
  refine (fun (REST : ?T) => ?main) ?rest
  case main =>
    refine wpAnyH_ready (rs := [4, 6]) (by kernel_rfl) (by simp) ?_
    refine AllReadyH.cons (o := { dst := some 11, op := Go.Op.load 27 (Go.Operand.tmp 10), type := 27, pos := "l05_session.go:65", after := #[{ on := 3, ground := Go.Ground.data }], guard := none }) rfl (fun K hK => ?first) (AllReadyH.cons (o := { dst := some 13, op := Go.Op.buildSlice 27 1 #[(0, Go.Operand.tmp 12)], type := 27, pos := "l05_session.go:65", after := #[{ on := 5, ground := Go.Ground.data }], guard := none }) rfl (fun K hK => ?second) AllReadyH.nil)
    case first =>
      have y0 : wD.cell? ⟨p, 0, none⟩ = some v := hTD.box.at 0 _ rfl
      have hp : p < wD.heap.size := hTD.box.lt
      have y1 : ∀ o, (wD.alloc o).cell? ⟨p, 0, none⟩ = some v := fun o => (World.cell?_alloc_lt _ _ _ hp).trans y0
      go_simp
      refine hK.out _ _ hHeld (fun hHeld => ?_)
      clear hK K
      try simp only [Act.put, List.setIfInBounds_toArray, List.set_cons_zero, List.set_cons_succ]
      refine wpAnyH_ready (rs := [6]) (by kernel_rfl) (by simp) ?_
      refine AllReadyH.cons (o := { dst := some 13, op := Go.Op.buildSlice 27 1 #[(0, Go.Operand.tmp 12)], type := 27, pos := "l05_session.go:65", after := #[{ on := 5, ground := Go.Ground.data }], guard := none }) rfl (fun K hK => ?_) AllReadyH.nil
      go_simp
      refine hK.out _ _ (hHeld.alloc1 _) (fun hHeld => ?_)
      clear hK K
      try simp only [Act.put, List.setIfInBounds_toArray, List.set_cons_zero, List.set_cons_succ]
      exact REST
    case second =>
      go_simp
      refine hK.out _ _ (hHeld.alloc1 _) (fun hHeld => ?_)
      clear hK K
      try simp only [Act.put, List.setIfInBounds_toArray, List.set_cons_zero, List.set_cons_succ]
      refine wpAnyH_ready (rs := [4]) (by kernel_rfl) (by simp) ?_
      refine AllReadyH.cons (o := { dst := some 11, op := Go.Op.load 27 (Go.Operand.tmp 10), type := 27, pos := "l05_session.go:65", after := #[{ on := 3, ground := Go.Ground.data }], guard := none }) rfl (fun K hK => ?_) AllReadyH.nil
      have y0 : wD.cell? ⟨p, 0, none⟩ = some v := hTD.box.at 0 _ rfl
      have hp : p < wD.heap.size := hTD.box.lt
      have y1 : ∀ o, (wD.alloc o).cell? ⟨p, 0, none⟩ = some v := fun o => (World.cell?_alloc_lt _ _ _ hp).trans y0
      go_simp
      refine hK.out _ _ hHeld (fun hHeld => ?_)
      clear hK K
      try simp only [Act.put, List.setIfInBounds_toArray, List.set_cons_zero, List.set_cons_succ]
      exact REST
  case rest =>
  replace hHeld := hHeld.alloc1 (.cells #[.int .i64 x.kind, .int .i64 x.id, .slice a2 x.vec.length d2, .int .i64 x.session, .int .i64 x.seq] 83)
  refine wpAnyH_ready (rs := [7]) (by kernel_rfl) (by simp) ?_
  refine AllReadyH.cons (o := { dst := some 14, op := Go.Op.call { callee := Go.Callee.builtin Go.Builtin.append, args := #[Go.Operand.tmp 11, Go.Operand.tmp 13], argTypes := #[27, 27] }, type := 27, pos := "l05_session.go:65", after := #[{ on := 4, ground := Go.Ground.data }, { on := 6, ground := Go.Ground.data }], guard := none }) rfl (fun K hK => ?_) AllReadyH.nil
  refine step_append_Write hTD.grow (row := [.int .i64 x.kind, .int .i64 x.id, .slice a2 x.vec.length d2, .int .i64 x.session, .int .i64 x.seq]) (x := x) (bl := bl) hLD (fun c hc e => by have h1 := (hX c hc).1; have h2 := hTD.hiV c e; omega) rfl _ _ rfl rfl rfl (by omega) (by have := hTD.box.lt; omega) ?_
  rintro g5 cp5 w5 hG5 hb5 hE5 hl5 hz5 hor5
  refine hK.out _ _ ((hHD.trans (hE5.mono (fun k _ h => Or.inr h)))) (fun hHeld => ?_)
  clear hK K
  try simp only [Act.put, List.setIfInBounds_toArray, List.set_cons_zero, List.set_cons_succ]
  refine wpAnyH_take (i := 8) (oi := { dst := some 15, op := Go.Op.nilCheck (Go.Operand.tmp 7), type := 0, pos := "l05_session.go:65", after := #[{ on := 0, ground := Go.Ground.data }, { on := 0, ground := Go.Ground.phase }, { on := 1, ground := Go.Ground.phase }, { on := 2, ground := Go.Ground.phase }, { on := 3, ground := Go.Ground.phase }, { on := 4, ground := Go.Ground.phase }, { on := 5, ground := Go.Ground.phase }, { on := 6, ground := Go.Ground.phase }, { on := 7, ground := Go.Ground.phase }], guard := none }) (v := ?va8) rfl (by kernel_rfl) (by kernel_rfl) (by kernel_rfl) (fun _ _ _ h => h) (Or.inl ⟨by rfl, ?ha8⟩) hHeld ?ra8
  case ha8 =>
    intro wS hSw
    (try dsimp only at hSw)
    go_simp
    try with_reducible rfl
  case ra8 =>
  simp only [Act.put, List.setIfInBounds_toArray, List.set_cons_zero, List.set_cons_succ]
  refine wpAnyH_take (i := 9) (oi := { dst := some 16, op := Go.Op.fieldAddr 134 (Go.Operand.tmp 15) 0, type := 0, pos := "l05_session.go:65", after := #[{ on := 8, ground := Go.Ground.data }, { on := 0, ground := Go.Ground.phase }, { on := 1, ground := Go.Ground.phase }, { on := 2, ground := Go.Ground.phase }, { on := 3, ground := Go.Ground.phase }, { on := 4, ground := Go.Ground.phase }, { on := 5, ground := Go.Ground.phase }, { on := 6, ground := Go.Ground.phase }, { on := 7, ground := Go.Ground.phase }], guard := none }) (v := ?va9) rfl (by kernel_rfl) (by kernel_rfl) (by kernel_rfl) (fun _ _ _ h => h) (Or.inl ⟨by rfl, ?ha9⟩) hHeld ?ra9
  case ha9 =>
    intro wS hSw
    (try dsimp only at hSw)
    go_simp
    try with_reducible rfl
  case ra9 =>
  simp only [Act.put, List.setIfInBounds_toArray, List.set_cons_zero, List.set_cons_succ]
  refine wpAnyH_ready (rs := [10]) (by kernel_rfl) (by simp) ?_
  refine AllReadyH.cons (o := { dst := none, op := Go.Op.store 27 (Go.Operand.tmp 16) (Go.Operand.tmp 14), type := 0, pos := "l05_session.go:65", after := #[{ on := 9, ground := Go.Ground.data }, { on := 7, ground := Go.Ground.data }, { on := 7, ground := Go.Ground.chain }, { on := 0, ground := Go.Ground.phase }, { on := 1, ground := Go.Ground.phase }, { on := 2, ground := Go.Ground.phase }, { on := 3, ground := Go.Ground.phase }, { on := 4, ground := Go.Ground.phase }, { on := 5, ground := Go.Ground.phase }, { on := 6, ground := Go.Ground.phase }, { on := 7, ground := Go.Ground.phase }], guard := none }) rfl (fun K hK => ?_) AllReadyH.nil
  have hb6 : Box 0 (tcells v mb (lastI ws)) 134 w5 p := hTD.box.ext hE5 (fun e => by have := (hTD.grow.own.lt p e).1; omega)
  have c6 : w5.cell? ⟨p, 0, none⟩ = some v := hb6.at 0 _ rfl
  have f6 := hb6.soft 0
  have l6 := hb6.lt
  go_simp
  refine hK.out _ _ ((hHD.trans (hE5.mono (fun k _ h => Or.inr h))).setCell ⟨p, 0, none⟩ _ (Or.inl rfl)) (fun hHeld => ?_)
  clear hK K
  try simp only [Act.put, List.setIfInBounds_toArray, List.set_cons_zero, List.set_cons_succ]
  refine wpAnyH_done (by kernel_rfl) ?_ _
  refine NoPanic.normal ?_
  have hnf : (bls ++ [bl]).flatten = bls.flatten ++ bl := by simp
  have hT6 := hTD.added hG5 hE5 (by
    intro b hb
    rw [hnf] at hb
    rcases List.mem_append.1 hb with hb | hb
    · exact ⟨(hTD.sub b hb).1, fun o => (frozen_of_block (hE5.block b (hTD.grow.sub_lt b hb) (fun e => hTD.grow.off b hb e)) o).trans ((hTD.sub b hb).2 o)⟩
    · refine ⟨by have := (hX b hb).1; have := hTD.pN; omega, fun o => (frozen_of_block (hE5.block b (Lay.tWrite.lt hLD b hb) (fun e => by have := hTD.hiV b e; have := (hX b hb).1; omega)) o).trans (hFD b hb o)⟩) (by
    rw [hnf, List.nodup_append]
    exact ⟨hTD.nd, hnd, fun b hb c hc e => by have := hTD.hiB b hb; have := (hX c hc).1; omega⟩)
  have hQ6 : Box 0 #[.int .i64 x.kind, .int .i64 x.id, .slice a2 x.vec.length d2, .int .i64 x.session, .int .i64 x.seq] 83 (w5.setCell ⟨p, 0, none⟩ (.slice (some ⟨g5, 0, none⟩) (ws.length + 1) cp5)) w.heap.size := hQ0.ext hHeld (by rintro (e | e); omega; have := h.hiV _ e; omega)
  have hB6 : Below mb w (w5.setCell ⟨p, 0, none⟩ (.slice (some ⟨g5, 0, none⟩) (ws.length + 1) cp5)) := hBw.trans (hHeld.below (by have := hBw.size; omega) (by rintro c hc (e | e); omega; have := (h.grow.own.lt c e).1; omega))
  clear hHeld hTD hLD hHD hFD hG5 hE5 hb5 hl5 hz5 hor5 hT0 hL0 hF0 hQ0 hBw h hl hX hnd nb hnf
  generalize w5.setCell ⟨p, 0, none⟩ (.slice (some ⟨g5, 0, none⟩) (ws.length + 1) cp5) = w6 at hT6 hQ6 hB6 ⊢
  have y0 : w6.cell? ⟨w.heap.size, 0, none⟩ = some (.int .i64 x.kind) := hQ6.at 0 _ rfl
  have y1 : w6.cell? ⟨w.heap.size, 1, none⟩ = some (.int .i64 x.id) := hQ6.at 1 _ rfl
  have y2 : w6.cell? ⟨w.heap.size, 2, none⟩ = some (.slice a2 x.vec.length d2) := hQ6.at 2 _ rfl
  have y3 : w6.cell? ⟨w.heap.size, 3, none⟩ = some (.int .i64 x.session) := hQ6.at 3 _ rfl
  have y4 : w6.cell? ⟨w.heap.size, 4, none⟩ = some (.int .i64 x.seq) := hQ6.at 4 _ rfl
  go_wp2_with fail
  clear y0 y1 y2 y3 y4
  refine (ticketC _ _ _ _ _ _ _ w6).mono ?_
  rintro e w7 ⟨rfl, hb7⟩
  have nb8 : Below w6.heap.size w6 (w7.alloc (.cells #[.int .i64 x.session, .int .i64 x.seq] 140)) := hb7.alloc hb7.size _
  have hT8 := hT6.later nb8
  have hQ8 := hQ6.keep nb8
  have hB8 := hB6.trans (nb8.mono (by have := hT6.lt; have := hT6.box.lt; omega))
  have hR8 : Box 0 #[.int .i64 x.session, .int .i64 x.seq] 140 (w7.alloc (.cells #[.int .i64 x.session, .int .i64 x.seq] 140)) w7.heap.size := newBox (Nat.zero_le _)
  have hrp : mb < w7.heap.size := by have := hT6.lt; have := hT6.box.lt; have := hb7.size; omega
  simp only [tick]
  go_wp2_with fail
  clear hT6 hQ6 hB6 hb7 nb8
  generalize w7.alloc (.cells #[.int .i64 x.session, .int .i64 x.seq] 140) = w8 at *
  generalize w7.heap.size = r at *
  have hT9 : Told0 w8.drew p mb _ ws.length (ws ++ [x]) (lastI ws) (fun s q => seenI ws s q) (.slice (some ⟨g5, 0, none⟩) (ws.length + 1) cp5) (rows ++ [[.int .i64 x.kind, .int .i64 x.id, .slice a2 x.vec.length d2, .int .i64 x.session, .int .i64 x.seq]]) (bls ++ [bl]) := hT8.later (below_drawn (Below.refl _ _) 1)
  have hQ9 : Box 0 #[.int .i64 x.kind, .int .i64 x.id, .slice a2 x.vec.length d2, .int .i64 x.session, .int .i64 x.seq] 83 w8.drew w.heap.size := hQ8
  have hR9 : Box 0 #[.int .i64 x.session, .int .i64 x.seq] 140 w8.drew r := hR8
  have hB9 : Below mb w w8.drew := hB8.drew
  obtain ⟨bs, hbs⟩ : ∃ bs, bs = decide (seenI ws x.session x.seq ≠ 0) := ⟨_, rfl⟩
  have HBS := hide hbs
  clear hbs
  refine wp_region_noPanic ?_
  refine wp_region_held_drew (S := fun w' => Ext (fun _ => False) w8 w') (by kernel_rfl) (Ext.refl _ _).drew3 (fun hHeld => ?_)
  generalize w8.drew = w9 at hHeld hT9 hQ9 hR9 hB9 ⊢
  refine wpAnyH_take (i := 0) (oi := { dst := some 20, op := Go.Op.move (Go.Operand.tmp 0), type := 108, pos := "l05_session.go:67", after := #[], guard := none }) (v := ?vc0) rfl (by kernel_rfl) (by kernel_rfl) (by kernel_rfl) (fun _ _ _ h => h) (Or.inl ⟨by rfl, ?hc0⟩) hHeld ?rc0
  case hc0 =>
    intro wS hSw
    (try dsimp only at hSw)
    go_simp
    try with_reducible rfl
  case rc0 =>
  simp only [Act.put, List.setIfInBounds_toArray, List.set_cons_zero, List.set_cons_succ]
  refine wpAnyH_take (i := 1) (oi := { dst := some 21, op := Go.Op.nilCheck (Go.Operand.tmp 20), type := 0, pos := "l05_session.go:67", after := #[{ on := 0, ground := Go.Ground.data }], guard := none }) (v := ?vc1) rfl (by kernel_rfl) (by kernel_rfl) (by kernel_rfl) (fun _ _ _ h => h) (Or.inl ⟨by rfl, ?hc1⟩) hHeld ?rc1
  case hc1 =>
    intro wS hSw
    (try dsimp only at hSw)
    go_simp
    try with_reducible rfl
  case rc1 =>
  simp only [Act.put, List.setIfInBounds_toArray, List.set_cons_zero, List.set_cons_succ]
  refine wpAnyH_take (i := 2) (oi := { dst := some 22, op := Go.Op.fieldAddr 134 (Go.Operand.tmp 21) 1, type := 0, pos := "l05_session.go:67", after := #[{ on := 1, ground := Go.Ground.data }], guard := none }) (v := ?vc2) rfl (by kernel_rfl) (by kernel_rfl) (by kernel_rfl) (fun _ _ _ h => h) (Or.inl ⟨by rfl, ?hc2⟩) hHeld ?rc2
  case hc2 =>
    intro wS hSw
    (try dsimp only at hSw)
    go_simp
    try with_reducible rfl
  case rc2 =>
  simp only [Act.put, List.setIfInBounds_toArray, List.set_cons_zero, List.set_cons_succ]
  refine wpAnyH_take (i := 3) (oi := { dst := some 23, op := Go.Op.load 132 (Go.Operand.tmp 22), type := 132, pos := "l05_session.go:67", after := #[{ on := 2, ground := Go.Ground.data }], guard := none }) (v := ?vc3) rfl (by kernel_rfl) (by kernel_rfl) (by kernel_rfl) (fun _ _ _ h => h) (Or.inl ⟨by rfl, ?hc3⟩) hHeld ?rc3
  case hc3 =>
    intro wS hSw
    have z1 : wS.cell? ⟨p, 1, none⟩ = some (.map (some mb)) := (hT8.box.ext hSw (fun e => e)).at 1 _ rfl
    have k0 : wS.cell? ⟨r, 0, none⟩ = some (.int .i64 x.session) := (hR8.ext hSw (fun e => e)).at 0 _ rfl
    have k1 : wS.cell? ⟨r, 1, none⟩ = some (.int .i64 x.seq) := (hR8.ext hSw (fun e => e)).at 1 _ rfl
    clear hSw
    (try dsimp only at hSw)
    go_simp
    try with_reducible rfl
  case rc3 =>
  simp only [Act.put, List.setIfInBounds_toArray, List.set_cons_zero, List.set_cons_succ]
  refine wpAnyH_take (i := 4) (oi := { dst := some 24, op := Go.Op.load 140 (Go.Operand.tmp 4), type := 140, pos := "l05_session.go:67", after := #[], guard := none }) (v := ?vc4) rfl (by kernel_rfl) (by kernel_rfl) (by kernel_rfl) (fun _ _ _ h => h) (Or.inl ⟨by rfl, ?hc4⟩) hHeld ?rc4
  case hc4 =>
    intro wS hSw
    have z1 : wS.cell? ⟨p, 1, none⟩ = some (.map (some mb)) := (hT8.box.ext hSw (fun e => e)).at 1 _ rfl
    have k0 : wS.cell? ⟨r, 0, none⟩ = some (.int .i64 x.session) := (hR8.ext hSw (fun e => e)).at 0 _ rfl
    have k1 : wS.cell? ⟨r, 1, none⟩ = some (.int .i64 x.seq) := (hR8.ext hSw (fun e => e)).at 1 _ rfl
    clear hSw
    (try dsimp only at hSw)
    go_simp
    try with_reducible rfl
  case rc4 =>
  simp only [Act.put, List.setIfInBounds_toArray, List.set_cons_zero, List.set_cons_succ]
  refine wpAnyH_take (i := 5) (oi := { dst := some 25, op := Go.Op.lookup 132 (Go.Operand.tmp 23) (Go.Operand.tmp 24) true, type := 142, pos := "l05_session.go:67", after := #[{ on := 3, ground := Go.Ground.data }, { on := 4, ground := Go.Ground.data }], guard := none }) (v := ?vc5) rfl (by kernel_rfl) (by kernel_rfl) (by kernel_rfl) (fun _ _ _ h => h) (Or.inl ⟨by rfl, ?hc5⟩) hHeld ?rc5
  case hc5 =>
    intro wS hSw
    have hlk := (hT8.seen.ext hSw (fun e => e)).look k3 k4
    simp only [tick] at hlk
    rw [← unhide HBS] at hlk
    clear hSw
    (try dsimp only at hSw)
    go_simp
    try with_reducible rfl
  case rc5 =>
  simp only [Act.put, List.setIfInBounds_toArray, List.set_cons_zero, List.set_cons_succ]
  refine wpAnyH_take (i := 6) (oi := { dst := some 19, op := Go.Op.move (Go.Operand.tmp 25), type := 142, pos := "l05_session.go:67", after := #[{ on := 5, ground := Go.Ground.data }], guard := none }) (v := ?vc6) rfl (by kernel_rfl) (by kernel_rfl) (by kernel_rfl) (fun _ _ _ h => h) (Or.inl ⟨by rfl, ?hc6⟩) hHeld ?rc6
  case hc6 =>
    intro wS hSw
    (try dsimp only at hSw)
    go_simp
    try with_reducible rfl
  case rc6 =>
  simp only [Act.put, List.setIfInBounds_toArray, List.set_cons_zero, List.set_cons_succ]
  refine wpAnyH_take (i := 7) (oi := { dst := some 26, op := Go.Op.extract (Go.Operand.tmp 19) 0, type := 2, pos := "l05_session.go:67", after := #[{ on := 6, ground := Go.Ground.data }], guard := none }) (v := ?vc7) rfl (by kernel_rfl) (by kernel_rfl) (by kernel_rfl) (fun _ _ _ h => h) (Or.inl ⟨by rfl, ?hc7⟩) hHeld ?rc7
  case hc7 =>
    intro wS hSw
    (try dsimp only at hSw)
    go_simp
    try with_reducible rfl
  case rc7 =>
  simp only [Act.put, List.setIfInBounds_toArray, List.set_cons_zero, List.set_cons_succ]
  refine wpAnyH_take (i := 8) (oi := { dst := some 27, op := Go.Op.extract (Go.Operand.tmp 19) 1, type := 4, pos := "l05_session.go:67", after := #[{ on := 6, ground := Go.Ground.data }, { on := 9, ground := Go.Ground.gcOnly Go.Departure.lateStores }], guard := none }) (v := ?vc8) rfl (by kernel_rfl) (by kernel_rfl) (by kernel_rfl) (fun _ _ _ h => h) (Or.inl ⟨by rfl, ?hc8⟩) hHeld ?rc8
  case hc8 =>
    intro wS hSw
    (try dsimp only at hSw)
    go_simp
    try with_reducible rfl
  case rc8 =>
  simp only [Act.put, List.setIfInBounds_toArray, List.set_cons_zero, List.set_cons_succ]
  refine wpAnyH_take (i := 9) (oi := { dst := some 5, op := Go.Op.assign (Go.Operand.tmp 26), type := 2, pos := "l05_session.go:67", after := #[{ on := 7, ground := Go.Ground.data }, { on := 0, ground := Go.Ground.phase }, { on := 1, ground := Go.Ground.phase }, { on := 2, ground := Go.Ground.phase }, { on := 3, ground := Go.Ground.phase }, { on := 4, ground := Go.Ground.phase }, { on := 5, ground := Go.Ground.phase }, { on := 6, ground := Go.Ground.phase }, { on := 7, ground := Go.Ground.phase }, { on := 8, ground := Go.Ground.textOnly Go.Departure.lateStores }], guard := none }) (v := ?vc9) rfl (by kernel_rfl) (by kernel_rfl) (by kernel_rfl) (fun _ _ _ h => h) (Or.inl ⟨by rfl, ?hc9⟩) hHeld ?rc9
  case hc9 =>
    intro wS hSw
    (try dsimp only at hSw)
    go_simp
    try with_reducible rfl
  case rc9 =>
  simp only [Act.put, List.setIfInBounds_toArray, List.set_cons_zero, List.set_cons_succ]
  refine wpAnyH_take (i := 10) (oi := { dst := some 6, op := Go.Op.assign (Go.Operand.tmp 27), type := 4, pos := "l05_session.go:67", after := #[{ on := 8, ground := Go.Ground.data }, { on := 9, ground := Go.Ground.chain }, { on := 0, ground := Go.Ground.phase }, { on := 1, ground := Go.Ground.phase }, { on := 2, ground := Go.Ground.phase }, { on := 3, ground := Go.Ground.phase }, { on := 4, ground := Go.Ground.phase }, { on := 5, ground := Go.Ground.phase }, { on := 6, ground := Go.Ground.phase }, { on := 7, ground := Go.Ground.phase }, { on := 8, ground := Go.Ground.phase }, { on := 9, ground := Go.Ground.phase }], guard := none }) (v := ?vc10) rfl (by kernel_rfl) (by kernel_rfl) (by kernel_rfl) (fun _ _ _ h => h) (Or.inl ⟨by rfl, ?hc10⟩) hHeld ?rc10
  case hc10 =>
    intro wS hSw
    (try dsimp only at hSw)
    go_simp
    try with_reducible rfl
  case rc10 =>
  simp only [Act.put, List.setIfInBounds_toArray, List.set_cons_zero, List.set_cons_succ]
  refine wpAnyH_done (by kernel_rfl) ?_ _
  refine NoPanic.normal ?_
  clear hHeld hT8 hQ8 hR8 hB8
  obtain ⟨b1, b9, q1, q9⟩ := wF_seq hf
  have hs9 : x.session.toNat < 10 := by omega
  have hsi : (x.session.toNat : Int) = x.session := by omega
  have i1 : (0 : Int) ≤ x.session := by omega
  have i2 : x.session < 10 := by omega
  have hlast : ∀ j : Int, (if j = (x.session.toNat : Int) then (if lastI ws x.session < x.seq then x.seq else lastI ws x.session) else lastI ws j) = lastI (ws ++ [x]) j := by
    intro j
    rw [lastI_snoc, hsi, show (if lastI ws x.session < x.seq then x.seq else lastI ws x.session) = max (lastI ws x.session) x.seq by split <;> omega]
    by_cases e : j = x.session
    · rw [if_pos e, if_pos e.symm, e]
    · rw [if_neg e, if_neg (fun h => e h.symm)]
  have hlen : Hid ((ws ++ [x]).length = ws.length + 1) := by show (ws ++ [x]).length = ws.length + 1; simp
  have HLAST := hide hlast
  clear hlast
  by_cases hsn : seenI ws x.session x.seq = 0
  · obtain rfl : bs = false := by rw [unhide HBS]; simpa using hsn
    have hseen : ∀ s q : Int, (if s = x.session ∧ q = x.seq then ws.length + 1 else seenI ws s q) = seenI (ws ++ [x]) s q := by
      intro s q
      rw [seenI_snoc]
      by_cases e : s = x.session ∧ q = x.seq
      · rw [if_pos e, e.1, e.2, hsn, if_pos rfl, if_pos ⟨rfl, rfl⟩]
      · rw [if_neg e]
        by_cases h0 : seenI ws s q = 0
        · rw [if_pos h0, if_neg (fun h => e ⟨h.1.symm, h.2.symm⟩), h0]
        · rw [if_neg h0]
    have HSEEN := hide hseen
    clear HBS hseen hsn
    go_wp2_with fail
    have hT10 : Told0 w9.drew p mb _ ws.length (ws ++ [x]) (lastI ws) (fun s q => seenI ws s q) (.slice (some ⟨g5, 0, none⟩) (ws.length + 1) cp5) (rows ++ [[.int .i64 x.kind, .int .i64 x.id, .slice a2 x.vec.length d2, .int .i64 x.session, .int .i64 x.seq]]) (bls ++ [bl]) := hT9.later (below_drawn (Below.refl _ _) 1)
    have hQ10 : Box 0 #[.int .i64 x.kind, .int .i64 x.id, .slice a2 x.vec.length d2, .int .i64 x.session, .int .i64 x.seq] 83 w9.drew w.heap.size := hQ9
    have hB10 : Below mb w w9.drew := hB9.drew
    refine wp_region_noPanic ?_
    refine wp_region_held_drew (S := fun w' => Ext (fun c => c = mb) w9 w') (by kernel_rfl) (Ext.refl _ _).drew3 (fun hHeld => ?_)
    generalize w9.drew = wE at hHeld hT10 hQ10 hB10 ⊢
    refine wpAnyH_take (i := 0) (oi := { dst := some 30, op := Go.Op.move (Go.Operand.tmp 0), type := 108, pos := "l05_session.go:68", after := #[], guard := none }) (v := ?ve0) rfl (by kernel_rfl) (by kernel_rfl) (by kernel_rfl) (fun _ _ _ h => h) (Or.inl ⟨by rfl, ?he0⟩) hHeld ?re0
    case he0 =>
      intro wS hSw
      (try dsimp only at hSw)
      go_simp
      try with_reducible rfl
    case re0 =>
    simp only [Act.put, List.setIfInBounds_toArray, List.set_cons_zero, List.set_cons_succ]
    refine wpAnyH_take (i := 1) (oi := { dst := some 31, op := Go.Op.nilCheck (Go.Operand.tmp 30), type := 0, pos := "l05_session.go:68", after := #[{ on := 0, ground := Go.Ground.data }], guard := none }) (v := ?ve1) rfl (by kernel_rfl) (by kernel_rfl) (by kernel_rfl) (fun _ _ _ h => h) (Or.inl ⟨by rfl, ?he1⟩) hHeld ?re1
    case he1 =>
      intro wS hSw
      (try dsimp only at hSw)
      go_simp
      try with_reducible rfl
    case re1 =>
    simp only [Act.put, List.setIfInBounds_toArray, List.set_cons_zero, List.set_cons_succ]
    refine wpAnyH_take (i := 2) (oi := { dst := some 32, op := Go.Op.fieldAddr 134 (Go.Operand.tmp 31) 1, type := 0, pos := "l05_session.go:68", after := #[{ on := 1, ground := Go.Ground.data }], guard := none }) (v := ?ve2) rfl (by kernel_rfl) (by kernel_rfl) (by kernel_rfl) (fun _ _ _ h => h) (Or.inl ⟨by rfl, ?he2⟩) hHeld ?re2
    case he2 =>
      intro wS hSw
      (try dsimp only at hSw)
      go_simp
      try with_reducible rfl
    case re2 =>
    simp only [Act.put, List.setIfInBounds_toArray, List.set_cons_zero, List.set_cons_succ]
    refine wpAnyH_take (i := 3) (oi := { dst := some 33, op := Go.Op.load 132 (Go.Operand.tmp 32), type := 132, pos := "l05_session.go:68", after := #[{ on := 2, ground := Go.Ground.data }], guard := none }) (v := ?ve3) rfl (by kernel_rfl) (by kernel_rfl) (by kernel_rfl) (fun _ _ _ h => h) (Or.inl ⟨by rfl, ?he3⟩) hHeld ?re3
    case he3 =>
      intro wS hSw
      have z1 : wS.cell? ⟨p, 1, none⟩ = some (.map (some mb)) := (hT9.box.ext hSw (by have := hT9.lt; have := hrp; omega)).at 1 _ rfl
      have k0 : wS.cell? ⟨r, 0, none⟩ = some (.int .i64 x.session) := (hR9.ext hSw (by have := hT9.lt; have := hrp; omega)).at 0 _ rfl
      have k1 : wS.cell? ⟨r, 1, none⟩ = some (.int .i64 x.seq) := (hR9.ext hSw (by have := hT9.lt; have := hrp; omega)).at 1 _ rfl
      have z0 : wS.cell? ⟨p, 0, none⟩ = some (.slice (some ⟨g5, 0, none⟩) (ws.length + 1) cp5) := (hT9.box.ext hSw (by have := hT9.lt; omega)).at 0 _ rfl
      clear hSw
      (try dsimp only at hSw)
      go_simp
      try with_reducible rfl
    case re3 =>
    simp only [Act.put, List.setIfInBounds_toArray, List.set_cons_zero, List.set_cons_succ]
    refine wpAnyH_take (i := 4) (oi := { dst := some 34, op := Go.Op.load 140 (Go.Operand.tmp 4), type := 140, pos := "l05_session.go:68", after := #[], guard := none }) (v := ?ve4) rfl (by kernel_rfl) (by kernel_rfl) (by kernel_rfl) (fun _ _ _ h => h) (Or.inl ⟨by rfl, ?he4⟩) hHeld ?re4
    case he4 =>
      intro wS hSw
      have z1 : wS.cell? ⟨p, 1, none⟩ = some (.map (some mb)) := (hT9.box.ext hSw (by have := hT9.lt; have := hrp; omega)).at 1 _ rfl
      have k0 : wS.cell? ⟨r, 0, none⟩ = some (.int .i64 x.session) := (hR9.ext hSw (by have := hT9.lt; have := hrp; omega)).at 0 _ rfl
      have k1 : wS.cell? ⟨r, 1, none⟩ = some (.int .i64 x.seq) := (hR9.ext hSw (by have := hT9.lt; have := hrp; omega)).at 1 _ rfl
      have z0 : wS.cell? ⟨p, 0, none⟩ = some (.slice (some ⟨g5, 0, none⟩) (ws.length + 1) cp5) := (hT9.box.ext hSw (by have := hT9.lt; omega)).at 0 _ rfl
      clear hSw
      (try dsimp only at hSw)
      go_simp
      try with_reducible rfl
    case re4 =>
    simp only [Act.put, List.setIfInBounds_toArray, List.set_cons_zero, List.set_cons_succ]
    refine wpAnyH_take (i := 5) (oi := { dst := some 35, op := Go.Op.move (Go.Operand.tmp 0), type := 108, pos := "l05_session.go:68", after := #[], guard := none }) (v := ?ve5) rfl (by kernel_rfl) (by kernel_rfl) (by kernel_rfl) (fun _ _ _ h => h) (Or.inl ⟨by rfl, ?he5⟩) hHeld ?re5
    case he5 =>
      intro wS hSw
      (try dsimp only at hSw)
      go_simp
      try with_reducible rfl
    case re5 =>
    simp only [Act.put, List.setIfInBounds_toArray, List.set_cons_zero, List.set_cons_succ]
    refine wpAnyH_take (i := 6) (oi := { dst := some 36, op := Go.Op.nilCheck (Go.Operand.tmp 35), type := 0, pos := "l05_session.go:68", after := #[{ on := 5, ground := Go.Ground.data }], guard := none }) (v := ?ve6) rfl (by kernel_rfl) (by kernel_rfl) (by kernel_rfl) (fun _ _ _ h => h) (Or.inl ⟨by rfl, ?he6⟩) hHeld ?re6
    case he6 =>
      intro wS hSw
      (try dsimp only at hSw)
      go_simp
      try with_reducible rfl
    case re6 =>
    simp only [Act.put, List.setIfInBounds_toArray, List.set_cons_zero, List.set_cons_succ]
    refine wpAnyH_take (i := 7) (oi := { dst := some 37, op := Go.Op.fieldAddr 134 (Go.Operand.tmp 36) 0, type := 0, pos := "l05_session.go:68", after := #[{ on := 6, ground := Go.Ground.data }], guard := none }) (v := ?ve7) rfl (by kernel_rfl) (by kernel_rfl) (by kernel_rfl) (fun _ _ _ h => h) (Or.inl ⟨by rfl, ?he7⟩) hHeld ?re7
    case he7 =>
      intro wS hSw
      (try dsimp only at hSw)
      go_simp
      try with_reducible rfl
    case re7 =>
    simp only [Act.put, List.setIfInBounds_toArray, List.set_cons_zero, List.set_cons_succ]
    refine wpAnyH_take (i := 8) (oi := { dst := some 38, op := Go.Op.load 27 (Go.Operand.tmp 37), type := 27, pos := "l05_session.go:68", after := #[{ on := 7, ground := Go.Ground.data }], guard := none }) (v := ?ve8) rfl (by kernel_rfl) (by kernel_rfl) (by kernel_rfl) (fun _ _ _ h => h) (Or.inl ⟨by rfl, ?he8⟩) hHeld ?re8
    case he8 =>
      intro wS hSw
      have z1 : wS.cell? ⟨p, 1, none⟩ = some (.map (some mb)) := (hT9.box.ext hSw (by have := hT9.lt; have := hrp; omega)).at 1 _ rfl
      have k0 : wS.cell? ⟨r, 0, none⟩ = some (.int .i64 x.session) := (hR9.ext hSw (by have := hT9.lt; have := hrp; omega)).at 0 _ rfl
      have k1 : wS.cell? ⟨r, 1, none⟩ = some (.int .i64 x.seq) := (hR9.ext hSw (by have := hT9.lt; have := hrp; omega)).at 1 _ rfl
      have z0 : wS.cell? ⟨p, 0, none⟩ = some (.slice (some ⟨g5, 0, none⟩) (ws.length + 1) cp5) := (hT9.box.ext hSw (by have := hT9.lt; omega)).at 0 _ rfl
      clear hSw
      (try dsimp only at hSw)
      go_simp
      try with_reducible rfl
    case re8 =>
    simp only [Act.put, List.setIfInBounds_toArray, List.set_cons_zero, List.set_cons_succ]
    refine wpAnyH_take (i := 9) (oi := { dst := some 39, op := Go.Op.call { callee := Go.Callee.builtin Go.Builtin.len, args := #[Go.Operand.tmp 38], argTypes := #[27] }, type := 3, pos := "l05_session.go:68", after := #[{ on := 8, ground := Go.Ground.data }], guard := none }) (v := ?ve9) rfl (by kernel_rfl) (by kernel_rfl) (by kernel_rfl) (fun _ _ _ h => h) (Or.inl ⟨by rfl, ?he9⟩) hHeld ?re9
    case he9 =>
      intro wS hSw
      (try dsimp only at hSw)
      go_simp
      try with_reducible rfl
    case re9 =>
    simp only [Act.put, List.setIfInBounds_toArray, List.set_cons_zero, List.set_cons_succ]
    refine wpAnyH_ready (rs := [10]) (by kernel_rfl) (by simp) ?_
    refine AllReadyH.cons (o := { dst := none, op := Go.Op.mapUpdate 132 (Go.Operand.tmp 33) (Go.Operand.tmp 34) (Go.Operand.tmp 39), type := 0, pos := "l05_session.go:68", after := #[{ on := 3, ground := Go.Ground.data }, { on := 4, ground := Go.Ground.data }, { on := 9, ground := Go.Ground.data }, { on := 0, ground := Go.Ground.phase }, { on := 1, ground := Go.Ground.phase }, { on := 2, ground := Go.Ground.phase }, { on := 3, ground := Go.Ground.phase }, { on := 4, ground := Go.Ground.phase }, { on := 5, ground := Go.Ground.phase }, { on := 6, ground := Go.Ground.phase }, { on := 7, ground := Go.Ground.phase }, { on := 8, ground := Go.Ground.phase }, { on := 9, ground := Go.Ground.phase }], guard := none }) rfl (fun K hK => ?_) AllReadyH.nil
    obtain ⟨w12, hrun, hTk, hE12⟩ := hT10.seen.put (by omega) k3 k4 (m := ws.length + 1) (by omega) (wf_of_bd (by omega))
    simp only [tick] at hrun
    have hrun2 : (Instr.mapUpdate 132 (.map (some mb)) (.agg #[.int .i64 x.session, .int .i64 x.seq]) (.int .i64 ((ws.length : Int) + 1))).run Try.prog wE = .ok () w12 := by simpa using hrun
    clear hrun
    go_simp
    refine hK.out _ _ (hHeld.trans hE12) (fun hHeld => ?_)
    clear hK K
    try simp only [Act.put, List.setIfInBounds_toArray, List.set_cons_zero, List.set_cons_succ]
    refine wpAnyH_done (by kernel_rfl) ?_ _
    refine NoPanic.normal ?_
    have hT12 := (hT10.marked hE12 hTk)
    have hQ12 := hQ10.ext hE12 (by omega)
    have hB12 := hB10.trans (hE12.below (by have := hT10.lt; have := hT10.box.lt; omega) (by intro c hc e; omega))
    clear hHeld hT9 hQ9 hR9 hB9 hT10 hQ10 hB10 hE12 hTk
    go_wp2_with fail
    have hTG : Told0 w12.drew p mb _ (ws.length + 1) (ws ++ [x]) (lastI ws) _ (.slice (some ⟨g5, 0, none⟩) (ws.length + 1) cp5) (rows ++ [[.int .i64 x.kind, .int .i64 x.id, .slice a2 x.vec.length d2, .int .i64 x.session, .int .i64 x.seq]]) (bls ++ [bl]) := hT12.later (below_drawn (Below.refl _ _) 1)
    have hBG : Below mb w w12.drew := hB12.drew
    refine wp_region_noPanic ?_
    refine wp_region_held_drew (S := fun w' => Ext (fun c => c = p) w12 w') (by kernel_rfl) (Ext.refl _ _).drew3 (fun hHeld => ?_)
    generalize w12.drew = wG at hHeld hTG hBG ⊢
    refine wpAnyH_take (i := 0) (oi := { dst := some 40, op := Go.Op.move (Go.Operand.tmp 0), type := 108, pos := "l05_session.go:70", after := #[], guard := none }) (v := ?vf0) rfl (by kernel_rfl) (by kernel_rfl) (by kernel_rfl) (fun _ _ _ h => h) (Or.inl ⟨by rfl, ?hf0⟩) hHeld ?rf0
    case hf0 =>
      intro wS hSw
      (try dsimp only at hSw)
      go_simp
      try with_reducible rfl
    case rf0 =>
    simp only [Act.put, List.setIfInBounds_toArray, List.set_cons_zero, List.set_cons_succ]
    refine wpAnyH_take (i := 1) (oi := { dst := some 41, op := Go.Op.fieldAddr 83 (Go.Operand.tmp 3) 3, type := 0, pos := "l05_session.go:70", after := #[], guard := none }) (v := ?vf1) rfl (by kernel_rfl) (by kernel_rfl) (by kernel_rfl) (fun _ _ _ h => h) (Or.inl ⟨by rfl, ?hf1⟩) hHeld ?rf1
    case hf1 =>
      intro wS hSw
      (try dsimp only at hSw)
      go_simp
      try with_reducible rfl
    case rf1 =>
    simp only [Act.put, List.setIfInBounds_toArray, List.set_cons_zero, List.set_cons_succ]
    refine wpAnyH_take (i := 2) (oi := { dst := some 42, op := Go.Op.load 2 (Go.Operand.tmp 41), type := 2, pos := "l05_session.go:70", after := #[{ on := 1, ground := Go.Ground.data }], guard := none }) (v := ?vf2) rfl (by kernel_rfl) (by kernel_rfl) (by kernel_rfl) (fun _ _ _ h => h) (Or.inl ⟨by rfl, ?hf2⟩) hHeld ?rf2
    case hf2 =>
      intro wS hSw
      have y3 : wS.cell? ⟨w.heap.size, 3, none⟩ = some (.int .i64 x.session) := (hQ12.ext hSw (by omega)).at 3 _ rfl
      have y4 : wS.cell? ⟨w.heap.size, 4, none⟩ = some (.int .i64 x.seq) := (hQ12.ext hSw (by omega)).at 4 _ rfl
      clear hSw
      (try dsimp only at hSw)
      go_simp
      try with_reducible rfl
    case rf2 =>
    simp only [Act.put, List.setIfInBounds_toArray, List.set_cons_zero, List.set_cons_succ]
    refine wpAnyH_take (i := 3) (oi := { dst := some 43, op := Go.Op.move (Go.Operand.tmp 0), type := 108, pos := "l05_session.go:70", after := #[], guard := none }) (v := ?vf3) rfl (by kernel_rfl) (by kernel_rfl) (by kernel_rfl) (fun _ _ _ h => h) (Or.inl ⟨by rfl, ?hf3⟩) hHeld ?rf3
    case hf3 =>
      intro wS hSw
      (try dsimp only at hSw)
      go_simp
      try with_reducible rfl
    case rf3 =>
    simp only [Act.put, List.setIfInBounds_toArray, List.set_cons_zero, List.set_cons_succ]
    refine wpAnyH_take (i := 4) (oi := { dst := some 44, op := Go.Op.fieldAddr 83 (Go.Operand.tmp 3) 3, type := 0, pos := "l05_session.go:70", after := #[], guard := none }) (v := ?vf4) rfl (by kernel_rfl) (by kernel_rfl) (by kernel_rfl) (fun _ _ _ h => h) (Or.inl ⟨by rfl, ?hf4⟩) hHeld ?rf4
    case hf4 =>
      intro wS hSw
      (try dsimp only at hSw)
      go_simp
      try with_reducible rfl
    case rf4 =>
    simp only [Act.put, List.setIfInBounds_toArray, List.set_cons_zero, List.set_cons_succ]
    refine wpAnyH_take (i := 5) (oi := { dst := some 45, op := Go.Op.load 2 (Go.Operand.tmp 44), type := 2, pos := "l05_session.go:70", after := #[{ on := 4, ground := Go.Ground.data }], guard := none }) (v := ?vf5) rfl (by kernel_rfl) (by kernel_rfl) (by kernel_rfl) (fun _ _ _ h => h) (Or.inl ⟨by rfl, ?hf5⟩) hHeld ?rf5
    case hf5 =>
      intro wS hSw
      have y3 : wS.cell? ⟨w.heap.size, 3, none⟩ = some (.int .i64 x.session) := (hQ12.ext hSw (by omega)).at 3 _ rfl
      have y4 : wS.cell? ⟨w.heap.size, 4, none⟩ = some (.int .i64 x.seq) := (hQ12.ext hSw (by omega)).at 4 _ rfl
      clear hSw
      (try dsimp only at hSw)
      go_simp
      try with_reducible rfl
    case rf5 =>
    simp only [Act.put, List.setIfInBounds_toArray, List.set_cons_zero, List.set_cons_succ]
    refine wpAnyH_take (i := 6) (oi := { dst := some 46, op := Go.Op.nilCheck (Go.Operand.tmp 43), type := 0, pos := "l05_session.go:70", after := #[{ on := 3, ground := Go.Ground.data }], guard := none }) (v := ?vf6) rfl (by kernel_rfl) (by kernel_rfl) (by kernel_rfl) (fun _ _ _ h => h) (Or.inl ⟨by rfl, ?hf6⟩) hHeld ?rf6
    case hf6 =>
      intro wS hSw
      (try dsimp only at hSw)
      go_simp
      try with_reducible rfl
    case rf6 =>
    simp only [Act.put, List.setIfInBounds_toArray, List.set_cons_zero, List.set_cons_succ]
    refine wpAnyH_take (i := 7) (oi := { dst := some 47, op := Go.Op.fieldAddr 134 (Go.Operand.tmp 46) 2, type := 0, pos := "l05_session.go:70", after := #[{ on := 6, ground := Go.Ground.data }], guard := none }) (v := ?vf7) rfl (by kernel_rfl) (by kernel_rfl) (by kernel_rfl) (fun _ _ _ h => h) (Or.inl ⟨by rfl, ?hf7⟩) hHeld ?rf7
    case hf7 =>
      intro wS hSw
      (try dsimp only at hSw)
      go_simp
      try with_reducible rfl
    case rf7 =>
    simp only [Act.put, List.setIfInBounds_toArray, List.set_cons_zero, List.set_cons_succ]
    refine wpAnyH_take (i := 8) (oi := { dst := some 48, op := Go.Op.indexAddr 111 (Go.Operand.tmp 47) (Go.Operand.tmp 45), type := 0, pos := "l05_session.go:70", after := #[{ on := 7, ground := Go.Ground.data }, { on := 5, ground := Go.Ground.data }], guard := none }) (v := ?vf8) rfl (by kernel_rfl) (by kernel_rfl) (by kernel_rfl) (fun _ _ _ h => h) (Or.inl ⟨by rfl, ?hf8⟩) hHeld ?rf8
    case hf8 =>
      intro wS hSw
      (try dsimp only at hSw)
      go_simp
      try with_reducible rfl
    case rf8 =>
    simp only [Act.put, List.setIfInBounds_toArray, List.set_cons_zero, List.set_cons_succ]
    refine wpAnyH_take (i := 10) (oi := { dst := some 50, op := Go.Op.fieldAddr 83 (Go.Operand.tmp 3) 4, type := 0, pos := "l05_session.go:70", after := #[], guard := none }) (v := ?vf10) rfl (by kernel_rfl) (by kernel_rfl) (by kernel_rfl) (fun _ _ _ h => h) (Or.inl ⟨by rfl, ?hf10⟩) hHeld ?rf10
    case hf10 =>
      intro wS hSw
      (try dsimp only at hSw)
      go_simp
      try with_reducible rfl
    case rf10 =>
    simp only [Act.put, List.setIfInBounds_toArray, List.set_cons_zero, List.set_cons_succ]
    refine wpAnyH_take (i := 11) (oi := { dst := some 51, op := Go.Op.load 2 (Go.Operand.tmp 50), type := 2, pos := "l05_session.go:70", after := #[{ on := 10, ground := Go.Ground.data }], guard := none }) (v := ?vf11) rfl (by kernel_rfl) (by kernel_rfl) (by kernel_rfl) (fun _ _ _ h => h) (Or.inl ⟨by rfl, ?hf11⟩) hHeld ?rf11
    case hf11 =>
      intro wS hSw
      have y3 : wS.cell? ⟨w.heap.size, 3, none⟩ = some (.int .i64 x.session) := (hQ12.ext hSw (by omega)).at 3 _ rfl
      have y4 : wS.cell? ⟨w.heap.size, 4, none⟩ = some (.int .i64 x.seq) := (hQ12.ext hSw (by omega)).at 4 _ rfl
      clear hSw
      (try dsimp only at hSw)
      go_simp
      try with_reducible rfl
    case rf11 =>
    simp only [Act.put, List.setIfInBounds_toArray, List.set_cons_zero, List.set_cons_succ]
    refine wpAnyH_take (i := 13) (oi := { dst := some 53, op := Go.Op.nilCheck (Go.Operand.tmp 40), type := 0, pos := "l05_session.go:70", after := #[{ on := 0, ground := Go.Ground.data }], guard := none }) (v := ?vf13) rfl (by kernel_rfl) (by kernel_rfl) (by kernel_rfl) (fun _ _ _ h => h) (Or.inl ⟨by rfl, ?hf13⟩) hHeld ?rf13
    case hf13 =>
      intro wS hSw
      (try dsimp only at hSw)
      go_simp
      try with_reducible rfl
    case rf13 =>
    simp only [Act.put, List.setIfInBounds_toArray, List.set_cons_zero, List.set_cons_succ]
    refine wpAnyH_take (i := 14) (oi := { dst := some 54, op := Go.Op.fieldAddr 134 (Go.Operand.tmp 53) 2, type := 0, pos := "l05_session.go:70", after := #[{ on := 13, ground := Go.Ground.data }], guard := none }) (v := ?vf14) rfl (by kernel_rfl) (by kernel_rfl) (by kernel_rfl) (fun _ _ _ h => h) (Or.inl ⟨by rfl, ?hf14⟩) hHeld ?rf14
    case hf14 =>
      intro wS hSw
      (try dsimp only at hSw)
      go_simp
      try with_reducible rfl
    case rf14 =>
    simp only [Act.put, List.setIfInBounds_toArray, List.set_cons_zero, List.set_cons_succ]
    refine wpAnyH_ready (rs := [9]) (by kernel_rfl) (by simp) ?_
    refine AllReadyH.cons (o := { dst := some 49, op := Go.Op.load 2 (Go.Operand.tmp 48), type := 2, pos := "l05_session.go:70", after := #[{ on := 8, ground := Go.Ground.data }], guard := none }) rfl (fun K hK => ?_) AllReadyH.nil
    have zl : wG.cell? ⟨p, 2 + x.session.toNat, none⟩ = some (.int .i64 (lastI ws x.session)) := by
      have := hTG.box.at _ _ (tcells_at (.slice (some ⟨g5, 0, none⟩) (ws.length + 1) cp5) mb (lastI ws) x.session.toNat hs9)
      rwa [hsi] at this
    go_simp
    refine hK.out _ _ hHeld (fun hHeld => ?_)
    clear hK K
    try simp only [Act.put, List.setIfInBounds_toArray, List.set_cons_zero, List.set_cons_succ]
    refine wpAnyH_take (i := 12) (oi := { dst := some 52, op := Go.Op.call { callee := Go.Callee.builtin Go.Builtin.max, args := #[Go.Operand.tmp 49, Go.Operand.tmp 51], argTypes := #[2, 2] }, type := 2, pos := "l05_session.go:70", after := #[{ on := 9, ground := Go.Ground.data }, { on := 11, ground := Go.Ground.data }], guard := none }) (v := ?vf12) rfl (by kernel_rfl) (by kernel_rfl) (by kernel_rfl) (fun _ _ _ h => h) (Or.inl ⟨by rfl, ?hf12⟩) hHeld ?rf12
    case hf12 =>
      intro wS hSw
      (try dsimp only at hSw)
      go_simp
      try with_reducible rfl
    case rf12 =>
    simp only [Act.put, List.setIfInBounds_toArray, List.set_cons_zero, List.set_cons_succ]
    refine wpAnyH_take (i := 15) (oi := { dst := some 55, op := Go.Op.indexAddr 111 (Go.Operand.tmp 54) (Go.Operand.tmp 42), type := 0, pos := "l05_session.go:70", after := #[{ on := 14, ground := Go.Ground.data }, { on := 2, ground := Go.Ground.data }, { on := 0, ground := Go.Ground.phase }, { on := 1, ground := Go.Ground.phase }, { on := 2, ground := Go.Ground.phase }, { on := 3, ground := Go.Ground.phase }, { on := 4, ground := Go.Ground.phase }, { on := 5, ground := Go.Ground.phase }, { on := 6, ground := Go.Ground.phase }, { on := 7, ground := Go.Ground.phase }, { on := 8, ground := Go.Ground.phase }, { on := 9, ground := Go.Ground.phase }, { on := 10, ground := Go.Ground.phase }, { on := 11, ground := Go.Ground.phase }, { on := 12, ground := Go.Ground.phase }], guard := none }) (v := ?vf15) rfl (by kernel_rfl) (by kernel_rfl) (by kernel_rfl) (fun _ _ _ h => h) (Or.inl ⟨by rfl, ?hf15⟩) hHeld ?rf15
    case hf15 =>
      intro wS hSw
      (try dsimp only at hSw)
      go_simp
      try with_reducible rfl
    case rf15 =>
    simp only [Act.put, List.setIfInBounds_toArray, List.set_cons_zero, List.set_cons_succ]
    refine wpAnyH_ready (rs := [16]) (by kernel_rfl) (by simp) ?_
    refine AllReadyH.cons (o := { dst := none, op := Go.Op.store 2 (Go.Operand.tmp 55) (Go.Operand.tmp 52), type := 0, pos := "l05_session.go:70", after := #[{ on := 15, ground := Go.Ground.data }, { on := 12, ground := Go.Ground.data }, { on := 0, ground := Go.Ground.phase }, { on := 1, ground := Go.Ground.phase }, { on := 2, ground := Go.Ground.phase }, { on := 3, ground := Go.Ground.phase }, { on := 4, ground := Go.Ground.phase }, { on := 5, ground := Go.Ground.phase }, { on := 6, ground := Go.Ground.phase }, { on := 7, ground := Go.Ground.phase }, { on := 8, ground := Go.Ground.phase }, { on := 9, ground := Go.Ground.phase }, { on := 10, ground := Go.Ground.phase }, { on := 11, ground := Go.Ground.phase }, { on := 12, ground := Go.Ground.phase }], guard := none }) rfl (fun K hK => ?_) AllReadyH.nil
    have zl : wG.cell? ⟨p, 2 + x.session.toNat, none⟩ = some (.int .i64 (lastI ws x.session)) := by
      have := hTG.box.at _ _ (tcells_at (.slice (some ⟨g5, 0, none⟩) (ws.length + 1) cp5) mb (lastI ws) x.session.toNat hs9)
      rwa [hsi] at this
    have f6 := hTG.box.soft (2 + x.session.toNat)
    have l6 := hTG.box.lt
    go_simp
    refine hK.out _ _ (hHeld.setCell ⟨p, 2 + x.session.toNat, none⟩ _ rfl) (fun hHeld => ?_)
    clear hK K
    try simp only [Act.put, List.setIfInBounds_toArray, List.set_cons_zero, List.set_cons_succ]
    refine wpAnyH_done (by kernel_rfl) ?_ _
    refine NoPanic.normal ?_
    have hTZ := ((hTG.lasted x.session.toNat hs9 ((if lastI ws x.session < x.seq then x.seq else lastI ws x.session))).same (Nat.le_of_eq (unhide hlen).symm) (unhide HLAST) (unhide HSEEN)).top
    have hBZ : Below mb w (wG.setCell ⟨p, 2 + x.session.toNat, none⟩ (.int .i64 ((if lastI ws x.session < x.seq then x.seq else lastI ws x.session)))) := hBG.setCell (by simp; omega) _
    clear hHeld hTG hBG
    generalize wG.setCell ⟨p, 2 + x.session.toNat, none⟩ (.int .i64 (if lastI ws x.session < x.seq then x.seq else lastI ws x.session)) = wZ at hTZ hBZ ⊢
    go_wp2_with fail
    all_goals
      refine bodyPost_end (v := .tuple #[]) (by simp [results, Try.results110, go_sem]) rfl ?_
      exact ⟨rfl, ⟨_, _, _, hTZ⟩, hBZ⟩
  · obtain rfl : bs = true := by rw [unhide HBS]; simpa using hsn
    have hseen : ∀ s q : Int, seenI ws s q = seenI (ws ++ [x]) s q := by
      intro s q
      rw [seenI_snoc]
      split
      · rename_i e
        rw [if_neg]
        · exact e
        · rintro ⟨rfl, rfl⟩
          exact hsn e
      · rfl
    have HSEEN := hide hseen
    clear HBS hseen hsn
    go_wp2_with fail
    have hTG : Told0 w9.drew p mb _ ws.length (ws ++ [x]) (lastI ws) (fun s q => seenI ws s q) (.slice (some ⟨g5, 0, none⟩) (ws.length + 1) cp5) (rows ++ [[.int .i64 x.kind, .int .i64 x.id, .slice a2 x.vec.length d2, .int .i64 x.session, .int .i64 x.seq]]) (bls ++ [bl]) := hT9.later (below_drawn (Below.refl _ _) 1)
    have hBG : Below mb w w9.drew := hB9.drew
    refine wp_region_noPanic ?_
    refine wp_region_held_drew (S := fun w' => Ext (fun c => c = p) w9 w') (by kernel_rfl) (Ext.refl _ _).drew3 (fun hHeld => ?_)
    generalize w9.drew = wG at hHeld hTG hBG ⊢
    refine wpAnyH_take (i := 0) (oi := { dst := some 40, op := Go.Op.move (Go.Operand.tmp 0), type := 108, pos := "l05_session.go:70", after := #[], guard := none }) (v := ?vg0) rfl (by kernel_rfl) (by kernel_rfl) (by kernel_rfl) (fun _ _ _ h => h) (Or.inl ⟨by rfl, ?hg0⟩) hHeld ?rg0
    case hg0 =>
      intro wS hSw
      (try dsimp only at hSw)
      go_simp
      try with_reducible rfl
    case rg0 =>
    simp only [Act.put, List.setIfInBounds_toArray, List.set_cons_zero, List.set_cons_succ]
    refine wpAnyH_take (i := 1) (oi := { dst := some 41, op := Go.Op.fieldAddr 83 (Go.Operand.tmp 3) 3, type := 0, pos := "l05_session.go:70", after := #[], guard := none }) (v := ?vg1) rfl (by kernel_rfl) (by kernel_rfl) (by kernel_rfl) (fun _ _ _ h => h) (Or.inl ⟨by rfl, ?hg1⟩) hHeld ?rg1
    case hg1 =>
      intro wS hSw
      (try dsimp only at hSw)
      go_simp
      try with_reducible rfl
    case rg1 =>
    simp only [Act.put, List.setIfInBounds_toArray, List.set_cons_zero, List.set_cons_succ]
    refine wpAnyH_take (i := 2) (oi := { dst := some 42, op := Go.Op.load 2 (Go.Operand.tmp 41), type := 2, pos := "l05_session.go:70", after := #[{ on := 1, ground := Go.Ground.data }], guard := none }) (v := ?vg2) rfl (by kernel_rfl) (by kernel_rfl) (by kernel_rfl) (fun _ _ _ h => h) (Or.inl ⟨by rfl, ?hg2⟩) hHeld ?rg2
    case hg2 =>
      intro wS hSw
      have y3 : wS.cell? ⟨w.heap.size, 3, none⟩ = some (.int .i64 x.session) := (hQ9.ext hSw (by omega)).at 3 _ rfl
      have y4 : wS.cell? ⟨w.heap.size, 4, none⟩ = some (.int .i64 x.seq) := (hQ9.ext hSw (by omega)).at 4 _ rfl
      clear hSw
      (try dsimp only at hSw)
      go_simp
      try with_reducible rfl
    case rg2 =>
    simp only [Act.put, List.setIfInBounds_toArray, List.set_cons_zero, List.set_cons_succ]
    refine wpAnyH_take (i := 3) (oi := { dst := some 43, op := Go.Op.move (Go.Operand.tmp 0), type := 108, pos := "l05_session.go:70", after := #[], guard := none }) (v := ?vg3) rfl (by kernel_rfl) (by kernel_rfl) (by kernel_rfl) (fun _ _ _ h => h) (Or.inl ⟨by rfl, ?hg3⟩) hHeld ?rg3
    case hg3 =>
      intro wS hSw
      (try dsimp only at hSw)
      go_simp
      try with_reducible rfl
    case rg3 =>
    simp only [Act.put, List.setIfInBounds_toArray, List.set_cons_zero, List.set_cons_succ]
    refine wpAnyH_take (i := 4) (oi := { dst := some 44, op := Go.Op.fieldAddr 83 (Go.Operand.tmp 3) 3, type := 0, pos := "l05_session.go:70", after := #[], guard := none }) (v := ?vg4) rfl (by kernel_rfl) (by kernel_rfl) (by kernel_rfl) (fun _ _ _ h => h) (Or.inl ⟨by rfl, ?hg4⟩) hHeld ?rg4
    case hg4 =>
      intro wS hSw
      (try dsimp only at hSw)
      go_simp
      try with_reducible rfl
    case rg4 =>
    simp only [Act.put, List.setIfInBounds_toArray, List.set_cons_zero, List.set_cons_succ]
    refine wpAnyH_take (i := 5) (oi := { dst := some 45, op := Go.Op.load 2 (Go.Operand.tmp 44), type := 2, pos := "l05_session.go:70", after := #[{ on := 4, ground := Go.Ground.data }], guard := none }) (v := ?vg5) rfl (by kernel_rfl) (by kernel_rfl) (by kernel_rfl) (fun _ _ _ h => h) (Or.inl ⟨by rfl, ?hg5⟩) hHeld ?rg5
    case hg5 =>
      intro wS hSw
      have y3 : wS.cell? ⟨w.heap.size, 3, none⟩ = some (.int .i64 x.session) := (hQ9.ext hSw (by omega)).at 3 _ rfl
      have y4 : wS.cell? ⟨w.heap.size, 4, none⟩ = some (.int .i64 x.seq) := (hQ9.ext hSw (by omega)).at 4 _ rfl
      clear hSw
      (try dsimp only at hSw)
      go_simp
      try with_reducible rfl
    case rg5 =>
    simp only [Act.put, List.setIfInBounds_toArray, List.set_cons_zero, List.set_cons_succ]
    refine wpAnyH_take (i := 6) (oi := { dst := some 46, op := Go.Op.nilCheck (Go.Operand.tmp 43), type := 0, pos := "l05_session.go:70", after := #[{ on := 3, ground := Go.Ground.data }], guard := none }) (v := ?vg6) rfl (by kernel_rfl) (by kernel_rfl) (by kernel_rfl) (fun _ _ _ h => h) (Or.inl ⟨by rfl, ?hg6⟩) hHeld ?rg6
    case hg6 =>
      intro wS hSw
      (try dsimp only at hSw)
      go_simp
      try with_reducible rfl
    case rg6 =>
    simp only [Act.put, List.setIfInBounds_toArray, List.set_cons_zero, List.set_cons_succ]
    refine wpAnyH_take (i := 7) (oi := { dst := some 47, op := Go.Op.fieldAddr 134 (Go.Operand.tmp 46) 2, type := 0, pos := "l05_session.go:70", after := #[{ on := 6, ground := Go.Ground.data }], guard := none }) (v := ?vg7) rfl (by kernel_rfl) (by kernel_rfl) (by kernel_rfl) (fun _ _ _ h => h) (Or.inl ⟨by rfl, ?hg7⟩) hHeld ?rg7
    case hg7 =>
      intro wS hSw
      (try dsimp only at hSw)
      go_simp
      try with_reducible rfl
    case rg7 =>
    simp only [Act.put, List.setIfInBounds_toArray, List.set_cons_zero, List.set_cons_succ]
    refine wpAnyH_take (i := 8) (oi := { dst := some 48, op := Go.Op.indexAddr 111 (Go.Operand.tmp 47) (Go.Operand.tmp 45), type := 0, pos := "l05_session.go:70", after := #[{ on := 7, ground := Go.Ground.data }, { on := 5, ground := Go.Ground.data }], guard := none }) (v := ?vg8) rfl (by kernel_rfl) (by kernel_rfl) (by kernel_rfl) (fun _ _ _ h => h) (Or.inl ⟨by rfl, ?hg8⟩) hHeld ?rg8
    case hg8 =>
      intro wS hSw
      (try dsimp only at hSw)
      go_simp
      try with_reducible rfl
    case rg8 =>
    simp only [Act.put, List.setIfInBounds_toArray, List.set_cons_zero, List.set_cons_succ]
    refine wpAnyH_take (i := 10) (oi := { dst := some 50, op := Go.Op.fieldAddr 83 (Go.Operand.tmp 3) 4, type := 0, pos := "l05_session.go:70", after := #[], guard := none }) (v := ?vg10) rfl (by kernel_rfl) (by kernel_rfl) (by kernel_rfl) (fun _ _ _ h => h) (Or.inl ⟨by rfl, ?hg10⟩) hHeld ?rg10
    case hg10 =>
      intro wS hSw
      (try dsimp only at hSw)
      go_simp
      try with_reducible rfl
    case rg10 =>
    simp only [Act.put, List.setIfInBounds_toArray, List.set_cons_zero, List.set_cons_succ]
    refine wpAnyH_take (i := 11) (oi := { dst := some 51, op := Go.Op.load 2 (Go.Operand.tmp 50), type := 2, pos := "l05_session.go:70", after := #[{ on := 10, ground := Go.Ground.data }], guard := none }) (v := ?vg11) rfl (by kernel_rfl) (by kernel_rfl) (by kernel_rfl) (fun _ _ _ h => h) (Or.inl ⟨by rfl, ?hg11⟩) hHeld ?rg11
    case hg11 =>
      intro wS hSw
      have y3 : wS.cell? ⟨w.heap.size, 3, none⟩ = some (.int .i64 x.session) := (hQ9.ext hSw (by omega)).at 3 _ rfl
      have y4 : wS.cell? ⟨w.heap.size, 4, none⟩ = some (.int .i64 x.seq) := (hQ9.ext hSw (by omega)).at 4 _ rfl
      clear hSw
      (try dsimp only at hSw)
      go_simp
      try with_reducible rfl
    case rg11 =>
    simp only [Act.put, List.setIfInBounds_toArray, List.set_cons_zero, List.set_cons_succ]
    refine wpAnyH_take (i := 13) (oi := { dst := some 53, op := Go.Op.nilCheck (Go.Operand.tmp 40), type := 0, pos := "l05_session.go:70", after := #[{ on := 0, ground := Go.Ground.data }], guard := none }) (v := ?vg13) rfl (by kernel_rfl) (by kernel_rfl) (by kernel_rfl) (fun _ _ _ h => h) (Or.inl ⟨by rfl, ?hg13⟩) hHeld ?rg13
    case hg13 =>
      intro wS hSw
      (try dsimp only at hSw)
      go_simp
      try with_reducible rfl
    case rg13 =>
    simp only [Act.put, List.setIfInBounds_toArray, List.set_cons_zero, List.set_cons_succ]
    refine wpAnyH_take (i := 14) (oi := { dst := some 54, op := Go.Op.fieldAddr 134 (Go.Operand.tmp 53) 2, type := 0, pos := "l05_session.go:70", after := #[{ on := 13, ground := Go.Ground.data }], guard := none }) (v := ?vg14) rfl (by kernel_rfl) (by kernel_rfl) (by kernel_rfl) (fun _ _ _ h => h) (Or.inl ⟨by rfl, ?hg14⟩) hHeld ?rg14
    case hg14 =>
      intro wS hSw
      (try dsimp only at hSw)
      go_simp
      try with_reducible rfl
    case rg14 =>
    simp only [Act.put, List.setIfInBounds_toArray, List.set_cons_zero, List.set_cons_succ]
    refine wpAnyH_ready (rs := [9]) (by kernel_rfl) (by simp) ?_
    refine AllReadyH.cons (o := { dst := some 49, op := Go.Op.load 2 (Go.Operand.tmp 48), type := 2, pos := "l05_session.go:70", after := #[{ on := 8, ground := Go.Ground.data }], guard := none }) rfl (fun K hK => ?_) AllReadyH.nil
    have zl : wG.cell? ⟨p, 2 + x.session.toNat, none⟩ = some (.int .i64 (lastI ws x.session)) := by
      have := hTG.box.at _ _ (tcells_at (.slice (some ⟨g5, 0, none⟩) (ws.length + 1) cp5) mb (lastI ws) x.session.toNat hs9)
      rwa [hsi] at this
    go_simp
    refine hK.out _ _ hHeld (fun hHeld => ?_)
    clear hK K
    try simp only [Act.put, List.setIfInBounds_toArray, List.set_cons_zero, List.set_cons_succ]
    refine wpAnyH_take (i := 12) (oi := { dst := some 52, op := Go.Op.call { callee := Go.Callee.builtin Go.Builtin.max, args := #[Go.Operand.tmp 49, Go.Operand.tmp 51], argTypes := #[2, 2] }, type := 2, pos := "l05_session.go:70", after := #[{ on := 9, ground := Go.Ground.data }, { on := 11, ground := Go.Ground.data }], guard := none }) (v := ?vg12) rfl (by kernel_rfl) (by kernel_rfl) (by kernel_rfl) (fun _ _ _ h => h) (Or.inl ⟨by rfl, ?hg12⟩) hHeld ?rg12
    case hg12 =>
      intro wS hSw
      (try dsimp only at hSw)
      go_simp
      try with_reducible rfl
    case rg12 =>
    simp only [Act.put, List.setIfInBounds_toArray, List.set_cons_zero, List.set_cons_succ]
    refine wpAnyH_take (i := 15) (oi := { dst := some 55, op := Go.Op.indexAddr 111 (Go.Operand.tmp 54) (Go.Operand.tmp 42), type := 0, pos := "l05_session.go:70", after := #[{ on := 14, ground := Go.Ground.data }, { on := 2, ground := Go.Ground.data }, { on := 0, ground := Go.Ground.phase }, { on := 1, ground := Go.Ground.phase }, { on := 2, ground := Go.Ground.phase }, { on := 3, ground := Go.Ground.phase }, { on := 4, ground := Go.Ground.phase }, { on := 5, ground := Go.Ground.phase }, { on := 6, ground := Go.Ground.phase }, { on := 7, ground := Go.Ground.phase }, { on := 8, ground := Go.Ground.phase }, { on := 9, ground := Go.Ground.phase }, { on := 10, ground := Go.Ground.phase }, { on := 11, ground := Go.Ground.phase }, { on := 12, ground := Go.Ground.phase }], guard := none }) (v := ?vg15) rfl (by kernel_rfl) (by kernel_rfl) (by kernel_rfl) (fun _ _ _ h => h) (Or.inl ⟨by rfl, ?hg15⟩) hHeld ?rg15
    case hg15 =>
      intro wS hSw
      (try dsimp only at hSw)
      go_simp
      try with_reducible rfl
    case rg15 =>
    simp only [Act.put, List.setIfInBounds_toArray, List.set_cons_zero, List.set_cons_succ]
    refine wpAnyH_ready (rs := [16]) (by kernel_rfl) (by simp) ?_
    refine AllReadyH.cons (o := { dst := none, op := Go.Op.store 2 (Go.Operand.tmp 55) (Go.Operand.tmp 52), type := 0, pos := "l05_session.go:70", after := #[{ on := 15, ground := Go.Ground.data }, { on := 12, ground := Go.Ground.data }, { on := 0, ground := Go.Ground.phase }, { on := 1, ground := Go.Ground.phase }, { on := 2, ground := Go.Ground.phase }, { on := 3, ground := Go.Ground.phase }, { on := 4, ground := Go.Ground.phase }, { on := 5, ground := Go.Ground.phase }, { on := 6, ground := Go.Ground.phase }, { on := 7, ground := Go.Ground.phase }, { on := 8, ground := Go.Ground.phase }, { on := 9, ground := Go.Ground.phase }, { on := 10, ground := Go.Ground.phase }, { on := 11, ground := Go.Ground.phase }, { on := 12, ground := Go.Ground.phase }], guard := none }) rfl (fun K hK => ?_) AllReadyH.nil
    have zl : wG.cell? ⟨p, 2 + x.session.toNat, none⟩ = some (.int .i64 (lastI ws x.session)) := by
      have := hTG.box.at _ _ (tcells_at (.slice (some ⟨g5, 0, none⟩) (ws.length + 1) cp5) mb (lastI ws) x.session.toNat hs9)
      rwa [hsi] at this
    have f6 := hTG.box.soft (2 + x.session.toNat)
    have l6 := hTG.box.lt
    go_simp
    refine hK.out _ _ (hHeld.setCell ⟨p, 2 + x.session.toNat, none⟩ _ rfl) (fun hHeld => ?_)
    clear hK K
    try simp only [Act.put, List.setIfInBounds_toArray, List.set_cons_zero, List.set_cons_succ]
    refine wpAnyH_done (by kernel_rfl) ?_ _
    refine NoPanic.normal ?_
    have hTZ := ((hTG.lasted x.session.toNat hs9 ((if lastI ws x.session < x.seq then x.seq else lastI ws x.session))).same (n' := (ws ++ [x]).length) (by rw [unhide hlen]; omega) (unhide HLAST) (unhide HSEEN)).top
    have hBZ : Below mb w (wG.setCell ⟨p, 2 + x.session.toNat, none⟩ (.int .i64 ((if lastI ws x.session < x.seq then x.seq else lastI ws x.session)))) := hBG.setCell (by simp; omega) _
    clear hHeld hTG hBG
    generalize wG.setCell ⟨p, 2 + x.session.toNat, none⟩ (.int .i64 (if lastI ws x.session < x.seq then x.seq else lastI ws x.session)) = wZ at hTZ hBZ ⊢
    go_wp2_with fail
    all_goals
      refine bodyPost_end (v := .tuple #[]) (by simp [results, Try.results110, go_sem]) rfl ?_
      exact ⟨rfl, ⟨_, _, _, hTZ⟩, hBZ⟩

end Go.Proofs.Ytbogjepkdcknfaa

namespace Go.Proofs.Ytbogjepkdcknfaa
open Go.RowKit

theorem bcell {W w1 : World} (hb : Below W.heap.size W w1) : (∀ b o, b < W.heap.size → w1.cell? ⟨b, o, none⟩ = W.cell? ⟨b, o, none⟩) ∧ (∀ b o, b < W.heap.size → w1.frozen? ⟨b, o, none⟩ = W.frozen? ⟨b, o, none⟩) :=
  ⟨fun b o h => hb.cell (p := ⟨b, o, none⟩) h, fun b o h => hb.frozen (p := ⟨b, o, none⟩) h⟩

/-- Two blocks of three cells that were laid ahead of a call are there behind it, and may be written. -/
theorem two_kept {w w1 : World} {T : TypeId} {x0 x1 x2 y0 y1 y2 : Value} (hb : Below ((w.alloc (.cells #[x0, x1, x2] T)).alloc (.cells #[y0, y1, y2] T)).heap.size ((w.alloc (.cells #[x0, x1, x2] T)).alloc (.cells #[y0, y1, y2] T)) w1) :
    (w1.cell? ⟨w.heap.size, 0, none⟩ = some x0 ∧ w1.cell? ⟨w.heap.size, 1, none⟩ = some x1 ∧ w1.cell? ⟨w.heap.size, 2, none⟩ = some x2) ∧
    (w1.cell? ⟨w.heap.size + 1, 0, none⟩ = some y0 ∧ w1.cell? ⟨w.heap.size + 1, 1, none⟩ = some y1 ∧ w1.cell? ⟨w.heap.size + 1, 2, none⟩ = some y2) ∧
    (∀ o, w1.frozen? ⟨w.heap.size, o, none⟩ = false) ∧ (∀ o, w1.frozen? ⟨w.heap.size + 1, o, none⟩ = false) := by
  refine ⟨⟨?_, ?_, ?_⟩, ⟨?_, ?_, ?_⟩, fun o => ?_, fun o => ?_⟩
  all_goals first | rw [hb.cell (by simp [World.size_alloc]; try omega)] | rw [hb.frozen (by simp [World.size_alloc]; try omega)]
  all_goals simp [go_sem]

/-- Three numbers as an array. -/
def arr3 (x y z : Int) : Value := .agg #[.int .i64 x, .int .i64 y, .int .i64 z]

theorem IsInts.three {w : World} {v : Value} {zs : List Int} (h : IsInts w v zs) (h3 : zs.length = 3) :
    ∃ b off cap x y z, zs = [x, y, z] ∧ v = .slice (some ⟨b, off, none⟩) 3 cap ∧ b < w.heap.size ∧ w.cell? ⟨b, off, none⟩ = some (.int .i64 x) ∧ w.cell? ⟨b, off + 1, none⟩ = some (.int .i64 y) ∧ w.cell? ⟨b, off + 2, none⟩ = some (.int .i64 z) := by
  obtain ⟨ao, cap, rfl, hwf, hc⟩ := h
  match zs, h3 with
  | [x, y, z], _ =>
    obtain ⟨b, off, rfl, hc1⟩ := hc (by simp)
    have c0 := hc1 0 (by simp)
    have c1 := hc1 1 (by simp)
    have c2 := hc1 2 (by simp)
    exact ⟨b, off, cap, x, y, z, rfl, rfl, World.block_lt_of_cell? _ _ c0, by simpa using c0, by simpa using c1, by simpa using c2⟩

set_option maxHeartbeats 400000 in
theorem vectorOf_bad (v : Value) (zs : List Int) (w : World) (h : IsInts w v zs) (hf : vecFault zs ≠ 0) :
    Calls Try.prog 101 #[v] w fun e w' => e = .returned (.tuple #[arr3 0 0 0, .int .i64 (vecFault zs)]) ∧ Below w.heap.size w w' := by
  go_enter Try.func101, Try.ntmps101
  go_wp2_with fail
  refine (implFault v zs _ (h.later (((Below.refl _ _).alloc (Nat.le_refl _) _).alloc (by simp) _))).mono ?_
  rintro e w' ⟨rfl, rfl⟩
  have hne : (vecFault zs != 0) = true := by rw [bne_iff_ne]; exact hf
  go_wp2_with fail
  refine bodyPost_ret (v := .tuple #[arr3 0 0 0, .int .i64 (vecFault zs)]) (by simp [results, Try.results101, go_sem, arr3]) rfl ⟨rfl, ?_⟩
  exact ((Below.refl _ _).alloc (Nat.le_refl _) _).alloc (by simp) _

set_option maxHeartbeats 1000000 in
theorem vectorOf_three (b off cap : Nat) (x y z : Int) (w : World) (hbl : b < w.heap.size) (c0 : w.cell? ⟨b, off, none⟩ = some (.int .i64 x)) (c1 : w.cell? ⟨b, off + 1, none⟩ = some (.int .i64 y)) (c2 : w.cell? ⟨b, off + 2, none⟩ = some (.int .i64 z))
    (h : IsInts w (.slice (some ⟨b, off, none⟩) 3 cap) [x, y, z]) (hf : vecFault [x, y, z] = 0) :
    Calls Try.prog 101 #[.slice (some ⟨b, off, none⟩) 3 cap] w fun e w' => e = .returned (.tuple #[arr3 x y z, .int .i64 0]) ∧ Below w.heap.size w w' := by
  go_enter Try.func101, Try.ntmps101
  go_wp2_with fail
  refine (implFault _ [x, y, z] _ (h.later (((Below.refl _ _).alloc (Nat.le_refl _) _).alloc (by simp) _))).mono ?_
  rintro e w' ⟨rfl, rfl⟩
  rw [hf]
  clear h hf
  go_wp2_with fail
  refine wp_loop_rounds 4 ?_
  rw [rounds_succ]
  go_wp2
  rw [rounds_succ]
  go_wp2
  rw [rounds_succ]
  go_wp2
  rw [rounds_succ]
  go_wp2
  refine bodyPost_ret (v := .tuple #[arr3 x y z, .int .i64 0]) (by simp [results, Try.results101, go_sem, arr3]) rfl ⟨rfl, ?_⟩
  exact ((Below.refl _ _).alloc (Nat.le_refl _) _).alloc (by simp) _

theorem vectorOf_ok (v : Value) (x y z : Int) (w : World) (h : IsInts w v [x, y, z]) (hf : vecFault [x, y, z] = 0) :
    Calls Try.prog 101 #[v] w fun e w' => e = .returned (.tuple #[arr3 x y z, .int .i64 0]) ∧ Below w.heap.size w w' := by
  obtain ⟨b, off, cap, x', y', z', he, rfl, hbl, c0, c1, c2⟩ := h.three rfl
  simp only [List.cons.injEq, and_true] at he
  obtain ⟨rfl, rfl, rfl⟩ := he
  exact vectorOf_three b off cap x y z w hbl c0 c1 c2 h hf

end Go.Proofs.Ytbogjepkdcknfaa
