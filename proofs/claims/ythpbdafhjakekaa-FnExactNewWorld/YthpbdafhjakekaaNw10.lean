/-
  Texts of this proof in one: AppInt, AppNode, SpecNode9, SpecNewC, NewWKit, NewW, ImplNodeId, ImplEpoch, PartReads, ImplChainF, ImplNewC, OwnNodeResult, NodeKitP, ImplNewNode.
  Their conditions stand in their theorems.
-/
import Derived.Test.YthpbdafhjakekaaNw01
import Derived.Test.YthpbdafhjakekaaNw03
import Derived.Deep.AppendLies
import Derived.Test.YthpbdafhjakekaaChecked
import Derived.Test.YthpbdafhjakekaaNw02
import Derived.Test.YthpbdafhjakekaaNw08
import Derived.Test.YthpbdafhjakekaaNw09
import Derived.Deep.CutRange
import Derived.OwnWalk
import Derived.Test.YthpbdafhjakekaaNw05

namespace Go.Proofs.Ythpbdafhjakekaa
open Go.RowKit

theorem grown_alloc {w w' : World} {o : Obj} {r : Option Nat} (h : (w.alloc o).grownBy w' r) : w.grownBy w' r := grown_trans (World.grownBy_alloc w o r) h

/-- At an operation of a plain region: 'append(s, q)', q laid into a block of its own first. -/
theorem wpList_append_int {w1 : World} {base : Nat} {v : Value} {n : Nat} {xs : List Value} (hown : w1.ownsRow base 2 1 v n xs) (q : Int) {ops : Array Oper} {rest : List Oper} {o : Oper} {a : Act} {Q : Exit → Act → World → Prop} (hgd : o.guard = none) (s x : Operand)
    (ho : o.op = .call { callee := .builtin .append, args := #[s, x], argTypes := #[22, 22] }) (hs : a.eval s = v) (hx : a.eval x = .slice (some ⟨w1.heap.size, 0, none⟩) 1 1)
    (hn : n ≤ 100000000) (hbase : base ≤ w1.heap.size)
    (h : ∀ g cap w', w'.ownsRow base 2 1 (.slice (some ⟨g, 0, none⟩) (n + 1) cap) (n + 1) (xs ++ [.int .i64 q]) → w1.grownBy w' v.ownBlock → Below base w1 w' → g < w'.heap.size → w1.heap.size < w'.heap.size → wpList Try.prog ops Q rest (a.put o.dst (.slice (some ⟨g, 0, none⟩) (n + 1) cap)) w') :
    wpList Try.prog ops Q (o :: rest) a (w1.alloc (.cells #[.int .i64 q] 2)) := by
  obtain ⟨i0, hi0, hz0, hz1, hz2⟩ := info_parts info2
  refine wpList_append_lies _ hgd s x 22 ho base 2 i0 _ 1 8 Try.underlying22 hi0 hz0 hz1 hz2 rfl (by omega) v n xs hs (hown.alloc _) ⟨w1.heap.size, 0, none⟩ 1 1 [.int .i64 q] hx rfl (World.news_of_block (cs := #[.int .i64 q]) (t := 2) (fr := (0, 0)) (heap_alloc_new w1 _)) (by simp [Value.oneCell']) (by omega) (by unfold maxLen; omega) (by omega) (by simp; omega) (w1.heap.size + 1) (by simp) ?_
  intro g cap w' h2 h3 _ h5
  have hg := grown_alloc h3
  have hsz := h3.size
  simp only [World.size_alloc] at hsz
  exact h g cap w' h2 hg ((Below.refl _ _).grown hg hbase (fun j hj => (hown.lt j hj).1)) h5 (by omega)

end Go.Proofs.Ythpbdafhjakekaa

namespace Go.Proofs.Ythpbdafhjakekaa
open Go.RowKit

theorem infoAppNode : (Try.prog.info? 42).map (fun i => (i.zero, i.size, i.bytes)) = some (some (.agg #[.int .i64 0, .bool false, .int .i64 0, .int .i64 0, .slice none 0 0, .int .i64 0, .int .i64 0]), 7, 72) := by kernel_rfl
theorem one_Node {w : World} {row : List Value} {x : DNode} {bl : List Nat} (h : Lay.tNode.lies w row x bl) : (∀ u ∈ row, u.oneCell' = true) ∧ row.length = 1 * 7 := by
  obtain ⟨_, _, _, rfl, -⟩ := lies_Node.1 h
  simp [Value.oneCell']

/-- At an operation of a plain region: the new one lies in a block of its own. -/
theorem wpList_append_Node {w1 : World} {base : Nat} {v : Value} {rows : List (List Value)} {xs : List DNode} {bls : List (List Nat)} (hG : Grow Lay.tNode w1 base 42 v rows xs bls) {row : List Value} {x : DNode} {bl : List Nat} (hl : Lay.tNode.lies w1 row x bl) (hbl : ∀ b ∈ bl, v.ownBlock ≠ some b) {ops : Array Oper} {rest : List Oper} {o : Oper} {a : Act} {Q : Exit → Act → World → Prop} (hgd : o.guard = none) (s y : Operand)
    (ho : o.op = .call { callee := .builtin .append, args := #[s, y], argTypes := #[25, 25] }) (hs : a.eval s = v) (hy : a.eval y = .slice (some ⟨w1.heap.size, 0, none⟩) 1 1) (hn : xs.length + 1 ≤ 100000000) (hbase : base ≤ w1.heap.size)
    (h : ∀ g cap w', Grow Lay.tNode w' base 42 (.slice (some ⟨g, 0, none⟩) (xs.length + 1) cap) (rows ++ [row]) (xs ++ [x]) (bls ++ [bl]) → Below base w1 w' → Ext (fun q => v.ownBlock = some q) w1 w' → g < w'.heap.size → w1.heap.size ≤ w'.heap.size → (v.ownBlock = some g ∨ w1.heap.size ≤ g) → wpList Try.prog ops Q rest (a.put o.dst (.slice (some ⟨g, 0, none⟩) (xs.length + 1) cap)) w') :
    wpList Try.prog ops Q (o :: rest) a (w1.alloc (.cells row.toArray 42)) := by
  obtain ⟨i0, hi0, hz0, hz1, hz2⟩ := info_parts infoAppNode
  obtain ⟨h1, hlen⟩ := one_Node hl
  refine wpList_append_lies _ hgd s y 25 ho base 42 i0 _ 7 72 Try.underlying25 hi0 hz0 hz1 hz2 rfl (by omega) v xs.length rows.flatten hs (hG.own.alloc _) ⟨w1.heap.size, 0, none⟩ 1 1 row hy hlen (World.news_of_block (cs := row.toArray) (t := 42) (fr := (0, 0)) (heap_alloc_new w1 _)) h1 (by omega) (by unfold maxLen; omega) (by omega) (by simp; omega) (w1.alloc (.cells row.toArray 42)).heap.size rfl ?_
  intro g cap w' h2 h3 h4 h5
  have hg := grown_alloc h3
  have hbw : Below base w1 w' := (Below.refl _ _).grown hg hbase (fun j hj => (hG.own.lt j hj).1)
  have hor : v.ownBlock = some g ∨ w1.heap.size ≤ g := by
    rcases h4 with h4 | h4
    · exact Or.inl h4
    · exact Or.inr (by rw [h4]; simp)
  exact h g cap w' (hG.snoc hl hbl h2 hg hor) hbw ⟨hbw.os, hbw.tape, hbw.output, hbw.size, fun k hk hn => hg.block k hk (fun e => hn e.symm)⟩ h5 hbw.size hor

/-- At a step of a region that draws its order. -/
theorem step_append_Node {w1 : World} {base : Nat} {v : Value} {rows : List (List Value)} {xs : List DNode} {bls : List (List Nat)} (hG : Grow Lay.tNode w1 base 42 v rows xs bls) {row : List Value} {x : DNode} {bl : List Nat} (hl : Lay.tNode.lies w1 row x bl) (hbl : ∀ b ∈ bl, v.ownBlock ≠ some b) {ops : Array Oper} {o : Oper} {a : Act} {K : Act → World → Prop} {Q : Exit → Act → World → Prop} {E : Prop} (hgd : o.guard = none) (s y : Operand)
    (ho : o.op = .call { callee := .builtin .append, args := #[s, y], argTypes := #[25, 25] }) (hs : a.eval s = v) (hy : a.eval y = .slice (some ⟨w1.heap.size, 0, none⟩) 1 1) (hn : xs.length + 1 ≤ 100000000) (hbase : base ≤ w1.heap.size)
    (h : ∀ g cap w', Grow Lay.tNode w' base 42 (.slice (some ⟨g, 0, none⟩) (xs.length + 1) cap) (rows ++ [row]) (xs ++ [x]) (bls ++ [bl]) → Below base w1 w' → Ext (fun q => v.ownBlock = some q) w1 w' → g < w'.heap.size → w1.heap.size ≤ w'.heap.size → (v.ownBlock = some g ∨ w1.heap.size ≤ g) → K (a.put o.dst (.slice (some ⟨g, 0, none⟩) (xs.length + 1) cap)) w') :
    if Region.wanted o (yielded ops a.tmps) = true then Oper.wp Try.prog o a (w1.alloc (.cells row.toArray 42)) K Q else E := by
  obtain ⟨i0, hi0, hz0, hz1, hz2⟩ := info_parts infoAppNode
  obtain ⟨h1, hlen⟩ := one_Node hl
  refine step_append_lies _ hgd s y 25 ho base 42 i0 _ 7 72 Try.underlying25 hi0 hz0 hz1 hz2 rfl (by omega) v xs.length rows.flatten hs (hG.own.alloc _) ⟨w1.heap.size, 0, none⟩ 1 1 row hy hlen (World.news_of_block (cs := row.toArray) (t := 42) (fr := (0, 0)) (heap_alloc_new w1 _)) h1 (by omega) (by unfold maxLen; omega) (by omega) (by simp; omega) (w1.alloc (.cells row.toArray 42)).heap.size rfl ?_
  intro g cap w' h2 h3 h4 h5
  have hg := grown_alloc h3
  have hbw : Below base w1 w' := (Below.refl _ _).grown hg hbase (fun j hj => (hG.own.lt j hj).1)
  have hor : v.ownBlock = some g ∨ w1.heap.size ≤ g := by
    rcases h4 with h4 | h4
    · exact Or.inl h4
    · exact Or.inr (by rw [h4]; simp)
  exact h g cap w' (hG.snoc hl hbl h2 hg hor) hbw ⟨hbw.os, hbw.tape, hbw.output, hbw.size, fun k hk hn => hg.block k hk (fun e => hn e.symm)⟩ h5 hbw.size hor

end Go.Proofs.Ythpbdafhjakekaa

namespace Go.Proofs.Ythpbdafhjakekaa
open Go.RowKit

theorem node10C (x : Int) (w : World) : Calls Try.prog 9 #[.int .i64 x] w fun e w' => e = .returned (.bool (decide (1 ≤ x) && decide (x ≤ 5))) ∧ w' = w := by
  go_enter Try.func9, Try.ntmps9
  go_wp2_with fail
  refine (inC x 1 5 _).mono ?_
  rintro e w1 ⟨rfl, rfl⟩
  go_wp2_with fail
  go_ret
  exact ⟨rfl, rfl⟩

end Go.Proofs.Ythpbdafhjakekaa

namespace Go.Proofs.Ythpbdafhjakekaa
open Go.RowKit

theorem box_lowC {lo : Nat} {cs : Array Value} {T : TypeId} {W w' : World} {s B : Nat} (h : Box lo cs T W s) (hb : Below B W w') (hs : s < B) : Box lo cs T w' s := ⟨h.1, (hb.block s hs).trans h.2⟩
theorem own_intsC {w : World} {v : Value} {zs : List Int} {base : Nat} (hw : ∀ z ∈ zs, (Lit.int .i64 z).wf = true) (hn : zs.length ≤ 100000000) (h : w.ownsRow base 2 1 v zs.length (zs.map (Value.int .i64))) : (Lay.sl Lay.int).OwnIn w [v] zs base w.heap.size :=
  Lay.ownInts hw (by omega) h
theorem upToC_wf (n : Nat) (hn : n ≤ 1000) : ∀ z ∈ upToC n, (Lit.int .i64 z).wf = true := fun z hz => wf_of_bd (by have := upToC_bd hz; omega)

set_option maxRecDepth 10000 in
set_option maxHeartbeats 1000000 in
theorem l10NewC (n : Nat) (w : World) (hn : n ≤ 1000) :
    Calls Try.prog 18 #[.int .i64 (n : Int)] w fun e w' => ∃ v, e = .returned (.agg #[.int .i64 1, v]) ∧ w'.ownsRow w.heap.size 2 1 v n ((upToC n).map (Value.int .i64)) ∧ Below w.heap.size w w' := by
  have nb : Below w.heap.size w ((w.alloc (.cells #[.int .i64 0, .slice none 0 0] 24)).alloc (.cells #[.int .i64 1, .slice none 0 0] 24)) := ((Below.refl _ _).alloc (Nat.le_refl _) _).alloc (by simp) _
  have bR : Box 0 #[.int .i64 0, .slice none 0 0] 24 ((w.alloc (.cells #[.int .i64 0, .slice none 0 0] 24)).alloc (.cells #[.int .i64 1, .slice none 0 0] 24)) w.heap.size := (newBox (Nat.zero_le _)).grow _
  have bC : Box 0 #[.int .i64 1, .slice none 0 0] 24 ((w.alloc (.cells #[.int .i64 0, .slice none 0 0] 24)).alloc (.cells #[.int .i64 1, .slice none 0 0] 24)) (w.heap.size + 1) := newBoxAt (Nat.zero_le _) (by simp)
  have HB := hide nb
  have HR := hide bR
  have HC := hide bC
  have HZ : Hid (w.heap.size + 2 ≤ ((w.alloc (.cells #[.int .i64 0, .slice none 0 0] 24)).alloc (.cells #[.int .i64 1, .slice none 0 0] 24)).heap.size) := by show w.heap.size + 2 ≤ ((w.alloc (.cells #[.int .i64 0, .slice none 0 0] 24)).alloc (.cells #[.int .i64 1, .slice none 0 0] 24)).heap.size; simp
  clear nb bR bC
  go_enter Try.func18, Try.ntmps18
  go_wp2_with fail
  generalize (w.alloc (.cells #[.int .i64 0, .slice none 0 0] 24)).alloc (.cells #[.int .i64 1, .slice none 0 0] 24) = W at *
  go_loopw [4] (fun i wr => ∃ (k : Nat) (v : Value), k ≤ n ∧ i = .int .i64 ((k : Int) + 1) ∧ Box 0 #[.int .i64 1, v] 24 wr (w.heap.size + 1) ∧ Box 0 #[.int .i64 0, .slice none 0 0] 24 wr w.heap.size ∧ wr.ownsRow (w.heap.size + 2) 2 1 v k ((upToC k).map (Value.int .i64)) ∧ w.heap.size + 2 ≤ wr.heap.size ∧ Below w.heap.size w wr) (fun i _ => n + 1 - (intOf i).toNat)
  case atStart => exact ⟨0, _, Nat.zero_le _, rfl, unhide HC, unhide HR, World.ownsRow_nil _ _ _ _, unhide HZ, unhide HB⟩
  case round =>
    obtain ⟨k, v, hk, rfl, hC, hR, hO, hz, hB⟩ := hrel
    clear HC HR HB HZ
    by_cases hlt : k < n
    · have hdl : decide ((k : Int) + 1 ≤ (n : Int)) = true := by simp; omega
      have c1 := Box.at hC 1 _ rfl
      simp only [List.getElem_toArray, List.getElem_cons_zero, List.getElem_cons_succ] at c1
      have cl := Box.lt hC
      have HCr := hide hC
      have HRr := hide hR
      have HBr := hide hB
      clear hC hR hB
      go_wp2_with (at_builtin; refine wpList_append_int hO ((k : Int) + 1) rfl _ _ rfl rfl rfl (by omega) hz ?_)
      intro g cap w5 hO5 hg5 hb5 hgl hz5
      have hC5 := box_lowC (unhide HCr) hb5 (by omega)
      have hR5 := box_lowC (unhide HRr) hb5 (by omega)
      have y1 := Box.at hC5 1 _ rfl
      simp only [List.getElem_toArray, List.getElem_cons_zero, List.getElem_cons_succ] at y1
      have yf := Box.soft hC5
      have yl := Box.lt hC5
      have HC6 := hide (Box.set hC5 1 (.slice (some ⟨g, 0, none⟩) (k + 1) cap))
      have HR6 := hide (hR5.other ⟨w.heap.size + 1, 1, none⟩ (.slice (some ⟨g, 0, none⟩) (k + 1) cap) (by simp))
      have HO6 : Hid (World.ownsRow (w5.setCell ⟨w.heap.size + 1, 1, none⟩ (.slice (some ⟨g, 0, none⟩) (k + 1) cap)) (w.heap.size + 2) 2 1 (.slice (some ⟨g, 0, none⟩) (k + 1) cap) (k + 1) ((upToC (k + 1)).map (Value.int .i64))) := by
        have := own_setC (a := ⟨w.heap.size + 1, 1, none⟩) hO5 (by simp) (.slice (some ⟨g, 0, none⟩) (k + 1) cap)
        rw [upToC_succ, List.map_append]
        exact this
      have HB6 := hide (((unhide HBr).trans (hb5.mono (by omega))).setCell (p := ⟨w.heap.size + 1, 1, none⟩) (by simp) (.slice (some ⟨g, 0, none⟩) (k + 1) cap))
      clear c1 cl HCr HRr HBr hO hO5 hg5 hb5 hC5 hR5
      go_wp2_with fail
      go_roundw
      case rel => exact ⟨k + 1, _, by omega, by go_num, unhide HC6, unhide HR6, unhide HO6, by simp; omega, unhide HB6⟩
      case measure => simp [intOf]; omega
    · obtain rfl : k = n := by omega
      have hdl : decide ((k : Int) + 1 ≤ (k : Int)) = false := by simp; omega
      obtain ⟨a9, c9, rfl⟩ := own_shape hO
      have c0 := Box.at hC 0 _ rfl
      have c1 := Box.at hC 1 _ rfl
      have z0 := Box.at hR 0 _ rfl
      have z1 := Box.at hR 1 _ rfl
      simp only [List.getElem_toArray, List.getElem_cons_zero, List.getElem_cons_succ] at c0 c1 z0 z1
      have cl := Box.lt hC
      have ff := Box.soft hR
      have l0 := Box.lt hR
      have HO6 : Hid (World.ownsRow ((wr.setCell ⟨w.heap.size, 0, none⟩ (.int .i64 1)).setCell ⟨w.heap.size, 1, none⟩ (.slice a9 k c9)) w.heap.size 2 1 (.slice a9 k c9) k ((upToC k).map (Value.int .i64))) := own_mono (by omega) (own_setC (a := ⟨w.heap.size, 1, none⟩) (own_setC (a := ⟨w.heap.size, 0, none⟩) hO (by simp) (.int .i64 1)) (by simp) _)
      have HB6 := hide ((hB.setCell (p := ⟨w.heap.size, 0, none⟩) (Nat.le_refl _) (.int .i64 1)).setCell (p := ⟨w.heap.size, 1, none⟩) (Nat.le_refl _) (.slice a9 k c9))
      clear hC hR hO hB
      go_wp2_with fail
      refine bodyPost_ret (v := .agg #[.int .i64 1, .slice a9 k c9]) (by simp [results, Try.results18, go_sem, z0, z1]) rfl ?_
      exact ⟨_, rfl, unhide HO6, unhide HB6⟩

end Go.Proofs.Ythpbdafhjakekaa

namespace Go.Proofs.Ythpbdafhjakekaa
open Go.RowKit

theorem fresh_lies (w : World) (k : Nat) (hk : k ≤ 1000) : Lay.tNode.lies w [.int .i64 ((k : Int) + 1), .bool true, .int .i64 1, .int .i64 0, .slice none 0 0, .int .i64 0, .int .i64 0] (freshNode k) [] := by
  refine lies_Node.2 ⟨none, 0, [], rfl, rfl, ?_, (show (Lit.int .i64 1).wf = true by decide), (show (Lit.int .i64 0).wf = true by decide), ⟨none, 0, rfl, by simp [freshNode], Or.inl ⟨rfl, rfl⟩⟩, (show (Lit.int .i64 0).wf = true by decide), (show (Lit.int .i64 0).wf = true by decide)⟩
  exact wf_of_bd (by show -1000000000 ≤ (k : Int) + 1 ∧ (k : Int) + 1 ≤ 1000000000; omega)
def freshNs (k : Nat) : List DNode := (List.range k).map freshNode
theorem freshNs_succ (k : Nat) : freshNs (k + 1) = freshNs k ++ [freshNode k] := by simp [freshNs, List.range_succ]
theorem freshNs_len (k : Nat) : (freshNs k).length = k := by simp [freshNs]
def newW (n : Nat) : DWorld := ⟨0, 0, ⟨1, upToC n⟩, freshNs n, [], []⟩
theorem newWorldR_ok {n : Nat} (h : 1 ≤ n) (h5 : n ≤ 5) : newWorldR (n : Int) = ⟨0, false, newW n⟩ := by
  rw [newWorldR, if_pos (by omega)]
  rfl
theorem own_newW {w : World} {n l3 h3 l4 h4 : Nat} {v3 v4 : Value} (p3 : (Lay.sl Lay.int).OwnIn w [v3] (upToC n) l3 h3) (p4 : (Lay.sl Lay.tNode).OwnIn w [v4] (freshNs n) l4 h4) (e1 : h3 ≤ l4) (e2 : l3 ≤ h3) (e3 : l4 ≤ h4) :
    Lay.tWorld.OwnIn w [.int .i64 0, .int .i64 0, .int .i64 1, v3, v4, .slice none 0 0, .slice none 0 0] (newW n) l3 h4 :=
  own_worldC (x := newW n) (l5 := h4) (h5 := h4) (l6 := h4) (h6 := h4) p3 p4 nil_own nil_own e1 (Nat.le_refl _) (Nat.le_refl _) e2 e3 (Nat.le_refl _) (Nat.le_refl _) ⟨(show (Lit.int .i64 0).wf = true by decide), (show (Lit.int .i64 0).wf = true by decide), (show (Lit.int .i64 1).wf = true by decide)⟩
theorem own_newR {w : World} {n lo hi : Nat} {v3 v4 : Value} (p : Lay.tWorld.OwnIn w [.int .i64 0, .int .i64 0, .int .i64 1, v3, v4, .slice none 0 0, .slice none 0 0] (newW n) lo hi) : Lay.tWorldResult.OwnIn w [.int .i64 0, .bool false, .int .i64 0, .int .i64 0, .int .i64 1, v3, v4, .slice none 0 0, .slice none 0 0] ⟨0, false, newW n⟩ lo hi := by
  obtain ⟨bl, O, hb⟩ := p
  exact ⟨bl, mkOwn_WorldResult (x := ⟨0, false, newW n⟩) O (show (Lit.int .i64 0).wf = true by decide) O.2.1, hb⟩
theorem own_badWN {w : World} {c : Int} {lo hi : Nat} (hc : -1000000000 ≤ c ∧ c ≤ 1000000000) (h : lo ≤ hi) : Lay.tWorldResult.OwnIn w [.int .i64 c, .bool false, .int .i64 0, .int .i64 0, .int .i64 0, .slice none 0 0, .slice none 0 0, .slice none 0 0, .slice none 0 0] (badWorld c) lo hi := by
  have q : Lay.tWorld.OwnIn w [.int .i64 0, .int .i64 0, .int .i64 0, .slice none 0 0, .slice none 0 0, .slice none 0 0, .slice none 0 0] noWorld lo hi :=
    (own_worldC (x := noWorld) (l3 := lo) (h3 := lo) (l4 := lo) (h4 := lo) (l5 := lo) (h5 := lo) (l6 := lo) (h6 := lo) nil_own nil_own nil_own nil_own (Nat.le_refl _) (Nat.le_refl _) (Nat.le_refl _) (Nat.le_refl _) (Nat.le_refl _) (Nat.le_refl _) (Nat.le_refl _) ⟨by decide, by decide, by decide⟩).mono (Nat.le_refl _) h
  obtain ⟨bl, O, hb⟩ := q
  exact ⟨bl, mkOwn_WorldResult (x := badWorld c) O (wf_of_bd hc) O.2.1, hb⟩
theorem grow_setC {w : World} {base T : Nat} {v : Value} {rows : List (List Value)} {xs : List DNode} {bls : List (List Nat)} {a : Addr} (h : Grow Lay.tNode w base T v rows xs bls) (ha : a.block < base) (hs : bls.flatten = []) (u : Value) : Grow Lay.tNode (w.setCell a u) base T v rows xs bls :=
  h.kept (own_setC h.own ha u) (by rw [hs]; simp)
theorem nodes_own {w : World} {base T : Nat} {v : Value} {rows : List (List Value)} {n : Nat} {bls : List (List Nat)} (h : Grow Lay.tNode w base T v rows (freshNs n) bls) (hs : bls.flatten = []) (hn : n ≤ 1000) : (Lay.sl Lay.tNode).OwnIn w [v] (freshNs n) base w.heap.size :=
  h.toOwn (by rw [freshNs_len]; omega) (by rw [hs]; simp) (by rw [hs]; simp)
theorem flat_snoc_nil {bls : List (List Nat)} (h : bls.flatten = []) : (bls ++ [([] : List Nat)]).flatten = [] := by simp [h]
end Go.Proofs.Ythpbdafhjakekaa

namespace Go.Proofs.Ythpbdafhjakekaa
open Go.RowKit

set_option maxRecDepth 100000 in
set_option maxHeartbeats 4000000 in
theorem l12NewC (n : Nat) (w : World) (hn : n ≤ 1000) :
    Calls Try.prog 11 #[.int .i64 (n : Int)] w fun e w' => ∃ (v3 v4 : Value), e = .returned (.agg #[.int .i64 0, .int .i64 0, .int .i64 1, v3, v4, .slice none 0 0, .slice none 0 0]) ∧ Lay.tWorld.OwnIn w' [.int .i64 0, .int .i64 0, .int .i64 1, v3, v4, .slice none 0 0, .slice none 0 0] (newW n) w.heap.size w'.heap.size ∧ Below w.heap.size w w' := by
  have nb0 : Below w.heap.size w (w.alloc (.cells #[.int .i64 0, .int .i64 0, .int .i64 0, .slice none 0 0, .slice none 0 0, .slice none 0 0, .slice none 0 0] 29)) := (Below.refl _ _).alloc (Nat.le_refl _) _
  have hz0 : (w.alloc (.cells #[.int .i64 0, .int .i64 0, .int .i64 0, .slice none 0 0, .slice none 0 0, .slice none 0 0, .slice none 0 0] 29)).heap.size = w.heap.size + 1 := by simp
  have HR0 : Hid (Box 0 #[.int .i64 0, .int .i64 0, .int .i64 0, .slice none 0 0, .slice none 0 0, .slice none 0 0, .slice none 0 0] 29 (w.alloc (.cells #[.int .i64 0, .int .i64 0, .int .i64 0, .slice none 0 0, .slice none 0 0, .slice none 0 0, .slice none 0 0] 29)) w.heap.size) := newBox (Nat.zero_le _)
  have HB0 := hide nb0
  clear nb0
  go_enter Try.func11, Try.ntmps11
  go_upto_region 1 with fail
  generalize (w.alloc (.cells #[.int .i64 0, .int .i64 0, .int .i64 0, .slice none 0 0, .slice none 0 0, .slice none 0 0, .slice none 0 0] 29)) = W0 at *
  go_wp2_with fail
  refine (l10NewC n W0 hn).mono ?_
  rintro e W1 ⟨v3, rfl, hO3, hb1⟩
  obtain ⟨a3, c3, rfl⟩ := own_shape hO3
  have hI := own_intsC (upToC_wf n hn) (by rw [upToC_len]; omega) (by rw [upToC_len]; exact hO3)
  have hz1 : W0.heap.size ≤ W1.heap.size := hb1.size
  have nb : Below W1.heap.size W1 (W1.alloc (.cells #[.int .i64 0, .int .i64 0, .int .i64 1, .slice a3 n c3, .slice none 0 0, .slice none 0 0, .slice none 0 0] 29)) := (Below.refl _ _).alloc (Nat.le_refl _) _
  have HC : Hid (Box 0 #[.int .i64 0, .int .i64 0, .int .i64 1, .slice a3 n c3, .slice none 0 0, .slice none 0 0, .slice none 0 0] 29 (W1.alloc (.cells #[.int .i64 0, .int .i64 0, .int .i64 1, .slice a3 n c3, .slice none 0 0, .slice none 0 0, .slice none 0 0] 29)) W1.heap.size) := newBox (Nat.zero_le _)
  have HR := hide (((unhide HR0).keep hb1).keep nb)
  have HI := hide (hI.later nb)
  have HB := hide ((unhide HB0).trans ((hb1.trans (nb.mono hb1.size)).mono (unhide HB0).size))
  have hz2 : (W1.alloc (.cells #[.int .i64 0, .int .i64 0, .int .i64 1, .slice a3 n c3, .slice none 0 0, .slice none 0 0, .slice none 0 0] 29)).heap.size = W1.heap.size + 1 := by simp
  clear nb hb1 HB0 HR0 hO3 hI
  go_upto_region 2 with fail
  generalize W1.alloc (.cells #[.int .i64 0, .int .i64 0, .int .i64 1, .slice a3 n c3, .slice none 0 0, .slice none 0 0, .slice none 0 0] 29) = W2 at *
  go_wp2_with fail
  go_loopw [4] (fun i wr => ∃ (k : Nat) (v : Value) (rows : List (List Value)) (bls : List (List Nat)), k ≤ n ∧ i = .int .i64 ((k : Int) + 1) ∧ Box 0 #[.int .i64 0, .int .i64 0, .int .i64 1, .slice a3 n c3, v, .slice none 0 0, .slice none 0 0] 29 wr W1.heap.size ∧ Box 0 #[.int .i64 0, .int .i64 0, .int .i64 0, .slice none 0 0, .slice none 0 0, .slice none 0 0, .slice none 0 0] 29 wr w.heap.size ∧ Grow Lay.tNode wr (W1.heap.size + 1) 42 v rows (freshNs k) bls ∧ bls.flatten = [] ∧ (Lay.sl Lay.int).OwnIn wr [.slice a3 n c3] (upToC n) W0.heap.size W1.heap.size ∧ W1.heap.size + 1 ≤ wr.heap.size ∧ Below w.heap.size w wr) (fun i _ => n + 1 - (intOf i).toNat)
  case atStart => exact ⟨0, .slice none 0 0, [], [], Nat.zero_le _, rfl, unhide HC, unhide HR, Grow.nil (World.ownsRow_nil _ _ _ _), rfl, unhide HI, by omega, unhide HB⟩
  case round =>
    obtain ⟨k, v, rows, bls, hk, rfl, hC, hR, hG, hS, hI, hz, hB⟩ := hrel
    clear HC HR HI HB
    by_cases hlt : k < n
    · have hdl : decide ((k : Int) + 1 ≤ (n : Int)) = true := by simp; omega
      have c4 := Box.at hC 4 _ rfl
      simp only [List.getElem_toArray, List.getElem_cons_zero, List.getElem_cons_succ] at c4
      have cl := Box.lt hC
      have HCr := hide hC
      have HRr := hide hR
      have HBr := hide hB
      have HIr := hide hI
      have hsh := own_shape hG.own
      clear hC hR hB hI
      obtain ⟨a9, c9, rfl⟩ := hsh
      go_wp2_with (at_builtin; refine wpList_append_Node hG (fresh_lies _ k ?hq1) ?hq2 rfl _ _ rfl rfl rfl ?hq3 ?hq4 ?_)
      case hq1 => omega
      case hq2 => simp
      case hq3 => rw [freshNs_len]; omega
      case hq4 => exact hz
      intro g cap w5 hG5 hb5 he5 hgl hz5 hor
      have hC5 := box_lowC (unhide HCr) hb5 (by omega)
      have hR5 := box_lowC (unhide HRr) hb5 (by omega)
      have hI5 := (unhide HIr).below hb5 (by omega)
      have y4 := Box.at hC5 4 _ rfl
      simp only [List.getElem_toArray, List.getElem_cons_zero, List.getElem_cons_succ] at y4
      have yf := Box.soft hC5
      have yl := Box.lt hC5
      rw [freshNs_len] at hG5 ⊢
      rw [← freshNs_succ] at hG5
      have hC6 := Box.set hC5 4 (.slice (some ⟨g, 0, none⟩) (k + 1) cap)
      simp only [List.setIfInBounds_toArray, List.set_cons_zero, List.set_cons_succ] at hC6
      have HC6 := hide hC6
      have HR6 := hide (hR5.other ⟨W1.heap.size, 4, none⟩ (.slice (some ⟨g, 0, none⟩) (k + 1) cap) (by simp; omega))
      have HG6 := hide (grow_setC (a := ⟨W1.heap.size, 4, none⟩) hG5 (by simp) (flat_snoc_nil hS) (.slice (some ⟨g, 0, none⟩) (k + 1) cap))
      have HI6 := hide (hI5.ext (S := fun q => q = W1.heap.size) ((Ext.refl _ _).setCell ⟨W1.heap.size, 4, none⟩ (.slice (some ⟨g, 0, none⟩) (k + 1) cap) rfl) (fun q h1 h2 h3 => by omega))
      have HB6 := hide (((unhide HBr).trans (hb5.mono (by omega))).setCell (p := ⟨W1.heap.size, 4, none⟩) (by simp; omega) (.slice (some ⟨g, 0, none⟩) (k + 1) cap))
      have HS6 := hide (flat_snoc_nil hS)
      clear c4 cl HCr HRr HBr HIr hG hG5 hb5 hC5 hR5 hC6 hI5 he5 hor hS
      go_wp2_with fail
      go_roundw
      case rel => exact ⟨k + 1, _, _, _, by omega, by go_num, unhide HC6, unhide HR6, unhide HG6, unhide HS6, unhide HI6, by simp; omega, unhide HB6⟩
      case measure => simp [intOf]; omega
    · obtain rfl : k = n := by omega
      have hdl : decide ((k : Int) + 1 ≤ (k : Int)) = false := by simp; omega
      obtain ⟨a9, c9, rfl⟩ := own_shape hG.own
      have hN := nodes_own hG hS hn
      rw [freshNs_len] at hC
      have m0 := Box.at hC 0 _ rfl
      have m1 := Box.at hC 1 _ rfl
      have m2 := Box.at hC 2 _ rfl
      have m3 := Box.at hC 3 _ rfl
      have m4 := Box.at hC 4 _ rfl
      have m5 := Box.at hC 5 _ rfl
      have m6 := Box.at hC 6 _ rfl
      have z0 := Box.at hR 0 _ rfl
      have z1 := Box.at hR 1 _ rfl
      have z2 := Box.at hR 2 _ rfl
      have z3 := Box.at hR 3 _ rfl
      have z4 := Box.at hR 4 _ rfl
      have z5 := Box.at hR 5 _ rfl
      have z6 := Box.at hR 6 _ rfl
      simp only [List.getElem_toArray, List.getElem_cons_zero, List.getElem_cons_succ] at m0 z0 m1 z1 m2 z2 m3 z3 m4 z4 m5 z5 m6 z6
      have cl := Box.lt hC
      have ff := Box.soft hR
      have l0 := Box.lt hR
      rw [freshNs_len] at hN
      have e9 : Ext (fun q => q = w.heap.size) wr (setAll wr w.heap.size 0 [.int .i64 0, .int .i64 0, .int .i64 1, .slice a3 k c3, .slice a9 k c9, .slice none 0 0, .slice none 0 0]) := ext_setAll _ (Ext.refl _ _) _ _ _ rfl
      have hW := own_newW hI hN (Nat.le_succ _) (by omega) (by omega)
      have HO := hide (hW.ext e9 (fun q h1 h2 h3 => by omega))
      have HB6 := hide (below_setAll hB w.heap.size 0 [.int .i64 0, .int .i64 0, .int .i64 1, .slice a3 k c3, .slice a9 k c9, .slice none 0 0, .slice none 0 0] (Nat.le_refl _))
      have hsz : Hid ((setAll wr w.heap.size 0 [.int .i64 0, .int .i64 0, .int .i64 1, .slice a3 k c3, .slice a9 k c9, .slice none 0 0, .slice none 0 0]).heap.size = wr.heap.size) := size_setAll _ _ _ _
      clear hC hR hB hG hI hN e9 hW
      go_wp2_with fail
      refine bodyPost_ret (v := .agg #[.int .i64 0, .int .i64 0, .int .i64 1, .slice a3 k c3, .slice a9 k c9, .slice none 0 0, .slice none 0 0]) (by simp [results, Try.results11, go_sem, z0, z1, z2, z3, z4, z5, z6]) rfl ?_
      exact ⟨_, _, rfl, (unhide HO).mono (by omega) (Nat.le_of_eq (unhide hsz).symm), unhide HB6⟩
set_option maxRecDepth 10000 in
set_option maxHeartbeats 2000000 in
theorem l12BadC (c : Int) (w : World) :
    Calls Try.prog 10 #[.int .i64 c] w fun e w' => e = .returned (.agg #[.int .i64 c, .bool false, .int .i64 0, .int .i64 0, .int .i64 0, .slice none 0 0, .slice none 0 0, .slice none 0 0, .slice none 0 0]) ∧ Below w.heap.size w w' := by
  have HB : Hid (∀ o, Below w.heap.size w (w.alloc o)) := fun o => (Below.refl _ _).alloc (Nat.le_refl _) o
  go_enter Try.func10, Try.ntmps10
  go_wp2_with fail
  refine bodyPost_ret (v := .agg #[.int .i64 c, .bool false, .int .i64 0, .int .i64 0, .int .i64 0, .slice none 0 0, .slice none 0 0, .slice none 0 0, .slice none 0 0]) (by simp [results, Try.results10, go_sem]) rfl ?_
  exact ⟨rfl, unhide HB _⟩
set_option maxRecDepth 100000 in
set_option maxHeartbeats 4000000 in
theorem specNewWorld (i : Int) (w : World) :
    Calls Try.prog 4 #[.int .i64 i] w fun e w' => ∃ cs, e = .returned (.agg cs.toArray) ∧ Lay.tWorldResult.OwnIn w' cs (newWorldR i) w.heap.size w'.heap.size ∧ Below w.heap.size w w' := by
  have nb : Below w.heap.size w (w.alloc (.cells #[.int .i64 0, .bool false, .int .i64 0, .int .i64 0, .int .i64 0, .slice none 0 0, .slice none 0 0, .slice none 0 0, .slice none 0 0] 31)) := (Below.refl _ _).alloc (Nat.le_refl _) _
  have HY : Hid (Box 0 #[.int .i64 0, .bool false, .int .i64 0, .int .i64 0, .int .i64 0, .slice none 0 0, .slice none 0 0, .slice none 0 0, .slice none 0 0] 31 (w.alloc (.cells #[.int .i64 0, .bool false, .int .i64 0, .int .i64 0, .int .i64 0, .slice none 0 0, .slice none 0 0, .slice none 0 0, .slice none 0 0] 31)) w.heap.size) := newBox (Nat.zero_le _)
  have hz0 : (w.alloc (.cells #[.int .i64 0, .bool false, .int .i64 0, .int .i64 0, .int .i64 0, .slice none 0 0, .slice none 0 0, .slice none 0 0, .slice none 0 0] 31)).heap.size = w.heap.size + 1 := by simp
  have HB := hide nb
  clear nb
  by_cases hi : 1 ≤ i ∧ i ≤ 5
  · obtain ⟨n, rfl⟩ : ∃ n : Nat, i = (n : Int) := ⟨i.toNat, by omega⟩
    have hd : (decide (1 ≤ (n : Int)) && decide ((n : Int) ≤ 5)) = true := by simpa using hi
    rw [newWorldR_ok (by omega) (by omega)]
    have hn : n ≤ 1000 := by omega
    have HLN : Hid (∀ W, Calls Try.prog 9 #[.int .i64 (n : Int)] W fun e w' => e = .returned (.bool true) ∧ w' = W) := fun W => by have := node10C (n : Int) W; rw [hd] at this; exact this
    clear hd hi
    go_enter Try.func4, Try.ntmps4
    go_upto_region 1 with fail
    generalize (w.alloc (.cells #[.int .i64 0, .bool false, .int .i64 0, .int .i64 0, .int .i64 0, .slice none 0 0, .slice none 0 0, .slice none 0 0, .slice none 0 0] 31)) = W0 at *
    go_wp2_with fail
    refine (unhide HLN W0).mono ?_
    rintro e w1 ⟨rfl, h1⟩
    subst w1
    go_wp2_with fail
    refine (l12NewC n _ hn).mono ?_
    rintro e w1 ⟨v3, v4, rfl, O, hb⟩
    obtain ⟨a3, d3, a4, d4, a5, d5, a6, d6, hq, -⟩ := open_World O.reads
    simp only [List.cons.injEq, and_true] at hq
    obtain ⟨-, -, -, rfl, rfl, -⟩ := hq
    have hy := (unhide HY).keep hb
    have z0 := Box.at hy 0 _ rfl
    have z1 := Box.at hy 1 _ rfl
    have z2 := Box.at hy 2 _ rfl
    have z3 := Box.at hy 3 _ rfl
    have z4 := Box.at hy 4 _ rfl
    have z5 := Box.at hy 5 _ rfl
    have z6 := Box.at hy 6 _ rfl
    have z7 := Box.at hy 7 _ rfl
    have z8 := Box.at hy 8 _ rfl
    simp only [List.getElem_toArray, List.getElem_cons_zero, List.getElem_cons_succ] at z0 z1 z2 z3 z4 z5 z6 z7 z8
    have zf := Box.soft hy
    have zl := Box.lt hy
    have hs1 := hb.size
    have e9 : Ext (fun q => q = w.heap.size) w1 (setAll w1 w.heap.size 0 [.int .i64 0, .bool false, .int .i64 0, .int .i64 0, .int .i64 1, .slice a3 (newW n).chain.ids.length d3, .slice a4 (newW n).nodes.length d4, .slice none 0 0, .slice none 0 0]) := ext_setAll _ (Ext.refl _ _) _ _ _ rfl
    have HO := hide (own_newR (O.ext e9 (fun q h1 h2 h3 => by omega)))
    have HB9 := hide (below_setAll ((unhide HB).trans (hb.mono (unhide HB).size)) w.heap.size 0 [.int .i64 0, .bool false, .int .i64 0, .int .i64 0, .int .i64 1, .slice a3 (newW n).chain.ids.length d3, .slice a4 (newW n).nodes.length d4, .slice none 0 0, .slice none 0 0] (Nat.le_refl _))
    have hsz : Hid ((setAll w1 w.heap.size 0 [.int .i64 0, .bool false, .int .i64 0, .int .i64 0, .int .i64 1, .slice a3 (newW n).chain.ids.length d3, .slice a4 (newW n).nodes.length d4, .slice none 0 0, .slice none 0 0]).heap.size = w1.heap.size) := size_setAll _ _ _ _
    clear hy O e9 hb HB HY HLN
    go_wp2_with fail
    refine bodyPost_ret (v := .agg #[.int .i64 0, .bool false, .int .i64 0, .int .i64 0, .int .i64 1, .slice a3 (newW n).chain.ids.length d3, .slice a4 (newW n).nodes.length d4, .slice none 0 0, .slice none 0 0]) (by simp [results, Try.results4, go_sem, z0, z1, z2, z3, z4, z5, z6, z7, z8]) rfl ?_
    exact ⟨_, rfl, (unhide HO).mono (by omega) (Nat.le_of_eq (unhide hsz).symm), unhide HB9⟩
  · have hd : (decide (1 ≤ i) && decide (i ≤ 5)) = false := by
      by_cases h1 : 1 ≤ i
      · simp [h1]; omega
      · simp [h1]
    have hy : newWorldR i = badWorld 3 := if_neg hi
    rw [hy]
    have HLN : Hid (∀ W, Calls Try.prog 9 #[.int .i64 i] W fun e w' => e = .returned (.bool false) ∧ w' = W) := fun W => by have := node10C i W; rw [hd] at this; exact this
    clear hd hi hy
    go_enter Try.func4, Try.ntmps4
    go_upto_region 1 with fail
    generalize (w.alloc (.cells #[.int .i64 0, .bool false, .int .i64 0, .int .i64 0, .int .i64 0, .slice none 0 0, .slice none 0 0, .slice none 0 0, .slice none 0 0] 31)) = W0 at *
    go_wp2_with fail
    refine (unhide HLN W0).mono ?_
    rintro e w1 ⟨rfl, h1⟩
    subst w1
    go_wp2_with fail
    refine (l12BadC 3 _).mono ?_
    rintro e w1 ⟨rfl, hb⟩
    have hy := (unhide HY).keep hb
    have z0 := Box.at hy 0 _ rfl
    have z1 := Box.at hy 1 _ rfl
    have z2 := Box.at hy 2 _ rfl
    have z3 := Box.at hy 3 _ rfl
    have z4 := Box.at hy 4 _ rfl
    have z5 := Box.at hy 5 _ rfl
    have z6 := Box.at hy 6 _ rfl
    have z7 := Box.at hy 7 _ rfl
    have z8 := Box.at hy 8 _ rfl
    simp only [List.getElem_toArray, List.getElem_cons_zero, List.getElem_cons_succ] at z0 z1 z2 z3 z4 z5 z6 z7 z8
    have zf := Box.soft hy
    have zl := Box.lt hy
    have HB9 := hide (below_setAll ((unhide HB).trans (hb.mono (unhide HB).size)) w.heap.size 0 [.int .i64 3, .bool false, .int .i64 0, .int .i64 0, .int .i64 0, .slice none 0 0, .slice none 0 0, .slice none 0 0, .slice none 0 0] (Nat.le_refl _))
    clear hy hb HB HY HLN
    go_wp2_with fail
    refine bodyPost_ret (v := .agg #[.int .i64 3, .bool false, .int .i64 0, .int .i64 0, .int .i64 0, .slice none 0 0, .slice none 0 0, .slice none 0 0, .slice none 0 0]) (by simp [results, Try.results4, go_sem, z0, z1, z2, z3, z4, z5, z6, z7, z8]) rfl ?_
    exact ⟨[.int .i64 3, .bool false, .int .i64 0, .int .i64 0, .int .i64 0, .slice none 0 0, .slice none 0 0, .slice none 0 0, .slice none 0 0], rfl, own_badWN (by decide) (unhide HB9).size, unhide HB9⟩
end Go.Proofs.Ythpbdafhjakekaa

namespace Go.Proofs.Ythpbdafhjakekaa
open Go.RowKit

theorem isNodeIdC (n : Int) (w : World) :
    Calls Try.prog 20 #[.int .i64 n] w fun e w' => e = .returned (.bool (decide (1 ≤ n) && decide (n ≤ 5))) ∧ w' = w := by
  by_cases h1 : 1 ≤ n
  · have d1 : decide (1 ≤ n) = true := by simpa using h1
    rw [d1]
    cases d2 : decide (n ≤ 5) <;>
    · go_enter Try.func20, Try.ntmps20
      go_wp2_with fail
      go_ret
      exact ⟨rfl, rfl⟩
  · have d1 : decide (1 ≤ n) = false := by simpa using h1
    rw [d1]
    go_enter Try.func20, Try.ntmps20
    go_wp2_with fail
    go_ret
    exact ⟨rfl, rfl⟩
end Go.Proofs.Ythpbdafhjakekaa

namespace Go.Proofs.Ythpbdafhjakekaa
open Go.RowKit

end Go.Proofs.Ythpbdafhjakekaa

namespace Go.Proofs.Ythpbdafhjakekaa
open Go.RowKit

/-- Any part of a list of numbers that stands in memory. -/
theorem part_reads {w : World} {b off cap : Nat} {zs : List Int} (h : (Lay.sl Lay.int).Reads w [.slice (some ⟨b, off, none⟩) zs.length cap] zs) (m n c : Nat) (hm : m + n ≤ zs.length) (hc : n ≤ c) :
    (Lay.sl Lay.int).Reads w [.slice (some ⟨b, off + m, none⟩) n c] ((zs.drop m).take n) := by
  have hi := Lay.ints_reads h
  have hbig := h.big
  obtain ⟨ao, cp, e, hwf, hcs⟩ := hi
  have hlen : ((zs.drop m).take n).length = n := by simp; omega
  refine Lay.reads_ints ?_ (fun ao' cap' e' => ?_) (by rw [hlen]; omega)
  · refine ⟨_, c, by rw [hlen], fun z hz => hwf z (List.mem_of_mem_drop (List.mem_of_mem_take hz)), fun hp => ⟨b, off + m, rfl, fun j hj => ?_⟩⟩
    rw [hlen] at hp hj
    obtain ⟨b', off', hao, hc1⟩ := hcs (by omega)
    simp only [Value.slice.injEq] at e
    obtain ⟨rfl, -, -⟩ := e
    simp only [Option.some.injEq, Addr.mk.injEq, and_true] at hao
    obtain ⟨rfl, rfl⟩ := hao
    rw [Nat.add_assoc, hc1 (m + j) (by omega)]
    simp only [List.getD]
    rw [List.getElem?_take, if_pos hj, List.getElem?_drop]
  · simp only [Value.slice.injEq] at e'
    rw [hlen]
    omega
/-- The first numbers of a list. -/
theorem take_reads {w : World} {ao : Option Addr} {n cap : Nat} {zs : List Int} (h : (Lay.sl Lay.int).Reads w [.slice ao n cap] zs) (k : Nat) (hk : k ≤ zs.length) :
    (Lay.sl Lay.int).Reads w [.slice ao k cap] (zs.take k) := by
  have hc := h.cap
  by_cases h0 : k = 0
  · subst h0
    rw [List.take_zero]
    exact Lay.reads_ints ⟨ao, cap, rfl, by simp, fun hp => by simp at hp⟩ (fun _ _ _ => by simp) (by simp)
  · have hi := Lay.ints_reads h
    obtain ⟨ao', cp, e, hwf, hcs⟩ := hi
    obtain ⟨b', off', hao, hc1⟩ := hcs (by omega)
    simp only [Value.slice.injEq] at e
    obtain ⟨rfl, rfl, rfl⟩ := e
    subst hao
    have := part_reads h 0 k cap (by omega) (by omega)
    simpa using this

end Go.Proofs.Ythpbdafhjakekaa

namespace Go.Proofs.Ythpbdafhjakekaa
open Go.RowKit

theorem isNodeCountC (n : Int) (w : World) :
    Calls Try.prog 19 #[.int .i64 n] w fun e w' => e = .returned (.bool (decide (1 ≤ n) && decide (n ≤ 5))) ∧ w' = w := by
  by_cases h1 : 1 ≤ n
  · have d1 : decide (1 ≤ n) = true := by simpa using h1
    rw [d1]
    cases d2 : decide (n ≤ 5) <;>
    · go_enter Try.func19, Try.ntmps19
      go_wp2_with fail
      go_ret
      exact ⟨rfl, rfl⟩
  · have d1 : decide (1 ≤ n) = false := by simpa using h1
    rw [d1]
    go_enter Try.func19, Try.ntmps19
    go_wp2_with fail
    go_ret
    exact ⟨rfl, rfl⟩

end Go.Proofs.Ythpbdafhjakekaa

namespace Go.Proofs.Ythpbdafhjakekaa
open Go.RowKit

theorem upToC_at (n k : Nat) (h : k < n) : (upToC n).getD k 0 = (k : Int) + 1 := by simp [upToC, List.getD, h]

set_option maxRecDepth 100000 in
set_option maxHeartbeats 2000000 in
theorem implNewChain_ok (n : Nat) (w : World) (h1 : 1 ≤ n) (h5 : n ≤ 5) :
    Calls Try.prog 12 #[.int .i64 (n : Int)] w fun e w' => ∃ cs, e = .returned (.agg cs.toArray) ∧ Lay.tChainResult.OwnIn w' cs ⟨0, ⟨1, upToC n⟩⟩ w.heap.size w'.heap.size ∧ Below w.heap.size w w' := by
  have HB : Hid (Below w.heap.size w (w.alloc (.cells #[.int .i64 0, .int .i64 0, .slice none 0 0] 38))) := (Below.refl _ _).alloc (Nat.le_refl _) _
  have HR : Hid (Box 0 #[.int .i64 0, .int .i64 0, .slice none 0 0] 38 (w.alloc (.cells #[.int .i64 0, .int .i64 0, .slice none 0 0] 38)) w.heap.size) := newBox (Nat.zero_le _)
  have hcn : (decide (1 ≤ (n : Int)) && decide ((n : Int) ≤ 5)) = true := by simp; omega
  obtain ⟨i0, hi, hz0, hz1, hz2⟩ := info_parts info2
  go_enter Try.func12, Try.ntmps12
  go_wp2_with fail
  generalize w.alloc (.cells #[.int .i64 0, .int .i64 0, .slice none 0 0] 38) = W0 at *
  refine (isNodeCountC (n : Int) W0).mono ?_
  rintro e w1 ⟨rfl, q1⟩
  subst w1
  rw [hcn]
  clear hcn
  have hw1 := (unhide HR).lt
  go_wp2_with (at_make; refine wpList_make_full _ rfl _ _ 22 rfl W0.heap.size 2 i0 (.int .i64 0) 1 Try.underlying22 hi hz0 hz1 _ _ _ _ n rfl rfl rfl rfl ?c1 ?c2 ?c3 ?_)
  case c1 => rw [hz2]; omega
  case c2 => unfold maxLen; omega
  case c3 => exact Nat.le_refl _
  intro w2 hown1 hgrow1
  have hB1 : Below W0.heap.size W0 w2 := (Below.refl _ _).grown hgrow1 (Nat.le_refl _) (by simp)
  rw [toList_madeCells_one] at hown1
  have HO1 := hide hown1
  have HB1 := hide hB1
  clear hgrow1 hi hz0 hz1 hz2 hown1 hB1
  go_wp2_with fail
  go_loopw [12] (fun i wr => ∃ k : Nat, k ≤ n ∧ i = .int .i64 k ∧ wr.ownsRow W0.heap.size 2 1 (.slice (some ⟨W0.heap.size, 0, none⟩) n n) n (((upToC n).take k).map (Value.int .i64) ++ List.replicate (n - k) (Value.int .i64 0)) ∧ Below W0.heap.size W0 wr) (fun i _ => n - (intOf i).toNat)
  case atStart => exact ⟨0, Nat.zero_le _, rfl, by simpa using unhide HO1, unhide HB1⟩
  case round =>
    obtain ⟨k, hk, rfl, hown, hB⟩ := hrel
    clear HO1 HB1
    by_cases hlt : k < n
    · have hcd : ∃ u, wr.cell? ⟨W0.heap.size, k, none⟩ = some u := by
        rw [hown.cellAt k (by omega)]
        exact ⟨_, List.getElem?_eq_getElem (by simp [upToC_len]; omega)⟩
      obtain ⟨u, hcd⟩ := hcd
      have hfz := hown.frozenAt k
      have hlg := (hown.lt W0.heap.size rfl).2
      have hst := hown.stored k (.int .i64 ((upToC n).getD k 0))
      have hsf := set_fill (upToC n) k (by rw [upToC_len]; exact hlt)
      rw [upToC_len] at hsf
      rw [hsf, upToC_at n k hlt] at hst
      have HO3 := hide hst.1
      have HB3 : Hid (Below W0.heap.size W0 (wr.setCell ⟨W0.heap.size, k, none⟩ (.int .i64 ((k : Int) + 1)))) := hB.setCell (by simp) _
      have hdl : decide ((k : Int) < (n : Int)) = true := by simp; omega
      clear hst hsf hown hB
      go_wp2_with fail
      go_roundw
      case rel => exact ⟨k + 1, by omega, by go_num, unhide HO3, unhide HB3⟩
      case measure => simp [intOf]; omega
    · obtain rfl : k = n := by omega
      have hdl : decide ((k : Int) < (k : Int)) = false := by simp
      have e1 : (upToC k).take k = upToC k := by conv => lhs; arg 1; rw [← upToC_len k]
                                                 exact List.take_length
      rw [e1, Nat.sub_self, List.replicate_zero, List.append_nil] at hown
      have hO := own_intsC (upToC_wf k (by omega)) (by rw [upToC_len]; omega) (by rw [upToC_len]; exact hown)
      have bR := (unhide HR).keep hB
      have z0 : wr.cell? ⟨w.heap.size, 0, none⟩ = some (.int .i64 0) := bR.at 0 _ rfl
      have z1 : wr.cell? ⟨w.heap.size, 1, none⟩ = some (.int .i64 0) := bR.at 1 _ rfl
      have z2 : wr.cell? ⟨w.heap.size, 2, none⟩ = some (.slice none 0 0) := bR.at 2 _ rfl
      have ff := bR.soft
      have l0 := bR.lt
      have HB9 := hide ((unhide HB).trans (hB.mono (unhide HB).size))
      have HO9 := hide hO
      clear hown hB hO bR e1
      go_wp2_with fail
      refine bodyPost_ret (v := .agg #[.int .i64 0, .int .i64 1, (.slice (some ⟨W0.heap.size, 0, none⟩) k k)]) (by simp [results, Try.results12, go_sem, z0, z1, z2]) rfl ?_
      have hE : Ext (fun c => c = w.heap.size) wr (((wr.setCell ⟨w.heap.size, 0, none⟩ (.int .i64 0)).setCell ⟨w.heap.size, 1, none⟩ (.int .i64 1)).setCell ⟨w.heap.size, 2, none⟩ (.slice (some ⟨W0.heap.size, 0, none⟩) k k)) := (((Ext.refl (fun c => c = w.heap.size) _).setCell ⟨w.heap.size, 0, none⟩ _ rfl).setCell ⟨w.heap.size, 1, none⟩ _ rfl).setCell ⟨w.heap.size, 2, none⟩ _ rfl
      exact ⟨[.int .i64 0, .int .i64 1, (.slice (some ⟨W0.heap.size, 0, none⟩) k k)], rfl, own_chainR (x := ⟨1, upToC k⟩) (by decide) (by show (Lit.int .i64 1).wf = true; decide) (((unhide HO9).ext hE (fun c h1 _ h3 => by omega)).mono (by omega) (by simp)), (((unhide HB9).setCell (by simp) _).setCell (by simp) _).setCell (by simp) _⟩

set_option maxRecDepth 10000 in
theorem implNewChain (n : Int) (w : World) :
    Calls Try.prog 12 #[.int .i64 n] w fun e w' => ∃ cs, e = .returned (.agg cs.toArray) ∧ Lay.tChainResult.OwnIn w' cs (newChainR n) w.heap.size w'.heap.size ∧ Below w.heap.size w w' := by
  by_cases hn : 1 ≤ n ∧ n ≤ 5
  · obtain ⟨m, rfl⟩ : ∃ m : Nat, n = (m : Int) := ⟨n.toNat, by omega⟩
    have HV : newChainR (m : Int) = ⟨0, ⟨1, upToC m⟩⟩ := by rw [newChainR, if_pos hn]; rfl
    rw [HV]
    exact implNewChain_ok m w (by omega) (by omega)
  · have HV : newChainR n = badChain 3 := by rw [newChainR, if_neg hn]
    rw [HV]
    have d1 : (decide (1 ≤ n) && decide (n ≤ 5)) = false := by
      cases h : (decide (1 ≤ n) && decide (n ≤ 5))
      · rfl
      · exact absurd (by simpa using h) hn
    have HB : Hid (Below w.heap.size w (w.alloc (.cells #[.int .i64 0, .int .i64 0, .slice none 0 0] 38))) := (Below.refl _ _).alloc (Nat.le_refl _) _
    have HR : Hid (Box 0 #[.int .i64 0, .int .i64 0, .slice none 0 0] 38 (w.alloc (.cells #[.int .i64 0, .int .i64 0, .slice none 0 0] 38)) w.heap.size) := newBox (Nat.zero_le _)
    clear HV hn
    go_enter Try.func12, Try.ntmps12
    go_wp2_with fail
    generalize w.alloc (.cells #[.int .i64 0, .int .i64 0, .slice none 0 0] 38) = W0 at *
    refine (isNodeCountC n W0).mono ?_
    rintro e w1 ⟨rfl, q1⟩
    subst w1
    rw [d1]
    have bR := unhide HR
    have z0 := Box.at bR 0 _ rfl
    have z1 := Box.at bR 1 _ rfl
    have z2 := Box.at bR 2 _ rfl
    simp only [List.getElem_toArray, List.getElem_cons_zero, List.getElem_cons_succ] at z0 z1 z2
    have ff := Box.soft bR
    have l0 := Box.lt bR
    have HB2 := hide (below_setAll (unhide HB) w.heap.size 0 [.int .i64 3, .int .i64 0, .slice none 0 0] (Nat.le_refl _))
    clear d1 bR HR HB
    go_wp2_with fail
    refine bodyPost_ret (v := .agg #[.int .i64 3, .int .i64 0, .slice none 0 0]) (by simp [results, Try.results12, go_sem, z0, z1, z2]) rfl ?_
    exact ⟨_, rfl, own_badChain (by decide), unhide HB2⟩
end Go.Proofs.Ythpbdafhjakekaa

namespace Go.Proofs.Ythpbdafhjakekaa
open Go.RowKit

theorem vcnt_NodeResult (x : DNodeResult) : Lay.tNodeResult.vcnt x = Lay.tNode.vcnt x.node := by
  show 0 + (0 + (Lay.tNode.vcnt x.node)) = Lay.tNode.vcnt x.node
  omega
theorem mkv_NodeResult (k : Int) (x : DNodeResult) : Lay.tNodeResult.mkv k x = ⟨x.code, x.place, Lay.tNode.mkv (k) x.node⟩ := by
  simp [Lay.tNodeResult, Lay.via, Lay.pair, Lay.int]
theorem own_NodeResult {w : World} {cs : List Value} {x : DNodeResult} {bl : List Nat} (h : Lay.tNodeResult.Own w cs x bl) : ∃ (a6 : Option Addr) (d6 : Nat) (g2 : List Nat), cs = [.int .i64 x.code, .int .i64 x.place, .int .i64 x.node.id, .bool x.node.up, .int .i64 x.node.epoch, .int .i64 x.node.lease, .slice a6 x.node.writes.length d6, .int .i64 x.node.sure, .int .i64 x.node.clean] ∧ bl = g2 ∧ Lay.tNode.Own w [.int .i64 x.node.id, .bool x.node.up, .int .i64 x.node.epoch, .int .i64 x.node.lease, .slice a6 x.node.writes.length d6, .int .i64 x.node.sure, .int .i64 x.node.clean] x.node g2 ∧ (Lit.int .i64 x.code).wf = true ∧ (Lit.int .i64 x.place).wf = true := by
  obtain ⟨hl, hn, hf⟩ := h
  obtain ⟨a6, d6, b6, rfl, hbl, w0, w1, w2, w4, w5, l6, w7, w8⟩ := lies_NodeResult.1 hl
  rw [hbl] at hn hf
  exact ⟨a6, d6, b6, rfl, hbl, ⟨lies_Node.2 ⟨a6, d6, b6, rfl, rfl, w2, w4, w5, l6, w7, w8⟩, hn, hf⟩, w0, w1⟩
theorem mkOwn_NodeResult {w : World} {x : DNodeResult} {c2 : List Value} {g2 : List Nat} (O2 : Lay.tNode.Own w c2 x.node g2) (v0 : (Lit.int .i64 x.code).wf = true) (v1 : (Lit.int .i64 x.place).wf = true) (hn : (g2).Nodup) : Lay.tNodeResult.Own w ([.int .i64 x.code] ++ ([.int .i64 x.place] ++ c2)) x (g2) := by
  refine ⟨⟨[.int .i64 x.code], [.int .i64 x.place] ++ c2, [], [] ++ g2, rfl, by simp, ⟨rfl, v0, rfl⟩, ⟨[.int .i64 x.place], c2, [], g2, rfl, rfl, ⟨rfl, v1, rfl⟩, O2.1⟩⟩, hn, ?_⟩
  intro b hb o
  exact O2.2.2 b hb o

end Go.Proofs.Ythpbdafhjakekaa

namespace Go.Proofs.Ythpbdafhjakekaa
open Go.RowKit


theorem own_nodeR {w : World} {c n : Int} {v : Value} {x : DNode} {lo hi : Nat} (hc : -1000000000 ≤ c ∧ c ≤ 1000000000) (hn : -1000000000 ≤ n ∧ n ≤ 1000000000) (h : (Lay.sl Lay.tWrite).OwnIn w [v] x.writes lo hi)
    (b0 : -1000000000 ≤ x.id ∧ x.id ≤ 1000000000) (b2 : -1000000000 ≤ x.epoch ∧ x.epoch ≤ 1000000000) (b3 : -1000000000 ≤ x.lease ∧ x.lease ≤ 1000000000) (b5 : -1000000000 ≤ x.sure ∧ x.sure ≤ 1000000000) (b6 : -1000000000 ≤ x.clean ∧ x.clean ≤ 1000000000) :
    Lay.tNodeResult.OwnIn w [.int .i64 c, .int .i64 n, .int .i64 x.id, .bool x.up, .int .i64 x.epoch, .int .i64 x.lease, v, .int .i64 x.sure, .int .i64 x.clean] ⟨c, n, x⟩ lo hi := by
  obtain ⟨bl, O, i⟩ := h
  exact ⟨bl, mkOwn_NodeResult (x := ⟨c, n, x⟩) (mkOwn_Node O (wf_of_bd b0) (wf_of_bd b2) (wf_of_bd b3) (wf_of_bd b5) (wf_of_bd b6) O.2.1) (wf_of_bd hc) (wf_of_bd hn) O.2.1, i⟩
theorem lies_nodeR {w : World} {c n : Int} {a : Option Addr} {m d : Nat} {x : DNode} {lo hi : Nat} (hc : -1000000000 ≤ c ∧ c ≤ 1000000000) (hn : -1000000000 ≤ n ∧ n ≤ 1000000000) (h : (Lay.sl Lay.tWrite).LiesIn w [.slice a m d] x.writes lo hi)
    (b0 : -1000000000 ≤ x.id ∧ x.id ≤ 1000000000) (b2 : -1000000000 ≤ x.epoch ∧ x.epoch ≤ 1000000000) (b3 : -1000000000 ≤ x.lease ∧ x.lease ≤ 1000000000) (b5 : -1000000000 ≤ x.sure ∧ x.sure ≤ 1000000000) (b6 : -1000000000 ≤ x.clean ∧ x.clean ≤ 1000000000) :
    Lay.tNodeResult.LiesIn w [.int .i64 c, .int .i64 n, .int .i64 x.id, .bool x.up, .int .i64 x.epoch, .int .i64 x.lease, .slice a m d, .int .i64 x.sure, .int .i64 x.clean] ⟨c, n, x⟩ lo hi := by
  obtain ⟨bl, l, i⟩ := h
  have hm : m = x.writes.length := (Lay.Reads.cap ⟨bl, l⟩).1
  subst hm
  exact ⟨bl, lies_NodeResult.2 ⟨a, d, bl, rfl, rfl, wf_of_bd hc, wf_of_bd hn, wf_of_bd b0, wf_of_bd b2, wf_of_bd b3, l, wf_of_bd b5, wf_of_bd b6⟩, i⟩
theorem own_badNode {w : World} {c : Int} {lo hi : Nat} (hc : -1000000000 ≤ c ∧ c ≤ 1000000000) : Lay.tNodeResult.OwnIn w [.int .i64 c, .int .i64 0, .int .i64 0, .bool false, .int .i64 0, .int .i64 0, .slice none 0 0, .int .i64 0, .int .i64 0] (badNode c) lo hi :=
  own_nodeR (x := noNode) hc (by decide) nil_own (by decide) (by decide) (by decide) (by decide) (by decide)
theorem askedN_bd (x : DNode) : -1000000000 ≤ askedN x ∧ askedN x ≤ 1000000000 := by
  have := nodeFault_vals x
  unfold askedN
  split
  · split <;> omega
  · omega
theorem sl_take_own {α : Type} {A : Lay α} {w : World} {xs : List α} {b off cap n lo hi : Nat} (h : (Lay.sl A).OwnIn w [.slice (some ⟨b, off, none⟩) n cap] xs lo hi) (k : Nat) (hk : k ≤ xs.length) : (Lay.sl A).OwnIn w [.slice (some ⟨b, off, none⟩) k cap] (xs.take k) lo hi := by
  have hl : (xs.take k).length = k := by rw [List.length_take]; omega
  obtain ⟨bl, ⟨⟨ao, cap', he, ⟨h1, h2⟩, hor⟩, hnd, hfz⟩, hr⟩ := h
  simp only [List.cons.injEq, Value.slice.injEq, and_true] at he
  obtain ⟨rfl, rfl, rfl⟩ := he
  rcases hor with ⟨rfl, -⟩ | ⟨b', off', rows, bls, he, hb, rfl, n1, n2, hj⟩
  · obtain rfl : k = 0 := by simpa using hk
    exact ⟨[], ⟨⟨_, _, rfl, ⟨by simp, by simp⟩, Or.inl ⟨rfl, rfl⟩⟩, by simp, by simp⟩, by simp⟩
  · simp only [Option.some.injEq, Addr.mk.injEq, and_true] at he
    obtain ⟨rfl, rfl⟩ := he
    have hsub : ∀ c ∈ b :: (bls.take k).flatten, c ∈ b :: bls.flatten := by
      intro c hc
      rcases List.mem_cons.1 hc with rfl | hc
      · simp
      · obtain ⟨l, h3, h4⟩ := List.mem_flatten.1 hc
        exact List.mem_cons_of_mem _ (List.mem_flatten.2 ⟨l, List.mem_of_mem_take h3, h4⟩)
    refine ⟨b :: (bls.take k).flatten, ⟨⟨_, _, by rw [hl], ⟨by omega, by omega⟩, Or.inr ⟨b, off, rows.take k, bls.take k, rfl, hb, rfl, by simp [n1], by simp [n2], fun j q1 q2 q3 => ?_⟩⟩, ?_, fun c hc => hfz c (hsub c hc)⟩, fun c hc => hr c (hsub c hc)⟩
    · simp only [List.getElem_take]
      rw [List.length_take] at q1 q2 q3
      exact hj j (by omega) (by omega) (by omega)
    · refine List.Nodup.sublist ?_ hnd
      refine List.Sublist.cons_cons _ ?_
      conv => rhs; rw [← List.take_append_drop k bls]
      rw [List.flatten_append]
      exact List.sublist_append_left _ _
theorem box_set7 {lo : Nat} {T : TypeId} {W : World} {s : Nat} {c0 c1 c2 c3 c4 c5 c6 : Value} (h : Box lo #[c0, c1, c2, c3, c4, c5, c6] T W s) (v0 v1 v2 v3 v4 v5 v6 : Value) : Box lo #[v0, v1, v2, v3, v4, v5, v6] T (((((((W.setCell ⟨s, 0, none⟩ v0).setCell ⟨s, 1, none⟩ v1).setCell ⟨s, 2, none⟩ v2).setCell ⟨s, 3, none⟩ v3).setCell ⟨s, 4, none⟩ v4).setCell ⟨s, 5, none⟩ v5).setCell ⟨s, 6, none⟩ v6) s := by
  have q := (Box.set (Box.set (Box.set (Box.set (Box.set (Box.set (Box.set h 0 v0) 1 v1) 2 v2) 3 v3) 4 v4) 5 v5) 6 v6)
  simp only [List.setIfInBounds_toArray, List.set_cons_zero, List.set_cons_succ] at q
  exact q
theorem box_set9 {lo : Nat} {T : TypeId} {W : World} {s : Nat} {c0 c1 c2 c3 c4 c5 c6 c7 c8 : Value} (h : Box lo #[c0, c1, c2, c3, c4, c5, c6, c7, c8] T W s) (v0 v1 v2 v3 v4 v5 v6 v7 v8 : Value) : Box lo #[v0, v1, v2, v3, v4, v5, v6, v7, v8] T (((((((((W.setCell ⟨s, 0, none⟩ v0).setCell ⟨s, 1, none⟩ v1).setCell ⟨s, 2, none⟩ v2).setCell ⟨s, 3, none⟩ v3).setCell ⟨s, 4, none⟩ v4).setCell ⟨s, 5, none⟩ v5).setCell ⟨s, 6, none⟩ v6).setCell ⟨s, 7, none⟩ v7).setCell ⟨s, 8, none⟩ v8) s := by
  have q := (Box.set (Box.set (Box.set (Box.set (Box.set (Box.set (Box.set (Box.set (Box.set h 0 v0) 1 v1) 2 v2) 3 v3) 4 v4) 5 v5) 6 v6) 7 v7) 8 v8)
  simp only [List.setIfInBounds_toArray, List.set_cons_zero, List.set_cons_succ] at q
  exact q
theorem sl_take_lies {α : Type} {A : Lay α} {w : World} {xs : List α} {a : Option Addr} {cap n lo hi : Nat} (h : (Lay.sl A).LiesIn w [.slice a n cap] xs lo hi) (k : Nat) (hk : k ≤ xs.length) : (Lay.sl A).LiesIn w [.slice a k cap] (xs.take k) lo hi := by
  have hl : (xs.take k).length = k := by rw [List.length_take]; omega
  obtain ⟨bl, ⟨ao, cap', he, ⟨h1, h2⟩, hor⟩, hr⟩ := h
  simp only [List.cons.injEq, Value.slice.injEq, and_true] at he
  obtain ⟨rfl, rfl, rfl⟩ := he
  rcases hor with ⟨rfl, -⟩ | ⟨b', off', rows, bls, rfl, hb, rfl, n1, n2, hj⟩
  · obtain rfl : k = 0 := by simpa using hk
    exact ⟨[], ⟨_, _, rfl, ⟨by simp, by simp⟩, Or.inl ⟨rfl, rfl⟩⟩, by simp⟩
  · refine ⟨b' :: (bls.take k).flatten, ⟨_, _, by rw [hl], ⟨by omega, by omega⟩, Or.inr ⟨b', off', rows.take k, bls.take k, rfl, hb, rfl, by simp [n1], by simp [n2], fun j q1 q2 q3 => ?_⟩⟩, fun c hc => hr c ?_⟩
    · simp only [List.getElem_take]
      rw [List.length_take] at q1 q2 q3
      exact hj j (by omega) (by omega) (by omega)
    · rcases List.mem_cons.1 hc with rfl | hc
      · simp
      · obtain ⟨l, h3, h4⟩ := List.mem_flatten.1 hc
        exact List.mem_cons_of_mem _ (List.mem_flatten.2 ⟨l, List.mem_of_mem_take h3, h4⟩)
end Go.Proofs.Ythpbdafhjakekaa

namespace Go.Proofs.Ythpbdafhjakekaa
open Go.RowKit

set_option maxRecDepth 10000 in
set_option maxHeartbeats 1000000 in
theorem implNewNode (id : Int) (w : World) :
    Calls Try.prog 13 #[.int .i64 id] w fun e w' => ∃ cs, e = .returned (.agg cs.toArray) ∧ Lay.tNodeResult.OwnIn w' cs (newNodeR id) w.heap.size w'.heap.size ∧ Below w.heap.size w w' := by
  have HB : Hid (∀ o, Below w.heap.size w (w.alloc o)) := fun o => (Below.refl _ _).alloc (Nat.le_refl _) o
  have HL : Hid (∀ W, Calls Try.prog 20 #[.int .i64 id] W fun e w' => e = .returned (.bool (decide (1 ≤ id) && decide (id ≤ 5))) ∧ w' = W) := fun W => isNodeIdC id W
  by_cases hi : 1 ≤ id ∧ id ≤ 5
  · have hd : (decide (1 ≤ id) && decide (id ≤ 5)) = true := by simpa using hi
    rw [hd] at HL
    have HY : Hid (newNodeR id = ⟨0, 0, ⟨id, true, 0, 0, [], 0, 0⟩⟩) := by show newNodeR id = _; rw [newNodeR, if_pos hi]
    clear hd
    go_enter Try.func13, Try.ntmps13
    go_wp2_with fail
    refine (unhide HL _).mono ?_
    rintro e W1 ⟨rfl, h1⟩
    subst W1
    go_wp2_with fail
    refine bodyPost_ret (v := .agg #[.int .i64 0, .int .i64 0, .int .i64 id, .bool true, .int .i64 0, .int .i64 0, .slice none 0 0, .int .i64 0, .int .i64 0]) (by simp [results, Try.results13, go_sem]) rfl ?_
    rw [unhide HY]
    exact ⟨[.int .i64 0, .int .i64 0, .int .i64 id, .bool true, .int .i64 0, .int .i64 0, .slice none 0 0, .int .i64 0, .int .i64 0], rfl, own_nodeR (x := ⟨id, true, 0, 0, [], 0, 0⟩) (by decide) (by decide) nil_own (by simp only; omega) (by simp only; omega) (by simp only; omega) (by simp only; omega) (by simp only; omega), unhide HB _⟩
  · have hd : (decide (1 ≤ id) && decide (id ≤ 5)) = false := by
      by_cases h1 : 1 ≤ id
      · simp [h1]; omega
      · simp [h1]
    rw [hd] at HL
    have HY : Hid (newNodeR id = badNode 3) := by show newNodeR id = _; rw [newNodeR, if_neg hi]
    clear hd
    go_enter Try.func13, Try.ntmps13
    go_wp2_with fail
    refine (unhide HL _).mono ?_
    rintro e W1 ⟨rfl, h1⟩
    subst W1
    go_wp2_with fail
    refine bodyPost_ret (v := .agg #[.int .i64 3, .int .i64 0, .int .i64 0, .bool false, .int .i64 0, .int .i64 0, .slice none 0 0, .int .i64 0, .int .i64 0]) (by simp [results, Try.results13, go_sem]) rfl ?_
    rw [unhide HY]
    exact ⟨[.int .i64 3, .int .i64 0, .int .i64 0, .bool false, .int .i64 0, .int .i64 0, .slice none 0 0, .int .i64 0, .int .i64 0], rfl, own_badNode (by decide), unhide HB _⟩
end Go.Proofs.Ythpbdafhjakekaa
