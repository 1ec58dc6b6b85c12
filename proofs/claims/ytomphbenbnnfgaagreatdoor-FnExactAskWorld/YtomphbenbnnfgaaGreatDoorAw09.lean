/-
  Texts of this proof in one: ClearKit, SpecIntsB, SpecCopyCh, AppMsg, SpecNode9, SpecMsgF, SpecMCopy, WorldSpec, AppNode, NodeKitP, SpecWs, SpecLast5, SpecSess, SpecOnce, NodeKit, SpecWCopy, RowIn, SpecNodeF, SpecNCopy, SpecNCopyG.
  Their conditions stand in their theorems.
-/
import Derived.Test.YtomphbenbnnfgaaGreatDoorAw01
import Derived.Test.YtomphbenbnnfgaaGreatDoorAw00
import Derived.Test.YtomphbenbnnfgaaGreatDoorChecked
import Derived.Test.YtomphbenbnnfgaaGreatDoorAw07
import Derived.BigQuiet
import Derived.Deep.QuietTactic
import Derived.WalkSmall
import Derived.Test.YtomphbenbnnfgaaGreatDoorAw06
import Derived.Deep.CutRange
import Derived.Test.YtomphbenbnnfgaaGreatDoorAw05
import Derived.Test.YtomphbenbnnfgaaGreatDoorAw04
import Derived.Deep.RegionHeld3
import Derived.Test.YtomphbenbnnfgaaGreatDoorAw03
set_option maxRecDepth 100000
set_option maxHeartbeats 4000000
namespace Go.Proofs.YtomphbenbnnfgaaGreatDoor
open Go.RowKit
def Clear {α : Type} (A : ab α) (w : World) (v : Value) (xs : List α) (lo hi g : Nat) : Prop := ∃ bl, (ab.sl A).bg w [v] xs bl ∧ ∀ b ∈ bl, lo ≤ b ∧ b < hi ∧ b ≠ g
theorem Clear.reads {α : Type} {A : ab α} {w : World} {v : Value} {xs : List α} {lo hi g : Nat} (h : Clear A w v xs lo hi g) : (ab.sl A).Reads w [v] xs := by
 obtain ⟨bl, l, -⟩ := h
 exact ⟨bl, l⟩
theorem Clear.ext {α : Type} {A : ab α} {w w' : World} {v : Value} {xs : List α} {lo hi g : Nat} {S : Nat → Prop} (h : Clear A w v xs lo hi g) (e : Ext S w w') (hs : ∀ k, lo ≤ k → k < hi → k ≠ g → ¬ S k) : Clear A w' v xs lo hi g := by
 obtain ⟨bl, l, hb⟩ := h
 exact ⟨bl, A.sl.ai l (fun b hm => e.block b (A.sl.lt l b hm) (hs b (hb b hm).1 (hb b hm).2.1 (hb b hm).2.2)), hb⟩
theorem Clear.wide {α : Type} {A : ab α} {w : World} {v : Value} {xs : List α} {lo hi lo' hi' g : Nat} (h : Clear A w v xs lo hi g) (h1 : lo' ≤ lo) (h2 : hi ≤ hi') : Clear A w v xs lo' hi' g := by
 obtain ⟨bl, l, hb⟩ := h
 exact ⟨bl, l, fun b hm => ⟨by have := hb b hm; omega, by have := hb b hm; omega, (hb b hm).2.2⟩⟩
theorem fF {α : Type} {A : ab α} {w : World} {v : Value} {xs : List α} {lo hi g : Nat} (h : (ab.sl A).cr w [v] xs lo hi) (hg : g < lo ∨ hi ≤ g) : Clear A w v xs lo hi g := by
 obtain ⟨bl, l, hb⟩ := h
 exact ⟨bl, l, fun b hm => ⟨(hb b hm).1, (hb b hm).2, by have := hb b hm; omega⟩⟩
theorem iF (v : Value) (zs : List Int) (w : World) (h : cf w v zs) (hn : zs.length ≤ 100000000) :
  Calls Tryz.prog 152 #[v] w fun e w' => ∃ v', e = .returned v' ∧ w'.ownsRow w.heap.size 2 1 v' zs.length (zs.map (Value.int .i64)) ∧ Below w.heap.size w w' := by
 have nb : Below w.heap.size w (w.alloc (.cells #[] 2)) := (Below.refl _ _).alloc (Nat.le_refl _) _
 have O : (w.alloc (.cells #[] 2)).ownsRow w.heap.size 2 1 (.slice (some ⟨w.heap.size, 0, none⟩) 0 0) 0 [] := World.ownsRow_lit w _ 0 (Nat.le_refl _) (by unfold maxLen; omega) rfl
 have h1 := h.later nb
 obtain ⟨ao, cap, rfl, -⟩ := h
 have HB := yh nb
 clear nb
 go_enter Tryz.func152, Tryz.ntmps152
 go_wp2_with (at_builtin; refine eV O h1 rfl _ _ rfl rfl rfl (by omega) (by simp) ?_)
 rintro v' w' O2 - hb
 have HB2 := yh ((uh HB).trans hb)
 clear O h1 hb HB
 go_wp2_with fail
 go_ret
 exact ⟨v', rfl, by simpa using O2, uh HB2⟩
theorem mS (cs : List Value) (x : bQ) (w : World) (h : ab.aH.Reads w cs x) (hn : x.ids.length ≤ 100000000) :
  Calls Tryz.prog 149 #[.agg cs.toArray] w fun e w' => ∃ a c, e = .returned (.agg #[.int .i64 x.ae, .slice a x.ids.length c]) ∧ (ab.sl ab.int).aN w' [.slice a x.ids.length c] x.ids w.heap.size w'.heap.size ∧ Below w.heap.size w w' := by
 obtain ⟨a3, d3, rfl, R3⟩ := cb h
 have nb : Below w.heap.size w ((w.alloc (.cells #[.int .i64 x.ae, .slice a3 x.ids.length d3] 34)).alloc (.cells #[.int .i64 0, .slice none 0 0] 34)) := ((Below.refl _ _).alloc (Nat.le_refl _) _).alloc (by simp) _
 have HX : Hid (aA 0 #[.int .i64 x.ae, .slice a3 x.ids.length d3] 34 ((w.alloc (.cells #[.int .i64 x.ae, .slice a3 x.ids.length d3] 34)).alloc (.cells #[.int .i64 0, .slice none 0 0] 34)) w.heap.size) := (aD (Nat.zero_le _)).grow _
 have HY : Hid (aA 0 #[.int .i64 0, .slice none 0 0] 34 ((w.alloc (.cells #[.int .i64 x.ae, .slice a3 x.ids.length d3] 34)).alloc (.cells #[.int .i64 0, .slice none 0 0] 34)) (w.heap.size + 1)) := bm (Nat.zero_le _) (by simp)
 have hz0 : w.heap.size + 1 < ((w.alloc (.cells #[.int .i64 x.ae, .slice a3 x.ids.length d3] 34)).alloc (.cells #[.int .i64 0, .slice none 0 0] 34)).heap.size := by simp
 have HL := yh (iF _ x.ids _ (ab.bc (R3.later nb)) hn)
 have HWF := yh (ab.bc R3).wf
 have HN := yh hn
 have HB := yh nb
 clear nb h R3 hn
 go_enter Tryz.func149, Tryz.ntmps149
 go_upto_region 1 with fail
 generalize (w.alloc (.cells #[.int .i64 x.ae, .slice a3 x.ids.length d3] 34)).alloc (.cells #[.int .i64 0, .slice none 0 0] 34) = W0 at *
 have z0 := aA.at (uh HX) 0 _ rfl
 have z1 := aA.at (uh HX) 1 _ rfl
 simp only [ga, gb, gc] at z0 z1
 have zl := (uh HX).lt
 go_wp2_with fail
 refine (uh HL).mono ?_
 rintro e w1 ⟨v', rfl, O, hb⟩
 obtain ⟨a, c, rfl⟩ := eR O
 have hx := (uh HX).ai hb
 have hy := (uh HY).ai hb
 clear z0 z1 zl
 have z0 := aA.at hx 0 _ rfl
 have z1 := aA.at hx 1 _ rfl
 have y0 := aA.at hy 0 _ rfl
 have y1 := aA.at hy 1 _ rfl
 simp only [ga, gb, gc] at z0 z1 y0 y1
 have zf := aA.soft hx
 have zl := hx.lt
 have yf := aA.soft hy
 have yl := hy.lt
 have hI := ab.eM (uh HWF) (by have := uh HN; omega) O
 have e1 : Ext (fun q => q = w.heap.size ∨ q = w.heap.size + 1) w1 (((w1.setCell ⟨w.heap.size, 1, none⟩ (.slice a x.ids.length c)).setCell ⟨w.heap.size + 1, 0, none⟩ (.int .i64 x.ae)).setCell ⟨w.heap.size + 1, 1, none⟩ (.slice a x.ids.length c)) :=
  (((Ext.refl _ _).setCell _ _ (Or.inl rfl)).setCell _ _ (Or.inr rfl)).setCell _ _ (Or.inr rfl)
 have HI := yh ((hI.ext e1 (fun q h1 h2 h3 => by omega)).mono (show w.heap.size ≤ W0.heap.size by omega) (show w1.heap.size ≤ (((w1.setCell ⟨w.heap.size, 1, none⟩ (.slice a x.ids.length c)).setCell ⟨w.heap.size + 1, 0, none⟩ (.int .i64 x.ae)).setCell ⟨w.heap.size + 1, 1, none⟩ (.slice a x.ids.length c)).heap.size by simp))
 have HB9 := yh (((((uh HB).trans (hb.mono (uh HB).size)).setCell (p := ⟨w.heap.size, 1, none⟩) (Nat.le_refl _) (.slice a x.ids.length c)).setCell (p := ⟨w.heap.size + 1, 0, none⟩) (by simp) (.int .i64 x.ae)).setCell (p := ⟨w.heap.size + 1, 1, none⟩) (by simp) (.slice a x.ids.length c))
 clear hx hy hb O hI e1 HL HX HY HB
 go_wp2_with fail
 refine bodyPost_ret (v := .agg #[.int .i64 x.ae, .slice a x.ids.length c]) (by simp [results, Tryz.results149, go_sem, y0, y1]) rfl ?_
 exact ⟨a, c, rfl, uh HI, uh HB9⟩
theorem o9 : (Tryz.prog.info? 60).map (fun i => (i.zero, i.size, i.bytes)) = some (some (.agg #[.int .i64 0, .int .i64 0, .int .i64 0, .int .i64 0, .int .i64 0, .int .i64 0, .int .i64 0, .slice none 0 0, .int .i64 0, .int .i64 0]), 10, 96) := by kernel_rfl
theorem uw {w : World} {row : List Value} {x : bP} {bl : List Nat} (h : ab.aQ.bg w row x bl) : (∀ u ∈ row, u.oneCell' = true) ∧ row.length = 1 * 10 := by
 obtain ⟨_, _, _, rfl, -⟩ := eC.1 h
 simp [Value.oneCell']
theorem ia {w1 : World} {base : Nat} {v : Value} {rows : List (List Value)} {xs : List bP} {bls : List (List Nat)} (hG : bU ab.aQ w1 base 60 v rows xs bls) {row : List Value} {x : bP} {bl : List Nat} (hl : ab.aQ.bg w1 row x bl) (hbl : ∀ b ∈ bl, v.ownBlock ≠ some b) {ops : Array Oper} {rest : List Oper} {o : Oper} {a : Act} {Q : Exit → Act → World → Prop} (hgd : o.guard = none) (s y : Operand)
  (ho : o.op = .call { callee := .builtin .append, args := #[s, y], argTypes := #[36, 36] }) (hs : a.eval s = v) (hy : a.eval y = .slice (some ⟨w1.heap.size, 0, none⟩) 1 1) (hn : xs.length + 1 ≤ 100000000) (hbase : base ≤ w1.heap.size)
  (h : ∀ g cap w', bU ab.aQ w' base 60 (.slice (some ⟨g, 0, none⟩) (xs.length + 1) cap) (rows ++ [row]) (xs ++ [x]) (bls ++ [bl]) → Below base w1 w' → Ext (fun q => v.ownBlock = some q) w1 w' → g < w'.heap.size → w1.heap.size ≤ w'.heap.size → (v.ownBlock = some g ∨ w1.heap.size ≤ g) → wpList Tryz.prog ops Q rest (a.put o.dst (.slice (some ⟨g, 0, none⟩) (xs.length + 1) cap)) w') :
  wpList Tryz.prog ops Q (o :: rest) a (w1.alloc (.cells row.toArray 60)) := by
 obtain ⟨i0, hi0, hz0, hz1, hz2⟩ := info_parts o9
 obtain ⟨h1, hlen⟩ := uw hl
 refine wpList_append_lies _ hgd s y 36 ho base 60 i0 _ 10 96 Tryz.underlying36 hi0 hz0 hz1 hz2 rfl (by omega) v xs.length rows.flatten hs (hG.own.alloc _) ⟨w1.heap.size, 0, none⟩ 1 1 row hy hlen (World.news_of_block (cs := row.toArray) (t := 60) (fr := (0, 0)) (heap_alloc_new w1 _)) h1 (by omega) (by unfold maxLen; omega) (by omega) (by simp; omega) (w1.alloc (.cells row.toArray 60)).heap.size rfl ?_
 intro g cap w' h2 h3 h4 h5
 have hg := dV h3
 have hbw : Below base w1 w' := (Below.refl _ _).grown hg hbase (fun j hj => (hG.own.lt j hj).1)
 have hor : v.ownBlock = some g ∨ w1.heap.size ≤ g := by
  rcases h4 with h4 | h4
  ·
   exact Or.inl h4
  exact Or.inr (by rw [h4]; simp)
 exact h g cap w' (hG.snoc hl hbl h2 hg hor) hbw ⟨hbw.os, hbw.tape, hbw.output, hbw.size, fun k hk hn => hg.block k hk (fun e => hn e.symm)⟩ h5 hbw.size hor
theorem iq (x : Int) (w : World) : Calls Tryz.prog 145 #[.int .i64 x] w fun e w' => e = .returned (.bool (decide (1 ≤ x) && decide (x ≤ 5))) ∧ w' = w := by
 go_enter Tryz.func145, Tryz.ntmps145
 go_wp2_with fail
 refine (fu x 1 5 _).mono ?_
 rintro e w1 ⟨rfl, rfl⟩
 go_wp2_with fail
 go_ret
 exact ⟨rfl, rfl⟩
def uK (w : World) (b o : Nat) (x : bP) (v : Value) : Prop :=
 w.cell? ⟨b, o, none⟩ = some (.int .i64 x.kind) ∧ w.cell? ⟨b, o + 1, none⟩ = some (.int .i64 x.ae) ∧ w.cell? ⟨b, o + 2, none⟩ = some (.int .i64 x.src) ∧ w.cell? ⟨b, o + 3, none⟩ = some (.int .i64 x.dst) ∧ w.cell? ⟨b, o + 4, none⟩ = some (.int .i64 x.index) ∧ w.cell? ⟨b, o + 5, none⟩ = some (.int .i64 x.write.kind) ∧ w.cell? ⟨b, o + 5 + 1, none⟩ = some (.int .i64 x.write.id) ∧ w.cell? ⟨b, o + 5 + 2, none⟩ = some (v) ∧ w.cell? ⟨b, o + 5 + 3, none⟩ = some (.int .i64 x.write.aa) ∧ w.cell? ⟨b, o + 5 + 4, none⟩ = some (.int .i64 x.write.seq)
theorem uT {y : aj} (h : (y.kind == 0) = false) : decide (mQ y) = false := by
 rw [decide_eq_false_iff_not]; intro q; rw [q.1] at h; simp at h
theorem vi {y : aj} (h : (y.id == 0) = false) : decide (mQ y) = false := by
 rw [decide_eq_false_iff_not]; intro q; rw [q.2.1] at h; simp at h
theorem vr {y : aj} (h : (y.aa == 0) = false) : decide (mQ y) = false := by
 rw [decide_eq_false_iff_not]; intro q; rw [q.2.2.1] at h; simp at h
theorem vj {y : aj} (h : (y.seq == 0) = false) : decide (mQ y) = false := by
 rw [decide_eq_false_iff_not]; intro q; rw [q.2.2.2.1] at h; simp at h
theorem vo {y : aj} (h : ((y.vec.length : Int) == 0) = false) : decide (mQ y) = false := by
 rw [decide_eq_false_iff_not]; intro q; rw [q.2.2.2.2] at h; simp at h
theorem vJ {y : aj} (h0 : (y.kind == 0) = true) (h1 : (y.id == 0) = true) (h2 : (y.aa == 0) = true) (h3 : (y.seq == 0) = true) (h4 : ((y.vec.length : Int) == 0) = true) : decide (mQ y) = true := by
 rw [decide_eq_true_iff]
 simp only [beq_iff_eq] at h0 h1 h2 h3 h4
 exact ⟨h0, h1, h2, h3, by omega⟩
theorem tx {x : bP} (h : (decide (1 ≤ x.kind) && decide (x.kind ≤ 2)) = false) : aL x = 1 := by
 rw [aL, if_pos (Or.inl (by simpa using h))]
theorem tG {x : bP} (h : (x.src == x.dst) = true) : aL x = 1 := by
 rw [aL, if_pos (Or.inr (Or.inl (beq_iff_eq.1 h)))]
theorem uO {x : bP} (h : (x.kind == 2) = true) (h2 : decide (mQ x.write) = false) : aL x = 1 := by
 rw [aL, if_pos (Or.inr (Or.inr ⟨beq_iff_eq.1 h, decide_eq_false_iff_not.1 h2⟩))]
def dM (x : bP) : Int := if ¬ (1 ≤ x.ae ∧ x.ae ≤ 999) ∨ ¬ (1 ≤ x.src ∧ x.src ≤ 5) ∨ ¬ (1 ≤ x.dst ∧ x.dst ≤ 5) ∨ ¬ (0 ≤ x.index ∧ x.index ≤ 40) ∨ (x.kind ≠ 2 ∧ x.index = 0) then 3
 else if x.kind = 2 then 0 else wF x.write
theorem sk {x : bP} (h : (decide (1 ≤ x.kind) && decide (x.kind ≤ 2)) = true) (h1 : (x.src == x.dst) = false) (h2 : (x.kind == 2) = false) : aL x = dM x := by
 rw [aL, if_neg, dM]
 simp at h h1 h2
 rintro (q | q | q)
 ·
  exact q h
 ·
  exact h1 q
 exact h2 q.1
theorem rF {x : bP} (h : (decide (1 ≤ x.kind) && decide (x.kind ≤ 2)) = true) (h1 : (x.src == x.dst) = false) (h2 : decide (mQ x.write) = true) : aL x = dM x := by
 rw [aL, if_neg, dM]
 simp at h h1 h2
 rintro (q | q | q)
 ·
  exact q h
 ·
  exact h1 q
 exact q.2 h2
theorem mY {x : bP} (h : (decide (1 ≤ x.ae) && decide (x.ae ≤ 999)) = false) : dM x = 3 := by
 rw [dM, if_pos (Or.inl (by simpa using h))]
theorem su {x : bP} (h : (decide (1 ≤ x.src) && decide (x.src ≤ 5)) = false) : dM x = 3 := by
 rw [dM, if_pos (Or.inr (Or.inl (by simpa using h)))]
theorem sw {x : bP} (h : (decide (1 ≤ x.dst) && decide (x.dst ≤ 5)) = false) : dM x = 3 := by
 rw [dM, if_pos (Or.inr (Or.inr (Or.inl (by simpa using h))))]
theorem mZ {x : bP} (h : (decide (0 ≤ x.index) && decide (x.index ≤ 40)) = false) : dM x = 3 := by
 rw [dM, if_pos (Or.inr (Or.inr (Or.inr (Or.inl (by simpa using h)))))]
theorem uA {x : bP} (h : (x.kind == 2) = false) (h2 : (x.index == 0) = true) : dM x = 3 := by
 rw [dM, if_pos (Or.inr (Or.inr (Or.inr (Or.inr ⟨by simpa using h, by simpa using h2⟩))))]
theorem uE {x : bP} (h0 : (decide (1 ≤ x.ae) && decide (x.ae ≤ 999)) = true) (h1 : (decide (1 ≤ x.src) && decide (x.src ≤ 5)) = true) (h2 : (decide (1 ≤ x.dst) && decide (x.dst ≤ 5)) = true) (h3 : (decide (0 ≤ x.index) && decide (x.index ≤ 40)) = true) (h4 : (x.kind == 2) = true ∨ (x.index == 0) = false) : dM x = if x.kind = 2 then 0 else wF x.write := by
 rw [dM, if_neg]
 simp at h0 h1 h2 h3 h4
 rintro (q | q | q | q | q)
 ·
  exact q h0
 ·
  exact q h1
 ·
  exact q h2
 ·
  exact q h3
 rcases h4 with h4 | h4
 ·
  exact q.1 h4
 exact h4 q.2
theorem lj {w : World} {y : aj} {a : Option Addr} {d : Nat} (h : ab.ag.Reads w [.int .i64 y.kind, .int .i64 y.id, .slice a y.vec.length d, .int .i64 y.aa, .int .i64 y.seq] y) : (ab.sl ab.int).Reads w [.slice a y.vec.length d] y.vec := by
 obtain ⟨a2, d2, e, R⟩ := aM h
 simp only [List.cons.injEq, Value.slice.injEq, and_true, true_and] at e
 obtain ⟨rfl, rfl⟩ := e
 exact R
theorem tX (b o : Nat) (a : Option Addr) (d : Nat) (x : bP) (w : World) (hM : uK w b o x (.slice a x.write.vec.length d)) (R : (ab.sl ab.int).Reads w [.slice a x.write.vec.length d] x.write.vec) :
  Calls Tryz.prog 147 #[.pointer (some ⟨b, o, none⟩)] w fun e w' => e = .returned (.int .i64 (aL x)) ∧ Below w.heap.size w w' := by
 have hbig := R.et
 have H := yh R
 have HM := yh hM
 obtain ⟨c0, c1, c2, c3, c4, c5, c6, c7, c8, c9⟩ := hM
 have hb := World.block_lt_of_cell? _ _ c0
 clear R
 go_enter Tryz.func147, Tryz.ntmps147
 go_upto_region 2 with fail
 go_cut [4] from 10 to 48 (fun s4 wx => s4 = .bool (decide (mQ x.write)) ∧ wx = w)
 case first =>
  cases e0 : (x.write.kind == 0)
  ·
   have HF := yh (uT e0)
   go_wp2_with fail
   go_meet
   exact ⟨by rw [uh HF], rfl⟩
  cases e1 : (x.write.id == 0)
  ·
   have HF := yh (vi e1)
   go_wp2_with fail
   go_meet
   exact ⟨by rw [uh HF], rfl⟩
  cases e2 : (x.write.aa == 0)
  ·
   have HF := yh (vr e2)
   go_wp2_with fail
   go_meet
   exact ⟨by rw [uh HF], rfl⟩
  cases e3 : (x.write.seq == 0)
  ·
   have HF := yh (vj e3)
   go_wp2_with fail
   go_meet
   exact ⟨by rw [uh HF], rfl⟩
  cases e4 : ((x.write.vec.length : Int) == 0)
  ·
   have HF := yh (vo e4)
   go_wp2_with fail
   go_meet
   exact ⟨by rw [uh HF], rfl⟩
  have HF := yh (vJ e0 e1 e2 e3 e4)
  go_wp2_with fail
  go_meet
  exact ⟨by rw [uh HF], rfl⟩
 case rest =>
  obtain ⟨rfl, hwc⟩ := hcut
  subst hwc
  cases d1 : (decide (1 ≤ x.kind) && decide (x.kind ≤ 2))
  ·
   have HF := yh (tx d1)
   go_upto_region 3 with fail
   refine wZz (fun w' => Below wc.heap.size wc w') (Below.refl _ _).drew (fun zq => ?_)
   generalize wc.drew = wD at zq ⊢
   refine tkH 0 zq ?_
   refine tkH 1 zq ?_
   refine tkH 2 zq ?_
   refine tkJ 3 (v := ?va3_4) ?ha3_4 zq ?ra3_4
   case ha3_4 =>
    intro wS hSw
    have q0 := cZ hSw hb c0
    clear hSw
    exact fZ
   refine rdH 4 (fun K hK => ?_)
   go_simp
   go_at_call 58
   refine (fu x.kind 1 2 _).mono ?_
   rintro e w1 ⟨rfl, h1⟩
   subst w1
   rw [d1]
   try go_wp2_with fail
   refine hK.out _ _ zq (fun zq => ?_)
   clear hK K
   try simp only [Act.put, pz, py, px]
   refine tkH 5 zq ?_
   refine tkH 6 zq ?_
   refine skH 7 zq ?_
   refine skH 8 zq ?_
   refine skH 9 zq ?_
   refine skH 10 zq ?_
   refine skH 11 zq ?_
   refine skH 12 zq ?_
   refine skH 13 zq ?_
   refine skH 14 zq ?_
   refine skH 15 zq ?_
   refine tkH 16 zq ?_
   refine tkH 17 zq ?_
   refine skH 18 zq ?_
   refine skH 19 zq ?_
   refine skH 20 zq ?_
   refine skH 21 zq ?_
   refine skH 22 zq ?_
   refine tkH 23 zq ?_
   refine dZ ?_
   have HB9 := yh zq
   clear zq
   go_wp2_with fail
   go_ret
   exact ⟨by rw [uh HF]; rfl, uh HB9⟩
  cases e1 : (x.src == x.dst)
  ·
   cases e2 : (x.kind == 2)
   ·
    have HRS := yh (sk d1 e1 e2)
    go_upto_region 3 with fail
    refine wZz (fun w' => Below wc.heap.size wc w') (Below.refl _ _).drew (fun zq => ?_)
    generalize wc.drew = wD at zq ⊢
    refine tkH 0 zq ?_
    refine tkH 1 zq ?_
    refine tkH 2 zq ?_
    refine tkJ 3 (v := ?vc3_4) ?hc3_4 zq ?rc3_4
    case hc3_4 =>
     intro wS hSw
     have q0 := cZ hSw hb c0
     clear hSw
     exact fZ
    refine rdH 4 (fun K hK => ?_)
    go_simp
    go_at_call 58
    refine (fu x.kind 1 2 _).mono ?_
    rintro e w1 ⟨rfl, h1⟩
    subst w1
    rw [d1]
    try go_wp2_with fail
    refine hK.out _ _ zq (fun zq => ?_)
    clear hK K
    try simp only [Act.put, pz, py, px]
    refine tkH 5 zq ?_
    refine tkH 6 zq ?_
    refine tkH 7 zq ?_
    refine tkH 8 zq ?_
    refine tkH 9 zq ?_
    refine tkJ 10 (v := ?vc10_10) ?hc10_10 zq ?rc10_10
    case hc10_10 =>
     intro wS hSw
     have q2 := cZ hSw hb c2
     clear hSw
     exact fZ
    refine tkH 11 zq ?_
    refine tkH 12 zq ?_
    refine tkH 13 zq ?_
    refine tkJ 14 (v := ?vc14_14) ?hc14_14 zq ?rc14_14
    case hc14_14 =>
     intro wS hSw
     have q3 := cZ hSw hb c3
     clear hSw
     exact fZ
    refine tkH 15 zq ?_
    refine tkH 16 zq ?_
    refine tkH 17 zq ?_
    refine tkH 18 zq ?_
    refine tkH 19 zq ?_
    refine skH 20 zq ?_
    refine skH 21 zq ?_
    refine tkH 22 zq ?_
    refine tkH 23 zq ?_
    refine dZ ?_
    have HB9 := zq
    clear zq
    have c0 : wD.cell? ⟨b, o, none⟩ = some (.int .i64 x.kind) := (HB9.cell (p := ⟨b, o, none⟩) hb).trans c0
    have c1 : wD.cell? ⟨b, o + 1, none⟩ = some (.int .i64 x.ae) := (HB9.cell (p := ⟨b, o + 1, none⟩) hb).trans c1
    have c2 : wD.cell? ⟨b, o + 2, none⟩ = some (.int .i64 x.src) := (HB9.cell (p := ⟨b, o + 2, none⟩) hb).trans c2
    have c3 : wD.cell? ⟨b, o + 3, none⟩ = some (.int .i64 x.dst) := (HB9.cell (p := ⟨b, o + 3, none⟩) hb).trans c3
    have c4 : wD.cell? ⟨b, o + 4, none⟩ = some (.int .i64 x.index) := (HB9.cell (p := ⟨b, o + 4, none⟩) hb).trans c4
    have c5 : wD.cell? ⟨b, o + 5, none⟩ = some (.int .i64 x.write.kind) := (HB9.cell (p := ⟨b, o + 5, none⟩) hb).trans c5
    have c6 : wD.cell? ⟨b, o + 5 + 1, none⟩ = some (.int .i64 x.write.id) := (HB9.cell (p := ⟨b, o + 5 + 1, none⟩) hb).trans c6
    have c7 : wD.cell? ⟨b, o + 5 + 2, none⟩ = some (.slice a x.write.vec.length d) := (HB9.cell (p := ⟨b, o + 5 + 2, none⟩) hb).trans c7
    have c8 : wD.cell? ⟨b, o + 5 + 3, none⟩ = some (.int .i64 x.write.aa) := (HB9.cell (p := ⟨b, o + 5 + 3, none⟩) hb).trans c8
    have c9 : wD.cell? ⟨b, o + 5 + 4, none⟩ = some (.int .i64 x.write.seq) := (HB9.cell (p := ⟨b, o + 5 + 4, none⟩) hb).trans c9
    have HWD := yh ((uh H).later HB9)
    replace hb : b < wD.heap.size := Nat.lt_of_lt_of_le hb HB9.size
    replace HB9 := yh HB9
    go_wp2_with fail
    refine (fu x.ae 1 999 wD).mono ?_
    rintro e w1 ⟨rfl, h1⟩
    subst w1
    cases d10 : (decide (1 ≤ x.ae) && decide (x.ae ≤ 999))
    ·
     have HF := yh ((uh HRS).trans (mY d10))
     clear d10
     go_wp2_with fail
     go_ret
     exact ⟨by rw [uh HF]; rfl, uh HB9⟩
    skip
    go_wp2_with fail
    refine (iq x.src wD).mono ?_
    rintro e w1 ⟨rfl, h1⟩
    subst w1
    cases d12 : (decide (1 ≤ x.src) && decide (x.src ≤ 5))
    ·
     have HF := yh ((uh HRS).trans (su d12))
     clear d12
     go_wp2_with fail
     go_ret
     exact ⟨by rw [uh HF]; rfl, uh HB9⟩
    skip
    go_wp2_with fail
    refine (iq x.dst wD).mono ?_
    rintro e w1 ⟨rfl, h1⟩
    subst w1
    cases d14 : (decide (1 ≤ x.dst) && decide (x.dst ≤ 5))
    ·
     have HF := yh ((uh HRS).trans (sw d14))
     clear d14
     go_wp2_with fail
     go_ret
     exact ⟨by rw [uh HF]; rfl, uh HB9⟩
    skip
    go_wp2_with fail
    refine (fu x.index 0 40 wD).mono ?_
    rintro e w1 ⟨rfl, h1⟩
    subst w1
    cases d16 : (decide (0 ≤ x.index) && decide (x.index ≤ 40))
    ·
     have HF := yh ((uh HRS).trans (mZ d16))
     clear d16
     go_wp2_with fail
     go_ret
     exact ⟨by rw [uh HF]; rfl, uh HB9⟩
    skip
    cases e5 : (x.index == 0)
    ·
     have HF : Hid (aL x = wF x.write) := (uh HRS).trans ((uE d10 d12 d14 d16 (Or.inr e5)).trans (if_neg (by simpa using e2)))
     clear d10 d12 d14 d16
     go_wp2_with fail
     refine (jG b (o + 5) x.write.kind x.write.id _ x.write.aa x.write.seq x.write.vec wD ⟨c5, c6, c7, c8, c9⟩ (ab.bc (uh HWD))).mono ?_
     rintro e w1 ⟨rfl, h1⟩
     subst w1
     go_wp2_with fail
     go_ret
     exact ⟨by rw [uh HF]; rfl, uh HB9⟩
    have HF : Hid (aL x = 3) := (uh HRS).trans (uA e2 e5)
    clear d10 d12 d14 d16
    go_wp2_with fail
    go_ret
    exact ⟨by rw [uh HF]; rfl, uh HB9⟩
   cases e3 : decide (mQ x.write)
   ·
    have HF := yh (uO e2 e3)
    go_upto_region 3 with fail
    refine wZz (fun w' => Below wc.heap.size wc w') (Below.refl _ _).drew (fun zq => ?_)
    generalize wc.drew = wD at zq ⊢
    refine tkH 0 zq ?_
    refine tkH 1 zq ?_
    refine tkH 2 zq ?_
    refine tkJ 3 (v := ?vd3_4) ?hd3_4 zq ?rd3_4
    case hd3_4 =>
     intro wS hSw
     have q0 := cZ hSw hb c0
     clear hSw
     exact fZ
    refine rdH 4 (fun K hK => ?_)
    go_simp
    go_at_call 58
    refine (fu x.kind 1 2 _).mono ?_
    rintro e w1 ⟨rfl, h1⟩
    subst w1
    rw [d1]
    try go_wp2_with fail
    refine hK.out _ _ zq (fun zq => ?_)
    clear hK K
    try simp only [Act.put, pz, py, px]
    refine tkH 5 zq ?_
    refine tkH 6 zq ?_
    refine tkH 7 zq ?_
    refine tkH 8 zq ?_
    refine tkH 9 zq ?_
    refine tkJ 10 (v := ?vd10_10) ?hd10_10 zq ?rd10_10
    case hd10_10 =>
     intro wS hSw
     have q2 := cZ hSw hb c2
     clear hSw
     exact fZ
    refine tkH 11 zq ?_
    refine tkH 12 zq ?_
    refine tkH 13 zq ?_
    refine tkJ 14 (v := ?vd14_14) ?hd14_14 zq ?rd14_14
    case hd14_14 =>
     intro wS hSw
     have q3 := cZ hSw hb c3
     clear hSw
     exact fZ
    refine tkH 15 zq ?_
    refine tkH 16 zq ?_
    refine tkH 17 zq ?_
    refine tkH 18 zq ?_
    refine tkH 19 zq ?_
    refine tkH 20 zq ?_
    refine tkH 21 zq ?_
    refine tkH 22 zq ?_
    refine tkH 23 zq ?_
    refine dZ ?_
    have HB9 := yh zq
    clear zq
    go_wp2_with fail
    go_ret
    exact ⟨by rw [uh HF]; rfl, uh HB9⟩
   have HRS := yh (rF d1 e1 e3)
   go_upto_region 3 with fail
   refine wZz (fun w' => Below wc.heap.size wc w') (Below.refl _ _).drew (fun zq => ?_)
   generalize wc.drew = wD at zq ⊢
   refine tkH 0 zq ?_
   refine tkH 1 zq ?_
   refine tkH 2 zq ?_
   refine tkJ 3 (v := ?ve3_4) ?he3_4 zq ?re3_4
   case he3_4 =>
    intro wS hSw
    have q0 := cZ hSw hb c0
    clear hSw
    exact fZ
   refine rdH 4 (fun K hK => ?_)
   go_simp
   go_at_call 58
   refine (fu x.kind 1 2 _).mono ?_
   rintro e w1 ⟨rfl, h1⟩
   subst w1
   rw [d1]
   try go_wp2_with fail
   refine hK.out _ _ zq (fun zq => ?_)
   clear hK K
   try simp only [Act.put, pz, py, px]
   refine tkH 5 zq ?_
   refine tkH 6 zq ?_
   refine tkH 7 zq ?_
   refine tkH 8 zq ?_
   refine tkH 9 zq ?_
   refine tkJ 10 (v := ?ve10_10) ?he10_10 zq ?re10_10
   case he10_10 =>
    intro wS hSw
    have q2 := cZ hSw hb c2
    clear hSw
    exact fZ
   refine tkH 11 zq ?_
   refine tkH 12 zq ?_
   refine tkH 13 zq ?_
   refine tkJ 14 (v := ?ve14_14) ?he14_14 zq ?re14_14
   case he14_14 =>
    intro wS hSw
    have q3 := cZ hSw hb c3
    clear hSw
    exact fZ
   refine tkH 15 zq ?_
   refine tkH 16 zq ?_
   refine tkH 17 zq ?_
   refine tkH 18 zq ?_
   refine tkH 19 zq ?_
   refine tkH 20 zq ?_
   refine tkH 21 zq ?_
   refine tkH 22 zq ?_
   refine tkH 23 zq ?_
   refine dZ ?_
   have HB9 := zq
   clear zq
   have c0 : wD.cell? ⟨b, o, none⟩ = some (.int .i64 x.kind) := (HB9.cell (p := ⟨b, o, none⟩) hb).trans c0
   have c1 : wD.cell? ⟨b, o + 1, none⟩ = some (.int .i64 x.ae) := (HB9.cell (p := ⟨b, o + 1, none⟩) hb).trans c1
   have c2 : wD.cell? ⟨b, o + 2, none⟩ = some (.int .i64 x.src) := (HB9.cell (p := ⟨b, o + 2, none⟩) hb).trans c2
   have c3 : wD.cell? ⟨b, o + 3, none⟩ = some (.int .i64 x.dst) := (HB9.cell (p := ⟨b, o + 3, none⟩) hb).trans c3
   have c4 : wD.cell? ⟨b, o + 4, none⟩ = some (.int .i64 x.index) := (HB9.cell (p := ⟨b, o + 4, none⟩) hb).trans c4
   have c5 : wD.cell? ⟨b, o + 5, none⟩ = some (.int .i64 x.write.kind) := (HB9.cell (p := ⟨b, o + 5, none⟩) hb).trans c5
   have c6 : wD.cell? ⟨b, o + 5 + 1, none⟩ = some (.int .i64 x.write.id) := (HB9.cell (p := ⟨b, o + 5 + 1, none⟩) hb).trans c6
   have c7 : wD.cell? ⟨b, o + 5 + 2, none⟩ = some (.slice a x.write.vec.length d) := (HB9.cell (p := ⟨b, o + 5 + 2, none⟩) hb).trans c7
   have c8 : wD.cell? ⟨b, o + 5 + 3, none⟩ = some (.int .i64 x.write.aa) := (HB9.cell (p := ⟨b, o + 5 + 3, none⟩) hb).trans c8
   have c9 : wD.cell? ⟨b, o + 5 + 4, none⟩ = some (.int .i64 x.write.seq) := (HB9.cell (p := ⟨b, o + 5 + 4, none⟩) hb).trans c9
   have HWD := yh ((uh H).later HB9)
   replace hb : b < wD.heap.size := Nat.lt_of_lt_of_le hb HB9.size
   replace HB9 := yh HB9
   go_wp2_with fail
   refine (fu x.ae 1 999 wD).mono ?_
   rintro e w1 ⟨rfl, h1⟩
   subst w1
   cases d12 : (decide (1 ≤ x.ae) && decide (x.ae ≤ 999))
   ·
    have HF := yh ((uh HRS).trans (mY d12))
    clear d12
    go_wp2_with fail
    go_ret
    exact ⟨by rw [uh HF]; rfl, uh HB9⟩
   skip
   go_wp2_with fail
   refine (iq x.src wD).mono ?_
   rintro e w1 ⟨rfl, h1⟩
   subst w1
   cases d14 : (decide (1 ≤ x.src) && decide (x.src ≤ 5))
   ·
    have HF := yh ((uh HRS).trans (su d14))
    clear d14
    go_wp2_with fail
    go_ret
    exact ⟨by rw [uh HF]; rfl, uh HB9⟩
   skip
   go_wp2_with fail
   refine (iq x.dst wD).mono ?_
   rintro e w1 ⟨rfl, h1⟩
   subst w1
   cases d16 : (decide (1 ≤ x.dst) && decide (x.dst ≤ 5))
   ·
    have HF := yh ((uh HRS).trans (sw d16))
    clear d16
    go_wp2_with fail
    go_ret
    exact ⟨by rw [uh HF]; rfl, uh HB9⟩
   skip
   go_wp2_with fail
   refine (fu x.index 0 40 wD).mono ?_
   rintro e w1 ⟨rfl, h1⟩
   subst w1
   cases d18 : (decide (0 ≤ x.index) && decide (x.index ≤ 40))
   ·
    have HF := yh ((uh HRS).trans (mZ d18))
    clear d18
    go_wp2_with fail
    go_ret
    exact ⟨by rw [uh HF]; rfl, uh HB9⟩
   skip
   have HF : Hid (aL x = 0) := (uh HRS).trans ((uE d12 d14 d16 d18 (Or.inl e2)).trans (if_pos (beq_iff_eq.1 e2)))
   clear d12 d14 d16 d18
   go_wp2_with fail
   go_ret
   exact ⟨by rw [uh HF]; rfl, uh HB9⟩
  have HF := yh (tG e1)
  go_upto_region 3 with fail
  refine wZz (fun w' => Below wc.heap.size wc w') (Below.refl _ _).drew (fun zq => ?_)
  generalize wc.drew = wD at zq ⊢
  refine tkH 0 zq ?_
  refine tkH 1 zq ?_
  refine tkH 2 zq ?_
  refine tkJ 3 (v := ?vb3_4) ?hb3_4 zq ?rb3_4
  case hb3_4 =>
   intro wS hSw
   have q0 := cZ hSw hb c0
   clear hSw
   exact fZ
  refine rdH 4 (fun K hK => ?_)
  go_simp
  go_at_call 58
  refine (fu x.kind 1 2 _).mono ?_
  rintro e w1 ⟨rfl, h1⟩
  subst w1
  rw [d1]
  try go_wp2_with fail
  refine hK.out _ _ zq (fun zq => ?_)
  clear hK K
  try simp only [Act.put, pz, py, px]
  refine tkH 5 zq ?_
  refine tkH 6 zq ?_
  refine tkH 7 zq ?_
  refine tkH 8 zq ?_
  refine tkH 9 zq ?_
  refine tkJ 10 (v := ?vb10_10) ?hb10_10 zq ?rb10_10
  case hb10_10 =>
   intro wS hSw
   have q2 := cZ hSw hb c2
   clear hSw
   exact fZ
  refine tkH 11 zq ?_
  refine tkH 12 zq ?_
  refine tkH 13 zq ?_
  refine tkJ 14 (v := ?vb14_14) ?hb14_14 zq ?rb14_14
  case hb14_14 =>
   intro wS hSw
   have q3 := cZ hSw hb c3
   clear hSw
   exact fZ
  refine tkH 15 zq ?_
  refine tkH 16 zq ?_
  refine tkH 17 zq ?_
  refine skH 18 zq ?_
  refine skH 19 zq ?_
  refine skH 20 zq ?_
  refine skH 21 zq ?_
  refine skH 22 zq ?_
  refine tkH 23 zq ?_
  refine dZ ?_
  have HB9 := yh zq
  clear zq
  go_wp2_with fail
  go_ret
  exact ⟨by rw [uh HF]; rfl, uh HB9⟩
theorem qp (b off cap : Nat) (ws : List bP) (w : World) (h : (ab.sl ab.aQ).Reads w [.slice (some ⟨b, off, none⟩) ws.length cap] ws) (hbl : b < w.heap.size) (hn : ws.length ≤ 10000000) (hv : ∀ x ∈ ws, x.write.vec.length ≤ 100000000) :
  Calls Tryz.prog 150 #[.slice (some ⟨b, off, none⟩) ws.length cap] w fun e w' => ∃ v', e = .returned v' ∧ (∃ rows bls, bU ab.aQ w' w.heap.size 60 v' rows ws bls ∧ ∀ c ∈ bls.flatten, w.heap.size ≤ c) ∧ Below w.heap.size w w' := by
 have H := yh h
 have HV := yh hv
 clear h hv
 have HG0 : Hid (bU ab.aQ (w.alloc (.cells #[] 60)) w.heap.size 60 (.slice (some ⟨w.heap.size, 0, none⟩) 0 0) [] [] []) := bU.nil (World.ownsRow_lit w #[] 0 (Nat.le_refl _) (Nat.zero_le _) rfl)
 have HB0 := yh ((Below.refl w.heap.size w).alloc (Nat.le_refl _) (.cells #[] 60))
 go_enter Tryz.func150, Tryz.ntmps150
 go_wp2_with fail
 go_loopw [3, 4] (fun v i wr => ∃ (k : Nat) (rows : List (List Value)) (bls : List (List Nat)), k ≤ ws.length ∧ i = .int .i64 k ∧ bU ab.aQ wr w.heap.size 60 v rows (ws.take k) bls ∧ (∀ c ∈ bls.flatten, w.heap.size ≤ c) ∧ Below w.heap.size w wr) (fun _ i _ => ws.length - (intOf i).toNat)
 case atStart => exact ⟨0, [], [], Nat.zero_le _, rfl, uh HG0, by simp, uh HB0⟩
 case round =>
  obtain ⟨k, rows, bls, hk, rfl, hG, hSB, hB⟩ := hrel
  have HSB := yh hSB
  clear HG0 HB0 hSB
  by_cases hlt : k < ws.length
  ·
   obtain ⟨row, hc, hr⟩ := ab.bE ((uh H).later hB) hlt
   have hr2 := hr
   obtain ⟨a2, d2, rfl, R2w⟩ := cN hr
   have R2 := lj R2w
   clear R2w
   have c0 : wr.cell? ⟨b, off + k * 10, none⟩ = some (.int .i64 (ws[k]).kind) := hc 0 (by decide)
   have c1 : wr.cell? ⟨b, off + k * 10 + 1, none⟩ = some (.int .i64 (ws[k]).ae) := hc 1 (by decide)
   have c2 : wr.cell? ⟨b, off + k * 10 + 2, none⟩ = some (.int .i64 (ws[k]).src) := hc 2 (by decide)
   have c3 : wr.cell? ⟨b, off + k * 10 + 3, none⟩ = some (.int .i64 (ws[k]).dst) := hc 3 (by decide)
   have c4 : wr.cell? ⟨b, off + k * 10 + 4, none⟩ = some (.int .i64 (ws[k]).index) := hc 4 (by decide)
   have c5 : wr.cell? ⟨b, off + k * 10 + 5, none⟩ = some (.int .i64 (ws[k]).write.kind) := hc 5 (by decide)
   have c6 : wr.cell? ⟨b, off + k * 10 + 6, none⟩ = some (.int .i64 (ws[k]).write.id) := hc 6 (by decide)
   have c7 : wr.cell? ⟨b, off + k * 10 + 7, none⟩ = some (.slice a2 (ws[k]).write.vec.length d2) := hc 7 (by decide)
   have c8 : wr.cell? ⟨b, off + k * 10 + 8, none⟩ = some (.int .i64 (ws[k]).write.aa) := hc 8 (by decide)
   have c9 : wr.cell? ⟨b, off + k * 10 + 9, none⟩ = some (.int .i64 (ws[k]).write.seq) := hc 9 (by decide)
   have HWF : Hid ((Lit.int .i64 (ws[k]).kind).wf = true ∧ (Lit.int .i64 (ws[k]).ae).wf = true ∧ (Lit.int .i64 (ws[k]).src).wf = true ∧ (Lit.int .i64 (ws[k]).dst).wf = true ∧ (Lit.int .i64 (ws[k]).index).wf = true ∧ (Lit.int .i64 (ws[k]).write.kind).wf = true ∧ (Lit.int .i64 (ws[k]).write.id).wf = true ∧ (Lit.int .i64 (ws[k]).write.aa).wf = true ∧ (Lit.int .i64 (ws[k]).write.seq).wf = true) := by
    obtain ⟨_, hq⟩ := hr2
    obtain ⟨_, _, _, _, _, q0, q1, q2, q3, q4, q5, q6, _, q8, q9⟩ := eC.1 hq
    exact ⟨q0, q1, q2, q3, q4, q5, q6, q8, q9⟩
   have HT : Hid (ws.take (k + 1) = ws.take k ++ [ws[k]]) := List.take_succ_eq_append_getElem hlt
   have HLn : Hid ((ws.take k).length = k) := by show (ws.take k).length = k; rw [List.length_take]; omega
   have HN := yh (uh HV ws[k] (List.getElem_mem hlt))
   clear hc hr hr2
   generalize hx : ws[k] = x at *
   clear hx
   have hbr : b < wr.heap.size := Nat.lt_of_lt_of_le hbl hB.size
   have nb : Below wr.heap.size wr (wr.alloc (.cells #[.int .i64 x.kind, .int .i64 x.ae, .int .i64 x.src, .int .i64 x.dst, .int .i64 x.index, .int .i64 x.write.kind, .int .i64 x.write.id, .slice a2 x.write.vec.length d2, .int .i64 x.write.aa, .int .i64 x.write.seq] 60)) := (Below.refl _ _).alloc (Nat.le_refl _) _
   have bI : aA 0 #[.int .i64 x.kind, .int .i64 x.ae, .int .i64 x.src, .int .i64 x.dst, .int .i64 x.index, .int .i64 x.write.kind, .int .i64 x.write.id, .slice a2 x.write.vec.length d2, .int .i64 x.write.aa, .int .i64 x.write.seq] 60 (wr.alloc (.cells #[.int .i64 x.kind, .int .i64 x.ae, .int .i64 x.src, .int .i64 x.dst, .int .i64 x.index, .int .i64 x.write.kind, .int .i64 x.write.id, .slice a2 x.write.vec.length d2, .int .i64 x.write.aa, .int .i64 x.write.seq] 60)) wr.heap.size := aD (Nat.zero_le _)
   have HRW := yh (ab.bc R2).wf
   have HL := yh (iF _ x.write.vec _ ((ab.bc R2).later nb) (uh HN))
   have HG := yh (hG.later nb)
   have HB := yh (hB.trans (nb.mono hB.size))
   have HBI := yh bI
   have HZW : Hid (w.heap.size ≤ wr.heap.size) := hB.size
   have HOW : Hid (∀ c, u3.ownBlock = some c → c < wr.heap.size) := fun c hc => (hG.own.lt c hc).2
   have HSL : Hid (∀ c ∈ bls.flatten, c < wr.heap.size) := fun c hc => hG.sub_lt c hc
   clear R2 hG hB nb bI
   go_wp2_with fail
   clear c0 c1 c2 c3 c4 c5 c6 c7 c8 c9
   refine (uh HL).mono ?_
   generalize hW0 : wr.alloc (.cells #[.int .i64 x.kind, .int .i64 x.ae, .int .i64 x.src, .int .i64 x.dst, .int .i64 x.index, .int .i64 x.write.kind, .int .i64 x.write.id, .slice a2 x.write.vec.length d2, .int .i64 x.write.aa, .int .i64 x.write.seq] 60) = W0 at *
   clear hW0
   rintro e w2 ⟨v2, rfl, hO, hb⟩
   have hO2 := ab.eM (uh HRW) (by have := uh HN; omega) hO
   obtain ⟨ao2, cp2, rfl⟩ := aI hO2.reads
   obtain ⟨bl2, ⟨hl2, -, -⟩, hr2⟩ := hO2
   have bI2 := (uh HBI).ai hb
   have hZ0 : wr.heap.size < W0.heap.size := (uh HBI).lt
   have z0 : w2.cell? ⟨wr.heap.size, 0, none⟩ = some (.int .i64 x.kind) := bI2.at 0 _ rfl
   have z1 : w2.cell? ⟨wr.heap.size, 1, none⟩ = some (.int .i64 x.ae) := bI2.at 1 _ rfl
   have z2 : w2.cell? ⟨wr.heap.size, 2, none⟩ = some (.int .i64 x.src) := bI2.at 2 _ rfl
   have z3 : w2.cell? ⟨wr.heap.size, 3, none⟩ = some (.int .i64 x.dst) := bI2.at 3 _ rfl
   have z4 : w2.cell? ⟨wr.heap.size, 4, none⟩ = some (.int .i64 x.index) := bI2.at 4 _ rfl
   have z5 : w2.cell? ⟨wr.heap.size, 5, none⟩ = some (.int .i64 x.write.kind) := bI2.at 5 _ rfl
   have z6 : w2.cell? ⟨wr.heap.size, 6, none⟩ = some (.int .i64 x.write.id) := bI2.at 6 _ rfl
   have z7 : w2.cell? ⟨wr.heap.size, 7, none⟩ = some (.slice a2 x.write.vec.length d2) := bI2.at 7 _ rfl
   have z8 : w2.cell? ⟨wr.heap.size, 8, none⟩ = some (.int .i64 x.write.aa) := bI2.at 8 _ rfl
   have z9 : w2.cell? ⟨wr.heap.size, 9, none⟩ = some (.int .i64 x.write.seq) := bI2.at 9 _ rfl
   have f2 := bI2.soft 7
   have l2 := bI2.lt
   have hE : Ext (fun c => c = wr.heap.size) w2 (w2.setCell ⟨wr.heap.size, 7, none⟩ (.slice ao2 x.write.vec.length cp2)) := (Ext.refl (fun c => c = wr.heap.size) w2).setCell ⟨wr.heap.size, 7, none⟩ _ rfl
   have hl3 : ab.aQ.bg (w2.setCell ⟨wr.heap.size, 7, none⟩ (.slice ao2 x.write.vec.length cp2)) [.int .i64 x.kind, .int .i64 x.ae, .int .i64 x.src, .int .i64 x.dst, .int .i64 x.index, .int .i64 x.write.kind, .int .i64 x.write.id, .slice ao2 x.write.vec.length cp2, .int .i64 x.write.aa, .int .i64 x.write.seq] x bl2 := eC.2 ⟨ao2, cp2, bl2, rfl, rfl, (uh HWF).1, (uh HWF).2.1, (uh HWF).2.2.1, (uh HWF).2.2.2.1, (uh HWF).2.2.2.2.1, (uh HWF).2.2.2.2.2.1, (uh HWF).2.2.2.2.2.2.1, (ab.sl ab.int).ai hl2 (fun c hc => hE.block c ((ab.sl ab.int).lt hl2 c hc) (by have := (hr2 c hc).1; omega)), (uh HWF).2.2.2.2.2.2.2.1, (uh HWF).2.2.2.2.2.2.2.2⟩
   have hG2 := (uh HG).later hb
   have hoff : ∀ c ∈ bl2, u3.ownBlock ≠ some c := fun c hc e => by have h1 := (hr2 c hc).1; have h2 := uh HOW c e; omega
   have HB3 : Hid (Below w.heap.size w (w2.setCell ⟨wr.heap.size, 7, none⟩ (.slice ao2 x.write.vec.length cp2))) := ((uh HB).trans (hb.mono (uh HB).size)).setCell (by simpa using uh HZW) _
   have hG3 : bU ab.aQ (w2.setCell ⟨wr.heap.size, 7, none⟩ (.slice ao2 x.write.vec.length cp2)) w.heap.size 60 u3 rows (ws.take k) bls := hG2.kept (by
    obtain ⟨h1, h2⟩ := hG2.own
    refine ⟨h1, ?_⟩
    rcases h2 with h2 | ⟨gb, cap', cur, hv, hg, hh, r⟩
    ·
     exact Or.inl h2
    ·
     exact Or.inr ⟨gb, cap', cur, hv, hg, (hE.block gb (lt_of_block hh) (by have := uh HOW gb (by rw [hv]; rfl); omega)).trans hh, r⟩) (fun c hc => hE.block c (hG2.sub_lt c hc) (fun e => by
    have := uh HSL c hc
    omega))
   have hZ3 : w.heap.size ≤ (w2.setCell ⟨wr.heap.size, 7, none⟩ (.slice ao2 x.write.vec.length cp2)).heap.size := (uh HB3).size
   have hK : (ws.take k).length + 1 ≤ 100000000 := by rw [uh HLn]; omega
   have y0 : (w2.setCell ⟨wr.heap.size, 7, none⟩ (.slice ao2 x.write.vec.length cp2)).cell? ⟨wr.heap.size, 0, none⟩ = some (.int .i64 x.kind) := (bI2.set 7 _).at 0 _ rfl
   have y1 : (w2.setCell ⟨wr.heap.size, 7, none⟩ (.slice ao2 x.write.vec.length cp2)).cell? ⟨wr.heap.size, 1, none⟩ = some (.int .i64 x.ae) := (bI2.set 7 _).at 1 _ rfl
   have y2 : (w2.setCell ⟨wr.heap.size, 7, none⟩ (.slice ao2 x.write.vec.length cp2)).cell? ⟨wr.heap.size, 2, none⟩ = some (.int .i64 x.src) := (bI2.set 7 _).at 2 _ rfl
   have y3 : (w2.setCell ⟨wr.heap.size, 7, none⟩ (.slice ao2 x.write.vec.length cp2)).cell? ⟨wr.heap.size, 3, none⟩ = some (.int .i64 x.dst) := (bI2.set 7 _).at 3 _ rfl
   have y4 : (w2.setCell ⟨wr.heap.size, 7, none⟩ (.slice ao2 x.write.vec.length cp2)).cell? ⟨wr.heap.size, 4, none⟩ = some (.int .i64 x.index) := (bI2.set 7 _).at 4 _ rfl
   have y5 : (w2.setCell ⟨wr.heap.size, 7, none⟩ (.slice ao2 x.write.vec.length cp2)).cell? ⟨wr.heap.size, 5, none⟩ = some (.int .i64 x.write.kind) := (bI2.set 7 _).at 5 _ rfl
   have y6 : (w2.setCell ⟨wr.heap.size, 7, none⟩ (.slice ao2 x.write.vec.length cp2)).cell? ⟨wr.heap.size, 6, none⟩ = some (.int .i64 x.write.id) := (bI2.set 7 _).at 6 _ rfl
   have y7 : (w2.setCell ⟨wr.heap.size, 7, none⟩ (.slice ao2 x.write.vec.length cp2)).cell? ⟨wr.heap.size, 7, none⟩ = some (.slice ao2 x.write.vec.length cp2) := (bI2.set 7 _).at 7 _ rfl
   have y8 : (w2.setCell ⟨wr.heap.size, 7, none⟩ (.slice ao2 x.write.vec.length cp2)).cell? ⟨wr.heap.size, 8, none⟩ = some (.int .i64 x.write.aa) := (bI2.set 7 _).at 8 _ rfl
   have y9 : (w2.setCell ⟨wr.heap.size, 7, none⟩ (.slice ao2 x.write.vec.length cp2)).cell? ⟨wr.heap.size, 9, none⟩ = some (.int .i64 x.write.seq) := (bI2.set 7 _).at 9 _ rfl
   have HSB5 : Hid (∀ c ∈ (bls ++ [bl2]).flatten, w.heap.size ≤ c) := by
    intro c hc
    rw [List.flatten_append] at hc
    rcases List.mem_append.1 hc with hc | hc
    ·
     exact uh HSB c hc
    have h1 := (hr2 c (by simpa using hc)).1
    have h2 := uh HZW
    omega
   clear z0 z1 z2 z3 z4 z5 z6 z8 z9 bI2 hE hG2 hl2 hO HG HL HB HBI HRW HN HWF hb hr2 hZ0
   go_upto_region 7 with fail
   generalize w2.setCell ⟨wr.heap.size, 7, none⟩ (.slice ao2 x.write.vec.length cp2) = W3 at *
   go_wp2_with (at_builtin; refine ia hG3 hl3 hoff rfl _ _ rfl rfl rfl hK hZ3 ?_)
   intro g5 cap5 w5 hG5 hb5 hE5 hg5 hz5 hor5
   have HG5 := yh hG5
   have HB5 := yh ((uh HB3).trans hb5)
   clear hG3 hl3 hoff hZ3 hK hG5 hb5 hE5 hg5 hz5 hor5 HB3 y0 y1 y2 y3 y4 y5 y6 y7 y8 y9 z7 f2 l2
   go_wp2_with fail
   go_roundw
   case rel =>
    have hg := uh HG5
    rw [← uh HT] at hg
    try rw [uh HLn] at hg
    exact ⟨k + 1, _, _, by omega, by go_num, hg, uh HSB5, uh HB5⟩
   case measure => simp [intOf]; omega
  obtain rfl : k = ws.length := by omega
  rw [List.take_length] at hG
  have HG := yh hG
  have HB := yh hB
  clear hG hB H
  go_wp2_with fail
  go_ret
  exact ⟨_, rfl, ⟨_, _, uh HG, uh HSB⟩, uh HB⟩
theorem oh (v : Value) (ws : List bP) (w : World) (h : (ab.sl ab.aQ).Reads w [v] ws) (hn : ws.length ≤ 10000000) (hv : ∀ x ∈ ws, x.write.vec.length ≤ 100000000) :
  Calls Tryz.prog 150 #[v] w fun e w' => ∃ v', e = .returned v' ∧ (∃ rows bls, bU ab.aQ w' w.heap.size 60 v' rows ws bls ∧ ∀ c ∈ bls.flatten, w.heap.size ≤ c) ∧ Below w.heap.size w w' := by
 obtain ⟨ao, cap, rfl⟩ := aI h
 by_cases hp : 0 < ws.length
 ·
  obtain ⟨b, off, rfl, hbl⟩ := ab.aS h hp
  exact qp b off cap ws w h hbl hn hv
 obtain rfl : ws = [] := List.eq_nil_of_length_eq_zero (by omega)
 clear h hp hn hv
 have HB := yh ((Below.refl w.heap.size w).alloc (Nat.le_refl _) (.cells #[] 60))
 have HG : Hid (bU ab.aQ (w.alloc (.cells #[] 60)) w.heap.size 60 (.slice (some ⟨w.heap.size, 0, none⟩) 0 0) [] [] []) := bU.nil (World.ownsRow_lit w #[] 0 (Nat.le_refl _) (Nat.zero_le _) rfl)
 go_enter Tryz.func150, Tryz.ntmps150
 go_wp2_with fail
 refine wp_loop_rounds 1 ?_
 rw [rounds_succ]
 go_wp2_with fail
 go_ret
 exact ⟨_, rfl, ⟨_, _, uh HG, by simp⟩, uh HB⟩
theorem ab.gk.ext {α : Type} {A : ab α} {w w' : World} {v : Value} {xs : List α} {b : Nat} {r : List Nat} {S : Nat → Prop} (h : A.gk w v xs b r) (e : Ext S w w') (hb : ¬ S b) (hr : ∀ c ∈ r, ¬ S c) : A.gk w' v xs b r := by
 obtain ⟨hl, hn, hf⟩ := h
 have hlt := (ab.sl A).lt hl
 have hk : ∀ c ∈ b :: r, w'.heap[c]? = w.heap[c]? := fun c hc => e.block c (hlt c hc) (by
  rcases List.mem_cons.1 hc with rfl | hc
  ·
   exact hb
  exact hr c hc)
 exact ⟨(ab.sl A).ai hl hk, hn, fun o => (frozen_of_heap (hk b (by simp)) o).trans (hf o)⟩
structure pC where
 a3 : Option Addr
 d3 : Nat
 b : Nat
 off : Nat
 d4 : Nat
 a5 : Option Addr
 d5 : Nat
 a6 : Option Addr
 d6 : Nat
 l3 : List Nat
 r : List Nat
 l5 : List Nat
 l6 : List Nat
def pC.cells (q : pC) (x : ay) : List Value := [.int .i64 x.now, .int .i64 x.events, .int .i64 x.chain.ae, .slice q.a3 x.chain.ids.length q.d3, .slice (some ⟨q.b, q.off, none⟩) x.nodes.length q.d4, .slice q.a5 x.msgs.length q.d5, .slice q.a6 x.af.length q.d6]
structure mN (W : World) (q : pC) (x : ay) : Prop where
 w0 : (Lit.int .i64 x.now).wf = true
 w1 : (Lit.int .i64 x.events).wf = true
 w2 : (Lit.int .i64 x.chain.ae).wf = true
 i3 : (ab.sl ab.int).bg W [.slice q.a3 x.chain.ids.length q.d3] x.chain.ids q.l3
 i4 : ab.ax.gk W (.slice (some ⟨q.b, q.off, none⟩) x.nodes.length q.d4) x.nodes q.b q.r
 i5 : (ab.sl ab.aQ).bg W [.slice q.a5 x.msgs.length q.d5] x.msgs q.l5
 i6 : (ab.sl ab.ar).bg W [.slice q.a6 x.af.length q.d6] x.af q.l6
 n3 : q.b ∉ q.l3
 n5 : q.b ∉ q.l5
 n6 : q.b ∉ q.l6
def kC (W : World) (lo hi : Nat) (G : Nat → Prop) (cells : List Value) (x : ay) : Prop := ∃ q : pC, cells = q.cells x ∧ mN W q x ∧ (lo ≤ q.b ∧ q.b < hi) ∧ ¬ G q.b ∧ (∀ c ∈ q.l3, ¬ G c) ∧ (∀ c ∈ q.r, ¬ G c) ∧ (∀ c ∈ q.l5, ¬ G c) ∧ (∀ c ∈ q.l6, ¬ G c)
def uU (W : World) (lo hi : Nat) (cells : List Value) (x : ay) : Prop := ∃ q : pC, cells = q.cells x ∧ mN W q x ∧ (lo ≤ q.b ∧ q.b < hi) ∧ (∀ c ∈ q.l3, lo ≤ c ∧ c < hi) ∧ (∀ c ∈ q.r, lo ≤ c ∧ c < hi) ∧ (∀ c ∈ q.l5, lo ≤ c ∧ c < hi) ∧ (∀ c ∈ q.l6, lo ≤ c ∧ c < hi)
theorem mN.ext {W W' : World} {q : pC} {x : ay} {S : Nat → Prop} (h : mN W q x) (e : Ext S W W') (hs : ∀ c, c < W.heap.size → (c = q.b ∨ c ∈ q.l3 ∨ c ∈ q.r ∨ c ∈ q.l5 ∨ c ∈ q.l6) → ¬ S c) : mN W' q x := by
 have l3 := (ab.sl ab.int).lt h.i3
 have l4 := (ab.sl ab.ax).lt h.i4.1
 have l5 := (ab.sl ab.aQ).lt h.i5
 have l6 := (ab.sl ab.ar).lt h.i6
 exact ⟨h.w0, h.w1, h.w2, (ab.sl ab.int).ai h.i3 (fun c hc => e.block c (l3 c hc) (hs c (l3 c hc) (Or.inr (Or.inl hc)))),
  h.i4.ext e (hs q.b (l4 q.b (by simp)) (Or.inl rfl)) (fun c hc => hs c (l4 c (by simp [hc])) (Or.inr (Or.inr (Or.inl hc)))),
  (ab.sl ab.aQ).ai h.i5 (fun c hc => e.block c (l5 c hc) (hs c (l5 c hc) (Or.inr (Or.inr (Or.inr (Or.inl hc)))))),
  (ab.sl ab.ar).ai h.i6 (fun c hc => e.block c (l6 c hc) (hs c (l6 c hc) (Or.inr (Or.inr (Or.inr (Or.inr hc)))))), h.n3, h.n5, h.n6⟩
theorem mN.reads {W : World} {q : pC} {x : ay} (h : mN W q x) : ab.aF.Reads W (q.cells x) x :=
 ⟨q.l3 ++ ((q.b :: q.r) ++ (q.l5 ++ q.l6)), db.2 ⟨q.a3, q.d3, q.l3, _, q.d4, _, q.a5, q.d5, q.l5, q.a6, q.d6, q.l6, rfl, rfl, h.w0, h.w1, h.w2, h.i3, h.i4.1, h.i5, h.i6⟩⟩
theorem kC.ext {S : Nat → Prop} {W W' : World} {lo hi : Nat} {G : Nat → Prop} {cells : List Value} {x : ay} (h : kC W lo hi G cells x) (e : Ext S W W') (hs : ∀ k, k < W.heap.size → ¬ G k → ¬ S k) : kC W' lo hi G cells x := by
 obtain ⟨q, rfl, hl, hb, h4, h3, hr, h5, h6⟩ := h
 refine ⟨q, rfl, hl.ext e (fun c hc hm => hs c hc ?_), hb, h4, h3, hr, h5, h6⟩
 rcases hm with rfl | hm | hm | hm | hm
 ·
  exact h4
 ·
  exact h3 c hm
 ·
  exact hr c hm
 ·
  exact h5 c hm
 exact h6 c hm
theorem kC.dd {W : World} {lo hi B : Nat} {G : Nat → Prop} {cells : List Value} {x : ay} (h : kC W lo hi G cells x) (hB : ∀ c, ¬ G c → B ≤ c) : ab.aF.cr W cells x B W.heap.size := by
 obtain ⟨q, rfl, hl, hb, h4, h3, hr, h5, h6⟩ := h
 refine ⟨q.l3 ++ ((q.b :: q.r) ++ (q.l5 ++ q.l6)), db.2 ⟨q.a3, q.d3, q.l3, _, q.d4, _, q.a5, q.d5, q.l5, q.a6, q.d6, q.l6, rfl, rfl, hl.w0, hl.w1, hl.w2, hl.i3, hl.i4.1, hl.i5, hl.i6⟩, fun c hc => ?_⟩
 rcases List.mem_append.1 hc with hm | hm
 ·
  exact ⟨hB c (h3 c hm), (ab.sl ab.int).lt hl.i3 c hm⟩
 rcases List.mem_append.1 hm with hm | hm
 ·
  refine ⟨hB c ?_, (ab.sl ab.ax).lt hl.i4.1 c hm⟩
  rcases List.mem_cons.1 hm with rfl | hm
  ·
   exact h4
  exact hr c hm
 rcases List.mem_append.1 hm with hm | hm
 ·
  exact ⟨hB c (h5 c hm), (ab.sl ab.aQ).lt hl.i5 c hm⟩
 exact ⟨hB c (h6 c hm), (ab.sl ab.ar).lt hl.i6 c hm⟩
theorem m3 {W : World} {m : Bool} {cells : List Value} {x : ay} {lo hi : Nat} (h : ab.aF.cr W cells x lo hi) : ab.aE.cr W ([.int .i64 0] ++ ([.bool m] ++ cells)) ⟨0, m, x⟩ lo hi := by
 obtain ⟨bl, l, hb⟩ := h
 exact ⟨bl, ⟨[.int .i64 0], [.bool m] ++ cells, [], bl, rfl, by simp, ⟨rfl, (show (Lit.int .i64 0).wf = true by decide), rfl⟩, ⟨[.bool m], cells, [], bl, rfl, by simp, ⟨rfl, rfl⟩, l⟩⟩, hb⟩
theorem uU.reads {W : World} {lo hi : Nat} {cells : List Value} {x : ay} (h : uU W lo hi cells x) : ab.aF.Reads W cells x := by
 obtain ⟨q, rfl, hl, -⟩ := h
 exact hl.reads
theorem kC.bar {W : World} {lo hi : Nat} {G G' : Nat → Prop} {cells : List Value} {x : ay} (h : kC W lo hi G cells x) (hg : ∀ k, k < W.heap.size → G' k → G k) : kC W lo hi G' cells x := by
 obtain ⟨q, rfl, hl, hb, h4, h3, hr, h5, h6⟩ := h
 exact ⟨q, rfl, hl, hb, fun e => h4 (hg _ ((ab.sl ab.ax).lt hl.i4.1 _ (by simp)) e), fun c hm e => h3 c hm (hg c ((ab.sl ab.int).lt hl.i3 c hm) e), fun c hm e => hr c hm (hg c ((ab.sl ab.ax).lt hl.i4.1 c (by simp [hm])) e), fun c hm e => h5 c hm (hg c ((ab.sl ab.aQ).lt hl.i5 c hm) e), fun c hm e => h6 c hm (hg c ((ab.sl ab.ar).lt hl.i6 c hm) e)⟩
theorem kC.msgs {W : World} {lo hi : Nat} {G : Nat → Prop} {v3 v4 v5 v6 : Value} {x : ay} (h : kC W lo hi G [.int .i64 x.now, .int .i64 x.events, .int .i64 x.chain.ae, v3, v4, v5, v6] x) {a : Option Addr} {n d : Nat} {ms : List bP} {bl : List Nat} (hm : (ab.sl ab.aQ).bg W [.slice a n d] ms bl) (hb : ∀ c ∈ bl, (c < lo ∨ hi ≤ c) ∧ ¬ G c) : kC W lo hi G [.int .i64 x.now, .int .i64 x.events, .int .i64 x.chain.ae, v3, v4, .slice a n d, v6] { x with msgs := ms } := by
 obtain ⟨q, hq, hl, h1, h4, h3, hr, h5, h6⟩ := h
 simp only [pC.cells, List.cons.injEq, and_true, true_and] at hq
 obtain ⟨rfl, rfl, rfl, rfl⟩ := hq
 have hn : n = ms.length := by
  obtain ⟨ao, cp, e, -⟩ := hm
  simp only [List.cons.injEq, Value.slice.injEq, and_true] at e
  exact e.2.1
 subst hn
 exact ⟨⟨q.a3, q.d3, q.b, q.off, q.d4, a, d, q.a6, q.d6, q.l3, q.r, bl, q.l6⟩, rfl, ⟨hl.w0, hl.w1, hl.w2, hl.i3, hl.i4, hm, hl.i6, hl.n3, fun (hc : q.b ∈ bl) => by have := (hb _ hc).1; omega, hl.n6⟩, h1, h4, h3, hr, fun c hc => (hb c hc).2, h6⟩
theorem kC.oq {W : World} {lo hi : Nat} {G : Nat → Prop} {v3 v4 v5 v6 : Value} {x : ay} (h : kC W lo hi G [.int .i64 x.now, .int .i64 x.events, .int .i64 x.chain.ae, v3, v4, v5, v6] x) {a : Option Addr} {n d : Nat} {ms : List bj} {bl : List Nat} (hm : (ab.sl ab.ar).bg W [.slice a n d] ms bl) (hb : ∀ c ∈ bl, (c < lo ∨ hi ≤ c) ∧ ¬ G c) : kC W lo hi G [.int .i64 x.now, .int .i64 x.events, .int .i64 x.chain.ae, v3, v4, v5, .slice a n d] { x with af := ms } := by
 obtain ⟨q, hq, hl, h1, h4, h3, hr, h5, h6⟩ := h
 simp only [pC.cells, List.cons.injEq, and_true, true_and] at hq
 obtain ⟨rfl, rfl, rfl, rfl⟩ := hq
 have hn : n = ms.length := by
  obtain ⟨ao, cp, e, -⟩ := hm
  simp only [List.cons.injEq, Value.slice.injEq, and_true] at e
  exact e.2.1
 subst hn
 exact ⟨⟨q.a3, q.d3, q.b, q.off, q.d4, q.a5, q.d5, a, d, q.l3, q.r, q.l5, bl⟩, rfl, ⟨hl.w0, hl.w1, hl.w2, hl.i3, hl.i4, hl.i5, hm, hl.n3, hl.n5, fun (hc : q.b ∈ bl) => by have := (hb _ hc).1; omega⟩, h1, h4, h3, hr, h5, fun c hc => (hb c hc).2⟩
theorem ur {W : World} {lo hi k : Nat} {G : Nat → Prop} {v3 v4 v5 v6 : Value} {y : ay} (h : kC W lo hi G [.int .i64 y.now, .int .i64 y.events, .int .i64 y.chain.ae, v3, v4, v5, v6] y) (hk : k < y.nodes.length) :
  ∃ b off d4 row0, v4 = .slice (some ⟨b, off, none⟩) y.nodes.length d4 ∧ lo ≤ b ∧ b < hi ∧ b < W.heap.size ∧ ¬ G b ∧ cU W W b (off + k * 7) 7 row0 [] ∧ (∃ blk0, ab.ax.bg W row0 y.nodes[k] blk0 ∧ ∀ c ∈ blk0, c ≠ b ∧ ¬ G c) ∧ (∀ V, Ext (fun q => q = b) W V → ab.aH.Reads V [.int .i64 y.chain.ae, v3] y.chain) ∧
   ∀ (W2 : World) (row : List Value) (n : aV) (blk : List Nat), ab.ax.bg W2 row n blk → (∀ c ∈ blk, c ≠ b ∧ ¬ G c) → cU W W2 b (off + k * 7) 7 row [] → kC W2 lo hi G [.int .i64 y.now, .int .i64 y.events, .int .i64 y.chain.ae, v3, v4, v5, v6] (gX y k n) := by
 obtain ⟨q, hq, hl, h1, h4, h3, hr, h5, h6⟩ := h
 simp only [pC.cells, List.cons.injEq, and_true, true_and] at hq
 obtain ⟨rfl, rfl, rfl, rfl⟩ := hq
 obtain ⟨row0, hR0, blk0, hl0, hm0⟩ := hl.i4.row hk
 have hlt := (ab.sl ab.ax).lt hl.i4.1 q.b (by simp)
 refine ⟨q.b, q.off, q.d4, row0, rfl, h1.1, h1.2, hlt, h4, hR0, ⟨blk0, hl0, fun c hc => ⟨fun e => hl.i4.2.1 (e ▸ hm0 c hc), hr c (hm0 c hc)⟩⟩, fun V e => ?_, fun W2 row n blk hO hd hR => ?_⟩
 ·
  exact ⟨_, dF.2 ⟨q.a3, q.d3, _, rfl, rfl, hl.w2, (ab.sl ab.int).ai hl.i3 (fun c hc => e.block c ((ab.sl ab.int).lt hl.i3 c hc) (fun e2 => hl.n3 (e2 ▸ hc)))⟩⟩
 have hE : Ext (fun c => c = q.b) W W2 := hR.ext.mono (fun c _ e => by rcases e with e | e; exact e; cases e)
 obtain ⟨r', hA', hm', -⟩ := hl.i4.put hk (x' := n) hR hO (fun hc => (hd _ hc).1 rfl)
 have key : ∀ {α : Type} {A : ab α} {v : Value} {xs : List α} {bl : List Nat}, (ab.sl A).bg W [v] xs bl → q.b ∉ bl → (ab.sl A).bg W2 [v] xs bl := fun hli hni => (ab.sl _).ai hli (fun c hc => hE.block c ((ab.sl _).lt hli c hc) (fun e2 => hni (e2 ▸ hc)))
 refine ⟨⟨q.a3, q.d3, q.b, q.off, q.d4, q.a5, q.d5, q.a6, q.d6, q.l3, r', q.l5, q.l6⟩, by simp [pC.cells, gX], ⟨hl.w0, hl.w1, hl.w2, key hl.i3 hl.n3, by simpa [gX] using hA', key hl.i5 hl.n5, key hl.i6 hl.n6, hl.n3, hl.n5, hl.n6⟩, h1, h4, h3, fun c hc => ?_, h5, h6⟩
 rcases hm' c hc with e | e
 ·
  exact hr c e
 exact (hd c e).2
def wfM (n : aV) : Prop := (Lit.int .i64 n.id).wf = true ∧ (Lit.int .i64 n.ae).wf = true ∧ (Lit.int .i64 n.au).wf = true ∧ (Lit.int .i64 n.sure).wf = true ∧ (Lit.int .i64 n.clean).wf = true
theorem jk : (Tryz.prog.info? 63).map (fun i => (i.zero, i.size, i.bytes)) = some (some (.agg #[.int .i64 0, .bool false, .int .i64 0, .int .i64 0, .slice none 0 0, .int .i64 0, .int .i64 0]), 7, 72) := by kernel_rfl
theorem nT {w : World} {row : List Value} {x : aV} {bl : List Nat} (h : ab.ax.bg w row x bl) : (∀ u ∈ row, u.oneCell' = true) ∧ row.length = 1 * 7 := by
 obtain ⟨_, _, _, rfl, -⟩ := cD.1 h
 simp [Value.oneCell']
theorem oE {w1 : World} {base : Nat} {v : Value} {rows : List (List Value)} {xs : List aV} {bls : List (List Nat)} (hG : bU ab.ax w1 base 63 v rows xs bls) {row : List Value} {x : aV} {bl : List Nat} (hl : ab.ax.bg w1 row x bl) (hbl : ∀ b ∈ bl, v.ownBlock ≠ some b) {ops : Array Oper} {rest : List Oper} {o : Oper} {a : Act} {Q : Exit → Act → World → Prop} (hgd : o.guard = none) (s y : Operand)
  (ho : o.op = .call { callee := .builtin .append, args := #[s, y], argTypes := #[35, 35] }) (hs : a.eval s = v) (hy : a.eval y = .slice (some ⟨w1.heap.size, 0, none⟩) 1 1) (hn : xs.length + 1 ≤ 100000000) (hbase : base ≤ w1.heap.size)
  (h : ∀ g cap w', bU ab.ax w' base 63 (.slice (some ⟨g, 0, none⟩) (xs.length + 1) cap) (rows ++ [row]) (xs ++ [x]) (bls ++ [bl]) → Below base w1 w' → Ext (fun q => v.ownBlock = some q) w1 w' → g < w'.heap.size → w1.heap.size ≤ w'.heap.size → (v.ownBlock = some g ∨ w1.heap.size ≤ g) → wpList Tryz.prog ops Q rest (a.put o.dst (.slice (some ⟨g, 0, none⟩) (xs.length + 1) cap)) w') :
  wpList Tryz.prog ops Q (o :: rest) a (w1.alloc (.cells row.toArray 63)) := by
 obtain ⟨i0, hi0, hz0, hz1, hz2⟩ := info_parts jk
 obtain ⟨h1, hlen⟩ := nT hl
 refine wpList_append_lies _ hgd s y 35 ho base 63 i0 _ 7 72 Tryz.underlying35 hi0 hz0 hz1 hz2 rfl (by omega) v xs.length rows.flatten hs (hG.own.alloc _) ⟨w1.heap.size, 0, none⟩ 1 1 row hy hlen (World.news_of_block (cs := row.toArray) (t := 63) (fr := (0, 0)) (heap_alloc_new w1 _)) h1 (by omega) (by unfold maxLen; omega) (by omega) (by simp; omega) (w1.alloc (.cells row.toArray 63)).heap.size rfl ?_
 intro g cap w' h2 h3 h4 h5
 have hg := dV h3
 have hbw : Below base w1 w' := (Below.refl _ _).grown hg hbase (fun j hj => (hG.own.lt j hj).1)
 have hor : v.ownBlock = some g ∨ w1.heap.size ≤ g := by
  rcases h4 with h4 | h4
  ·
   exact Or.inl h4
  exact Or.inr (by rw [h4]; simp)
 exact h g cap w' (hG.snoc hl hbl h2 hg hor) hbw ⟨hbw.os, hbw.tape, hbw.output, hbw.size, fun k hk hn => hg.block k hk (fun e => hn e.symm)⟩ h5 hbw.size hor
theorem ez {w1 : World} {base : Nat} {v : Value} {rows : List (List Value)} {xs : List aV} {bls : List (List Nat)} (hG : bU ab.ax w1 base 63 v rows xs bls) {row : List Value} {x : aV} {bl : List Nat} (hl : ab.ax.bg w1 row x bl) (hbl : ∀ b ∈ bl, v.ownBlock ≠ some b) {ops : Array Oper} {o : Oper} {a : Act} {K : Act → World → Prop} {Q : Exit → Act → World → Prop} {E : Prop} (hgd : o.guard = none) (s y : Operand)
  (ho : o.op = .call { callee := .builtin .append, args := #[s, y], argTypes := #[35, 35] }) (hs : a.eval s = v) (hy : a.eval y = .slice (some ⟨w1.heap.size, 0, none⟩) 1 1) (hn : xs.length + 1 ≤ 100000000) (hbase : base ≤ w1.heap.size)
  (h : ∀ g cap w', bU ab.ax w' base 63 (.slice (some ⟨g, 0, none⟩) (xs.length + 1) cap) (rows ++ [row]) (xs ++ [x]) (bls ++ [bl]) → Below base w1 w' → Ext (fun q => v.ownBlock = some q) w1 w' → g < w'.heap.size → w1.heap.size ≤ w'.heap.size → (v.ownBlock = some g ∨ w1.heap.size ≤ g) → K (a.put o.dst (.slice (some ⟨g, 0, none⟩) (xs.length + 1) cap)) w') :
  if Region.wanted o (yielded ops a.tmps) = true then Oper.wp Tryz.prog o a (w1.alloc (.cells row.toArray 63)) K Q else E := by
 obtain ⟨i0, hi0, hz0, hz1, hz2⟩ := info_parts jk
 obtain ⟨h1, hlen⟩ := nT hl
 refine step_append_lies _ hgd s y 35 ho base 63 i0 _ 7 72 Tryz.underlying35 hi0 hz0 hz1 hz2 rfl (by omega) v xs.length rows.flatten hs (hG.own.alloc _) ⟨w1.heap.size, 0, none⟩ 1 1 row hy hlen (World.news_of_block (cs := row.toArray) (t := 63) (fr := (0, 0)) (heap_alloc_new w1 _)) h1 (by omega) (by unfold maxLen; omega) (by omega) (by simp; omega) (w1.alloc (.cells row.toArray 63)).heap.size rfl ?_
 intro g cap w' h2 h3 h4 h5
 have hg := dV h3
 have hbw : Below base w1 w' := (Below.refl _ _).grown hg hbase (fun j hj => (hG.own.lt j hj).1)
 have hor : v.ownBlock = some g ∨ w1.heap.size ≤ g := by
  rcases h4 with h4 | h4
  ·
   exact Or.inl h4
  exact Or.inr (by rw [h4]; simp)
 exact h g cap w' (hG.snoc hl hbl h2 hg hor) hbw ⟨hbw.os, hbw.tape, hbw.output, hbw.size, fun k hk hn => hg.block k hk (fun e => hn e.symm)⟩ h5 hbw.size hor
theorem ln {w : World} {c n : Int} {v : Value} {x : aV} {lo hi : Nat} (hc : -1000000000 ≤ c ∧ c ≤ 1000000000) (hn : -1000000000 ≤ n ∧ n ≤ 1000000000) (h : (ab.sl ab.ag).aN w [v] x.writes lo hi)
  (b0 : -1000000000 ≤ x.id ∧ x.id ≤ 1000000000) (b2 : -1000000000 ≤ x.ae ∧ x.ae ≤ 1000000000) (b3 : -1000000000 ≤ x.au ∧ x.au ≤ 1000000000) (b5 : -1000000000 ≤ x.sure ∧ x.sure ≤ 1000000000) (b6 : -1000000000 ≤ x.clean ∧ x.clean ≤ 1000000000) :
  ab.da.aN w [.int .i64 c, .int .i64 n, .int .i64 x.id, .bool x.up, .int .i64 x.ae, .int .i64 x.au, v, .int .i64 x.sure, .int .i64 x.clean] ⟨c, n, x⟩ lo hi := by
 obtain ⟨bl, O, i⟩ := h
 exact ⟨bl, iJ (x := ⟨c, n, x⟩) (gP O (aP b0) (aP b2) (aP b3) (aP b5) (aP b6) O.2.1) (aP hc) (aP hn) O.2.1, i⟩
theorem iR {w : World} {c : Int} {lo hi : Nat} (hc : -1000000000 ≤ c ∧ c ≤ 1000000000) : ab.da.aN w [.int .i64 c, .int .i64 0, .int .i64 0, .bool false, .int .i64 0, .int .i64 0, .slice none 0 0, .int .i64 0, .int .i64 0] (fp c) lo hi :=
 ln (x := iy) hc (by decide) fO (by decide) (by decide) (by decide) (by decide) (by decide)
theorem qk (x : aV) : -1000000000 ≤ cV x ∧ cV x ≤ 1000000000 := by
 have := gg x
 unfold cV
 split
 ·
  split <;> omega
 omega
theorem jJ (b off cap : Nat) (ws : List aj) (w : World) (h : (ab.sl ab.ag).Reads w [.slice (some ⟨b, off, none⟩) ws.length cap] ws) (hbl : b < w.heap.size) (hn : ws.length ≤ 200) :
  Calls Tryz.prog 194 #[.slice (some ⟨b, off, none⟩) ws.length cap] w fun e w' => e = .returned (.int .i64 (aR ws)) ∧ w' = w := by
 have HW : Hid (aR ws = cx ws) := by show aR ws = cx ws; rw [aR, if_neg (by omega)]
 have H := yh h
 clear h
 go_enter Tryz.func194, Tryz.ntmps194
 go_wp2_with fail
 go_loop [3] (fun i => ∃ k : Nat, k ≤ ws.length ∧ i = .int .i64 k ∧ (∀ j (hj : j < ws.length), j < k → wF ws[j] = 0)) (fun i => ws.length - (intOf i).toNat)
 case atStart => exact ⟨0, Nat.zero_le _, rfl, fun j _ hj => by omega⟩
 case round =>
  obtain ⟨k, hk, rfl, hz⟩ := hrel
  by_cases hlt : k < ws.length
  ·
   obtain ⟨row, hc, hr⟩ := ab.bE (uh H) hlt
   obtain ⟨a2, d2, rfl, R2⟩ := aM hr
   have c0 : w.cell? ⟨b, off + k * 5, none⟩ = some (.int .i64 (ws[k]).kind) := ((Below.refl w.heap.size w).cell (p := ⟨b, off + k * 5, none⟩) hbl).trans (hc 0 (by decide))
   have c1 : w.cell? ⟨b, off + k * 5 + 1, none⟩ = some (.int .i64 (ws[k]).id) := ((Below.refl w.heap.size w).cell (p := ⟨b, off + k * 5 + 1, none⟩) hbl).trans (hc 1 (by decide))
   have c2 : w.cell? ⟨b, off + k * 5 + 2, none⟩ = some (.slice a2 (ws[k]).vec.length d2) := ((Below.refl w.heap.size w).cell (p := ⟨b, off + k * 5 + 2, none⟩) hbl).trans (hc 2 (by decide))
   have c3 : w.cell? ⟨b, off + k * 5 + 3, none⟩ = some (.int .i64 (ws[k]).aa) := ((Below.refl w.heap.size w).cell (p := ⟨b, off + k * 5 + 3, none⟩) hbl).trans (hc 3 (by decide))
   have c4 : w.cell? ⟨b, off + k * 5 + 4, none⟩ = some (.int .i64 (ws[k]).seq) := ((Below.refl w.heap.size w).cell (p := ⟨b, off + k * 5 + 4, none⟩) hbl).trans (hc 4 (by decide))
   have HZ := yh hz
   have HAT : Hid (wF ws[k] ≠ 0 → aR ws = wF ws[k]) := fun hn => (uh HW).trans (iB ws k hlt hz hn)
   have HZ2 : Hid (wF ws[k] = 0 → ∀ j (hj : j < ws.length), j < k + 1 → wF ws[j] = 0) := by
    intro h0 j hj hjk
    by_cases hjk2 : j < k
    ·
     exact uh HZ j hj hjk2
    obtain rfl : j = k := by omega
    exact h0
   clear hc hr hz HZ
   generalize hx : ws[k] = x at *
   clear hx
   have L := jG b (off + k * 5) x.kind x.id _ x.aa x.seq x.vec w ⟨c0, c1, c2, c3, c4⟩ (ab.bc R2)
   rw [show aC x.kind x.id x.vec x.aa x.seq = wF x from rfl] at L
   have HL := yh L
   clear L R2 c0 c1 c2 c3 c4
   go_wp2_with fail
   refine (uh HL).mono ?_
   rintro e w ⟨rfl, rfl⟩
   by_cases hf : wF x = 0
   ·
    rw [hf]
    have HZ3 := yh (uh HZ2 hf)
    clear hf HZ2 HAT HL
    go_wp2_with fail
    go_round
    case rel => exact ⟨k + 1, by omega, by go_num, uh HZ3⟩
    case measure => simp [intOf]; omega
   have hd : (wF x != 0) = true := by simpa using hf
   have HG := yh (uh HAT hf)
   clear hf HZ2 HAT HL
   go_wp2_with fail
   go_ret
   exact ⟨by rw [uh HG]; rfl, rfl⟩
  have HG : Hid (aR ws = 0) := (uh HW).trans (eX ws fun j hj => hz j hj (by omega))
  clear hz H
  go_wp2_with fail
  go_ret
  exact ⟨by rw [uh HG]; rfl, rfl⟩
theorem om (v : Value) (ws : List aj) (w : World) (h : (ab.sl ab.ag).Reads w [v] ws) :
  Calls Tryz.prog 194 #[v] w fun e w' => e = .returned (.int .i64 (aR ws)) ∧ w' = w := by
 obtain ⟨ao, cap, rfl⟩ := aI h
 by_cases hn : ws.length ≤ 200
 ·
  by_cases hp : 0 < ws.length
  ·
   obtain ⟨b, off, rfl, hbl⟩ := ab.aS h hp
   exact jJ b off cap ws w h hbl hn
  obtain rfl : ws = [] := List.eq_nil_of_length_eq_zero (by omega)
  clear h hn hp
  go_enter Tryz.func194, Tryz.ntmps194
  go_wp2_with fail
  refine wp_loop_rounds 1 ?_
  rw [rounds_succ]
  go_wp2_with fail
  go_ret
  exact ⟨rfl, rfl⟩
 have e : aR ws = 2 := by rw [aR, if_pos (by omega)]
 rw [e]
 have hd : decide ((200 : Int) < (ws.length : Int)) = true := by simp; omega
 clear h e
 go_enter Tryz.func194, Tryz.ntmps194
 go_wp2_with fail
 go_ret
 exact ⟨rfl, rfl⟩
theorem vb (x y : Int) (w : World) : Calls Tryz.prog 65 #[.int .i64 x, .int .i64 y] w fun e w' => e = .returned (.int .i64 (max x y)) ∧ w' = w := by
 by_cases h : y < x
 ·
  have d : decide (y < x) = true := by simpa using h
  have e : max x y = x := by omega
  rw [e]
  go_enter Tryz.func65, Tryz.ntmps65
  go_wp2
  go_ret
  exact ⟨rfl, rfl⟩
 have d : decide (y < x) = false := by simpa using h
 have e : max x y = y := by omega
 rw [e]
 go_enter Tryz.func65, Tryz.ntmps65
 go_wp2
 go_ret
 exact ⟨rfl, rfl⟩
theorem oY (b off cap : Nat) (ws : List aj) (s : Int) (w : World) (h : (ab.sl ab.ag).Reads w [.slice (some ⟨b, off, none⟩) ws.length cap] ws) (hbl : b < w.heap.size) (hn : ws.length ≤ 10000000) :
  Calls Tryz.prog 154 #[.slice (some ⟨b, off, none⟩) ws.length cap, .int .i64 s] w fun e w' => e = .returned (.int .i64 (aT ws s)) ∧ w' = w := by
 have H := yh h
 clear h
 go_enter Tryz.func154, Tryz.ntmps154
 go_wp2_with fail
 go_loop [5, 6] (fun m i => ∃ k : Nat, k ≤ ws.length ∧ i = .int .i64 k ∧ m = .int .i64 (aT (ws.take k) s)) (fun _ i => ws.length - (intOf i).toNat)
 case atStart => exact ⟨0, Nat.zero_le _, rfl, rfl⟩
 case round =>
  obtain ⟨k, hk, rfl, rfl⟩ := hrel
  by_cases hlt : k < ws.length
  ·
   obtain ⟨row, hc, hr⟩ := ab.bE (uh H) hlt
   obtain ⟨a2, d2, rfl, R2⟩ := aM hr
   have c3 : w.cell? ⟨b, off + k * 5 + 3, none⟩ = some (.int .i64 (ws[k]).aa) := hc 3 (by decide)
   have c4 : w.cell? ⟨b, off + k * 5 + 4, none⟩ = some (.int .i64 (ws[k]).seq) := hc 4 (by decide)
   have HT := yh (jY ws k hlt s)
   clear hc hr R2
   generalize hx : ws[k] = x at *
   clear hx
   by_cases hs : x.aa = s
   ·
    have ds : (x.aa == s) = true := by simpa using hs
    have HL := yh (fun W => vb (aT (ws.take k) s) x.seq W)
    have HT2 : Hid (aT (ws.take (k + 1)) s = max (aT (ws.take k) s) x.seq) := by
     have := uh HT
     rw [if_pos hs] at this
     exact this
    clear HT hs
    generalize hl : aT (ws.take k) s = l at *
    clear hl
    go_wp2_with fail
    refine (uh HL _).mono ?_
    rintro e w2 ⟨rfl, rfl⟩
    go_wp2_with fail
    go_round
    case rel => exact ⟨k + 1, by omega, by go_num, by rw [uh HT2]⟩
    case measure => simp [intOf]; omega
   have ds : (x.aa == s) = false := by simpa using hs
   have HT2 : Hid (aT (ws.take (k + 1)) s = aT (ws.take k) s) := by
    have := uh HT
    rw [if_neg hs] at this
    exact this
   clear HT hs
   go_wp2_with fail
   go_round
   case rel => exact ⟨k + 1, by omega, by go_num, by rw [uh HT2]⟩
   case measure => simp [intOf]; omega
  obtain rfl : k = ws.length := by omega
  rw [List.take_length]
  clear H
  go_wp2_with fail
  go_ret
  exact ⟨rfl, rfl⟩
theorem pE (v : Value) (ws : List aj) (s : Int) (w : World) (h : (ab.sl ab.ag).Reads w [v] ws) (hn : ws.length ≤ 10000000) :
  Calls Tryz.prog 154 #[v, .int .i64 s] w fun e w' => e = .returned (.int .i64 (aT ws s)) ∧ w' = w := by
 obtain ⟨ao, cap, rfl⟩ := aI h
 by_cases hp : 0 < ws.length
 ·
  obtain ⟨b, off, rfl, hbl⟩ := ab.aS h hp
  exact oY b off cap ws s w h hbl hn
 obtain rfl : ws = [] := List.eq_nil_of_length_eq_zero (by omega)
 clear h hn hp
 go_enter Tryz.func154, Tryz.ntmps154
 go_wp2_with fail
 refine wp_loop_rounds 1 ?_
 rw [rounds_succ]
 go_wp2_with fail
 go_ret
 exact ⟨rfl, rfl⟩
theorem tR {α : Type} {A : ab α} {w : World} {xs : List α} {b off cap : Nat} (h : (ab.sl A).Reads w [.slice (some ⟨b, off, none⟩) xs.length cap] xs) (k : Nat) (hk : k ≤ xs.length) : (ab.sl A).Reads w [.slice (some ⟨b, off, none⟩) k cap] (xs.take k) := by
 have hl : (xs.take k).length = k := by rw [List.length_take]; omega
 obtain ⟨bl, ao, cap', he, ⟨h1, h2⟩, hor⟩ := h
 simp only [List.cons.injEq, Value.slice.injEq, true_and, and_true] at he
 obtain ⟨rfl, rfl⟩ := he
 rcases hor with ⟨rfl, -⟩ | ⟨b', off', rows, bls, he, hb, -, n1, n2, hj⟩
 ·
  obtain rfl : k = 0 := by simpa using hk
  exact ⟨[], _, _, rfl, ⟨by simp, by simp⟩, Or.inl ⟨rfl, rfl⟩⟩
 simp only [Option.some.injEq, Addr.mk.injEq, and_true] at he
 obtain ⟨rfl, rfl⟩ := he
 refine ⟨b :: (bls.take k).flatten, _, _, by rw [hl], ⟨by omega, by omega⟩, Or.inr ⟨b, off, rows.take k, bls.take k, rfl, hb, rfl, by simp [n1], by simp [n2], fun j q1 q2 q3 => ?_⟩⟩
 simp only [List.getElem_take]
 rw [List.length_take] at q1 q2 q3
 exact hj j (by omega) (by omega) (by omega)
theorem oP (b off cap : Nat) (ws : List aj) (w : World) (h : (ab.sl ab.ag).Reads w [.slice (some ⟨b, off, none⟩) ws.length cap] ws) (hn : ws.length ≤ 10000000) :
  Calls Tryz.prog 195 #[.slice (some ⟨b, off, none⟩) ws.length cap] w fun e w' => e = .returned (.bool (dk [] ws)) ∧ Below w.heap.size w w' := by
 have H := yh h
 have hcap : ws.length ≤ cap := by obtain ⟨bl, ao, cap', he, ⟨h1, h2⟩, hor⟩ := h; simp only [List.cons.injEq, Value.slice.injEq, true_and, and_true] at he; omega
 clear h
 go_enter Tryz.func195, Tryz.ntmps195
 go_wp2_with fail
 go_loopw [3] (fun i wr => ∃ k : Nat, k ≤ ws.length ∧ i = .int .i64 k ∧ (∀ j (hj : j < ws.length), j < k → aT ([] ++ ws.take j) (ws[j]).aa < (ws[j]).seq) ∧ Below w.heap.size w wr) (fun i _ => ws.length - (intOf i).toNat)
 case atStart => exact ⟨0, Nat.zero_le _, rfl, fun j _ hj => by omega, Below.refl _ _⟩
 case round =>
  obtain ⟨k, hk, rfl, hz, hB⟩ := hrel
  by_cases hlt : k < ws.length
  ·
   obtain ⟨row, hc, hr⟩ := ab.bE ((uh H).later hB) hlt
   obtain ⟨a2, d2, rfl, R2⟩ := aM hr
   have c3 : wr.cell? ⟨b, off + k * 5 + 3, none⟩ = some (.int .i64 (ws[k]).aa) := hc 3 (by decide)
   have c4 : wr.cell? ⟨b, off + k * 5 + 4, none⟩ = some (.int .i64 (ws[k]).seq) := hc 4 (by decide)
   have HP : Hid ((ab.sl ab.ag).Reads wr.drew [.slice (some ⟨b, off, none⟩) k cap] (ws.take k)) := tR ((uh H).later hB.drew) k hk
   have HAT : Hid ((ws[k]).seq ≤ aT (ws.take k) (ws[k]).aa → dk [] ws = false) := fun he => kh ws [] k hlt (by simpa using he)
   have HZ2 : Hid (aT (ws.take k) (ws[k]).aa < (ws[k]).seq → ∀ j (hj : j < ws.length), j < k + 1 → aT ([] ++ ws.take j) (ws[j]).aa < (ws[j]).seq) := by
    intro h0 j hj hjk
    by_cases hjk2 : j < k
    ·
     exact hz j hj hjk2
    obtain rfl : j = k := by omega
    simpa using h0
   have HB := yh hB
   clear hc hr R2 hz hB
   generalize hx : ws[k] = x at *
   clear hx
   have c3 : wr.drew.cell? ⟨b, off + k * 5 + 3, none⟩ = some (.int .i64 x.aa) := c3
   have c4 : wr.drew.cell? ⟨b, off + k * 5 + 4, none⟩ = some (.int .i64 x.seq) := c4
   have i1 : (0 : Int) ≤ (k : Int) := by omega
   have i2 : (k : Int) < (ws.length : Int) := by omega
   have i3 : (k : Int) ≤ (cap : Int) := by omega
   go_wp2_with fail
   refine wZz (fun w' => w' = wr.drew) rfl (fun zq => ?_)
   refine tkH 0 zq ?_
   refine tkH 1 zq ?_
   refine tkJ 2 (v := ?v2) ?h2 zq ?r2
   case h2 =>
    intro wS hSw
    have y3 : wS.cell? ⟨b, off + k * 5 + 3, none⟩ = some (.int .i64 x.aa) := by rw [hSw]; exact c3
    have y4 : wS.cell? ⟨b, off + k * 5 + 4, none⟩ = some (.int .i64 x.seq) := by rw [hSw]; exact c4
    clear hSw
    exact fZ
   refine tkH 3 zq ?_
   refine tkH 4 zq ?_
   refine tkJ 5 (v := ?v5) ?h5 zq ?r5
   case h5 =>
    intro wS hSw
    have y3 : wS.cell? ⟨b, off + k * 5 + 3, none⟩ = some (.int .i64 x.aa) := by rw [hSw]; exact c3
    have y4 : wS.cell? ⟨b, off + k * 5 + 4, none⟩ = some (.int .i64 x.seq) := by rw [hSw]; exact c4
    clear hSw
    exact fZ
   refine tkH 6 zq ?_
   refine tkJ 7 (v := ?v7) ?h7 zq ?r7
   case h7 =>
    intro wS hSw
    have y3 : wS.cell? ⟨b, off + k * 5 + 3, none⟩ = some (.int .i64 x.aa) := by rw [hSw]; exact c3
    have y4 : wS.cell? ⟨b, off + k * 5 + 4, none⟩ = some (.int .i64 x.seq) := by rw [hSw]; exact c4
    clear hSw
    exact fZ
   refine tkH 9 zq ?_
   refine tkH 10 zq ?_
   refine tkJ 11 (v := ?v11) ?h11 zq ?r11
   case h11 =>
    intro wS hSw
    have y3 : wS.cell? ⟨b, off + k * 5 + 3, none⟩ = some (.int .i64 x.aa) := by rw [hSw]; exact c3
    have y4 : wS.cell? ⟨b, off + k * 5 + 4, none⟩ = some (.int .i64 x.seq) := by rw [hSw]; exact c4
    clear hSw
    exact fZ
   refine tkH 12 zq ?_
   refine tkJ 13 (v := ?v13) ?h13 zq ?r13
   case h13 =>
    intro wS hSw
    have y3 : wS.cell? ⟨b, off + k * 5 + 3, none⟩ = some (.int .i64 x.aa) := by rw [hSw]; exact c3
    have y4 : wS.cell? ⟨b, off + k * 5 + 4, none⟩ = some (.int .i64 x.seq) := by rw [hSw]; exact c4
    clear hSw
    exact fZ
   refine rdH 8 (fun K hK => ?_)
   go_simp
   go_at_call 154
   refine (pE _ (ws.take k) x.aa _ (uh HP) (by rw [List.length_take]; omega)).mono ?_
   rintro e w3 ⟨rfl, rfl⟩
   try go_wp2_with fail
   refine hK.out _ _ rfl (fun zq => ?_)
   clear hK K
   try simp only [Act.put, pz, py, px]
   refine tkH 14 zq ?_
   refine dZ ?_
   clear zq c3 c4
   by_cases hq : x.seq ≤ aT (ws.take k) x.aa
   ·
    have hd : decide (x.seq ≤ aT (ws.take k) x.aa) = true := by simpa using hq
    have HG := yh (uh HAT hq)
    have HB2 := yh (uh HB).drew
    clear hq HAT HZ2 HP
    rw [hd]
    go_wp2_with fail
    go_ret
    exact ⟨by rw [uh HG]; first | done | rfl, uh HB2⟩
   ·
    have hd : decide (x.seq ≤ aT (ws.take k) x.aa) = false := by simpa using hq
    have HZ := yh (uh HZ2 (by omega))
    have HB2 := yh (uh HB).drew
    clear hq HAT HZ2 HP
    rw [hd]
    go_wp2_with fail
    go_roundw
    case rel => exact ⟨k + 1, by omega, by go_num, uh HZ, uh HB2⟩
    case measure => simp [intOf]; omega
  obtain rfl : k = ws.length := by omega
  have HG : Hid (dk [] ws = true) := iM ws [] fun j hj => hz j hj hj
  have HB := yh hB
  clear H hz hB
  go_wp2_with fail
  go_ret
  exact ⟨by rw [uh HG]; first | done | rfl, uh HB⟩
theorem uy (v : Value) (ws : List aj) (w : World) (h : (ab.sl ab.ag).Reads w [v] ws) (hn : ws.length ≤ 10000000) :
  Calls Tryz.prog 195 #[v] w fun e w' => e = .returned (.bool (dk [] ws)) ∧ Below w.heap.size w w' := by
 obtain ⟨ao, cap, rfl⟩ := aI h
 by_cases hp : 0 < ws.length
 ·
  obtain ⟨b, off, rfl, -⟩ := ab.aS h hp
  exact oP b off cap ws w h hn
 obtain rfl : ws = [] := List.eq_nil_of_length_eq_zero (by omega)
 clear h hn hp
 go_enter Tryz.func195, Tryz.ntmps195
 go_wp2_with fail
 refine wp_loop_rounds 1 ?_
 rw [rounds_succ]
 go_wp2_with fail
 go_ret
 exact ⟨rfl, Below.refl _ _⟩
end Go.Proofs.YtomphbenbnnfgaaGreatDoor

namespace Go.Proofs.YtomphbenbnnfgaaGreatDoor
end Go.Proofs.YtomphbenbnnfgaaGreatDoor

namespace Go.Proofs.YtomphbenbnnfgaaGreatDoor
open Go.RowKit
theorem qe (b off cap : Nat) (ws : List aj) (w : World) (h : (ab.sl ab.ag).Reads w [.slice (some ⟨b, off, none⟩) ws.length cap] ws) (hbl : b < w.heap.size) (hn : ws.length ≤ 10000000) (hv : ∀ x ∈ ws, x.vec.length ≤ 100000000) :
  Calls Tryz.prog 153 #[.slice (some ⟨b, off, none⟩) ws.length cap] w fun e w' => ∃ v', e = .returned v' ∧ (∃ rows bls, bU ab.ag w' w.heap.size 44 v' rows ws bls ∧ ∀ c ∈ bls.flatten, w.heap.size ≤ c) ∧ Below w.heap.size w w' := by
 have H := yh h
 have HV := yh hv
 clear h hv
 have HG0 : Hid (bU ab.ag (w.alloc (.cells #[] 44)) w.heap.size 44 (.slice (some ⟨w.heap.size, 0, none⟩) 0 0) [] [] []) := bU.nil (World.ownsRow_lit w #[] 0 (Nat.le_refl _) (Nat.zero_le _) rfl)
 have HB0 := yh ((Below.refl w.heap.size w).alloc (Nat.le_refl _) (.cells #[] 44))
 go_enter Tryz.func153, Tryz.ntmps153
 go_wp2_with fail
 go_loopw [3, 4] (fun v i wr => ∃ (k : Nat) (rows : List (List Value)) (bls : List (List Nat)), k ≤ ws.length ∧ i = .int .i64 k ∧ bU ab.ag wr w.heap.size 44 v rows (ws.take k) bls ∧ (∀ c ∈ bls.flatten, w.heap.size ≤ c) ∧ Below w.heap.size w wr) (fun _ i _ => ws.length - (intOf i).toNat)
 case atStart => exact ⟨0, [], [], Nat.zero_le _, rfl, uh HG0, by simp, uh HB0⟩
 case round =>
  obtain ⟨k, rows, bls, hk, rfl, hG, hSB, hB⟩ := hrel
  have HSB := yh hSB
  clear HG0 HB0 hSB
  by_cases hlt : k < ws.length
  ·
   obtain ⟨row, hc, hr⟩ := ab.bE ((uh H).later hB) hlt
   have hr2 := hr
   obtain ⟨a2, d2, rfl, R2⟩ := aM hr
   have c0 : wr.cell? ⟨b, off + k * 5, none⟩ = some (.int .i64 (ws[k]).kind) := hc 0 (by decide)
   have c1 : wr.cell? ⟨b, off + k * 5 + 1, none⟩ = some (.int .i64 (ws[k]).id) := hc 1 (by decide)
   have c2 : wr.cell? ⟨b, off + k * 5 + 2, none⟩ = some (.slice a2 (ws[k]).vec.length d2) := hc 2 (by decide)
   have c3 : wr.cell? ⟨b, off + k * 5 + 3, none⟩ = some (.int .i64 (ws[k]).aa) := hc 3 (by decide)
   have c4 : wr.cell? ⟨b, off + k * 5 + 4, none⟩ = some (.int .i64 (ws[k]).seq) := hc 4 (by decide)
   have HWF : Hid ((Lit.int .i64 (ws[k]).kind).wf = true ∧ (Lit.int .i64 (ws[k]).id).wf = true ∧ (Lit.int .i64 (ws[k]).aa).wf = true ∧ (Lit.int .i64 (ws[k]).seq).wf = true) := by
    obtain ⟨_, hq⟩ := hr2
    obtain ⟨_, _, _, _, _, q0, q1, _, q3, q4⟩ := ch.1 hq
    exact ⟨q0, q1, q3, q4⟩
   have HT : Hid (ws.take (k + 1) = ws.take k ++ [ws[k]]) := List.take_succ_eq_append_getElem hlt
   have HLn : Hid ((ws.take k).length = k) := by show (ws.take k).length = k; rw [List.length_take]; omega
   have HN := yh (uh HV ws[k] (List.getElem_mem hlt))
   clear hc hr hr2
   generalize hx : ws[k] = x at *
   clear hx
   have hbr : b < wr.heap.size := Nat.lt_of_lt_of_le hbl hB.size
   have nb : Below wr.heap.size wr (wr.alloc (.cells #[.int .i64 x.kind, .int .i64 x.id, .slice a2 x.vec.length d2, .int .i64 x.aa, .int .i64 x.seq] 44)) := (Below.refl _ _).alloc (Nat.le_refl _) _
   have bI : aA 0 #[.int .i64 x.kind, .int .i64 x.id, .slice a2 x.vec.length d2, .int .i64 x.aa, .int .i64 x.seq] 44 (wr.alloc (.cells #[.int .i64 x.kind, .int .i64 x.id, .slice a2 x.vec.length d2, .int .i64 x.aa, .int .i64 x.seq] 44)) wr.heap.size := aD (Nat.zero_le _)
   have HRW := yh (ab.bc R2).wf
   have HL := yh (iF _ x.vec _ ((ab.bc R2).later nb) (uh HN))
   have HG := yh (hG.later nb)
   have HB := yh (hB.trans (nb.mono hB.size))
   have HBI := yh bI
   have HZW : Hid (w.heap.size ≤ wr.heap.size) := hB.size
   have HOW : Hid (∀ c, u3.ownBlock = some c → c < wr.heap.size) := fun c hc => (hG.own.lt c hc).2
   have HSL : Hid (∀ c ∈ bls.flatten, c < wr.heap.size) := fun c hc => hG.sub_lt c hc
   clear R2 hG hB nb bI
   go_wp2_with fail
   clear c0 c1 c2 c3 c4
   refine (uh HL).mono ?_
   generalize hW0 : wr.alloc (.cells #[.int .i64 x.kind, .int .i64 x.id, .slice a2 x.vec.length d2, .int .i64 x.aa, .int .i64 x.seq] 44) = W0 at *
   clear hW0
   rintro e w2 ⟨v2, rfl, hO, hb⟩
   have hO2 := ab.eM (uh HRW) (by have := uh HN; omega) hO
   obtain ⟨ao2, cp2, rfl⟩ := aI hO2.reads
   obtain ⟨bl2, ⟨hl2, -, -⟩, hr2⟩ := hO2
   have bI2 := (uh HBI).ai hb
   have hZ0 : wr.heap.size < W0.heap.size := (uh HBI).lt
   have z0 : w2.cell? ⟨wr.heap.size, 0, none⟩ = some (.int .i64 x.kind) := bI2.at 0 _ rfl
   have z1 : w2.cell? ⟨wr.heap.size, 1, none⟩ = some (.int .i64 x.id) := bI2.at 1 _ rfl
   have z2 : w2.cell? ⟨wr.heap.size, 2, none⟩ = some (.slice a2 x.vec.length d2) := bI2.at 2 _ rfl
   have z3 : w2.cell? ⟨wr.heap.size, 3, none⟩ = some (.int .i64 x.aa) := bI2.at 3 _ rfl
   have z4 : w2.cell? ⟨wr.heap.size, 4, none⟩ = some (.int .i64 x.seq) := bI2.at 4 _ rfl
   have f2 := bI2.soft 2
   have l2 := bI2.lt
   have hE : Ext (fun c => c = wr.heap.size) w2 (w2.setCell ⟨wr.heap.size, 2, none⟩ (.slice ao2 x.vec.length cp2)) := (Ext.refl (fun c => c = wr.heap.size) w2).setCell ⟨wr.heap.size, 2, none⟩ _ rfl
   have hl3 : ab.ag.bg (w2.setCell ⟨wr.heap.size, 2, none⟩ (.slice ao2 x.vec.length cp2)) [.int .i64 x.kind, .int .i64 x.id, .slice ao2 x.vec.length cp2, .int .i64 x.aa, .int .i64 x.seq] x bl2 := ch.2 ⟨ao2, cp2, bl2, rfl, rfl, (uh HWF).1, (uh HWF).2.1, (ab.sl ab.int).ai hl2 (fun c hc => hE.block c ((ab.sl ab.int).lt hl2 c hc) (by have := (hr2 c hc).1; omega)), (uh HWF).2.2.1, (uh HWF).2.2.2⟩
   have hG2 := (uh HG).later hb
   have hoff : ∀ c ∈ bl2, u3.ownBlock ≠ some c := fun c hc e => by have h1 := (hr2 c hc).1; have h2 := uh HOW c e; omega
   have HB3 : Hid (Below w.heap.size w (w2.setCell ⟨wr.heap.size, 2, none⟩ (.slice ao2 x.vec.length cp2))) := ((uh HB).trans (hb.mono (uh HB).size)).setCell (by simpa using uh HZW) _
   have hG3 : bU ab.ag (w2.setCell ⟨wr.heap.size, 2, none⟩ (.slice ao2 x.vec.length cp2)) w.heap.size 44 u3 rows (ws.take k) bls := hG2.kept (by
    obtain ⟨h1, h2⟩ := hG2.own
    refine ⟨h1, ?_⟩
    rcases h2 with h2 | ⟨gb, cap', cur, hv, hg, hh, r⟩
    ·
     exact Or.inl h2
    ·
     exact Or.inr ⟨gb, cap', cur, hv, hg, (hE.block gb (lt_of_block hh) (by have := uh HOW gb (by rw [hv]; rfl); omega)).trans hh, r⟩) (fun c hc => hE.block c (hG2.sub_lt c hc) (fun e => by
    have := uh HSL c hc
    omega))
   have hZ3 : w.heap.size ≤ (w2.setCell ⟨wr.heap.size, 2, none⟩ (.slice ao2 x.vec.length cp2)).heap.size := (uh HB3).size
   have hK : (ws.take k).length + 1 ≤ 100000000 := by rw [uh HLn]; omega
   have y0 : (w2.setCell ⟨wr.heap.size, 2, none⟩ (.slice ao2 x.vec.length cp2)).cell? ⟨wr.heap.size, 0, none⟩ = some (.int .i64 x.kind) := (bI2.set 2 _).at 0 _ rfl
   have y1 : (w2.setCell ⟨wr.heap.size, 2, none⟩ (.slice ao2 x.vec.length cp2)).cell? ⟨wr.heap.size, 1, none⟩ = some (.int .i64 x.id) := (bI2.set 2 _).at 1 _ rfl
   have y2 : (w2.setCell ⟨wr.heap.size, 2, none⟩ (.slice ao2 x.vec.length cp2)).cell? ⟨wr.heap.size, 2, none⟩ = some (.slice ao2 x.vec.length cp2) := (bI2.set 2 _).at 2 _ rfl
   have y3 : (w2.setCell ⟨wr.heap.size, 2, none⟩ (.slice ao2 x.vec.length cp2)).cell? ⟨wr.heap.size, 3, none⟩ = some (.int .i64 x.aa) := (bI2.set 2 _).at 3 _ rfl
   have y4 : (w2.setCell ⟨wr.heap.size, 2, none⟩ (.slice ao2 x.vec.length cp2)).cell? ⟨wr.heap.size, 4, none⟩ = some (.int .i64 x.seq) := (bI2.set 2 _).at 4 _ rfl
   have HSB5 : Hid (∀ c ∈ (bls ++ [bl2]).flatten, w.heap.size ≤ c) := by
    intro c hc
    rw [List.flatten_append] at hc
    rcases List.mem_append.1 hc with hc | hc
    ·
     exact uh HSB c hc
    have h1 := (hr2 c (by simpa using hc)).1
    have h2 := uh HZW
    omega
   clear z0 z1 z3 z4 bI2 hE hG2 hl2 hO HG HL HB HBI HRW HN HWF hb hr2 hZ0
   go_upto_region 7 with fail
   generalize w2.setCell ⟨wr.heap.size, 2, none⟩ (.slice ao2 x.vec.length cp2) = W3 at *
   go_wp2_with (at_builtin; refine gE hG3 hl3 hoff rfl _ _ rfl rfl rfl hK hZ3 ?_)
   intro g5 cap5 w5 hG5 hb5 hE5 hg5 hz5 hor5
   have HG5 := yh hG5
   have HB5 := yh ((uh HB3).trans hb5)
   clear hG3 hl3 hoff hZ3 hK hG5 hb5 hE5 hg5 hz5 hor5 HB3 y0 y1 y2 y3 y4 z2 f2 l2
   go_wp2_with fail
   go_roundw
   case rel =>
    have hg := uh HG5
    rw [← uh HT] at hg
    try rw [uh HLn] at hg
    exact ⟨k + 1, _, _, by omega, by go_num, hg, uh HSB5, uh HB5⟩
   case measure => simp [intOf]; omega
  obtain rfl : k = ws.length := by omega
  rw [List.take_length] at hG
  have HG := yh hG
  have HB := yh hB
  clear hG hB H
  go_wp2_with fail
  go_ret
  exact ⟨_, rfl, ⟨_, _, uh HG, uh HSB⟩, uh HB⟩
theorem lZ (v : Value) (ws : List aj) (w : World) (h : (ab.sl ab.ag).Reads w [v] ws) (hn : ws.length ≤ 10000000) (hv : ∀ x ∈ ws, x.vec.length ≤ 100000000) :
  Calls Tryz.prog 153 #[v] w fun e w' => ∃ v', e = .returned v' ∧ (∃ rows bls, bU ab.ag w' w.heap.size 44 v' rows ws bls ∧ ∀ c ∈ bls.flatten, w.heap.size ≤ c) ∧ Below w.heap.size w w' := by
 obtain ⟨ao, cap, rfl⟩ := aI h
 by_cases hp : 0 < ws.length
 ·
  obtain ⟨b, off, rfl, hbl⟩ := ab.aS h hp
  exact qe b off cap ws w h hbl hn hv
 obtain rfl : ws = [] := List.eq_nil_of_length_eq_zero (by omega)
 clear h hp hn hv
 have HB := yh ((Below.refl w.heap.size w).alloc (Nat.le_refl _) (.cells #[] 44))
 have HG : Hid (bU ab.ag (w.alloc (.cells #[] 44)) w.heap.size 44 (.slice (some ⟨w.heap.size, 0, none⟩) 0 0) [] [] []) := bU.nil (World.ownsRow_lit w #[] 0 (Nat.le_refl _) (Nat.zero_le _) rfl)
 go_enter Tryz.func153, Tryz.ntmps153
 go_wp2_with fail
 refine wp_loop_rounds 1 ?_
 rw [rounds_succ]
 go_wp2_with fail
 go_ret
 exact ⟨_, rfl, ⟨_, _, uh HG, by simp⟩, uh HB⟩
structure dB (cs : Array Value) (w : World) (b o : Nat) : Prop where
 lt : b < w.heap.size
 cells : ∀ (i : Nat) (v : Value), cs[i]? = some v → w.cell? ⟨b, o + i, none⟩ = some v
variable {cs : Array Value} {w w' : World} {b o : Nat}
theorem dB.at (h : dB cs w b o) (i : Nat) (v : Value) (hi : cs[i]? = some v) : w.cell? ⟨b, o + i, none⟩ = some v := h.cells i v hi
theorem dB.ai (h : dB cs w b o) (hb : Below w.heap.size w w') : dB cs w' b o := ⟨Nat.lt_of_lt_of_le h.lt hb.size, fun i v hi => (hb.cell (p := ⟨b, o + i, none⟩) h.lt).trans (h.cells i v hi)⟩
theorem dB.drew (h : dB cs w b o) : dB cs w.drew b o := ⟨h.lt, h.cells⟩
theorem dB.vL {lo : Nat} {T : TypeId} (h : aA lo cs T w b) : dB cs w b 0 := ⟨h.lt, fun i v hi => by rw [Nat.zero_add]; exact h.at i v hi⟩
theorem dB.ofRow {α : Type} {A : ab α} {off k : Nat} {row : List Value} (hc : ∀ m, m < A.n → w.cell? ⟨b, off + k * A.n + m, none⟩ = row[m]?) (hl : row.length = A.n) (hb : b < w.heap.size) : dB row.toArray w b (off + k * A.n) := ⟨hb, fun i v hi => by
 have h1 : row[i]? = some v := by simpa using hi
 have h2 : i < A.n := by
  rw [← hl]
  rcases Nat.lt_or_ge i row.length with q | q
  ·
   exact q
  rw [List.getElem?_eq_none q] at h1; simp at h1
 rw [hc i h2, h1]⟩
theorem vE (x : Int) (w : World) : Calls Tryz.prog 145 #[.int .i64 x] w fun e w' => e = .returned (.bool (decide (1 ≤ x) && decide (x ≤ 5))) ∧ w' = w := by
 go_enter Tryz.func145, Tryz.ntmps145
 go_wp2_with fail
 refine (fu x 1 5 _).mono ?_
 rintro e w1 ⟨rfl, rfl⟩
 go_wp2_with fail
 go_ret
 exact ⟨rfl, rfl⟩
theorem sF (b o : Nat) (a4 : Option Addr) (d4 : Nat) (x : aV) (w : World) (hX : dB #[.int .i64 x.id, .bool x.up, .int .i64 x.ae, .int .i64 x.au, .slice a4 x.writes.length d4, .int .i64 x.sure, .int .i64 x.clean] w b o) (R4 : (ab.sl ab.ag).Reads w [.slice a4 x.writes.length d4] x.writes) :
  Calls Tryz.prog 146 #[.pointer (some ⟨b, o, none⟩)] w fun e w' => e = .returned (.int .i64 (aJ x)) ∧ Below w.heap.size w w' := by
 have hbig := R4.et
 have x0 := hX.at 0 _ rfl
 have x2 := hX.at 2 _ rfl
 have x3 := hX.at 3 _ rfl
 have x4 := hX.at 4 _ rfl
 simp only [List.getElem_toArray, List.getElem_cons_zero, List.getElem_cons_succ, Nat.add_zero] at x0 x2 x3 x4
 have xl := hX.lt
 have HX := yh hX
 have H4 := yh R4
 clear hX R4
 go_enter Tryz.func146, Tryz.ntmps146
 go_wp2_with fail
 refine (vE x.id w).mono ?_
 rintro e w1 ⟨rfl, h1⟩
 subst w1
 cases d1 : (decide (1 ≤ x.id) && decide (x.id ≤ 5))
 ·
  have HF := yh (uM d1)
  clear d1
  go_wp2_with fail
  go_ret
  exact ⟨by rw [uh HF]; rfl, Below.refl _ _⟩
 go_wp2_with fail
 refine (fu x.ae 0 999 w).mono ?_
 rintro e w1 ⟨rfl, h1⟩
 subst w1
 cases d2 : (decide (0 ≤ x.ae) && decide (x.ae ≤ 999))
 ·
  have HF := yh (m0 d2)
  clear d1 d2
  go_wp2_with fail
  go_ret
  exact ⟨by rw [uh HF]; rfl, Below.refl _ _⟩
 go_wp2_with fail
 refine (fu x.au 0 9999 w).mono ?_
 rintro e w1 ⟨rfl, h1⟩
 subst w1
 cases d3 : (decide (0 ≤ x.au) && decide (x.au ≤ 9999))
 ·
  have HF := yh (ny d3)
  clear d1 d2 d3
  go_wp2_with fail
  go_ret
  exact ⟨by rw [uh HF]; rfl, Below.refl _ _⟩
 have HF := yh (pO d1 d2 d3)
 clear d1 d2 d3
 by_cases hn : 40 < x.writes.length
 ·
  have ht : cJ x.writes = 2 := by rw [cJ, if_pos hn]
  have HF1 := yh ((uh HF).trans (if_pos (by rw [ht]; decide)))
  rw [ht] at HF1
  have hd : decide ((40 : Int) < (x.writes.length : Int)) = true := by simp; omega
  clear HF ht
  go_wp2_with fail
  go_ret
  exact ⟨by rw [uh HF1]; rfl, Below.refl _ _⟩
 have hn2 : x.writes.length ≤ 40 := by omega
 have HW := yh (om _ x.writes w (uh H4))
 have hwf : aR x.writes = cx x.writes := by rw [aR, if_neg (by omega)]
 rw [hwf] at HW
 clear hwf
 go_wp2_with fail
 refine (uh HW).mono ?_
 rintro e w1 ⟨rfl, hb1⟩
 subst w1
 by_cases hs : cx x.writes = 0
 ·
  rw [hs]
  have HO := yh (uy _ x.writes w (uh H4) (by omega))
  have HT : Hid (cJ x.writes = if dk [] x.writes = false then 6 else 0) := by show cJ x.writes = _; rw [cJ, if_neg hn, if_neg (by simpa using hs)]
  clear HW hs hn
  cases ho : dk [] x.writes
  ·
   rw [ho] at HO HT
   have HT6 : Hid (cJ x.writes = 6) := uh HT
   have HF1 := yh ((uh HF).trans (if_pos (by rw [uh HT6]; decide)))
   rw [uh HT6] at HF1
   clear ho HT HF HT6
   go_wp2_with fail
   refine (uh HO).mono ?_
   rintro e w2 ⟨rfl, hb⟩
   have HB := yh hb
   clear hb HO
   go_wp2_with fail
   go_ret
   exact ⟨by rw [uh HF1]; rfl, uh HB⟩
  rw [ho] at HO HT
  have HT0 : Hid (cJ x.writes = 0) := uh HT
  have HF1 := yh ((uh HF).trans (if_neg (by rw [uh HT0]; decide)))
  clear ho HT HF HT0
  go_wp2_with fail
  refine (uh HO).mono ?_
  rintro e w2 ⟨rfl, hb⟩
  have HB := yh hb
  have hX2 := (uh HX).ai hb
  have hl2 := hX2.lt
  clear hb HO x0 x2 x3 x4 xl HX H4
  go_wp2_with fail
  cases q4 : (decide (0 ≤ x.sure) && decide (x.sure ≤ (x.writes.length : Int)))
  ·
   have HF2 := yh ((uh HF1).trans (if_neg (by rw [q4]; simp)))
   clear HF1
   refine wZz (fun w' => w' = w2.drew) rfl (fun zq => ?_)
   refine tkH 0 zq ?_
   refine tkH 1 zq ?_
   refine tkH 2 zq ?_
   refine tkJ 3 (v := ?va3) ?ha3 zq ?ra3
   case ha3 =>
    intro wS hSw
    have y5 : wS.cell? ⟨b, o + 5, none⟩ = some (.int .i64 x.sure) := by rw [hSw]; exact hX2.at 5 _ rfl
    clear hSw
    exact fZ
   refine tkH 4 zq ?_
   refine tkH 5 zq ?_
   refine tkH 6 zq ?_
   refine tkJ 7 (v := ?va7) ?ha7 zq ?ra7
   case ha7 =>
    intro wS hSw
    have y4 : wS.cell? ⟨b, o + 4, none⟩ = some (.slice a4 x.writes.length d4) := by rw [hSw]; exact hX2.at 4 _ rfl
    clear hSw
    exact fZ
   refine tkH 8 zq ?_
   refine rdH 9 (fun K hK => ?_)
   go_simp
   go_at_call 58
   refine (fu x.sure 0 (x.writes.length : Int) _).mono ?_
   rintro e w3 ⟨rfl, rfl⟩
   rw [q4]
   try go_wp2_with fail
   refine hK.out _ _ rfl (fun zq => ?_)
   clear hK K
   try simp only [Act.put, pz, py, px]
   refine tkH 10 zq ?_
   refine tkH 11 zq ?_
   refine skH 12 zq ?_
   refine skH 13 zq ?_
   refine skH 14 zq ?_
   refine skH 15 zq ?_
   refine skH 16 zq ?_
   refine skH 17 zq ?_
   refine skH 18 zq ?_
   refine skH 19 zq ?_
   refine skH 20 zq ?_
   refine skH 21 zq ?_
   refine tkH 22 zq ?_
   refine dZ ?_
   clear zq
   go_wp2_with fail
   go_ret
   exact ⟨by rw [uh HF2]; rfl, (uh HB).drew⟩
  cases q5 : (decide (0 ≤ x.clean) && decide (x.clean ≤ x.sure))
  ·
   have HF2 := yh ((uh HF1).trans (if_neg (by rw [q5]; simp)))
   clear HF1
   refine wZz (fun w' => w' = w2.drew) rfl (fun zq => ?_)
   refine tkH 0 zq ?_
   refine tkH 1 zq ?_
   refine tkH 2 zq ?_
   refine tkJ 3 (v := ?vb3) ?hb3 zq ?rb3
   case hb3 =>
    intro wS hSw
    have y5 : wS.cell? ⟨b, o + 5, none⟩ = some (.int .i64 x.sure) := by rw [hSw]; exact hX2.at 5 _ rfl
    clear hSw
    exact fZ
   refine tkH 4 zq ?_
   refine tkH 5 zq ?_
   refine tkH 6 zq ?_
   refine tkJ 7 (v := ?vb7) ?hb7 zq ?rb7
   case hb7 =>
    intro wS hSw
    have y4 : wS.cell? ⟨b, o + 4, none⟩ = some (.slice a4 x.writes.length d4) := by rw [hSw]; exact hX2.at 4 _ rfl
    clear hSw
    exact fZ
   refine tkH 8 zq ?_
   refine rdH 9 (fun K hK => ?_)
   go_simp
   go_at_call 58
   refine (fu x.sure 0 (x.writes.length : Int) _).mono ?_
   rintro e w3 ⟨rfl, rfl⟩
   rw [q4]
   try go_wp2_with fail
   refine hK.out _ _ rfl (fun zq => ?_)
   clear hK K
   try simp only [Act.put, pz, py, px]
   refine tkH 10 zq ?_
   refine tkH 11 zq ?_
   refine tkH 12 zq ?_
   refine tkH 13 zq ?_
   refine tkH 14 zq ?_
   refine tkJ 15 (v := ?vb15) ?hb15 zq ?rb15
   case hb15 =>
    intro wS hSw
    have y6 : wS.cell? ⟨b, o + 6, none⟩ = some (.int .i64 x.clean) := by rw [hSw]; exact hX2.at 6 _ rfl
    clear hSw
    exact fZ
   refine tkH 16 zq ?_
   refine tkH 17 zq ?_
   refine tkH 18 zq ?_
   refine tkJ 19 (v := ?vb19) ?hb19 zq ?rb19
   case hb19 =>
    intro wS hSw
    have y5 : wS.cell? ⟨b, o + 5, none⟩ = some (.int .i64 x.sure) := by rw [hSw]; exact hX2.at 5 _ rfl
    clear hSw
    exact fZ
   refine rdH 20 (fun K hK => ?_)
   go_simp
   go_at_call 58
   refine (fu x.clean 0 x.sure _).mono ?_
   rintro e w3 ⟨rfl, rfl⟩
   rw [q5]
   try go_wp2_with fail
   refine hK.out _ _ rfl (fun zq => ?_)
   clear hK K
   try simp only [Act.put, pz, py, px]
   refine tkH 21 zq ?_
   refine tkH 22 zq ?_
   refine dZ ?_
   clear zq
   go_wp2_with fail
   go_ret
   exact ⟨by rw [uh HF2]; rfl, (uh HB).drew⟩
  have HF2 := yh ((uh HF1).trans (if_pos ⟨q4, q5⟩))
  clear HF1
  refine wZz (fun w' => w' = w2.drew) rfl (fun zq => ?_)
  refine tkH 0 zq ?_
  refine tkH 1 zq ?_
  refine tkH 2 zq ?_
  refine tkJ 3 (v := ?vc3) ?hc3 zq ?rc3
  case hc3 =>
   intro wS hSw
   have y5 : wS.cell? ⟨b, o + 5, none⟩ = some (.int .i64 x.sure) := by rw [hSw]; exact hX2.at 5 _ rfl
   clear hSw
   exact fZ
  refine tkH 4 zq ?_
  refine tkH 5 zq ?_
  refine tkH 6 zq ?_
  refine tkJ 7 (v := ?vc7) ?hc7 zq ?rc7
  case hc7 =>
   intro wS hSw
   have y4 : wS.cell? ⟨b, o + 4, none⟩ = some (.slice a4 x.writes.length d4) := by rw [hSw]; exact hX2.at 4 _ rfl
   clear hSw
   exact fZ
  refine tkH 8 zq ?_
  refine rdH 9 (fun K hK => ?_)
  go_simp
  go_at_call 58
  refine (fu x.sure 0 (x.writes.length : Int) _).mono ?_
  rintro e w3 ⟨rfl, rfl⟩
  rw [q4]
  try go_wp2_with fail
  refine hK.out _ _ rfl (fun zq => ?_)
  clear hK K
  try simp only [Act.put, pz, py, px]
  refine tkH 10 zq ?_
  refine tkH 11 zq ?_
  refine tkH 12 zq ?_
  refine tkH 13 zq ?_
  refine tkH 14 zq ?_
  refine tkJ 15 (v := ?vc15) ?hc15 zq ?rc15
  case hc15 =>
   intro wS hSw
   have y6 : wS.cell? ⟨b, o + 6, none⟩ = some (.int .i64 x.clean) := by rw [hSw]; exact hX2.at 6 _ rfl
   clear hSw
   exact fZ
  refine tkH 16 zq ?_
  refine tkH 17 zq ?_
  refine tkH 18 zq ?_
  refine tkJ 19 (v := ?vc19) ?hc19 zq ?rc19
  case hc19 =>
   intro wS hSw
   have y5 : wS.cell? ⟨b, o + 5, none⟩ = some (.int .i64 x.sure) := by rw [hSw]; exact hX2.at 5 _ rfl
   clear hSw
   exact fZ
  refine rdH 20 (fun K hK => ?_)
  go_simp
  go_at_call 58
  refine (fu x.clean 0 x.sure _).mono ?_
  rintro e w3 ⟨rfl, rfl⟩
  rw [q5]
  try go_wp2_with fail
  refine hK.out _ _ rfl (fun zq => ?_)
  clear hK K
  try simp only [Act.put, pz, py, px]
  refine tkH 21 zq ?_
  refine tkH 22 zq ?_
  refine dZ ?_
  clear zq q4 q5
  go_wp2_with fail
  cases hu : x.up
  ·
   rw [hu] at HF2
   cases e1 : (x.sure != (x.writes.length : Int))
   ·
    cases e2 : (x.clean != 0)
    ·
     cases e3 : (x.au != 0)
     ·
      have HF3 : Hid (aJ x = 0) := (uh HF2).trans (if_neg (by simp at e1 e2 e3; simp [dO, ← e1, e2, e3]))
      clear HF2
      refine wZz (fun w' => w' = w2.drew.drew) rfl (fun zq => ?_)
      refine tkH 0 zq ?_
      refine tkH 1 zq ?_
      refine tkH 2 zq ?_
      refine tkJ 3 (v := ?vd3) ?hd3 zq ?rd3
      case hd3 =>
       intro wS hSw
       have y1 : wS.cell? ⟨b, o + 1, none⟩ = some (.bool x.up) := by rw [hSw]; exact hX2.at 1 _ rfl
       clear hSw
       exact fZ
      refine tkH 4 zq ?_
      refine tkH 5 zq ?_
      refine tkH 6 zq ?_
      refine tkH 7 zq ?_
      refine tkH 8 zq ?_
      refine tkJ 9 (v := ?vd9) ?hd9 zq ?rd9
      case hd9 =>
       intro wS hSw
       have y5 : wS.cell? ⟨b, o + 5, none⟩ = some (.int .i64 x.sure) := by rw [hSw]; exact hX2.at 5 _ rfl
       clear hSw
       exact fZ
      refine tkH 10 zq ?_
      refine tkH 11 zq ?_
      refine tkH 12 zq ?_
      refine tkJ 13 (v := ?vd13) ?hd13 zq ?rd13
      case hd13 =>
       intro wS hSw
       have y4 : wS.cell? ⟨b, o + 4, none⟩ = some (.slice a4 x.writes.length d4) := by rw [hSw]; exact hX2.at 4 _ rfl
       clear hSw
       exact fZ
      refine tkH 14 zq ?_
      refine tkH 15 zq ?_
      refine tkH 16 zq ?_
      refine tkH 17 zq ?_
      refine tkH 18 zq ?_
      refine tkH 19 zq ?_
      refine tkJ 20 (v := ?vd20) ?hd20 zq ?rd20
      case hd20 =>
       intro wS hSw
       have y6 : wS.cell? ⟨b, o + 6, none⟩ = some (.int .i64 x.clean) := by rw [hSw]; exact hX2.at 6 _ rfl
       clear hSw
       exact fZ
      refine tkH 21 zq ?_
      refine tkH 22 zq ?_
      refine tkH 23 zq ?_
      refine tkH 24 zq ?_
      refine tkH 25 zq ?_
      refine tkH 26 zq ?_
      refine tkJ 27 (v := ?vd27) ?hd27 zq ?rd27
      case hd27 =>
       intro wS hSw
       have y3 : wS.cell? ⟨b, o + 3, none⟩ = some (.int .i64 x.au) := by rw [hSw]; exact hX2.at 3 _ rfl
       clear hSw
       exact fZ
      refine tkH 28 zq ?_
      refine tkH 29 zq ?_
      refine tkH 30 zq ?_
      refine dZ ?_
      clear zq
      go_wp2_with fail
      go_ret
      exact ⟨by rw [uh HF3]; rfl, (uh HB).drew.drew⟩
     have HF3 : Hid (aJ x = 1) := (uh HF2).trans (if_pos ⟨rfl, by simp at e3; simp [dO, e3]⟩)
     clear HF2
     refine wZz (fun w' => w' = w2.drew.drew) rfl (fun zq => ?_)
     refine tkH 0 zq ?_
     refine tkH 1 zq ?_
     refine tkH 2 zq ?_
     refine tkJ 3 (v := ?ve3) ?he3 zq ?re3
     case he3 =>
      intro wS hSw
      have y1 : wS.cell? ⟨b, o + 1, none⟩ = some (.bool x.up) := by rw [hSw]; exact hX2.at 1 _ rfl
      clear hSw
      exact fZ
     refine tkH 4 zq ?_
     refine tkH 5 zq ?_
     refine tkH 6 zq ?_
     refine tkH 7 zq ?_
     refine tkH 8 zq ?_
     refine tkJ 9 (v := ?ve9) ?he9 zq ?re9
     case he9 =>
      intro wS hSw
      have y5 : wS.cell? ⟨b, o + 5, none⟩ = some (.int .i64 x.sure) := by rw [hSw]; exact hX2.at 5 _ rfl
      clear hSw
      exact fZ
     refine tkH 10 zq ?_
     refine tkH 11 zq ?_
     refine tkH 12 zq ?_
     refine tkJ 13 (v := ?ve13) ?he13 zq ?re13
     case he13 =>
      intro wS hSw
      have y4 : wS.cell? ⟨b, o + 4, none⟩ = some (.slice a4 x.writes.length d4) := by rw [hSw]; exact hX2.at 4 _ rfl
      clear hSw
      exact fZ
     refine tkH 14 zq ?_
     refine tkH 15 zq ?_
     refine tkH 16 zq ?_
     refine tkH 17 zq ?_
     refine tkH 18 zq ?_
     refine tkH 19 zq ?_
     refine tkJ 20 (v := ?ve20) ?he20 zq ?re20
     case he20 =>
      intro wS hSw
      have y6 : wS.cell? ⟨b, o + 6, none⟩ = some (.int .i64 x.clean) := by rw [hSw]; exact hX2.at 6 _ rfl
      clear hSw
      exact fZ
     refine tkH 21 zq ?_
     refine tkH 22 zq ?_
     refine tkH 23 zq ?_
     refine tkH 24 zq ?_
     refine tkH 25 zq ?_
     refine tkH 26 zq ?_
     refine tkJ 27 (v := ?ve27) ?he27 zq ?re27
     case he27 =>
      intro wS hSw
      have y3 : wS.cell? ⟨b, o + 3, none⟩ = some (.int .i64 x.au) := by rw [hSw]; exact hX2.at 3 _ rfl
      clear hSw
      exact fZ
     refine tkH 28 zq ?_
     refine tkH 29 zq ?_
     refine tkH 30 zq ?_
     refine dZ ?_
     clear zq
     go_wp2_with fail
     go_ret
     exact ⟨by rw [uh HF3]; rfl, (uh HB).drew.drew⟩
    have HF3 : Hid (aJ x = 1) := (uh HF2).trans (if_pos ⟨rfl, by simp at e2; simp [dO, e2]⟩)
    clear HF2
    refine wZz (fun w' => w' = w2.drew.drew) rfl (fun zq => ?_)
    refine tkH 0 zq ?_
    refine tkH 1 zq ?_
    refine tkH 2 zq ?_
    refine tkJ 3 (v := ?vf3) ?hf3 zq ?rf3
    case hf3 =>
     intro wS hSw
     have y1 : wS.cell? ⟨b, o + 1, none⟩ = some (.bool x.up) := by rw [hSw]; exact hX2.at 1 _ rfl
     clear hSw
     exact fZ
    refine tkH 4 zq ?_
    refine tkH 5 zq ?_
    refine tkH 6 zq ?_
    refine tkH 7 zq ?_
    refine tkH 8 zq ?_
    refine tkJ 9 (v := ?vf9) ?hf9 zq ?rf9
    case hf9 =>
     intro wS hSw
     have y5 : wS.cell? ⟨b, o + 5, none⟩ = some (.int .i64 x.sure) := by rw [hSw]; exact hX2.at 5 _ rfl
     clear hSw
     exact fZ
    refine tkH 10 zq ?_
    refine tkH 11 zq ?_
    refine tkH 12 zq ?_
    refine tkJ 13 (v := ?vf13) ?hf13 zq ?rf13
    case hf13 =>
     intro wS hSw
     have y4 : wS.cell? ⟨b, o + 4, none⟩ = some (.slice a4 x.writes.length d4) := by rw [hSw]; exact hX2.at 4 _ rfl
     clear hSw
     exact fZ
    refine tkH 14 zq ?_
    refine tkH 15 zq ?_
    refine tkH 16 zq ?_
    refine tkH 17 zq ?_
    refine tkH 18 zq ?_
    refine tkH 19 zq ?_
    refine tkJ 20 (v := ?vf20) ?hf20 zq ?rf20
    case hf20 =>
     intro wS hSw
     have y6 : wS.cell? ⟨b, o + 6, none⟩ = some (.int .i64 x.clean) := by rw [hSw]; exact hX2.at 6 _ rfl
     clear hSw
     exact fZ
    refine tkH 21 zq ?_
    refine tkH 22 zq ?_
    refine tkH 23 zq ?_
    refine skH 24 zq ?_
    refine skH 25 zq ?_
    refine skH 26 zq ?_
    refine skH 27 zq ?_
    refine skH 28 zq ?_
    refine tkH 29 zq ?_
    refine tkH 30 zq ?_
    refine dZ ?_
    clear zq
    go_wp2_with fail
    go_ret
    exact ⟨by rw [uh HF3]; rfl, (uh HB).drew.drew⟩
   have HF3 : Hid (aJ x = 1) := (uh HF2).trans (if_pos ⟨rfl, by simp at e1; simp [dO, e1]⟩)
   clear HF2
   refine wZz (fun w' => w' = w2.drew.drew) rfl (fun zq => ?_)
   refine tkH 0 zq ?_
   refine tkH 1 zq ?_
   refine tkH 2 zq ?_
   refine tkJ 3 (v := ?vg3) ?hg3 zq ?rg3
   case hg3 =>
    intro wS hSw
    have y1 : wS.cell? ⟨b, o + 1, none⟩ = some (.bool x.up) := by rw [hSw]; exact hX2.at 1 _ rfl
    clear hSw
    exact fZ
   refine tkH 4 zq ?_
   refine tkH 5 zq ?_
   refine tkH 6 zq ?_
   refine tkH 7 zq ?_
   refine tkH 8 zq ?_
   refine tkJ 9 (v := ?vg9) ?hg9 zq ?rg9
   case hg9 =>
    intro wS hSw
    have y5 : wS.cell? ⟨b, o + 5, none⟩ = some (.int .i64 x.sure) := by rw [hSw]; exact hX2.at 5 _ rfl
    clear hSw
    exact fZ
   refine tkH 10 zq ?_
   refine tkH 11 zq ?_
   refine tkH 12 zq ?_
   refine tkJ 13 (v := ?vg13) ?hg13 zq ?rg13
   case hg13 =>
    intro wS hSw
    have y4 : wS.cell? ⟨b, o + 4, none⟩ = some (.slice a4 x.writes.length d4) := by rw [hSw]; exact hX2.at 4 _ rfl
    clear hSw
    exact fZ
   refine tkH 14 zq ?_
   refine tkH 15 zq ?_
   refine tkH 16 zq ?_
   refine skH 17 zq ?_
   refine skH 18 zq ?_
   refine skH 19 zq ?_
   refine skH 20 zq ?_
   refine skH 21 zq ?_
   refine tkH 22 zq ?_
   refine tkH 23 zq ?_
   refine skH 24 zq ?_
   refine skH 25 zq ?_
   refine skH 26 zq ?_
   refine skH 27 zq ?_
   refine skH 28 zq ?_
   refine tkH 29 zq ?_
   refine tkH 30 zq ?_
   refine dZ ?_
   clear zq
   go_wp2_with fail
   go_ret
   exact ⟨by rw [uh HF3]; rfl, (uh HB).drew.drew⟩
  have HF3 : Hid (aJ x = 0) := (uh HF2).trans (if_neg (by rw [hu]; simp))
  clear HF2
  refine wZz (fun w' => w' = w2.drew.drew) rfl (fun zq => ?_)
  refine tkH 0 zq ?_
  refine tkH 1 zq ?_
  refine tkH 2 zq ?_
  refine tkJ 3 (v := ?vh3) ?hh3 zq ?rh3
  case hh3 =>
   intro wS hSw
   have y1 : wS.cell? ⟨b, o + 1, none⟩ = some (.bool x.up) := by rw [hSw]; exact hX2.at 1 _ rfl
   clear hSw
   exact fZ
  refine tkH 4 zq ?_
  refine tkH 5 zq ?_
  refine skH 6 zq ?_
  refine skH 7 zq ?_
  refine skH 8 zq ?_
  refine skH 9 zq ?_
  refine skH 10 zq ?_
  refine skH 11 zq ?_
  refine skH 12 zq ?_
  refine skH 13 zq ?_
  refine skH 14 zq ?_
  refine skH 15 zq ?_
  refine skH 16 zq ?_
  refine skH 17 zq ?_
  refine skH 18 zq ?_
  refine skH 19 zq ?_
  refine skH 20 zq ?_
  refine skH 21 zq ?_
  refine skH 22 zq ?_
  refine skH 23 zq ?_
  refine skH 24 zq ?_
  refine skH 25 zq ?_
  refine skH 26 zq ?_
  refine skH 27 zq ?_
  refine skH 28 zq ?_
  refine skH 29 zq ?_
  refine tkH 30 zq ?_
  refine dZ ?_
  clear zq
  go_wp2_with fail
  go_ret
  exact ⟨by rw [uh HF3]; rfl, (uh HB).drew.drew⟩
 have hd : (cx x.writes != 0) = true := by simpa using hs
 have HT : Hid (cJ x.writes = cx x.writes) := by show cJ x.writes = _; rw [cJ, if_neg hn, if_pos hs]
 have HF1 := yh ((uh HF).trans (if_pos (by rw [uh HT]; exact hs)))
 rw [uh HT] at HF1
 clear HF HT hs HW
 generalize cx x.writes = c at *
 go_wp2_with fail
 go_ret
 exact ⟨by rw [uh HF1]; rfl, Below.refl _ _⟩
theorem oW {x : aV} (h : fY x) : ∀ y ∈ x.writes, y.vec.length ≤ 100000000 := fun y hy => by
 obtain ⟨-, -, -, hk⟩ := bW (h.ws y hy)
 rcases hk with ⟨-, hv⟩ | ⟨-, hv⟩
 ·
  have := (cy hv).1; omega
 rw [hv]; simp
theorem kA (w : World) (b o : Nat) (u : Value) : w.grownBy (w.setCell ⟨b, o, none⟩ u) (some b) :=
 ⟨rfl, rfl, rfl, by simp, fun k _ hk => heap_setCell_other w ⟨b, o, none⟩ k u (fun e => hk (by rw [e]))⟩
theorem m5 {α : Type} {A : ab α} {w : World} {base T : Nat} {v : Value} {rows : List (List Value)} {xs : List α} {bls : List (List Nat)} (h : bU A w base T v rows xs bls) (s i : Nat) (vs : List Value) (hs : s < base) (hb : ∀ c ∈ bls.flatten, base ≤ c) : bU A (aG w s i vs) base T v rows xs bls := by
 induction vs generalizing w i with
 | nil => exact h
 | cons u us ih => exact ih (h.grown (kA w s i u) hs hb) (i + 1)
theorem uY (cs : List Value) (x : aV) (w : World) (h : ab.ax.Reads w cs x) (hn : x.writes.length ≤ 1000000) (hv : ∀ y ∈ x.writes, y.vec.length ≤ 100000000) :
  Calls Tryz.prog 151 #[.agg cs.toArray] w fun e w' => ∃ a6 d6 rows bls, e = .returned (.agg #[.int .i64 x.id, .bool x.up, .int .i64 x.ae, .int .i64 x.au, .slice a6 x.writes.length d6, .int .i64 x.sure, .int .i64 x.clean]) ∧ bU ab.ag w' w.heap.size 44 (.slice a6 x.writes.length d6) rows x.writes bls ∧ (∀ c ∈ bls.flatten, w.heap.size ≤ c) ∧ Below w.heap.size w w' := by
 obtain ⟨a4, d4, rfl, R4⟩ := bG h
 have nb : Below w.heap.size w ((w.alloc (.cells #[.int .i64 x.id, .bool x.up, .int .i64 x.ae, .int .i64 x.au, .slice a4 x.writes.length d4, .int .i64 x.sure, .int .i64 x.clean] 63)).alloc (.cells #[.int .i64 0, .bool false, .int .i64 0, .int .i64 0, .slice none 0 0, .int .i64 0, .int .i64 0] 63)) := ((Below.refl _ _).alloc (Nat.le_refl _) _).alloc (by simp) _
 have bX : aA 0 #[.int .i64 x.id, .bool x.up, .int .i64 x.ae, .int .i64 x.au, .slice a4 x.writes.length d4, .int .i64 x.sure, .int .i64 x.clean] 63 ((w.alloc (.cells #[.int .i64 x.id, .bool x.up, .int .i64 x.ae, .int .i64 x.au, .slice a4 x.writes.length d4, .int .i64 x.sure, .int .i64 x.clean] 63)).alloc (.cells #[.int .i64 0, .bool false, .int .i64 0, .int .i64 0, .slice none 0 0, .int .i64 0, .int .i64 0] 63)) w.heap.size := (aD (Nat.zero_le _)).grow _
 have bR : aA 0 #[.int .i64 0, .bool false, .int .i64 0, .int .i64 0, .slice none 0 0, .int .i64 0, .int .i64 0] 63 ((w.alloc (.cells #[.int .i64 x.id, .bool x.up, .int .i64 x.ae, .int .i64 x.au, .slice a4 x.writes.length d4, .int .i64 x.sure, .int .i64 x.clean] 63)).alloc (.cells #[.int .i64 0, .bool false, .int .i64 0, .int .i64 0, .slice none 0 0, .int .i64 0, .int .i64 0] 63)) (w.heap.size + 1) := bm (Nat.zero_le _) (by simp)
 have HL := yh (lZ _ x.writes _ (R4.later nb) (by omega) hv)
 have HX := yh bX
 have HR := yh bR
 have HB := yh nb
 clear h nb bX bR R4 hv
 go_enter Tryz.func151, Tryz.ntmps151
 go_wp2_with fail
 generalize (w.alloc (.cells #[.int .i64 x.id, .bool x.up, .int .i64 x.ae, .int .i64 x.au, .slice a4 x.writes.length d4, .int .i64 x.sure, .int .i64 x.clean] 63)).alloc (.cells #[.int .i64 0, .bool false, .int .i64 0, .int .i64 0, .slice none 0 0, .int .i64 0, .int .i64 0] 63) = W0 at *
 refine (uh HL).mono ?_
 rintro e w1 ⟨v6, rfl, ⟨rows, bls, hG, hS⟩, hb⟩
 have hl := hG.fa (by omega) hS
 obtain ⟨a6, d6, rfl⟩ := aI hl.reads
 have bX1 := (uh HX).ai hb
 have bR1 := (uh HR).ai hb
 have hlo := (uh HR).lt
 obtain ⟨y0, y1, y2, y3, y4, y5, y6⟩ := aZ7 bX1
 obtain ⟨z0, z1, z2, z3, z4, z5, z6⟩ := aZ7 bR1
 have yf := aA.soft bX1
 have yl := aA.lt bX1
 have ff := aA.soft bR1
 have l0 := aA.lt bR1
 have HB1 := yh ((uh HB).trans (hb.mono (uh HB).size))
 have HO1 := yh hG
 have HS1 := yh hS
 have HZ0 := yh hb.size
 clear hb hG hS hl bX1 bR1 HL HX HR HB
 go_wp2_with fail
 refine bodyPost_ret (v := .agg #[.int .i64 x.id, .bool x.up, .int .i64 x.ae, .int .i64 x.au, .slice a6 x.writes.length d6, .int .i64 x.sure, .int .i64 x.clean]) (by simp [results, Tryz.results151, go_sem, z0, z1, z2, z3, z4, z5, z6]) rfl ?_
 have hB8 : Below w.heap.size w (w1.setCell ⟨w.heap.size, 4, none⟩ (.slice a6 x.writes.length d6)) := (uh HB1).setCell (by simp) _
 have hB9 := aB hB8 (w.heap.size + 1) 0 [.int .i64 x.id, .bool x.up, .int .i64 x.ae, .int .i64 x.au, .slice a6 x.writes.length d6, .int .i64 x.sure, .int .i64 x.clean] (by omega)
 have g1 := (uh HO1).grown (kA w1 w.heap.size 4 (.slice a6 x.writes.length d6)) (by omega) (uh HS1)
 have g2 := m5 g1 (w.heap.size + 1) 0 [.int .i64 x.id, .bool x.up, .int .i64 x.ae, .int .i64 x.au, .slice a6 x.writes.length d6, .int .i64 x.sure, .int .i64 x.clean] (by omega) (uh HS1)
 exact ⟨a6, d6, rows, bls, rfl, g2.lower (by omega), fun c hc => by have := uh HS1 c hc; omega, hB9⟩
end Go.Proofs.YtomphbenbnnfgaaGreatDoor
