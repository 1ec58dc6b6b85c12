/-
  Texts of this proof in one: ImplMsgF, ImplFaced, ImplNetF, ImplWF, OwnNode, ImplClone, CloneC, ImplCopied, CopyNs, OwnEntry, AppHit, LayMore, AppHitsL, LayPart, CloneH, CopyHs, ImplCopiedM, ImplWC, ImplDone, ImplStepped, FacePlain, CommPlain, StatePlain, OwnNodeResult, NodeFew, RowPut, WorldPut, WorldFew, NetFew, DropPlain, LosePlain, FinPlain, AuditPlain, RowIn.
  Their conditions stand in their theorems.
-/
import Derived.Test.YtecagllmonckgaaGreatIx06
import Derived.Test.YtecagllmonckgaaGreatIx08
import Derived.Deep.CutRange
import Derived.Test.YtecagllmonckgaaGreatIx00
import Derived.Defers
import Derived.Recover
import Derived.Laws.Pointers
import Derived.Test.YtecagllmonckgaaGreatIx01
import Derived.Test.YtecagllmonckgaaGreatChecked
import Derived.BigQuiet
import Derived.Deep.QuietTactic
import Derived.WalkSmall
import Derived.WalkKit
import Derived.Maps.AppendAt
import Derived.Test.YtecagllmonckgaaGreatIx05
set_option maxRecDepth 100000
set_option maxHeartbeats 4000000
namespace Go.Proofs.YtecagllmonckgaaGreat
open Go.RowKit
def dz (x : bm) : Bool := (decide (0 ≤ x.index) && decide (x.index ≤ 40)) && (x.kind == 2 || decide (0 < x.index))
theorem eD (a : Option Addr) (d : Nat) (x : bm) (w : World) :
  Calls Tryz.prog 259 #[.agg #[.int .i64 x.kind, .int .i64 x.ab, .int .i64 x.src, .int .i64 x.dst, .int .i64 x.index, .int .i64 x.write.kind, .int .i64 x.write.id, .slice a x.write.vec.length d, .int .i64 x.write.aa, .int .i64 x.write.seq]] w fun e w' => e = .returned (.bool (dz x)) ∧ Below w.heap.size w w' := by
 have HB : Hid (Below w.heap.size w (w.alloc (.cells #[.int .i64 x.kind, .int .i64 x.ab, .int .i64 x.src, .int .i64 x.dst, .int .i64 x.index, .int .i64 x.write.kind, .int .i64 x.write.id, .slice a x.write.vec.length d, .int .i64 x.write.aa, .int .i64 x.write.seq] 145))) := (Below.refl _ _).alloc (Nat.le_refl _) _
 have L := yh (cB x.index 40 (w.alloc (.cells #[.int .i64 x.kind, .int .i64 x.ab, .int .i64 x.src, .int .i64 x.dst, .int .i64 x.index, .int .i64 x.write.kind, .int .i64 x.write.id, .slice a x.write.vec.length d, .int .i64 x.write.aa, .int .i64 x.write.seq] 145)))
 cases d1 : (decide (0 ≤ x.index) && decide (x.index ≤ 40))
 ·
  have HI : Hid (dz x = false) := by show dz x = false; rw [dz, d1]; rfl
  rw [d1] at L
  clear d1
  go_enter Tryz.func259, Tryz.ntmps259
  go_wp2_with fail
  refine (uh L).mono ?_
  rintro e w1 ⟨rfl, h1⟩
  subst w1
  clear L
  go_wp2_with fail
  go_ret
  exact ⟨by rw [uh HI]; rfl, uh HB⟩
 rw [d1] at L
 cases d2 : (x.kind == 2)
 ·
  have HI : Hid (dz x = decide (0 < x.index)) := by show dz x = _; rw [dz, d1, d2]; rfl
  clear d1
  go_enter Tryz.func259, Tryz.ntmps259
  go_wp2_with fail
  refine (uh L).mono ?_
  rintro e w1 ⟨rfl, h1⟩
  subst w1
  clear L
  go_wp2_with fail
  go_ret
  exact ⟨by rw [uh HI]; rfl, uh HB⟩
 have HI : Hid (dz x = true) := by show dz x = _; rw [dz, d1, d2]; rfl
 clear d1
 go_enter Tryz.func259, Tryz.ntmps259
 go_wp2_with fail
 refine (uh L).mono ?_
 rintro e w1 ⟨rfl, h1⟩
 subst w1
 clear L
 go_wp2_with fail
 go_ret
 exact ⟨by rw [uh HI]; rfl, uh HB⟩
def dP : ai := ⟨0, 0, [], 0, 0⟩
theorem eW (y : ai) : bW y dP = true ↔ iO y := by
 constructor
 ·
  intro h
  simp only [bW, dP, Bool.and_eq_true, beq_iff_eq] at h
  exact ⟨h.1, h.2.1, h.2.2.1, h.2.2.2.1, by rw [of_decide_eq_true h.2.2.2.2]; rfl⟩
 rintro ⟨h1, h2, h3, h4, h5⟩
 have h6 : y.vec = [] := List.eq_nil_of_length_eq_zero h5
 simp only [bW, dP, Bool.and_eq_true, beq_iff_eq]
 exact ⟨h1, h2, h3, h4, decide_eq_true h6⟩
theorem hJ (w : World) : ad.ag.Reads w [.int .i64 0, .int .i64 0, .slice none 0 0, .int .i64 0, .int .i64 0] dP :=
 ⟨[], bO.2 ⟨none, 0, [], rfl, rfl, by decide, by decide, ⟨none, 0, rfl, ⟨by simp [dP], by simp [dP]⟩, Or.inl ⟨rfl, rfl⟩⟩, by decide, by decide⟩⟩
theorem kG {x : bm} (h : (x.kind == 1) = false) (h2 : (x.kind == 2) = false) : aw x = 1 := by
 have h1 : ¬ x.kind = 1 := by simpa using h
 have h3 : ¬ x.kind = 2 := by simpa using h2
 rw [aw, if_pos (Or.inl (by omega))]
theorem iy {x : bm} (h : (x.src != x.dst) = false) : aw x = 1 := by
 rw [aw, if_pos (Or.inr (Or.inl (by simpa using h)))]
theorem kP {x : bm} (h : (x.kind == 2) = true) (h2 : bW x.write dP = false) : aw x = 1 := by
 rw [aw, if_pos (Or.inr (Or.inr ⟨by simpa using h, fun q => by rw [(eW _).2 q] at h2; simp at h2⟩))]
def eo (x : bm) : Prop := (1 ≤ x.kind ∧ x.kind ≤ 2) ∧ x.src ≠ x.dst ∧ (x.kind = 2 → iO x.write)
theorem de {x : bm} (h : eo x) : aw x = if ¬ (1 ≤ x.ab ∧ x.ab ≤ 999) ∨ ¬ (1 ≤ x.src ∧ x.src ≤ 5) ∨ ¬ (1 ≤ x.dst ∧ x.dst ≤ 5) ∨ ¬ (0 ≤ x.index ∧ x.index ≤ 40) ∨ (x.kind ≠ 2 ∧ x.index = 0) then 3
 else if x.kind = 2 then 0 else wF x.write := by
 rw [aw, if_neg]
 rintro (h1 | h1 | h1)
 ·
  exact h1 h.1
 ·
  exact h.2.1 h1
 exact h1.2 (h.2.2 h1.1)
theorem fU {x : bm} (h : eo x) (h2 : (decide (1 ≤ x.ab) && decide (x.ab ≤ 999)) = false) : aw x = 3 := by
 rw [de h, if_pos (Or.inl fun q => by simp at h2; omega)]
theorem jm {x : bm} (h : eo x) (h2 : (decide (1 ≤ x.src) && decide (x.src ≤ 5)) = false) : aw x = 3 := by
 rw [de h, if_pos (Or.inr (Or.inl fun q => by simp at h2; omega))]
theorem jg {x : bm} (h : eo x) (h2 : (decide (1 ≤ x.dst) && decide (x.dst ≤ 5)) = false) : aw x = 3 := by
 rw [de h, if_pos (Or.inr (Or.inr (Or.inl fun q => by simp at h2; omega)))]
theorem jj {x : bm} (h : eo x) (h2 : dz x = false) : aw x = 3 := by
 rw [de h, if_pos]
 have : ¬ (0 ≤ x.index ∧ x.index ≤ 40) ∨ (x.kind ≠ 2 ∧ x.index = 0) := by
  refine Decidable.byContradiction fun q => ?_
  rw [dz] at h2
  have q1 : 0 ≤ x.index ∧ x.index ≤ 40 := Decidable.byContradiction fun z => q (Or.inl z)
  rw [decide_eq_true q1.1, decide_eq_true q1.2] at h2
  simp at h2
  exact q (Or.inr ⟨h2.1, by omega⟩)
 exact Or.inr (Or.inr (Or.inr this))
theorem iu {x : bm} (h : eo x) (h1 : (decide (1 ≤ x.ab) && decide (x.ab ≤ 999)) = true) (h2 : (decide (1 ≤ x.src) && decide (x.src ≤ 5)) = true) (h3 : (decide (1 ≤ x.dst) && decide (x.dst ≤ 5)) = true) (h4 : dz x = true) : aw x = if x.kind = 2 then 0 else wF x.write := by
 simp only [Bool.and_eq_true, decide_eq_true_eq] at h1 h2 h3
 simp only [dz, Bool.and_eq_true, Bool.or_eq_true, decide_eq_true_eq, beq_iff_eq] at h4
 rw [de h, if_neg]
 rintro (q | q | q | q | q)
 ·
  exact q h1
 ·
  exact q h2
 ·
  exact q h3
 ·
  exact q h4.1
 rcases h4.2 with z | z
 ·
  exact q.1 z
 omega
theorem lP {w : World} {x : ai} {a : Option Addr} {d : Nat} (h : ad.ag.Reads w [.int .i64 x.kind, .int .i64 x.id, .slice a x.vec.length d, .int .i64 x.aa, .int .i64 x.seq] x) : (ad.sl ad.int).Reads w [.slice a x.vec.length d] x.vec := by
 obtain ⟨a2, d2, e, R⟩ := aQ h
 simp only [List.cons.injEq, Value.slice.injEq, and_true, true_and] at e
 obtain ⟨rfl, rfl⟩ := e
 exact R
theorem iU (cs : List Value) (x : bm) (w : World) (h : ad.bj.Reads w cs x) :
  Calls Tryz.prog 233 #[.agg cs.toArray] w fun e w' => e = ec (aw x) ∧ Below w.heap.size w w' := by
 obtain ⟨a, d, rfl, R⟩ := bJ h
 have nb : Below w.heap.size w (w.alloc (.cells #[.int .i64 x.kind, .int .i64 x.ab, .int .i64 x.src, .int .i64 x.dst, .int .i64 x.index, .int .i64 x.write.kind, .int .i64 x.write.id, .slice a x.write.vec.length d, .int .i64 x.write.aa, .int .i64 x.write.seq] 145)) := (Below.refl _ _).alloc (Nat.le_refl _) _
 have HR := yh (R.af nb)
 have HB := yh nb
 have HX : Hid (al 0 #[.int .i64 x.kind, .int .i64 x.ab, .int .i64 x.src, .int .i64 x.dst, .int .i64 x.index, .int .i64 x.write.kind, .int .i64 x.write.id, .slice a x.write.vec.length d, .int .i64 x.write.aa, .int .i64 x.write.seq] 145 (w.alloc (.cells #[.int .i64 x.kind, .int .i64 x.ab, .int .i64 x.src, .int .i64 x.dst, .int .i64 x.index, .int .i64 x.write.kind, .int .i64 x.write.id, .slice a x.write.vec.length d, .int .i64 x.write.aa, .int .i64 x.write.seq] 145)) w.heap.size) := aK (Nat.zero_le _)
 clear R h nb
 go_enter Tryz.func233, Tryz.ntmps233
 go_upto_region 1 with fail
 generalize (w.alloc (.cells #[.int .i64 x.kind, .int .i64 x.ab, .int .i64 x.src, .int .i64 x.dst, .int .i64 x.index, .int .i64 x.write.kind, .int .i64 x.write.id, .slice a x.write.vec.length d, .int .i64 x.write.aa, .int .i64 x.write.seq] 145)) = W1 at *
 have z0 : W1.cell? ⟨w.heap.size, 0, none⟩ = some (.int .i64 x.kind) := (uh HX).at 0 _ rfl
 have z1 : W1.cell? ⟨w.heap.size, 1, none⟩ = some (.int .i64 x.ab) := (uh HX).at 1 _ rfl
 have z2 : W1.cell? ⟨w.heap.size, 2, none⟩ = some (.int .i64 x.src) := (uh HX).at 2 _ rfl
 have z3 : W1.cell? ⟨w.heap.size, 3, none⟩ = some (.int .i64 x.dst) := (uh HX).at 3 _ rfl
 have z4 : W1.cell? ⟨w.heap.size, 4, none⟩ = some (.int .i64 x.index) := (uh HX).at 4 _ rfl
 have z5 : W1.cell? ⟨w.heap.size, 5, none⟩ = some (.int .i64 x.write.kind) := (uh HX).at 5 _ rfl
 have z6 : W1.cell? ⟨w.heap.size, 6, none⟩ = some (.int .i64 x.write.id) := (uh HX).at 6 _ rfl
 have z7 : W1.cell? ⟨w.heap.size, 7, none⟩ = some (.slice a x.write.vec.length d) := (uh HX).at 7 _ rfl
 have z8 : W1.cell? ⟨w.heap.size, 8, none⟩ = some (.int .i64 x.write.aa) := (uh HX).at 8 _ rfl
 have z9 : W1.cell? ⟨w.heap.size, 9, none⟩ = some (.int .i64 x.write.seq) := (uh HX).at 9 _ rfl
 cases e1 : (x.kind == 1)
 ·
  cases e2 : (x.kind == 2)
  ·
   have HF := yh (kG e1 e2)
   go_wp2_with fail
   refine (cM 1 _).mono ?_
   rintro e w9 ⟨rfl, h9⟩
   subst w9
   go_wp2_with fail
   exact ⟨rfl, by rw [uh HF]; rfl, uh HB⟩
  go_wp2_with fail
  refine (cL 1 _).mono ?_
  rintro e w9 ⟨rfl, h9⟩
  subst w9
  cases e3 : (x.src != x.dst)
  ·
   have HF := yh (iy e3)
   go_wp2_with fail
   refine (cM 1 _).mono ?_
   rintro e w9 ⟨rfl, h9⟩
   subst w9
   go_wp2_with fail
   exact ⟨rfl, by rw [uh HF]; rfl, uh HB⟩
  go_wp2_with fail
  refine (cL 1 _).mono ?_
  rintro e w9 ⟨rfl, h9⟩
  subst w9
  have HL := yh (ju _ _ x.write dP W1 (uh HR) (hJ W1))
  go_wp2_with fail
  refine (uh HL).mono ?_
  rintro e Wa ⟨rfl, hb⟩
  replace HX := yh ((uh HX).ar hb)
  replace HR := yh ((uh HR).af hb)
  replace HB := bZ HB hb
  clear hb z0 z1 z2 z3 z4 z5 z6 z7 z8 z9
  have z0 : Wa.cell? ⟨w.heap.size, 0, none⟩ = some (.int .i64 x.kind) := (uh HX).at 0 _ rfl
  have z1 : Wa.cell? ⟨w.heap.size, 1, none⟩ = some (.int .i64 x.ab) := (uh HX).at 1 _ rfl
  have z2 : Wa.cell? ⟨w.heap.size, 2, none⟩ = some (.int .i64 x.src) := (uh HX).at 2 _ rfl
  have z3 : Wa.cell? ⟨w.heap.size, 3, none⟩ = some (.int .i64 x.dst) := (uh HX).at 3 _ rfl
  have z4 : Wa.cell? ⟨w.heap.size, 4, none⟩ = some (.int .i64 x.index) := (uh HX).at 4 _ rfl
  have z5 : Wa.cell? ⟨w.heap.size, 5, none⟩ = some (.int .i64 x.write.kind) := (uh HX).at 5 _ rfl
  have z6 : Wa.cell? ⟨w.heap.size, 6, none⟩ = some (.int .i64 x.write.id) := (uh HX).at 6 _ rfl
  have z7 : Wa.cell? ⟨w.heap.size, 7, none⟩ = some (.slice a x.write.vec.length d) := (uh HX).at 7 _ rfl
  have z8 : Wa.cell? ⟨w.heap.size, 8, none⟩ = some (.int .i64 x.write.aa) := (uh HX).at 8 _ rfl
  have z9 : Wa.cell? ⟨w.heap.size, 9, none⟩ = some (.int .i64 x.write.seq) := (uh HX).at 9 _ rfl
  clear HL
  cases e9 : bW x.write dP
  ·
   have HF := yh (kP e2 e9)
   clear e9
   go_wp2_with fail
   refine (cM 1 _).mono ?_
   rintro e w9 ⟨rfl, h9⟩
   subst w9
   go_wp2_with fail
   exact ⟨rfl, by rw [uh HF]; rfl, uh HB⟩
  have HFM : Hid (eo x) := ⟨by simp at e2; omega, by simpa using e3, fun _ => (eW _).1 e9⟩
  clear e9
  go_wp2_with fail
  refine (cL 1 _).mono ?_
  rintro e w9 ⟨rfl, h9⟩
  subst w9
  cases e4 : (decide (1 ≤ x.ab) && decide (x.ab ≤ 999))
  ·
   have HL := yh (bM x.ab Wa)
   rw [e4] at HL
   have HF := yh (fU (uh HFM) e4)
   clear e4
   go_wp2_with fail
   refine (uh HL).mono ?_
   rintro e w9 ⟨rfl, h9⟩
   subst w9
   clear HL
   go_wp2_with fail
   refine (cM 3 _).mono ?_
   rintro e w9 ⟨rfl, h9⟩
   subst w9
   go_wp2_with fail
   exact ⟨rfl, by rw [uh HF]; rfl, uh HB⟩
  have HL := yh (bM x.ab Wa)
  rw [e4] at HL
  have HE := yh e4
  clear e4
  go_wp2_with fail
  refine (uh HL).mono ?_
  rintro e w9 ⟨rfl, h9⟩
  subst w9
  clear HL
  go_wp2_with fail
  refine (cL 3 _).mono ?_
  rintro e w9 ⟨rfl, h9⟩
  subst w9
  cases e5 : (decide (1 ≤ x.src) && decide (x.src ≤ 5))
  ·
   have HL := yh (bL x.src Wa)
   rw [e5] at HL
   have HF := yh (jm (uh HFM) e5)
   clear e5
   go_wp2_with fail
   refine (uh HL).mono ?_
   rintro e w9 ⟨rfl, h9⟩
   subst w9
   clear HL
   go_wp2_with fail
   refine (cM 3 _).mono ?_
   rintro e w9 ⟨rfl, h9⟩
   subst w9
   go_wp2_with fail
   exact ⟨rfl, by rw [uh HF]; rfl, uh HB⟩
  have HL := yh (bL x.src Wa)
  rw [e5] at HL
  have HS := yh e5
  clear e5
  go_wp2_with fail
  refine (uh HL).mono ?_
  rintro e w9 ⟨rfl, h9⟩
  subst w9
  clear HL
  cases e6 : (decide (1 ≤ x.dst) && decide (x.dst ≤ 5))
  ·
   have HL := yh (bL x.dst Wa)
   rw [e6] at HL
   have HF := yh (jg (uh HFM) e6)
   clear e6
   go_wp2_with fail
   refine (uh HL).mono ?_
   rintro e w9 ⟨rfl, h9⟩
   subst w9
   clear HL
   go_wp2_with fail
   refine (cM 3 _).mono ?_
   rintro e w9 ⟨rfl, h9⟩
   subst w9
   go_wp2_with fail
   exact ⟨rfl, by rw [uh HF]; rfl, uh HB⟩
  have HL := yh (bL x.dst Wa)
  rw [e6] at HL
  have HD := yh e6
  clear e6
  go_wp2_with fail
  refine (uh HL).mono ?_
  rintro e w9 ⟨rfl, h9⟩
  subst w9
  clear HL
  go_wp2_with fail
  refine (cL 3 _).mono ?_
  rintro e w9 ⟨rfl, h9⟩
  subst w9
  have HL := yh (eD a d x Wa)
  go_wp2_with fail
  refine (uh HL).mono ?_
  rintro e W2 ⟨rfl, hb⟩
  replace HX := yh ((uh HX).ar hb)
  replace HR := yh ((uh HR).af hb)
  replace HB := bZ HB hb
  clear hb z0 z1 z2 z3 z4 z5 z6 z7 z8 z9
  have z0 : W2.cell? ⟨w.heap.size, 0, none⟩ = some (.int .i64 x.kind) := (uh HX).at 0 _ rfl
  have z1 : W2.cell? ⟨w.heap.size, 1, none⟩ = some (.int .i64 x.ab) := (uh HX).at 1 _ rfl
  have z2 : W2.cell? ⟨w.heap.size, 2, none⟩ = some (.int .i64 x.src) := (uh HX).at 2 _ rfl
  have z3 : W2.cell? ⟨w.heap.size, 3, none⟩ = some (.int .i64 x.dst) := (uh HX).at 3 _ rfl
  have z4 : W2.cell? ⟨w.heap.size, 4, none⟩ = some (.int .i64 x.index) := (uh HX).at 4 _ rfl
  have z5 : W2.cell? ⟨w.heap.size, 5, none⟩ = some (.int .i64 x.write.kind) := (uh HX).at 5 _ rfl
  have z6 : W2.cell? ⟨w.heap.size, 6, none⟩ = some (.int .i64 x.write.id) := (uh HX).at 6 _ rfl
  have z7 : W2.cell? ⟨w.heap.size, 7, none⟩ = some (.slice a x.write.vec.length d) := (uh HX).at 7 _ rfl
  have z8 : W2.cell? ⟨w.heap.size, 8, none⟩ = some (.int .i64 x.write.aa) := (uh HX).at 8 _ rfl
  have z9 : W2.cell? ⟨w.heap.size, 9, none⟩ = some (.int .i64 x.write.seq) := (uh HX).at 9 _ rfl
  clear HL
  cases e7 : dz x
  ·
   have HF := yh (jj (uh HFM) e7)
   clear e7
   go_wp2_with fail
   refine (cM 3 _).mono ?_
   rintro e w9 ⟨rfl, h9⟩
   subst w9
   go_wp2_with fail
   exact ⟨rfl, by rw [uh HF]; rfl, uh HB⟩
  have HF := yh (iu (uh HFM) (uh HE) (uh HS) (uh HD) e7)
  clear e7
  go_wp2_with fail
  refine (cL 3 _).mono ?_
  rintro e w9 ⟨rfl, h9⟩
  subst w9
  replace HF := yh ((uh HF).trans (if_pos (by simpa using e2)))
  go_wp2_with fail
  go_end0
  exact ⟨by rw [uh HF]; rfl, uh HB⟩
 go_wp2_with fail
 refine (cL 1 _).mono ?_
 rintro e w9 ⟨rfl, h9⟩
 subst w9
 cases e3 : (x.src != x.dst)
 ·
  have HF := yh (iy e3)
  go_wp2_with fail
  refine (cM 1 _).mono ?_
  rintro e w9 ⟨rfl, h9⟩
  subst w9
  go_wp2_with fail
  exact ⟨rfl, by rw [uh HF]; rfl, uh HB⟩
 have HFM : Hid (eo x) := ⟨by simp at e1; omega, by simpa using e3, fun q => by simp at e1; omega⟩
 go_wp2_with fail
 refine (cL 1 _).mono ?_
 rintro e w9 ⟨rfl, h9⟩
 subst w9
 go_wp2_with fail
 refine (cL 1 _).mono ?_
 rintro e w9 ⟨rfl, h9⟩
 subst w9
 cases e4 : (decide (1 ≤ x.ab) && decide (x.ab ≤ 999))
 ·
  have HL := yh (bM x.ab W1)
  rw [e4] at HL
  have HF := yh (fU (uh HFM) e4)
  clear e4
  go_wp2_with fail
  refine (uh HL).mono ?_
  rintro e w9 ⟨rfl, h9⟩
  subst w9
  clear HL
  go_wp2_with fail
  refine (cM 3 _).mono ?_
  rintro e w9 ⟨rfl, h9⟩
  subst w9
  go_wp2_with fail
  exact ⟨rfl, by rw [uh HF]; rfl, uh HB⟩
 have HL := yh (bM x.ab W1)
 rw [e4] at HL
 have HE := yh e4
 clear e4
 go_wp2_with fail
 refine (uh HL).mono ?_
 rintro e w9 ⟨rfl, h9⟩
 subst w9
 clear HL
 go_wp2_with fail
 refine (cL 3 _).mono ?_
 rintro e w9 ⟨rfl, h9⟩
 subst w9
 cases e5 : (decide (1 ≤ x.src) && decide (x.src ≤ 5))
 ·
  have HL := yh (bL x.src W1)
  rw [e5] at HL
  have HF := yh (jm (uh HFM) e5)
  clear e5
  go_wp2_with fail
  refine (uh HL).mono ?_
  rintro e w9 ⟨rfl, h9⟩
  subst w9
  clear HL
  go_wp2_with fail
  refine (cM 3 _).mono ?_
  rintro e w9 ⟨rfl, h9⟩
  subst w9
  go_wp2_with fail
  exact ⟨rfl, by rw [uh HF]; rfl, uh HB⟩
 have HL := yh (bL x.src W1)
 rw [e5] at HL
 have HS := yh e5
 clear e5
 go_wp2_with fail
 refine (uh HL).mono ?_
 rintro e w9 ⟨rfl, h9⟩
 subst w9
 clear HL
 cases e6 : (decide (1 ≤ x.dst) && decide (x.dst ≤ 5))
 ·
  have HL := yh (bL x.dst W1)
  rw [e6] at HL
  have HF := yh (jg (uh HFM) e6)
  clear e6
  go_wp2_with fail
  refine (uh HL).mono ?_
  rintro e w9 ⟨rfl, h9⟩
  subst w9
  clear HL
  go_wp2_with fail
  refine (cM 3 _).mono ?_
  rintro e w9 ⟨rfl, h9⟩
  subst w9
  go_wp2_with fail
  exact ⟨rfl, by rw [uh HF]; rfl, uh HB⟩
 have HL := yh (bL x.dst W1)
 rw [e6] at HL
 have HD := yh e6
 clear e6
 go_wp2_with fail
 refine (uh HL).mono ?_
 rintro e w9 ⟨rfl, h9⟩
 subst w9
 clear HL
 go_wp2_with fail
 refine (cL 3 _).mono ?_
 rintro e w9 ⟨rfl, h9⟩
 subst w9
 have HL := yh (eD a d x W1)
 go_wp2_with fail
 refine (uh HL).mono ?_
 rintro e W2 ⟨rfl, hb⟩
 replace HX := yh ((uh HX).ar hb)
 replace HR := yh ((uh HR).af hb)
 replace HB := bZ HB hb
 clear hb z0 z1 z2 z3 z4 z5 z6 z7 z8 z9
 have z0 : W2.cell? ⟨w.heap.size, 0, none⟩ = some (.int .i64 x.kind) := (uh HX).at 0 _ rfl
 have z1 : W2.cell? ⟨w.heap.size, 1, none⟩ = some (.int .i64 x.ab) := (uh HX).at 1 _ rfl
 have z2 : W2.cell? ⟨w.heap.size, 2, none⟩ = some (.int .i64 x.src) := (uh HX).at 2 _ rfl
 have z3 : W2.cell? ⟨w.heap.size, 3, none⟩ = some (.int .i64 x.dst) := (uh HX).at 3 _ rfl
 have z4 : W2.cell? ⟨w.heap.size, 4, none⟩ = some (.int .i64 x.index) := (uh HX).at 4 _ rfl
 have z5 : W2.cell? ⟨w.heap.size, 5, none⟩ = some (.int .i64 x.write.kind) := (uh HX).at 5 _ rfl
 have z6 : W2.cell? ⟨w.heap.size, 6, none⟩ = some (.int .i64 x.write.id) := (uh HX).at 6 _ rfl
 have z7 : W2.cell? ⟨w.heap.size, 7, none⟩ = some (.slice a x.write.vec.length d) := (uh HX).at 7 _ rfl
 have z8 : W2.cell? ⟨w.heap.size, 8, none⟩ = some (.int .i64 x.write.aa) := (uh HX).at 8 _ rfl
 have z9 : W2.cell? ⟨w.heap.size, 9, none⟩ = some (.int .i64 x.write.seq) := (uh HX).at 9 _ rfl
 clear HL
 cases e7 : dz x
 ·
  have HF := yh (jj (uh HFM) e7)
  clear e7
  go_wp2_with fail
  refine (cM 3 _).mono ?_
  rintro e w9 ⟨rfl, h9⟩
  subst w9
  go_wp2_with fail
  exact ⟨rfl, by rw [uh HF]; rfl, uh HB⟩
 have HF := yh (iu (uh HFM) (uh HE) (uh HS) (uh HD) e7)
 clear e7
 go_wp2_with fail
 refine (cL 3 _).mono ?_
 rintro e w9 ⟨rfl, h9⟩
 subst w9
 replace HF := yh ((uh HF).trans (if_neg (by simp at e1; omega)))
 have HL := yh (dd x.write.kind x.write.id _ x.write.aa x.write.seq x.write.vec W2 (ad.bt (lP (uh HR))))
 go_wp2_with fail
 refine (uh HL).mono ?_
 rintro e W3 ⟨rfl, hb⟩
 replace HX := yh ((uh HX).ar hb)
 replace HR := yh ((uh HR).af hb)
 replace HB := bZ HB hb
 clear hb z0 z1 z2 z3 z4 z5 z6 z7 z8 z9
 have z0 : W3.cell? ⟨w.heap.size, 0, none⟩ = some (.int .i64 x.kind) := (uh HX).at 0 _ rfl
 have z1 : W3.cell? ⟨w.heap.size, 1, none⟩ = some (.int .i64 x.ab) := (uh HX).at 1 _ rfl
 have z2 : W3.cell? ⟨w.heap.size, 2, none⟩ = some (.int .i64 x.src) := (uh HX).at 2 _ rfl
 have z3 : W3.cell? ⟨w.heap.size, 3, none⟩ = some (.int .i64 x.dst) := (uh HX).at 3 _ rfl
 have z4 : W3.cell? ⟨w.heap.size, 4, none⟩ = some (.int .i64 x.index) := (uh HX).at 4 _ rfl
 have z5 : W3.cell? ⟨w.heap.size, 5, none⟩ = some (.int .i64 x.write.kind) := (uh HX).at 5 _ rfl
 have z6 : W3.cell? ⟨w.heap.size, 6, none⟩ = some (.int .i64 x.write.id) := (uh HX).at 6 _ rfl
 have z7 : W3.cell? ⟨w.heap.size, 7, none⟩ = some (.slice a x.write.vec.length d) := (uh HX).at 7 _ rfl
 have z8 : W3.cell? ⟨w.heap.size, 8, none⟩ = some (.int .i64 x.write.aa) := (uh HX).at 8 _ rfl
 have z9 : W3.cell? ⟨w.heap.size, 9, none⟩ = some (.int .i64 x.write.seq) := (uh HX).at 9 _ rfl
 clear HL
 replace HF : Hid (aw x = ak x.write.kind x.write.id x.write.vec x.write.aa x.write.seq) := uh HF
 generalize ak x.write.kind x.write.id x.write.vec x.write.aa x.write.seq = f at *
 cases e8 : (f == 0)
 ·
  have hf : f ≠ 0 := by simpa using e8
  have HG := yh hf
  clear hf
  go_wp2_with fail
  refine (cM f _).mono ?_
  rintro e w9 ⟨rfl, h9⟩
  subst w9
  go_wp2_with fail
  exact ⟨rfl, by rw [uh HF]; exact (cV (uh HG)).symm, uh HB⟩
 have hf : f = 0 := by simpa using e8
 subst hf
 clear e8
 go_wp2_with fail
 refine (cL 0 _).mono ?_
 rintro e w9 ⟨rfl, h9⟩
 subst w9
 go_wp2_with fail
 go_end0
 exact ⟨by rw [uh HF]; rfl, uh HB⟩
theorem kY (v : Value) (w : World) : (Instr.typeAssert (.iface 285 v) 20 285 true).run Tryz.prog w = .ok (.tuple #[v, .bool true]) w := by kernel_rfl
theorem iM (c : Int) (w : World) :
  Calls Tryz.prog 231 #[.iface 285 (.agg #[.int .i64 c])] w fun e w' => e = .returned (.int .i64 c) ∧ Below w.heap.size w w' := by
 have HB : Hid (Below w.heap.size w (w.alloc (.cells #[.int .i64 c] 285))) := yh ((Below.refl _ _).alloc (Nat.le_refl _) _)
 have q := kY
 go_enter Tryz.func231, Tryz.ntmps231
 go_wp2_with fail
 go_ret
 exact ⟨rfl, uh HB⟩
theorem eV (p : Addr) (x c : Int) (w : World) (hc : w.cell? p = some (.int .i64 x)) (hz : w.frozen? p = false) (hp : p.block < w.heap.size) :
  CallsD Tryz.prog 230 #[.pointer (some p)] (.panicking (df c)) w fun e u' w' =>
   e = .returned (.tuple #[]) ∧ u' = .panicking [{ v := .iface 285 (.agg #[.int .i64 c]), recovered := true }] ∧ ∃ w1, w' = w1.setCell p (.int .i64 c) ∧ Below w.heap.size w w1 := by
 refine callsD_of_wpS Tryz.func230 rfl fun c₀ cs hu => ?_
 apply wpS_seq
 apply wpS_region
 simp [wpOpsS, go_sem, recoverD, hu, Tryz.ntmps230, Exit.thenS, df]
 refine wpS_of_wp ?_
 have HL := yh (iM c w)
 go_wp2_with fail
 refine (uh HL).mono ?_
 rintro e w1 ⟨rfl, hb⟩
 have hc1 : w1.cell? p = some (.int .i64 x) := (hb.cell (p := p) hp).trans hc
 have hz1 : w1.frozen? p = false := (World.frozen?_of_block (hb.block _ hp)).trans hz
 have hp1 : p.block < w1.heap.size := Nat.lt_of_lt_of_le hp hb.size
 have HB := yh hb
 clear hb HL hc hz
 go_wp2_with fail
 refine ⟨rfl, _, rfl, .tuple #[], ?_, rfl, rfl, w1, rfl, uh HB⟩
 simp [results, Tryz.results230, go_sem]
theorem fI (p : Addr) (w : World) :
  CallsD Tryz.prog 230 #[.pointer (some p)] .returning w fun e u' w' => e = .returned (.tuple #[]) ∧ u' = .returning ∧ w' = w := by
 refine callsD_of_wpS Tryz.func230 rfl fun c₀ cs hu => ?_
 apply wpS_seq
 apply wpS_region
 simp [wpOpsS, go_sem, recoverD, hu, Tryz.ntmps230, Exit.thenS]
 refine wpS_of_wp ?_
 go_wp2_with fail
 cases c₀
 simp_all [bodyPostS, results, Tryz.results230, go_sem]
theorem eY (N : Nat) (cap : Array Value) (c : Int) (w : World) (hf : ∀ W : World, (callFunc N cap).run Tryz.prog W = .ok (.enter N cap) W)
  (h : Calls Tryz.prog N cap (w.alloc (.cells #[.int .i64 0] 2)) fun e w' => e = .panicked (df c) ∧ Below (w.heap.size + 1) (w.alloc (.cells #[.int .i64 0] 2)) w') :
  Calls Tryz.prog 184 #[.func (.func N) #[] cap] w fun e w' => e = .returned (.tuple #[.bool false, .int .i64 c]) ∧ Below w.heap.size w w' := by
 have hmf : ∀ (fn : Fn) (first cap : Array Value) (w : World), (Instr.makeFunc fn first cap).run Tryz.prog w = .ok (.func fn first cap) w := fun _ _ _ _ => rfl
 have HL := yh h
 have nb : Below w.heap.size w (w.alloc (.cells #[.int .i64 0] 2)) := (Below.refl _ _).alloc (Nat.le_refl _) _
 have HX : Hid (al 0 #[.int .i64 0] 2 (w.alloc (.cells #[.int .i64 0] 2)) w.heap.size) := aK (Nat.zero_le _)
 have HN := yh nb
 clear h nb
 go_enter_defers Tryz.func184, Tryz.ntmps184
 go_wp2_with fail
 refine (uh HL).mono ?_
 rintro e w1 ⟨rfl, hb⟩
 replace HN := yh ((uh HN).trans (hb.mono (by omega)))
 have hX := (uh HX).ar (hb.mono (by simp))
 have z0 : w1.cell? ⟨w.heap.size, 0, none⟩ = some (.int .i64 0) := hX.at 0 _ rfl
 have zf : w1.frozen? ⟨w.heap.size, 0, none⟩ = false := hX.soft 0
 have zl := hX.lt
 clear HL HX hX hb
 go_wp2_with fail
 refine leaves_cons (f := 230) (args := #[.pointer (some ⟨w.heap.size, 0, none⟩)]) (by simp) (by simp [go_sem]) ?_
 refine (eV ⟨w.heap.size, 0, none⟩ 0 c w1 z0 zf zl).mono ?_
 rintro e u' w2 ⟨rfl, rfl, w3, rfl, hb⟩
 have hN : Below w.heap.size w (w3.setCell ⟨w.heap.size, 0, none⟩ (.int .i64 c)) := ((uh HN).trans (hb.mono (uh HN).size)).setCell (by simp) _
 have z1 : (w3.setCell ⟨w.heap.size, 0, none⟩ (.int .i64 c)).cell? ⟨w.heap.size, 0, none⟩ = some (.int .i64 c) := World.cell?_setCell_same _ _ _ ((hb.cell (p := ⟨w.heap.size, 0, none⟩) zl).trans z0)
 simp [Leaves, settle, results, Tryz.results184, go_sem, z1]
 exact hN
theorem fB (N : Nat) (cap : Array Value) (w : World) (Q : Value → World → Prop) (hf : ∀ W : World, (callFunc N cap).run Tryz.prog W = .ok (.enter N cap) W)
  (h : Calls Tryz.prog N cap (w.alloc (.cells #[.int .i64 0] 2)) fun e w' => ∃ v, e = .returned v ∧ Q v w' ∧ Below (w.heap.size + 1) (w.alloc (.cells #[.int .i64 0] 2)) w') :
  Calls Tryz.prog 184 #[.func (.func N) #[] cap] w fun e w' => ∃ v w1, e = .returned (.tuple #[v, .int .i64 0]) ∧ Q v w1 ∧ w' = w1.setCell ⟨w.heap.size, 0, none⟩ (.int .i64 0) ∧ Below w.heap.size w w' ∧ w.heap.size < w1.heap.size := by
 have hmf : ∀ (fn : Fn) (first cap : Array Value) (w : World), (Instr.makeFunc fn first cap).run Tryz.prog w = .ok (.func fn first cap) w := fun _ _ _ _ => rfl
 have HL := yh h
 have nb : Below w.heap.size w (w.alloc (.cells #[.int .i64 0] 2)) := (Below.refl _ _).alloc (Nat.le_refl _) _
 have HX : Hid (al 0 #[.int .i64 0] 2 (w.alloc (.cells #[.int .i64 0] 2)) w.heap.size) := aK (Nat.zero_le _)
 have HN := yh nb
 clear h nb
 go_enter_defers Tryz.func184, Tryz.ntmps184
 go_wp2_with fail
 refine (uh HL).mono ?_
 rintro e w1 ⟨v, rfl, hq, hb⟩
 have HQ := yh hq
 replace HN := yh ((uh HN).trans (hb.mono (by omega)))
 have hX := (uh HX).ar (hb.mono (by simp))
 have z0 : w1.cell? ⟨w.heap.size, 0, none⟩ = some (.int .i64 0) := hX.at 0 _ rfl
 have zf : w1.frozen? ⟨w.heap.size, 0, none⟩ = false := hX.soft 0
 have zl := hX.lt
 clear HL HX hX hb hq
 go_wp2_with fail
 refine leaves_cons (f := 230) (args := #[.pointer (some ⟨w.heap.size, 0, none⟩)]) (by simp) (by simp [go_sem]) ?_
 refine (fI ⟨w.heap.size, 0, none⟩ _).mono ?_
 rintro e u' w2 ⟨rfl, rfl, rfl⟩
 have hN : Below w.heap.size w (w1.setCell ⟨w.heap.size, 0, none⟩ (.int .i64 0)) := (uh HN).setCell (by simp) _
 have z1 : (w1.setCell ⟨w.heap.size, 0, none⟩ (.int .i64 0)).cell? ⟨w.heap.size, 0, none⟩ = some (.int .i64 0) := World.cell?_setCell_same _ _ _ z0
 refine ⟨.tuple #[v, .int .i64 0], by simp [results, Tryz.results184, go_sem, z1], v, w1, rfl, uh HQ, rfl, hN, zl⟩
theorem fz {xs : List bm} {k : Nat} (hk : k < xs.length) : bg (xs.drop k) = if aw xs[k] = 0 then bg (xs.drop (k + 1)) else aw xs[k] := by
 rw [List.drop_eq_getElem_cons hk, bg]
theorem iT (v : Value) (xs : List bm) (w : World) (h : (ad.sl ad.bj).Reads w [v] xs) :
  Calls Tryz.prog 186 #[v] w fun e w' => e = ec (aG xs) ∧ Below w.heap.size w w' := by
 have hbig := h.db
 obtain ⟨ao, cap, rfl⟩ := aC h
 have H := yh h
 clear h
 go_enter Tryz.func186, Tryz.ntmps186
 cases e1 : decide ((xs.length : Int) ≤ 40)
 ·
  have HF : Hid (aG xs = 2) := by show aG xs = 2; rw [aG, if_pos (by simp at e1; omega)]
  go_wp2_with fail
  refine (cM 2 _).mono ?_
  rintro e w9 ⟨rfl, h9⟩
  subst w9
  go_wp2_with fail
  exact ⟨rfl, by rw [uh HF]; rfl, Below.refl _ _⟩
 have HF : Hid (aG xs = bg (xs.drop 0)) := by show aG xs = _; rw [aG, if_neg (by simp at e1; omega)]; rfl
 go_wp2_with fail
 refine (cL 2 _).mono ?_
 rintro e w9 ⟨rfl, h9⟩
 subst w9
 clear e1
 go_wp2_with fail
 go_loopw [10] (fun i wr => ∃ k : Nat, k ≤ xs.length ∧ i = .int .i64 k ∧ aG xs = bg (xs.drop k) ∧ Below w.heap.size w wr) (fun i _ => xs.length - (intOf i).toNat)
 case atStart => exact ⟨0, Nat.zero_le _, rfl, uh HF, Below.refl _ _⟩
 case round =>
  obtain ⟨k, hk, rfl, hF, hB⟩ := hrel
  clear HF
  by_cases hlt : k < xs.length
  ·
   obtain ⟨b, off, rfl, hbl⟩ := ad.aI (uh H) (by omega)
   obtain ⟨row, hc, hr⟩ := ad.aY (uh H) hlt
   replace hr := hr.af hB
   rw [fz hlt] at hF
   have hdl : decide ((k : Int) < (xs.length : Int)) = true := by simp; omega
   obtain ⟨a, d, rfl, -⟩ := bJ hr
   have c0 : wr.cell? ⟨b, off + k * 10, none⟩ = some (.int .i64 (xs[k]).kind) := (hB.cell (p := ⟨b, off + k * 10, none⟩) hbl).trans (hc 0 (by decide))
   have c1 : wr.cell? ⟨b, off + k * 10 + 1, none⟩ = some (.int .i64 (xs[k]).ab) := (hB.cell (p := ⟨b, off + k * 10 + 1, none⟩) hbl).trans (hc 1 (by decide))
   have c2 : wr.cell? ⟨b, off + k * 10 + 2, none⟩ = some (.int .i64 (xs[k]).src) := (hB.cell (p := ⟨b, off + k * 10 + 2, none⟩) hbl).trans (hc 2 (by decide))
   have c3 : wr.cell? ⟨b, off + k * 10 + 3, none⟩ = some (.int .i64 (xs[k]).dst) := (hB.cell (p := ⟨b, off + k * 10 + 3, none⟩) hbl).trans (hc 3 (by decide))
   have c4 : wr.cell? ⟨b, off + k * 10 + 4, none⟩ = some (.int .i64 (xs[k]).index) := (hB.cell (p := ⟨b, off + k * 10 + 4, none⟩) hbl).trans (hc 4 (by decide))
   have c5 : wr.cell? ⟨b, off + k * 10 + 5, none⟩ = some (.int .i64 (xs[k]).write.kind) := (hB.cell (p := ⟨b, off + k * 10 + 5, none⟩) hbl).trans (hc 5 (by decide))
   have c6 : wr.cell? ⟨b, off + k * 10 + 6, none⟩ = some (.int .i64 (xs[k]).write.id) := (hB.cell (p := ⟨b, off + k * 10 + 6, none⟩) hbl).trans (hc 6 (by decide))
   have c7 : wr.cell? ⟨b, off + k * 10 + 7, none⟩ = some (.slice a (xs[k]).write.vec.length d) := (hB.cell (p := ⟨b, off + k * 10 + 7, none⟩) hbl).trans (hc 7 (by decide))
   have c8 : wr.cell? ⟨b, off + k * 10 + 8, none⟩ = some (.int .i64 (xs[k]).write.aa) := (hB.cell (p := ⟨b, off + k * 10 + 8, none⟩) hbl).trans (hc 8 (by decide))
   have c9 : wr.cell? ⟨b, off + k * 10 + 9, none⟩ = some (.int .i64 (xs[k]).write.seq) := (hB.cell (p := ⟨b, off + k * 10 + 9, none⟩) hbl).trans (hc 9 (by decide))
   have HF := yh hF
   have HR := yh hr
   have HB := yh hB
   clear hF hr hB hc
   generalize hx : xs[k] = x at *
   clear hx
   have nb : Below wr.heap.size wr (wr.alloc (.cells #[.int .i64 x.kind, .int .i64 x.ab, .int .i64 x.src, .int .i64 x.dst, .int .i64 x.index, .int .i64 x.write.kind, .int .i64 x.write.id, .slice a x.write.vec.length d, .int .i64 x.write.aa, .int .i64 x.write.seq] 145)) := (Below.refl _ _).alloc (Nat.le_refl _) _
   have HL := yh (iU _ x _ ((uh HR).af nb))
   replace HB := bZ HB nb
   clear nb
   go_wp2_with fail
   refine (uh HL).mono ?_
   generalize wr.alloc (.cells #[.int .i64 x.kind, .int .i64 x.ab, .int .i64 x.src, .int .i64 x.dst, .int .i64 x.index, .int .i64 x.write.kind, .int .i64 x.write.id, .slice a x.write.vec.length d, .int .i64 x.write.aa, .int .i64 x.write.seq] 145) = W1 at *
   rintro e W2 ⟨he, hb⟩
   replace HB := bZ HB hb
   clear hb HL c0 c1 c2 c3 c4 c5 c6 c7 c8 c9
   by_cases hf : aw x = 0
   ·
    rw [fN hf] at he
    subst he
    replace HF := yh ((uh HF).trans (if_pos hf))
    clear hf
    go_wp2_with fail
    go_roundw
    case rel => exact ⟨k + 1, by omega, by go_num, uh HF, uh HB⟩
    case measure => simp [intOf]; omega
   rw [cV hf] at he
   subst he
   replace HF := yh ((uh HF).trans (if_neg hf))
   have HG := yh hf
   clear hf
   go_wp2_with fail
   exact ⟨rfl, by rw [uh HF]; exact (cV (uh HG)).symm, uh HB⟩
  obtain rfl : k = xs.length := by omega
  rw [List.drop_length] at hF
  have hdl : decide ((xs.length : Int) < (xs.length : Int)) = false := by simp
  have HF := yh hF
  have HB := yh hB
  clear hF hB
  go_wp2_with fail
  go_end0
  exact ⟨by rw [uh HF]; rfl, uh HB⟩
theorem gB (v : Value) (xs : List bm) (g : Nat) (w : World) (h : (ad.sl ad.bj).Reads w [v] xs) (hx : al 0 #[v] 34 w g) :
  Calls Tryz.prog 185 #[.pointer (some ⟨g, 0, none⟩)] w fun e w' => e = gL (.bool true) (aG xs) ∧ Below w.heap.size w w' := by
 have HL := yh (iT v xs w h)
 obtain ⟨ao, cap, rfl⟩ := aC h
 have HX := yh hx
 clear hx h
 have z0 : w.cell? ⟨g, 0, none⟩ = some (.slice ao xs.length cap) := (uh HX).at 0 _ rfl
 go_enter Tryz.func185, Tryz.ntmps185
 go_wp2_with fail
 refine (uh HL).mono ?_
 rintro e W2 ⟨he, hb⟩
 have HB := yh hb
 clear hb HL z0
 by_cases hf : aG xs = 0
 ·
  rw [fN hf] at he
  subst he
  have HF := yh hf
  clear hf
  go_wp2_with fail
  go_ret
  exact ⟨(hU (uh HF)).symm, uh HB⟩
 rw [cV hf] at he
 subst he
 have HF := yh hf
 clear hf
 go_wp2_with fail
 exact ⟨rfl, (fV (uh HF)).symm, uh HB⟩
theorem gm (v : Value) (xs : List bm) (w : World) (h : (ad.sl ad.bj).Reads w [v] xs) :
  Calls Tryz.prog 119 #[v] w fun e w' => e = .returned (.int .i64 (aG xs)) ∧ Below w.heap.size w w' := by
 have hmf : ∀ (fn : Fn) (first cap : Array Value) (w : World), (Instr.makeFunc fn first cap).run Tryz.prog w = .ok (.func fn first cap) w := fun _ _ _ _ => rfl
 obtain ⟨ao, cap, rfl⟩ := aC h
 have nb : Below w.heap.size w (w.alloc (.cells #[.slice ao xs.length cap] 34)) := (Below.refl _ _).alloc (Nat.le_refl _) _
 have HR := yh (h.af nb)
 have HB := yh nb
 have HX : Hid (al 0 #[.slice ao xs.length cap] 34 (w.alloc (.cells #[.slice ao xs.length cap] 34)) w.heap.size) := aK (Nat.zero_le _)
 clear h nb
 go_enter Tryz.func119, Tryz.ntmps119
 go_upto_region 1 with fail
 generalize w.alloc (.cells #[.slice ao xs.length cap] 34) = W1 at *
 have nb : Below W1.heap.size W1 (W1.alloc (.cells #[.int .i64 0] 2)) := (Below.refl _ _).alloc (Nat.le_refl _) _
 have HW := yh (gB _ xs w.heap.size _ ((uh HR).af nb) ((uh HX).ar nb))
 have hz : (W1.alloc (.cells #[.int .i64 0] 2)).heap.size = W1.heap.size + 1 := by simp
 have HZ := yh hz
 clear nb hz
 by_cases hf : aG xs = 0
 ·
  have HL := yh (fB 185 #[.pointer (some ⟨w.heap.size, 0, none⟩)] W1 (fun v _ => v = .bool true) (fun _ => by rfl) ((uh HW).mono (by
   rintro e w' ⟨he, hb⟩
   rw [hU hf] at he
   rw [uh HZ] at hb
   exact ⟨_, he, rfl, hb⟩)))
  have HF := yh hf
  clear hf HW HZ
  go_wp2_with fail
  refine (uh HL).mono ?_
  rintro e W2 ⟨v, W3, rfl, rfl, hW, hb, -⟩
  replace HB := bZ HB hb
  clear hW hb HL
  go_wp2_with fail
  go_ret
  exact ⟨by rw [uh HF]; rfl, uh HB⟩
 have HL := yh (eY 185 #[.pointer (some ⟨w.heap.size, 0, none⟩)] (aG xs) W1 (fun _ => by rfl) ((uh HW).mono (by
  rintro e w' ⟨he, hb⟩
  rw [fV hf] at he
  rw [uh HZ] at hb
  exact ⟨he, hb⟩)))
 clear hf HW HZ
 go_wp2_with fail
 refine (uh HL).mono ?_
 rintro e W2 ⟨rfl, hb⟩
 replace HB := bZ HB hb
 clear hb HL
 go_wp2_with fail
 go_ret
 exact ⟨rfl, uh HB⟩
theorem jI (a3 : Option Addr) (d3 : Nat) (a4 : Option Addr) (d4 : Nat) (a5 : Option Addr) (d5 : Nat) (a6 : Option Addr) (d6 : Nat) (x : aM) (id : Int) (g : Nat) (w : World) (h : ad.aW.Reads w [.int .i64 x.now, .int .i64 x.events, .int .i64 x.chain.ab, .slice a3 x.chain.ids.length d3, .slice a4 x.nodes.length d4, .slice a5 x.msgs.length d5, .slice a6 x.ae.length d6] x) (hx : al 0 #[.int .i64 x.now, .int .i64 x.events, .int .i64 x.chain.ab, .slice a3 x.chain.ids.length d3, .slice a4 x.nodes.length d4, .slice a5 x.msgs.length d5, .slice a6 x.ae.length d6] 37 w g) :
  Calls Tryz.prog 116 #[.int .i64 id, .pointer (some ⟨g, 0, none⟩)] w fun e w' => e = .returned (.bool (!bq x id)) ∧ Below w.heap.size w w' := by
 have HL := yh (jX _ x id w h)
 have z0 := al.at hx 0 _ rfl
 have z1 := al.at hx 1 _ rfl
 have z2 := al.at hx 2 _ rfl
 have z3 := al.at hx 3 _ rfl
 have z4 := al.at hx 4 _ rfl
 have z5 := al.at hx 5 _ rfl
 have z6 := al.at hx 6 _ rfl
 simp only [ga, gb, gc] at z0 z1 z2 z3 z4 z5 z6
 clear h
 go_enter Tryz.func116, Tryz.ntmps116
 go_wp2_with fail
 refine (uh HL).mono ?_
 rintro e w1 ⟨rfl, hb⟩
 have HB := yh hb
 clear hb HL z0 z1 z2 z3 z4 z5 z6
 go_wp2_with fail
 go_ret
 exact ⟨rfl, uh HB⟩
theorem gD (a3 : Option Addr) (d3 : Nat) (a4 : Option Addr) (d4 : Nat) (a5 : Option Addr) (d5 : Nat) (a6 : Option Addr) (d6 : Nat) (x : aM) (v : Value) (ids : List Int) (g : Nat) (w : World) (h : ad.aW.Reads w [.int .i64 x.now, .int .i64 x.events, .int .i64 x.chain.ab, .slice a3 x.chain.ids.length d3, .slice a4 x.nodes.length d4, .slice a5 x.msgs.length d5, .slice a6 x.ae.length d6] x) (hx : al 0 #[.int .i64 x.now, .int .i64 x.events, .int .i64 x.chain.ab, .slice a3 x.chain.ids.length d3, .slice a4 x.nodes.length d4, .slice a5 x.msgs.length d5, .slice a6 x.ae.length d6] 37 w g) (R : (ad.sl ad.int).Reads w [v] ids) :
  Calls Tryz.prog 183 #[v, .func (.func 116) #[] #[.pointer (some ⟨g, 0, none⟩)]] w fun e w' => ∃ i : Int, e = .returned (.int .i64 i) ∧ decide (0 ≤ i) = !(ids.all (bq x)) ∧ Below w.heap.size w w' := by
 have hbig := R.db
 obtain ⟨ao, cap, rfl⟩ := aC R
 have H := yh R
 have HX := yh h
 have HBX := yh hx
 clear h hx R
 go_enter Tryz.func183, Tryz.ntmps183
 go_wp2_with fail
 go_loopw [8] (fun i wr => ∃ k : Nat, k ≤ ids.length ∧ i = .int .i64 k ∧ (∀ j (hj : j < ids.length), j < k → bq x ids[j] = true) ∧ Below w.heap.size w wr) (fun i _ => ids.length - (intOf i).toNat)
 case atStart => exact ⟨0, Nat.zero_le _, rfl, fun j _ hj => by omega, Below.refl _ _⟩
 case round =>
  obtain ⟨k, hk, rfl, hz, hB⟩ := hrel
  by_cases hlt : k < ids.length
  ·
   obtain ⟨b, off, rfl, hbl⟩ := ad.aI (uh H) (by omega)
   have c1 := (hB.cell (p := ⟨b, off + k, none⟩) hbl).trans (cu (uh H) hlt)
   have hdl : decide ((k : Int) < (ids.length : Int)) = true := by simp; omega
   have HL := yh (jI a3 d3 a4 d4 a5 d5 a6 d6 x ids[k] g wr ((uh HX).af hB) ((uh HBX).ar hB))
   have HA : Hid (bq x ids[k] = false → (!(ids.all (bq x))) = true) := fun q => by
    have : ids.all (bq x) = false := by rw [List.all_eq_false]; exact ⟨ids[k], List.getElem_mem _, by rw [q]; simp⟩
    rw [this]; rfl
   have HN : Hid (bq x ids[k] = true → ∀ j (hj : j < ids.length), j < k + 1 → bq x ids[j] = true) := fun q j hj hjk => by
    by_cases h2 : j < k
    ·
     exact hz j hj h2
    obtain rfl : j = k := by omega
    exact q
   have HB := yh hB
   clear hz hB
   generalize hy : ids[k] = y at *
   clear hy
   go_wp2_with fail
   refine (uh HL).mono ?_
   rintro e w2 ⟨rfl, hb⟩
   replace HB := bZ HB hb
   clear hb HL c1
   cases hq : bq x y
   ·
    have HAA := yh (uh HA hq)
    clear HN HA hq
    go_wp2_with fail
    go_ret
    exact ⟨(k : Int), rfl, by rw [uh HAA]; simp, uh HB⟩
   have HNN := yh (uh HN hq)
   clear HN HA hq
   go_wp2_with fail
   go_roundw
   case rel => exact ⟨k + 1, by omega, by go_num, uh HNN, uh HB⟩
   case measure => simp [intOf]; omega
  obtain rfl : k = ids.length := by omega
  have hdl : decide ((ids.length : Int) < (ids.length : Int)) = false := by simp
  have HB := yh hB
  have HZ : Hid (ids.all (bq x) = true) := List.all_eq_true.2 fun y hy => by
   obtain ⟨j, hj, rfl⟩ := List.getElem_of_mem hy
   exact hz j hj hj
  clear hz hB
  go_wp2_with fail
  go_ret
  exact ⟨-1, rfl, by rw [uh HZ]; simp, uh HB⟩
theorem fp (a3 : Option Addr) (d3 : Nat) (a4 : Option Addr) (d4 : Nat) (a5 : Option Addr) (d5 : Nat) (a6 : Option Addr) (d6 : Nat) (x : aM) (v : Value) (ids : List Int) (g : Nat) (w : World) (h : ad.aW.Reads w [.int .i64 x.now, .int .i64 x.events, .int .i64 x.chain.ab, .slice a3 x.chain.ids.length d3, .slice a4 x.nodes.length d4, .slice a5 x.msgs.length d5, .slice a6 x.ae.length d6] x) (hx : al 0 #[.int .i64 x.now, .int .i64 x.events, .int .i64 x.chain.ab, .slice a3 x.chain.ids.length d3, .slice a4 x.nodes.length d4, .slice a5 x.msgs.length d5, .slice a6 x.ae.length d6] 37 w g) (R : (ad.sl ad.int).Reads w [v] ids) :
  Calls Tryz.prog 118 #[v, .func (.func 116) #[] #[.pointer (some ⟨g, 0, none⟩)]] w fun e w' => e = .returned (.bool (!(ids.all (bq x)))) ∧ Below w.heap.size w w' := by
 have HL := yh (gD a3 d3 a4 d4 a5 d5 a6 d6 x v ids g w h hx R)
 obtain ⟨ao, cap, rfl⟩ := aC R
 clear h hx R
 go_enter Tryz.func118, Tryz.ntmps118
 go_wp2_with fail
 refine (uh HL).mono ?_
 rintro e w1 ⟨i, rfl, hi, hb⟩
 have HI := yh hi
 have HB := yh hb
 clear hb HL hi
 go_wp2_with fail
 go_ret
 exact ⟨by rw [← uh HI]; rfl, uh HB⟩
theorem ml (x : aM) : aA x = if (decide (0 ≤ x.now) && decide (x.now ≤ 9000)) = false ∨ (decide (0 ≤ x.events) && decide (x.events ≤ 9999)) = false then 3
  else if au x.chain ≠ 0 then au x.chain else if cK x.chain x.nodes ≠ 0 then cK x.chain x.nodes else if (!(x.chain.ids.all (bq x))) = true then 4
  else if aG x.msgs ≠ 0 then aG x.msgs else ji x.events x.ae := by
 have e1 : (¬ (0 ≤ x.now ∧ x.now ≤ 9000) ∨ ¬ (0 ≤ x.events ∧ x.events ≤ 9999)) ↔ ((decide (0 ≤ x.now) && decide (x.now ≤ 9000)) = false ∨ (decide (0 ≤ x.events) && decide (x.events ≤ 9999)) = false) := by
  simp only [Bool.and_eq_false_iff, decide_eq_false_iff_not]
  omega
 unfold aA
 by_cases h1 : (decide (0 ≤ x.now) && decide (x.now ≤ 9000)) = false ∨ (decide (0 ≤ x.events) && decide (x.events ≤ 9999)) = false
 ·
  rw [if_pos (e1.2 h1), if_pos h1]
 rw [if_neg (fun q => h1 (e1.1 q)), if_neg h1]
 by_cases h2 : au x.chain ≠ 0
 ·
  rw [if_pos h2, if_pos h2]
 rw [if_neg h2, if_neg h2]
 by_cases h3 : x.nodes.length < 1 ∨ 5 < x.nodes.length
 ·
  have hP : cK x.chain x.nodes = 2 := if_neg (by omega)
  rw [if_pos h3, hP, if_pos (show ((2 : Int) ≠ 0) by omega)]
 have hP : cK x.chain x.nodes = bk x.chain 0 x.nodes := if_pos (by omega)
 rw [if_neg h3, hP]
 unfold aR
 by_cases h4 : bk x.chain 0 x.nodes ≠ 0
 ·
  rw [if_pos h4, if_pos h4, if_pos h4]
 rw [if_neg h4, if_neg h4]
 cases h5 : x.chain.ids.all (bq x)
 ·
  simp
 simp only [if_true, Bool.not_true, ne_eq, not_true_eq_false, if_false]
 by_cases h6 : aG x.msgs ≠ 0
 ·
  rw [if_pos h6, if_pos h6]; simp
 rw [if_neg h6, if_neg h6]
 rfl
theorem je (x : aM) : 0 ≤ aA x ∧ aA x ≤ 10 := eK x (eO _)
theorem ft (cs : List Value) (x : aM) (w : World) (h : ad.aW.Reads w cs x) :
  Calls Tryz.prog 59 #[.agg cs.toArray] w fun e w' => e = .returned (.int .i64 (aA x)) ∧ Below w.heap.size w w' := by
 obtain ⟨a3, d3, a4, d4, a5, d5, a6, d6, rfl, RC, RN, RM, RE⟩ := aE h
 have nb : Below w.heap.size w (w.alloc (.cells #[.int .i64 x.now, .int .i64 x.events, .int .i64 x.chain.ab, .slice a3 x.chain.ids.length d3, .slice a4 x.nodes.length d4, .slice a5 x.msgs.length d5, .slice a6 x.ae.length d6] 37)) := (Below.refl _ _).alloc (Nat.le_refl _) _
 have HX : Hid (al 0 #[.int .i64 x.now, .int .i64 x.events, .int .i64 x.chain.ab, .slice a3 x.chain.ids.length d3, .slice a4 x.nodes.length d4, .slice a5 x.msgs.length d5, .slice a6 x.ae.length d6] 37 (w.alloc (.cells #[.int .i64 x.now, .int .i64 x.events, .int .i64 x.chain.ab, .slice a3 x.chain.ids.length d3, .slice a4 x.nodes.length d4, .slice a5 x.msgs.length d5, .slice a6 x.ae.length d6] 37)) w.heap.size) := aK (Nat.zero_le _)
 have HR := yh (h.af nb)
 have HP := yh (ml x)
 have HB := yh nb
 have hmf : ∀ (fn : Fn) (first cap : Array Value) (w : World), (Instr.makeFunc fn first cap).run Tryz.prog w = .ok (.func fn first cap) w := fun _ _ _ _ => rfl
 clear nb h RC RN RM RE
 generalize aA x = r at *
 go_enter Tryz.func59, Tryz.ntmps59
 go_upto_region 1 with fail
 generalize w.alloc (.cells #[.int .i64 x.now, .int .i64 x.events, .int .i64 x.chain.ab, .slice a3 x.chain.ids.length d3, .slice a4 x.nodes.length d4, .slice a5 x.msgs.length d5, .slice a6 x.ae.length d6] 37) = w1 at *
 have z0 := al.at (uh HX) 0 _ rfl
 have z1 := al.at (uh HX) 1 _ rfl
 have z2 := al.at (uh HX) 2 _ rfl
 have z3 := al.at (uh HX) 3 _ rfl
 have z4 := al.at (uh HX) 4 _ rfl
 have z5 := al.at (uh HX) 5 _ rfl
 have z6 := al.at (uh HX) 6 _ rfl
 simp only [ga, gb, gc] at z0 z1 z2 z3 z4 z5 z6
 go_wp2_with fail
 refine (cB x.now 9000 w1).mono ?_
 rintro e w2 ⟨rfl, h2⟩
 subst w2
 cases d1 : (decide (0 ≤ x.now) && decide (x.now ≤ 9000))
 ·
  replace HP := yh ((uh HP).trans (if_pos (Or.inl d1)))
  clear d1
  go_wp2_with fail
  go_ret
  exact ⟨by rw [uh HP]; rfl, uh HB⟩
 go_wp2_with fail
 refine (cB x.events 9999 w1).mono ?_
 rintro e w2 ⟨rfl, h2⟩
 subst w2
 cases d2 : (decide (0 ≤ x.events) && decide (x.events ≤ 9999))
 ·
  replace HP := yh ((uh HP).trans (if_pos (Or.inr d2)))
  clear d1 d2
  go_wp2_with fail
  go_ret
  exact ⟨by rw [uh HP]; rfl, uh HB⟩
 replace HP := yh ((uh HP).trans (if_neg (by rw [d1, d2]; simp)))
 clear d1 d2
 go_wp2_with fail
 obtain ⟨_, _, _, _, _, _, _, _, hq, RC, -, -, -⟩ := aE (uh HR)
 simp only [List.cons.injEq, Value.slice.injEq, and_true, true_and] at hq
 obtain ⟨⟨rfl, rfl⟩, ⟨rfl, rfl⟩, ⟨rfl, rfl⟩, rfl, rfl⟩ := hq
 refine (fv _ x.chain w1 RC).mono ?_
 rintro e w2 ⟨rfl, hb⟩
 clear RC z0 z1 z2 z3 z4 z5 z6
 replace HX := yh ((uh HX).ar hb)
 replace HR := yh ((uh HR).af hb)
 replace HB := bZ HB hb
 clear hb
 have z0 := al.at (uh HX) 0 _ rfl
 have z1 := al.at (uh HX) 1 _ rfl
 have z2 := al.at (uh HX) 2 _ rfl
 have z3 := al.at (uh HX) 3 _ rfl
 have z4 := al.at (uh HX) 4 _ rfl
 have z5 := al.at (uh HX) 5 _ rfl
 have z6 := al.at (uh HX) 6 _ rfl
 simp only [ga, gb, gc] at z0 z1 z2 z3 z4 z5 z6
 by_cases d3 : au x.chain ≠ 0
 ·
  have hd : (au x.chain != 0) = true := by simpa using d3
  replace HP := yh ((uh HP).trans (if_pos d3))
  clear d3
  generalize au x.chain = c at *
  go_wp2_with fail
  go_ret
  exact ⟨by rw [uh HP]; rfl, uh HB⟩
 replace HP := yh ((uh HP).trans (if_neg d3))
 have hd : au x.chain = 0 := by simpa using d3
 clear d3
 rw [hd]
 clear hd
 go_wp2_with fail
 obtain ⟨_, _, _, _, _, _, _, _, hq, RC, RN, -, -⟩ := aE (uh HR)
 simp only [List.cons.injEq, Value.slice.injEq, and_true, true_and] at hq
 obtain ⟨⟨rfl, rfl⟩, ⟨rfl, rfl⟩, ⟨rfl, rfl⟩, rfl, rfl⟩ := hq
 refine (gX _ x.chain _ x.nodes w2 RC RN).mono ?_
 rintro e w3 ⟨rfl, hb⟩
 clear RC RN z0 z1 z2 z3 z4 z5 z6
 replace HX := yh ((uh HX).ar hb)
 replace HR := yh ((uh HR).af hb)
 replace HB := bZ HB hb
 clear hb
 have z0 := al.at (uh HX) 0 _ rfl
 have z1 := al.at (uh HX) 1 _ rfl
 have z2 := al.at (uh HX) 2 _ rfl
 have z3 := al.at (uh HX) 3 _ rfl
 have z4 := al.at (uh HX) 4 _ rfl
 have z5 := al.at (uh HX) 5 _ rfl
 have z6 := al.at (uh HX) 6 _ rfl
 simp only [ga, gb, gc] at z0 z1 z2 z3 z4 z5 z6
 by_cases d3 : cK x.chain x.nodes ≠ 0
 ·
  have hd : (cK x.chain x.nodes != 0) = true := by simpa using d3
  replace HP := yh ((uh HP).trans (if_pos d3))
  clear d3
  generalize cK x.chain x.nodes = c at *
  go_wp2_with fail
  go_ret
  exact ⟨by rw [uh HP]; rfl, uh HB⟩
 replace HP := yh ((uh HP).trans (if_neg d3))
 have hd : cK x.chain x.nodes = 0 := by simpa using d3
 clear d3
 rw [hd]
 clear hd
 go_wp2_with fail
 obtain ⟨_, _, _, _, _, _, _, _, hq, RC, -, -, -⟩ := aE (uh HR)
 simp only [List.cons.injEq, Value.slice.injEq, and_true, true_and] at hq
 obtain ⟨⟨rfl, rfl⟩, ⟨rfl, rfl⟩, ⟨rfl, rfl⟩, rfl, rfl⟩ := hq
 obtain ⟨_, _, hq, RI⟩ := bc RC
 simp only [List.cons.injEq, Value.slice.injEq, and_true, true_and] at hq
 obtain ⟨rfl, rfl⟩ := hq
 refine (fp a3 d3 a4 d4 a5 d5 a6 d6 x _ x.chain.ids w.heap.size w3 (uh HR) (uh HX) RI).mono ?_
 rintro e w4 ⟨rfl, hb⟩
 clear RC RI z0 z1 z2 z3 z4 z5 z6
 replace HX := yh ((uh HX).ar hb)
 replace HR := yh ((uh HR).af hb)
 replace HB := bZ HB hb
 clear hb
 have z0 := al.at (uh HX) 0 _ rfl
 have z1 := al.at (uh HX) 1 _ rfl
 have z2 := al.at (uh HX) 2 _ rfl
 have z3 := al.at (uh HX) 3 _ rfl
 have z4 := al.at (uh HX) 4 _ rfl
 have z5 := al.at (uh HX) 5 _ rfl
 have z6 := al.at (uh HX) 6 _ rfl
 simp only [ga, gb, gc] at z0 z1 z2 z3 z4 z5 z6
 cases d3 : x.chain.ids.all (bq x)
 ·
  replace HP := yh ((uh HP).trans (if_pos (by rw [d3]; rfl)))
  clear d3
  go_wp2_with fail
  go_ret
  exact ⟨by rw [uh HP]; rfl, uh HB⟩
 replace HP := yh ((uh HP).trans (if_neg (by rw [d3]; simp)))
 clear d3
 go_wp2_with fail
 obtain ⟨_, _, _, _, _, _, _, _, hq, -, -, RM, -⟩ := aE (uh HR)
 simp only [List.cons.injEq, Value.slice.injEq, and_true, true_and] at hq
 obtain ⟨⟨rfl, rfl⟩, ⟨rfl, rfl⟩, ⟨rfl, rfl⟩, rfl, rfl⟩ := hq
 refine (gm _ x.msgs w4 RM).mono ?_
 rintro e w5 ⟨rfl, hb⟩
 clear RM z0 z1 z2 z3 z4 z5 z6
 replace HX := yh ((uh HX).ar hb)
 replace HR := yh ((uh HR).af hb)
 replace HB := bZ HB hb
 clear hb
 have z0 := al.at (uh HX) 0 _ rfl
 have z1 := al.at (uh HX) 1 _ rfl
 have z2 := al.at (uh HX) 2 _ rfl
 have z3 := al.at (uh HX) 3 _ rfl
 have z4 := al.at (uh HX) 4 _ rfl
 have z5 := al.at (uh HX) 5 _ rfl
 have z6 := al.at (uh HX) 6 _ rfl
 simp only [ga, gb, gc] at z0 z1 z2 z3 z4 z5 z6
 by_cases d3 : aG x.msgs ≠ 0
 ·
  have hd : (aG x.msgs != 0) = true := by simpa using d3
  replace HP := yh ((uh HP).trans (if_pos d3))
  clear d3
  generalize aG x.msgs = c at *
  go_wp2_with fail
  go_ret
  exact ⟨by rw [uh HP]; rfl, uh HB⟩
 replace HP := yh ((uh HP).trans (if_neg d3))
 have hd : aG x.msgs = 0 := by simpa using d3
 clear d3
 rw [hd]
 clear hd
 go_wp2_with fail
 obtain ⟨_, _, _, _, _, _, _, _, hq, -, -, -, RE⟩ := aE (uh HR)
 simp only [List.cons.injEq, Value.slice.injEq, and_true, true_and] at hq
 obtain ⟨⟨rfl, rfl⟩, ⟨rfl, rfl⟩, ⟨rfl, rfl⟩, rfl, rfl⟩ := hq
 refine (fD _ x.ae x.events w5 RE).mono ?_
 rintro e w6 ⟨rfl, hb⟩
 replace HB := bZ HB hb
 clear RE hb z0 z1 z2 z3 z4 z5 z6
 go_wp2_with fail
 go_ret
 exact ⟨by rw [uh HP]; rfl, uh HB⟩
theorem jq {x : aM} {id : Int} (h : bq x id = true) : ∃ k, ∃ _ : k < x.nodes.length, id = (k : Int) + 1 := by
 simp only [bq, Bool.and_eq_true, decide_eq_true_eq] at h
 exact ⟨(id - 1).toNat, by omega, by omega⟩
theorem jC {x : aM} {k : Nat} (hk : k < x.nodes.length) : gi x ((k : Int) + 1) = x.nodes[k] := by
 have : ((k : Int) + 1 - 1).toNat = k := by omega
 rw [gi, this]
 simp [List.getD, hk]
def cy (x : aM) : Int := x.chain.ids.getD (x.chain.ids.length - 1) 0
structure dK (x : aM) : Prop where
 chain : au x.chain = 0
 some : 1 ≤ x.nodes.length ∧ x.nodes.length ≤ 5
 nodes : ∀ k (h : k < x.nodes.length), ax x.nodes[k] = 0 ∧ x.nodes[k].id = (k : Int) + 1 ∧ x.nodes[k].ab ≤ x.chain.ab
 ids : ∀ z ∈ x.chain.ids, bq x z = true
theorem cA.mid {x : aM} (h : cA x) : dK x := ⟨h.chain, h.some, h.nodes, h.ids⟩
theorem tail_at {x : aM} (h : cA x) : ∃ (k : Nat) (_ : k < x.nodes.length), cy x = (k : Int) + 1 := by
 have h1 := (cz h.chain).len
 have hlt : x.chain.ids.length - 1 < x.chain.ids.length := by omega
 have e : cy x = x.chain.ids[x.chain.ids.length - 1] := by
  unfold cy
  generalize x.chain.ids.length - 1 = j at *
  simp [List.getD, hlt]
 have h2 := h.ids _ (List.getElem_mem hlt)
 rw [← e] at h2
 exact jq h2
def fm (x : aM) : List ai := (gi x (cy x)).writes.take (gi x (cy x)).sure.toNat
namespace ad
variable {α : Type} {A : ad α} {w w' : World}
end ad
theorem gO {ws : List ai} {s q : Int} (h : bf ws s q ≠ 0) : ∃ (j : Nat) (hj : j < ws.length), ws[j].aa = s ∧ ws[j].seq = q := by
 refine Classical.byContradiction fun c => h (ff fun j hj e => c ⟨j, hj, e⟩)
theorem jO {ws : List ai} {s q : Int} (hl : ws.length ≤ 200) (hw : ∀ v ∈ ws, wF v = 0) : (bf ws s q = 0 → (bG ws s q).code ≠ 0) ∧ (bf ws s q ≠ 0 → bG ws s q = ⟨0, ((bf ws s q : Nat) : Int)⟩) := by
 have hf : aD ws = 0 := by
  rw [aD, if_neg (by omega)]
  exact cI ws fun j hj => hw _ (List.getElem_mem hj)
 constructor
 ·
  intro h
  by_cases hs : 1 ≤ s ∧ s ≤ 9
  ·
   rw [bG, if_pos (cQ hf hs)]
   by_cases hq : 1 ≤ q ∧ q ≤ 999
   ·
    rw [if_pos hq, if_pos h]; simp
   rw [if_neg hq]; simp
  rw [bG, eg hf hs, if_neg (by decide)]; simp
 intro h
 obtain ⟨j, hj, h1, h2⟩ := gO h
 obtain ⟨-, hs, hq, -⟩ := cx (hw _ (List.getElem_mem hj))
 rw [h1] at hs
 rw [h2] at hq
 rw [bG, if_pos (cQ hf hs), if_pos hq, if_neg h]
def bE (x : aM) (s q : Int) : Int := ((bf (fm x) s q : Nat) : Int)
def cJ (x : aM) (s q : Int) : cc := if aA x ≠ 0 then ⟨aA x, 0⟩ else if bE x s q = 0 then ⟨4, 0⟩ else ⟨0, bE x s q⟩
theorem dY {x : aM} {k : Nat} (hk : k < x.nodes.length) (ht : cy x = (k : Int) + 1) : fm x = x.nodes[k].writes.take x.nodes[k].sure.toNat := by
 rw [fm, ht, jC hk]
theorem jd {x : aM} (h : cA x) : (fm x).length ≤ 40 := by
 obtain ⟨k, hk, ht⟩ := tail_at h
 rw [dY hk ht, List.length_take]
 have := (ch (h.nodes k hk).1).len
 omega
theorem fL {x : aM} (h : cA x) (s q : Int) : 0 ≤ bE x s q ∧ bE x s q ≤ 40 := by
 have h1 := gE (fm x) s q
 have h2 := jd h
 unfold bE
 omega
theorem gN {ws : List ai} {s q : Int} (hl : ws.length ≤ 200) (hw : ∀ v ∈ ws, wF v = 0) : (bG ws s q).value = ((bf ws s q : Nat) : Int) := by
 by_cases h : bf ws s q = 0
 ·
  have hf : aD ws = 0 := by
   rw [aD, if_neg (by omega)]
   exact cI ws fun j hj => hw _ (List.getElem_mem hj)
  rw [h]
  by_cases hs : 1 ≤ s ∧ s ≤ 9
  ·
   rw [bG, if_pos (cQ hf hs)]
   by_cases hq : 1 ≤ q ∧ q ≤ 999
   ·
    rw [if_pos hq, if_pos h]; rfl
   rw [if_neg hq]; rfl
  rw [bG, eg hf hs, if_neg (by decide)]; rfl
 rw [(jO hl hw).2 h]
theorem iD {w : World} {cs : List Value} {y : cc} {lo hi : Nat} (h : ad.bB.aT w cs y lo hi) : cs = [.int .i64 y.code, .int .i64 y.value] ∧ (Lit.int .i64 y.code).wf = true ∧ (Lit.int .i64 y.value).wf = true := by
 obtain ⟨bl, O, -⟩ := h
 obtain ⟨e, -, w0, w1⟩ := bD.1 O.1
 exact ⟨e, w0, w1⟩
structure cr (cs : Array Value) (w : World) (b o : Nat) : Prop where
 lt : b < w.heap.size
 cells : ∀ (i : Nat) (v : Value), cs[i]? = some v → w.cell? ⟨b, o + i, none⟩ = some v
variable {cs : Array Value} {w w' : World} {b o : Nat}
theorem cr.at (h : cr cs w b o) (i : Nat) (v : Value) (hi : cs[i]? = some v) : w.cell? ⟨b, o + i, none⟩ = some v := h.cells i v hi
theorem cr.ar (h : cr cs w b o) (hb : Below w.heap.size w w') : cr cs w' b o := ⟨Nat.lt_of_lt_of_le h.lt hb.size, fun i v hi => (hb.cell (p := ⟨b, o + i, none⟩) h.lt).trans (h.cells i v hi)⟩
theorem cr.drew (h : cr cs w b o) : cr cs w.drew b o := ⟨h.lt, h.cells⟩
theorem cr.ofRow {α : Type} {A : ad α} {off k : Nat} {row : List Value} (hc : ∀ m, m < A.n → w.cell? ⟨b, off + k * A.n + m, none⟩ = row[m]?) (hl : row.length = A.n) (hb : b < w.heap.size) : cr row.toArray w b (off + k * A.n) := ⟨hb, fun i v hi => by
 have h1 : row[i]? = some v := by simpa using hi
 have h2 : i < A.n := by
  rw [← hl]
  rcases Nat.lt_or_ge i row.length with q | q
  ·
   exact q
  rw [List.getElem?_eq_none q] at h1; simp at h1
 rw [hc i h2, h1]⟩
end Go.Proofs.YtecagllmonckgaaGreat
