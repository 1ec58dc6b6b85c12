/-
  Texts of this proof in one: ImplMsgF, ImplFaced, ImplNetF, ImplWF, ImplClone, CloneC, ImplCopied, CopyNs, LayPart, CloneH, CopyHs.
  Their conditions stand in their theorems.
-/
import Derived.Test.YtoanimpijfijgaaGreatAk07
import Derived.Test.YtoanimpijfijgaaGreatAk08
import Derived.Test.YtoanimpijfijgaaGreatAk05
import Derived.Deep.CutRange
import Derived.Test.YtoanimpijfijgaaGreatAk00
import Derived.Defers
import Derived.Recover
import Derived.Laws.Pointers
import Derived.Test.YtoanimpijfijgaaGreatChecked
import Derived.Test.YtoanimpijfijgaaGreatAk04
import Derived.BigQuiet
import Derived.Deep.QuietTactic
import Derived.WalkSmall
import Derived.Test.YtoanimpijfijgaaGreatAk01
import Derived.WalkKit
import Derived.Test.YtoanimpijfijgaaGreatAk03
set_option maxRecDepth 100000
set_option maxHeartbeats 4000000
namespace Go.Proofs.YtoanimpijfijgaaGreat
open Go.RowKit
def idxB (x : DMsg) : Bool := (decide (0 ≤ x.index) && decide (x.index ≤ 40)) && (x.kind == 2 || decide (0 < x.index))
theorem isMsgIndexC (a : Option Addr) (d : Nat) (x : DMsg) (w : World) :
  Calls Tryz.prog 309 #[.agg #[.int .i64 x.kind, .int .i64 x.epoch, .int .i64 x.src, .int .i64 x.dst, .int .i64 x.index, .int .i64 x.write.kind, .int .i64 x.write.id, .slice a x.write.vec.length d, .int .i64 x.write.session, .int .i64 x.write.seq]] w fun e w' => e = .returned (.bool (idxB x)) ∧ Below w.heap.size w w' := by
 have HB : Hid (Below w.heap.size w (w.alloc (.cells #[.int .i64 x.kind, .int .i64 x.epoch, .int .i64 x.src, .int .i64 x.dst, .int .i64 x.index, .int .i64 x.write.kind, .int .i64 x.write.id, .slice a x.write.vec.length d, .int .i64 x.write.session, .int .i64 x.write.seq] 89))) := (Below.refl _ _).alloc (Nat.le_refl _) _
 have L := yh (isUpToC x.index 40 (w.alloc (.cells #[.int .i64 x.kind, .int .i64 x.epoch, .int .i64 x.src, .int .i64 x.dst, .int .i64 x.index, .int .i64 x.write.kind, .int .i64 x.write.id, .slice a x.write.vec.length d, .int .i64 x.write.session, .int .i64 x.write.seq] 89)))
 cases d1 : (decide (0 ≤ x.index) && decide (x.index ≤ 40))
 ·
  have HI : Hid (idxB x = false) := by show idxB x = false; rw [idxB, d1]; rfl
  rw [d1] at L
  clear d1
  go_enter Tryz.func309, Tryz.ntmps309
  go_wp2_with fail
  refine (uh L).mono ?_
  rintro e w1 ⟨rfl, h1⟩
  subst w1
  clear L
  go_wp2_with fail
  go_ret
  exact ⟨by rw [uh HI]; rfl, uh HB⟩
 rw [d1] at L
 cases d2 : (x.kind == 2)
 ·
  have HI : Hid (idxB x = decide (0 < x.index)) := by show idxB x = _; rw [idxB, d1, d2]; rfl
  clear d1
  go_enter Tryz.func309, Tryz.ntmps309
  go_wp2_with fail
  refine (uh L).mono ?_
  rintro e w1 ⟨rfl, h1⟩
  subst w1
  clear L
  go_wp2_with fail
  go_ret
  exact ⟨by rw [uh HI]; rfl, uh HB⟩
 have HI : Hid (idxB x = true) := by show idxB x = _; rw [idxB, d1, d2]; rfl
 clear d1
 go_enter Tryz.func309, Tryz.ntmps309
 go_wp2_with fail
 refine (uh L).mono ?_
 rintro e w1 ⟨rfl, h1⟩
 subst w1
 clear L
 go_wp2_with fail
 go_ret
 exact ⟨by rw [uh HI]; rfl, uh HB⟩
def zeroW : DWrite := ⟨0, 0, [], 0, 0⟩
theorem sameW_zero (y : DWrite) : sameW y zeroW = true ↔ noW y := by
 constructor
 ·
  intro h
  simp only [sameW, zeroW, Bool.and_eq_true, beq_iff_eq] at h
  exact ⟨h.1, h.2.1, h.2.2.1, h.2.2.2.1, by rw [of_decide_eq_true h.2.2.2.2]; rfl⟩
 rintro ⟨h1, h2, h3, h4, h5⟩
 have h6 : y.vec = [] := List.eq_nil_of_length_eq_zero h5
 simp only [sameW, zeroW, Bool.and_eq_true, beq_iff_eq]
 exact ⟨h1, h2, h3, h4, decide_eq_true h6⟩
theorem zeroW_reads (w : World) : Lay.tWrite.Reads w [.int .i64 0, .int .i64 0, .slice none 0 0, .int .i64 0, .int .i64 0] zeroW :=
 ⟨[], lies_Write.2 ⟨none, 0, [], rfl, rfl, by decide, by decide, ⟨none, 0, rfl, ⟨by simp [zeroW], by simp [zeroW]⟩, Or.inl ⟨rfl, rfl⟩⟩, by decide, by decide⟩⟩
theorem mfi_kind {x : DMsg} (h : (x.kind == 1) = false) (h2 : (x.kind == 2) = false) : msgFault x = 1 := by
 have h1 : ¬ x.kind = 1 := by simpa using h
 have h3 : ¬ x.kind = 2 := by simpa using h2
 rw [msgFault, if_pos (Or.inl (by omega))]
theorem mfi_self {x : DMsg} (h : (x.src != x.dst) = false) : msgFault x = 1 := by
 rw [msgFault, if_pos (Or.inr (Or.inl (by simpa using h)))]
theorem mfi_ack {x : DMsg} (h : (x.kind == 2) = true) (h2 : sameW x.write zeroW = false) : msgFault x = 1 := by
 rw [msgFault, if_pos (Or.inr (Or.inr ⟨by simpa using h, fun q => by rw [(sameW_zero _).2 q] at h2; simp at h2⟩))]
def formM (x : DMsg) : Prop := (1 ≤ x.kind ∧ x.kind ≤ 2) ∧ x.src ≠ x.dst ∧ (x.kind = 2 → noW x.write)
theorem mfi_form {x : DMsg} (h : formM x) : msgFault x = if ¬ (1 ≤ x.epoch ∧ x.epoch ≤ 999) ∨ ¬ (1 ≤ x.src ∧ x.src ≤ 5) ∨ ¬ (1 ≤ x.dst ∧ x.dst ≤ 5) ∨ ¬ (0 ≤ x.index ∧ x.index ≤ 40) ∨ (x.kind ≠ 2 ∧ x.index = 0) then 3
 else if x.kind = 2 then 0 else wF x.write := by
 rw [msgFault, if_neg]
 rintro (h1 | h1 | h1)
 ·
  exact h1 h.1
 ·
  exact h.2.1 h1
 exact h1.2 (h.2.2 h1.1)
theorem mfi_epoch {x : DMsg} (h : formM x) (h2 : (decide (1 ≤ x.epoch) && decide (x.epoch ≤ 999)) = false) : msgFault x = 3 := by
 rw [mfi_form h, if_pos (Or.inl fun q => by simp at h2; omega)]
theorem mfi_src {x : DMsg} (h : formM x) (h2 : (decide (1 ≤ x.src) && decide (x.src ≤ 5)) = false) : msgFault x = 3 := by
 rw [mfi_form h, if_pos (Or.inr (Or.inl fun q => by simp at h2; omega))]
theorem mfi_dst {x : DMsg} (h : formM x) (h2 : (decide (1 ≤ x.dst) && decide (x.dst ≤ 5)) = false) : msgFault x = 3 := by
 rw [mfi_form h, if_pos (Or.inr (Or.inr (Or.inl fun q => by simp at h2; omega)))]
theorem mfi_idx {x : DMsg} (h : formM x) (h2 : idxB x = false) : msgFault x = 3 := by
 rw [mfi_form h, if_pos]
 have : ¬ (0 ≤ x.index ∧ x.index ≤ 40) ∨ (x.kind ≠ 2 ∧ x.index = 0) := by
  refine Decidable.byContradiction fun q => ?_
  rw [idxB] at h2
  have q1 : 0 ≤ x.index ∧ x.index ≤ 40 := Decidable.byContradiction fun z => q (Or.inl z)
  rw [decide_eq_true q1.1, decide_eq_true q1.2] at h2
  simp at h2
  exact q (Or.inr ⟨h2.1, by omega⟩)
 exact Or.inr (Or.inr (Or.inr this))
theorem mfi_rest {x : DMsg} (h : formM x) (h1 : (decide (1 ≤ x.epoch) && decide (x.epoch ≤ 999)) = true) (h2 : (decide (1 ≤ x.src) && decide (x.src ≤ 5)) = true) (h3 : (decide (1 ≤ x.dst) && decide (x.dst ≤ 5)) = true) (h4 : idxB x = true) : msgFault x = if x.kind = 2 then 0 else wF x.write := by
 simp only [Bool.and_eq_true, decide_eq_true_eq] at h1 h2 h3
 simp only [idxB, Bool.and_eq_true, Bool.or_eq_true, decide_eq_true_eq, beq_iff_eq] at h4
 rw [mfi_form h, if_neg]
 rintro (q | q | q | q | q)
 ·
  exact q h1
 ·
  exact q h2
 ·
  exact q h3
 ·
  exact q h4.1
 rcases h4.2 with z | z
 ·
  exact q.1 z
 omega
theorem vec_of {w : World} {x : DWrite} {a : Option Addr} {d : Nat} (h : Lay.tWrite.Reads w [.int .i64 x.kind, .int .i64 x.id, .slice a x.vec.length d, .int .i64 x.session, .int .i64 x.seq] x) : (Lay.sl Lay.int).Reads w [.slice a x.vec.length d] x.vec := by
 obtain ⟨a2, d2, e, R⟩ := open_Write h
 simp only [List.cons.injEq, Value.slice.injEq, and_true, true_and] at e
 obtain ⟨rfl, rfl⟩ := e
 exact R
theorem mustBeMsgC (cs : List Value) (x : DMsg) (w : World) (h : Lay.tMsg.Reads w cs x) :
  Calls Tryz.prog 283 #[.agg cs.toArray] w fun e w' => e = wrongE (msgFault x) ∧ Below w.heap.size w w' := by
 obtain ⟨a, d, rfl, R⟩ := open_Msg h
 have nb : Below w.heap.size w (w.alloc (.cells #[.int .i64 x.kind, .int .i64 x.epoch, .int .i64 x.src, .int .i64 x.dst, .int .i64 x.index, .int .i64 x.write.kind, .int .i64 x.write.id, .slice a x.write.vec.length d, .int .i64 x.write.session, .int .i64 x.write.seq] 89)) := (Below.refl _ _).alloc (Nat.le_refl _) _
 have HR := yh (R.later nb)
 have HB := yh nb
 have HX : Hid (Box 0 #[.int .i64 x.kind, .int .i64 x.epoch, .int .i64 x.src, .int .i64 x.dst, .int .i64 x.index, .int .i64 x.write.kind, .int .i64 x.write.id, .slice a x.write.vec.length d, .int .i64 x.write.session, .int .i64 x.write.seq] 89 (w.alloc (.cells #[.int .i64 x.kind, .int .i64 x.epoch, .int .i64 x.src, .int .i64 x.dst, .int .i64 x.index, .int .i64 x.write.kind, .int .i64 x.write.id, .slice a x.write.vec.length d, .int .i64 x.write.session, .int .i64 x.write.seq] 89)) w.heap.size) := newBox (Nat.zero_le _)
 clear R h nb
 go_enter Tryz.func283, Tryz.ntmps283
 go_upto_region 1 with fail
 generalize (w.alloc (.cells #[.int .i64 x.kind, .int .i64 x.epoch, .int .i64 x.src, .int .i64 x.dst, .int .i64 x.index, .int .i64 x.write.kind, .int .i64 x.write.id, .slice a x.write.vec.length d, .int .i64 x.write.session, .int .i64 x.write.seq] 89)) = W1 at *
 have z0 : W1.cell? ⟨w.heap.size, 0, none⟩ = some (.int .i64 x.kind) := (uh HX).at 0 _ rfl
 have z1 : W1.cell? ⟨w.heap.size, 1, none⟩ = some (.int .i64 x.epoch) := (uh HX).at 1 _ rfl
 have z2 : W1.cell? ⟨w.heap.size, 2, none⟩ = some (.int .i64 x.src) := (uh HX).at 2 _ rfl
 have z3 : W1.cell? ⟨w.heap.size, 3, none⟩ = some (.int .i64 x.dst) := (uh HX).at 3 _ rfl
 have z4 : W1.cell? ⟨w.heap.size, 4, none⟩ = some (.int .i64 x.index) := (uh HX).at 4 _ rfl
 have z5 : W1.cell? ⟨w.heap.size, 5, none⟩ = some (.int .i64 x.write.kind) := (uh HX).at 5 _ rfl
 have z6 : W1.cell? ⟨w.heap.size, 6, none⟩ = some (.int .i64 x.write.id) := (uh HX).at 6 _ rfl
 have z7 : W1.cell? ⟨w.heap.size, 7, none⟩ = some (.slice a x.write.vec.length d) := (uh HX).at 7 _ rfl
 have z8 : W1.cell? ⟨w.heap.size, 8, none⟩ = some (.int .i64 x.write.session) := (uh HX).at 8 _ rfl
 have z9 : W1.cell? ⟨w.heap.size, 9, none⟩ = some (.int .i64 x.write.seq) := (uh HX).at 9 _ rfl
 cases e1 : (x.kind == 1)
 ·
  cases e2 : (x.kind == 2)
  ·
   have HF := yh (mfi_kind e1 e2)
   go_wp2_with fail
   refine (mustF 1 _).mono ?_
   rintro e w9 ⟨rfl, h9⟩
   subst w9
   go_wp2_with fail
   exact ⟨rfl, by rw [uh HF]; rfl, uh HB⟩
  go_wp2_with fail
  refine (mustT 1 _).mono ?_
  rintro e w9 ⟨rfl, h9⟩
  subst w9
  cases e3 : (x.src != x.dst)
  ·
   have HF := yh (mfi_self e3)
   go_wp2_with fail
   refine (mustF 1 _).mono ?_
   rintro e w9 ⟨rfl, h9⟩
   subst w9
   go_wp2_with fail
   exact ⟨rfl, by rw [uh HF]; rfl, uh HB⟩
  go_wp2_with fail
  refine (mustT 1 _).mono ?_
  rintro e w9 ⟨rfl, h9⟩
  subst w9
  have HL := yh (sameWrite _ _ x.write zeroW W1 (uh HR) (zeroW_reads W1))
  go_wp2_with fail
  refine (uh HL).mono ?_
  rintro e Wa ⟨rfl, hb⟩
  replace HX := yh ((uh HX).keep hb)
  replace HR := yh ((uh HR).later hb)
  replace HB := yh ((uh HB).trans (hb.mono (uh HB).size))
  clear hb z0 z1 z2 z3 z4 z5 z6 z7 z8 z9
  have z0 : Wa.cell? ⟨w.heap.size, 0, none⟩ = some (.int .i64 x.kind) := (uh HX).at 0 _ rfl
  have z1 : Wa.cell? ⟨w.heap.size, 1, none⟩ = some (.int .i64 x.epoch) := (uh HX).at 1 _ rfl
  have z2 : Wa.cell? ⟨w.heap.size, 2, none⟩ = some (.int .i64 x.src) := (uh HX).at 2 _ rfl
  have z3 : Wa.cell? ⟨w.heap.size, 3, none⟩ = some (.int .i64 x.dst) := (uh HX).at 3 _ rfl
  have z4 : Wa.cell? ⟨w.heap.size, 4, none⟩ = some (.int .i64 x.index) := (uh HX).at 4 _ rfl
  have z5 : Wa.cell? ⟨w.heap.size, 5, none⟩ = some (.int .i64 x.write.kind) := (uh HX).at 5 _ rfl
  have z6 : Wa.cell? ⟨w.heap.size, 6, none⟩ = some (.int .i64 x.write.id) := (uh HX).at 6 _ rfl
  have z7 : Wa.cell? ⟨w.heap.size, 7, none⟩ = some (.slice a x.write.vec.length d) := (uh HX).at 7 _ rfl
  have z8 : Wa.cell? ⟨w.heap.size, 8, none⟩ = some (.int .i64 x.write.session) := (uh HX).at 8 _ rfl
  have z9 : Wa.cell? ⟨w.heap.size, 9, none⟩ = some (.int .i64 x.write.seq) := (uh HX).at 9 _ rfl
  clear HL
  cases e9 : sameW x.write zeroW
  ·
   have HF := yh (mfi_ack e2 e9)
   clear e9
   go_wp2_with fail
   refine (mustF 1 _).mono ?_
   rintro e w9 ⟨rfl, h9⟩
   subst w9
   go_wp2_with fail
   exact ⟨rfl, by rw [uh HF]; rfl, uh HB⟩
  have HFM : Hid (formM x) := ⟨by simp at e2; omega, by simpa using e3, fun _ => (sameW_zero _).1 e9⟩
  clear e9
  go_wp2_with fail
  refine (mustT 1 _).mono ?_
  rintro e w9 ⟨rfl, h9⟩
  subst w9
  cases e4 : (decide (1 ≤ x.epoch) && decide (x.epoch ≤ 999))
  ·
   have HL := yh (isChainEpochC x.epoch Wa)
   rw [e4] at HL
   have HF := yh (mfi_epoch (uh HFM) e4)
   clear e4
   go_wp2_with fail
   refine (uh HL).mono ?_
   rintro e w9 ⟨rfl, h9⟩
   subst w9
   clear HL
   go_wp2_with fail
   refine (mustF 3 _).mono ?_
   rintro e w9 ⟨rfl, h9⟩
   subst w9
   go_wp2_with fail
   exact ⟨rfl, by rw [uh HF]; rfl, uh HB⟩
  have HL := yh (isChainEpochC x.epoch Wa)
  rw [e4] at HL
  have HE := yh e4
  clear e4
  go_wp2_with fail
  refine (uh HL).mono ?_
  rintro e w9 ⟨rfl, h9⟩
  subst w9
  clear HL
  go_wp2_with fail
  refine (mustT 3 _).mono ?_
  rintro e w9 ⟨rfl, h9⟩
  subst w9
  cases e5 : (decide (1 ≤ x.src) && decide (x.src ≤ 5))
  ·
   have HL := yh (isNodeIdC x.src Wa)
   rw [e5] at HL
   have HF := yh (mfi_src (uh HFM) e5)
   clear e5
   go_wp2_with fail
   refine (uh HL).mono ?_
   rintro e w9 ⟨rfl, h9⟩
   subst w9
   clear HL
   go_wp2_with fail
   refine (mustF 3 _).mono ?_
   rintro e w9 ⟨rfl, h9⟩
   subst w9
   go_wp2_with fail
   exact ⟨rfl, by rw [uh HF]; rfl, uh HB⟩
  have HL := yh (isNodeIdC x.src Wa)
  rw [e5] at HL
  have HS := yh e5
  clear e5
  go_wp2_with fail
  refine (uh HL).mono ?_
  rintro e w9 ⟨rfl, h9⟩
  subst w9
  clear HL
  cases e6 : (decide (1 ≤ x.dst) && decide (x.dst ≤ 5))
  ·
   have HL := yh (isNodeIdC x.dst Wa)
   rw [e6] at HL
   have HF := yh (mfi_dst (uh HFM) e6)
   clear e6
   go_wp2_with fail
   refine (uh HL).mono ?_
   rintro e w9 ⟨rfl, h9⟩
   subst w9
   clear HL
   go_wp2_with fail
   refine (mustF 3 _).mono ?_
   rintro e w9 ⟨rfl, h9⟩
   subst w9
   go_wp2_with fail
   exact ⟨rfl, by rw [uh HF]; rfl, uh HB⟩
  have HL := yh (isNodeIdC x.dst Wa)
  rw [e6] at HL
  have HD := yh e6
  clear e6
  go_wp2_with fail
  refine (uh HL).mono ?_
  rintro e w9 ⟨rfl, h9⟩
  subst w9
  clear HL
  go_wp2_with fail
  refine (mustT 3 _).mono ?_
  rintro e w9 ⟨rfl, h9⟩
  subst w9
  have HL := yh (isMsgIndexC a d x Wa)
  go_wp2_with fail
  refine (uh HL).mono ?_
  rintro e W2 ⟨rfl, hb⟩
  replace HX := yh ((uh HX).keep hb)
  replace HR := yh ((uh HR).later hb)
  replace HB := yh ((uh HB).trans (hb.mono (uh HB).size))
  clear hb z0 z1 z2 z3 z4 z5 z6 z7 z8 z9
  have z0 : W2.cell? ⟨w.heap.size, 0, none⟩ = some (.int .i64 x.kind) := (uh HX).at 0 _ rfl
  have z1 : W2.cell? ⟨w.heap.size, 1, none⟩ = some (.int .i64 x.epoch) := (uh HX).at 1 _ rfl
  have z2 : W2.cell? ⟨w.heap.size, 2, none⟩ = some (.int .i64 x.src) := (uh HX).at 2 _ rfl
  have z3 : W2.cell? ⟨w.heap.size, 3, none⟩ = some (.int .i64 x.dst) := (uh HX).at 3 _ rfl
  have z4 : W2.cell? ⟨w.heap.size, 4, none⟩ = some (.int .i64 x.index) := (uh HX).at 4 _ rfl
  have z5 : W2.cell? ⟨w.heap.size, 5, none⟩ = some (.int .i64 x.write.kind) := (uh HX).at 5 _ rfl
  have z6 : W2.cell? ⟨w.heap.size, 6, none⟩ = some (.int .i64 x.write.id) := (uh HX).at 6 _ rfl
  have z7 : W2.cell? ⟨w.heap.size, 7, none⟩ = some (.slice a x.write.vec.length d) := (uh HX).at 7 _ rfl
  have z8 : W2.cell? ⟨w.heap.size, 8, none⟩ = some (.int .i64 x.write.session) := (uh HX).at 8 _ rfl
  have z9 : W2.cell? ⟨w.heap.size, 9, none⟩ = some (.int .i64 x.write.seq) := (uh HX).at 9 _ rfl
  clear HL
  cases e7 : idxB x
  ·
   have HF := yh (mfi_idx (uh HFM) e7)
   clear e7
   go_wp2_with fail
   refine (mustF 3 _).mono ?_
   rintro e w9 ⟨rfl, h9⟩
   subst w9
   go_wp2_with fail
   exact ⟨rfl, by rw [uh HF]; rfl, uh HB⟩
  have HF := yh (mfi_rest (uh HFM) (uh HE) (uh HS) (uh HD) e7)
  clear e7
  go_wp2_with fail
  refine (mustT 3 _).mono ?_
  rintro e w9 ⟨rfl, h9⟩
  subst w9
  replace HF := yh ((uh HF).trans (if_pos (by simpa using e2)))
  go_wp2_with fail
  go_end0
  exact ⟨by rw [uh HF]; rfl, uh HB⟩
 go_wp2_with fail
 refine (mustT 1 _).mono ?_
 rintro e w9 ⟨rfl, h9⟩
 subst w9
 cases e3 : (x.src != x.dst)
 ·
  have HF := yh (mfi_self e3)
  go_wp2_with fail
  refine (mustF 1 _).mono ?_
  rintro e w9 ⟨rfl, h9⟩
  subst w9
  go_wp2_with fail
  exact ⟨rfl, by rw [uh HF]; rfl, uh HB⟩
 have HFM : Hid (formM x) := ⟨by simp at e1; omega, by simpa using e3, fun q => by simp at e1; omega⟩
 go_wp2_with fail
 refine (mustT 1 _).mono ?_
 rintro e w9 ⟨rfl, h9⟩
 subst w9
 go_wp2_with fail
 refine (mustT 1 _).mono ?_
 rintro e w9 ⟨rfl, h9⟩
 subst w9
 cases e4 : (decide (1 ≤ x.epoch) && decide (x.epoch ≤ 999))
 ·
  have HL := yh (isChainEpochC x.epoch W1)
  rw [e4] at HL
  have HF := yh (mfi_epoch (uh HFM) e4)
  clear e4
  go_wp2_with fail
  refine (uh HL).mono ?_
  rintro e w9 ⟨rfl, h9⟩
  subst w9
  clear HL
  go_wp2_with fail
  refine (mustF 3 _).mono ?_
  rintro e w9 ⟨rfl, h9⟩
  subst w9
  go_wp2_with fail
  exact ⟨rfl, by rw [uh HF]; rfl, uh HB⟩
 have HL := yh (isChainEpochC x.epoch W1)
 rw [e4] at HL
 have HE := yh e4
 clear e4
 go_wp2_with fail
 refine (uh HL).mono ?_
 rintro e w9 ⟨rfl, h9⟩
 subst w9
 clear HL
 go_wp2_with fail
 refine (mustT 3 _).mono ?_
 rintro e w9 ⟨rfl, h9⟩
 subst w9
 cases e5 : (decide (1 ≤ x.src) && decide (x.src ≤ 5))
 ·
  have HL := yh (isNodeIdC x.src W1)
  rw [e5] at HL
  have HF := yh (mfi_src (uh HFM) e5)
  clear e5
  go_wp2_with fail
  refine (uh HL).mono ?_
  rintro e w9 ⟨rfl, h9⟩
  subst w9
  clear HL
  go_wp2_with fail
  refine (mustF 3 _).mono ?_
  rintro e w9 ⟨rfl, h9⟩
  subst w9
  go_wp2_with fail
  exact ⟨rfl, by rw [uh HF]; rfl, uh HB⟩
 have HL := yh (isNodeIdC x.src W1)
 rw [e5] at HL
 have HS := yh e5
 clear e5
 go_wp2_with fail
 refine (uh HL).mono ?_
 rintro e w9 ⟨rfl, h9⟩
 subst w9
 clear HL
 cases e6 : (decide (1 ≤ x.dst) && decide (x.dst ≤ 5))
 ·
  have HL := yh (isNodeIdC x.dst W1)
  rw [e6] at HL
  have HF := yh (mfi_dst (uh HFM) e6)
  clear e6
  go_wp2_with fail
  refine (uh HL).mono ?_
  rintro e w9 ⟨rfl, h9⟩
  subst w9
  clear HL
  go_wp2_with fail
  refine (mustF 3 _).mono ?_
  rintro e w9 ⟨rfl, h9⟩
  subst w9
  go_wp2_with fail
  exact ⟨rfl, by rw [uh HF]; rfl, uh HB⟩
 have HL := yh (isNodeIdC x.dst W1)
 rw [e6] at HL
 have HD := yh e6
 clear e6
 go_wp2_with fail
 refine (uh HL).mono ?_
 rintro e w9 ⟨rfl, h9⟩
 subst w9
 clear HL
 go_wp2_with fail
 refine (mustT 3 _).mono ?_
 rintro e w9 ⟨rfl, h9⟩
 subst w9
 have HL := yh (isMsgIndexC a d x W1)
 go_wp2_with fail
 refine (uh HL).mono ?_
 rintro e W2 ⟨rfl, hb⟩
 replace HX := yh ((uh HX).keep hb)
 replace HR := yh ((uh HR).later hb)
 replace HB := yh ((uh HB).trans (hb.mono (uh HB).size))
 clear hb z0 z1 z2 z3 z4 z5 z6 z7 z8 z9
 have z0 : W2.cell? ⟨w.heap.size, 0, none⟩ = some (.int .i64 x.kind) := (uh HX).at 0 _ rfl
 have z1 : W2.cell? ⟨w.heap.size, 1, none⟩ = some (.int .i64 x.epoch) := (uh HX).at 1 _ rfl
 have z2 : W2.cell? ⟨w.heap.size, 2, none⟩ = some (.int .i64 x.src) := (uh HX).at 2 _ rfl
 have z3 : W2.cell? ⟨w.heap.size, 3, none⟩ = some (.int .i64 x.dst) := (uh HX).at 3 _ rfl
 have z4 : W2.cell? ⟨w.heap.size, 4, none⟩ = some (.int .i64 x.index) := (uh HX).at 4 _ rfl
 have z5 : W2.cell? ⟨w.heap.size, 5, none⟩ = some (.int .i64 x.write.kind) := (uh HX).at 5 _ rfl
 have z6 : W2.cell? ⟨w.heap.size, 6, none⟩ = some (.int .i64 x.write.id) := (uh HX).at 6 _ rfl
 have z7 : W2.cell? ⟨w.heap.size, 7, none⟩ = some (.slice a x.write.vec.length d) := (uh HX).at 7 _ rfl
 have z8 : W2.cell? ⟨w.heap.size, 8, none⟩ = some (.int .i64 x.write.session) := (uh HX).at 8 _ rfl
 have z9 : W2.cell? ⟨w.heap.size, 9, none⟩ = some (.int .i64 x.write.seq) := (uh HX).at 9 _ rfl
 clear HL
 cases e7 : idxB x
 ·
  have HF := yh (mfi_idx (uh HFM) e7)
  clear e7
  go_wp2_with fail
  refine (mustF 3 _).mono ?_
  rintro e w9 ⟨rfl, h9⟩
  subst w9
  go_wp2_with fail
  exact ⟨rfl, by rw [uh HF]; rfl, uh HB⟩
 have HF := yh (mfi_rest (uh HFM) (uh HE) (uh HS) (uh HD) e7)
 clear e7
 go_wp2_with fail
 refine (mustT 3 _).mono ?_
 rintro e w9 ⟨rfl, h9⟩
 subst w9
 replace HF := yh ((uh HF).trans (if_neg (by simp at e1; omega)))
 have HL := yh (implWriteFault x.write.kind x.write.id _ x.write.session x.write.seq x.write.vec W2 (Lay.ints_reads (vec_of (uh HR))))
 go_wp2_with fail
 refine (uh HL).mono ?_
 rintro e W3 ⟨rfl, hb⟩
 replace HX := yh ((uh HX).keep hb)
 replace HR := yh ((uh HR).later hb)
 replace HB := yh ((uh HB).trans (hb.mono (uh HB).size))
 clear hb z0 z1 z2 z3 z4 z5 z6 z7 z8 z9
 have z0 : W3.cell? ⟨w.heap.size, 0, none⟩ = some (.int .i64 x.kind) := (uh HX).at 0 _ rfl
 have z1 : W3.cell? ⟨w.heap.size, 1, none⟩ = some (.int .i64 x.epoch) := (uh HX).at 1 _ rfl
 have z2 : W3.cell? ⟨w.heap.size, 2, none⟩ = some (.int .i64 x.src) := (uh HX).at 2 _ rfl
 have z3 : W3.cell? ⟨w.heap.size, 3, none⟩ = some (.int .i64 x.dst) := (uh HX).at 3 _ rfl
 have z4 : W3.cell? ⟨w.heap.size, 4, none⟩ = some (.int .i64 x.index) := (uh HX).at 4 _ rfl
 have z5 : W3.cell? ⟨w.heap.size, 5, none⟩ = some (.int .i64 x.write.kind) := (uh HX).at 5 _ rfl
 have z6 : W3.cell? ⟨w.heap.size, 6, none⟩ = some (.int .i64 x.write.id) := (uh HX).at 6 _ rfl
 have z7 : W3.cell? ⟨w.heap.size, 7, none⟩ = some (.slice a x.write.vec.length d) := (uh HX).at 7 _ rfl
 have z8 : W3.cell? ⟨w.heap.size, 8, none⟩ = some (.int .i64 x.write.session) := (uh HX).at 8 _ rfl
 have z9 : W3.cell? ⟨w.heap.size, 9, none⟩ = some (.int .i64 x.write.seq) := (uh HX).at 9 _ rfl
 clear HL
 replace HF : Hid (msgFault x = writeFault x.write.kind x.write.id x.write.vec x.write.session x.write.seq) := uh HF
 generalize writeFault x.write.kind x.write.id x.write.vec x.write.session x.write.seq = f at *
 cases e8 : (f == 0)
 ·
  have hf : f ≠ 0 := by simpa using e8
  have HG := yh hf
  clear hf
  go_wp2_with fail
  refine (mustF f _).mono ?_
  rintro e w9 ⟨rfl, h9⟩
  subst w9
  go_wp2_with fail
  exact ⟨rfl, by rw [uh HF]; exact (wrongE_bad (uh HG)).symm, uh HB⟩
 have hf : f = 0 := by simpa using e8
 subst hf
 clear e8
 go_wp2_with fail
 refine (mustT 0 _).mono ?_
 rintro e w9 ⟨rfl, h9⟩
 subst w9
 go_wp2_with fail
 go_end0
 exact ⟨by rw [uh HF]; rfl, uh HB⟩
theorem asWrong (v : Value) (w : World) : (Instr.typeAssert (.iface 331 v) 20 331 true).run Tryz.prog w = .ok (.tuple #[v, .bool true]) w := by kernel_rfl
theorem wrongCodeC (c : Int) (w : World) :
  Calls Tryz.prog 281 #[.iface 331 (.agg #[.int .i64 c])] w fun e w' => e = .returned (.int .i64 c) ∧ Below w.heap.size w w' := by
 have HB : Hid (Below w.heap.size w (w.alloc (.cells #[.int .i64 c] 331))) := yh ((Below.refl _ _).alloc (Nat.le_refl _) _)
 have q := asWrong
 go_enter Tryz.func281, Tryz.ntmps281
 go_wp2_with fail
 go_ret
 exact ⟨rfl, uh HB⟩
theorem catch_bad_bool (p : Addr) (x c : Int) (w : World) (hc : w.cell? p = some (.int .i64 x)) (hz : w.frozen? p = false) (hp : p.block < w.heap.size) :
  CallsD Tryz.prog 280 #[.pointer (some p)] (.panicking (wrongP c)) w fun e u' w' =>
   e = .returned (.tuple #[]) ∧ u' = .panicking [{ v := .iface 331 (.agg #[.int .i64 c]), recovered := true }] ∧ ∃ w1, w' = w1.setCell p (.int .i64 c) ∧ Below w.heap.size w w1 := by
 refine callsD_of_wpS Tryz.func280 rfl fun c₀ cs hu => ?_
 apply wpS_seq
 apply wpS_region
 simp [wpOpsS, go_sem, recoverD, hu, Tryz.ntmps280, Exit.thenS, wrongP]
 refine wpS_of_wp ?_
 have HL := yh (wrongCodeC c w)
 go_wp2_with fail
 refine (uh HL).mono ?_
 rintro e w1 ⟨rfl, hb⟩
 have hc1 : w1.cell? p = some (.int .i64 x) := (hb.cell (p := p) hp).trans hc
 have hz1 : w1.frozen? p = false := (World.frozen?_of_block (hb.block _ hp)).trans hz
 have hp1 : p.block < w1.heap.size := Nat.lt_of_lt_of_le hp hb.size
 have HB := yh hb
 clear hb HL hc hz
 go_wp2_with fail
 refine ⟨rfl, _, rfl, .tuple #[], ?_, rfl, rfl, w1, rfl, uh HB⟩
 simp [results, Tryz.results280, go_sem]
theorem catch_ok_bool (p : Addr) (w : World) :
  CallsD Tryz.prog 280 #[.pointer (some p)] .returning w fun e u' w' => e = .returned (.tuple #[]) ∧ u' = .returning ∧ w' = w := by
 refine callsD_of_wpS Tryz.func280 rfl fun c₀ cs hu => ?_
 apply wpS_seq
 apply wpS_region
 simp [wpOpsS, go_sem, recoverD, hu, Tryz.ntmps280, Exit.thenS]
 refine wpS_of_wp ?_
 go_wp2_with fail
 cases c₀
 simp_all [bodyPostS, results, Tryz.results280, go_sem]
theorem faced_bad_bool (N : Nat) (cap : Array Value) (c : Int) (w : World) (hf : ∀ W : World, (callFunc N cap).run Tryz.prog W = .ok (.enter N cap) W)
  (h : Calls Tryz.prog N cap (w.alloc (.cells #[.int .i64 0] 2)) fun e w' => e = .panicked (wrongP c) ∧ Below (w.heap.size + 1) (w.alloc (.cells #[.int .i64 0] 2)) w') :
  Calls Tryz.prog 231 #[.func (.func N) #[] cap] w fun e w' => e = .returned (.tuple #[.bool false, .int .i64 c]) ∧ Below w.heap.size w w' := by
 have hmf : ∀ (fn : Fn) (first cap : Array Value) (w : World), (Instr.makeFunc fn first cap).run Tryz.prog w = .ok (.func fn first cap) w := fun _ _ _ _ => rfl
 have HL := yh h
 have nb : Below w.heap.size w (w.alloc (.cells #[.int .i64 0] 2)) := (Below.refl _ _).alloc (Nat.le_refl _) _
 have HX : Hid (Box 0 #[.int .i64 0] 2 (w.alloc (.cells #[.int .i64 0] 2)) w.heap.size) := newBox (Nat.zero_le _)
 have HN := yh nb
 clear h nb
 go_enter_defers Tryz.func231, Tryz.ntmps231
 go_wp2_with fail
 refine (uh HL).mono ?_
 rintro e w1 ⟨rfl, hb⟩
 replace HN := yh ((uh HN).trans (hb.mono (by omega)))
 have hX := (uh HX).keep (hb.mono (by simp))
 have z0 : w1.cell? ⟨w.heap.size, 0, none⟩ = some (.int .i64 0) := hX.at 0 _ rfl
 have zf : w1.frozen? ⟨w.heap.size, 0, none⟩ = false := hX.soft 0
 have zl := hX.lt
 clear HL HX hX hb
 go_wp2_with fail
 refine leaves_cons (f := 280) (args := #[.pointer (some ⟨w.heap.size, 0, none⟩)]) (by simp) (by simp [go_sem]) ?_
 refine (catch_bad_bool ⟨w.heap.size, 0, none⟩ 0 c w1 z0 zf zl).mono ?_
 rintro e u' w2 ⟨rfl, rfl, w3, rfl, hb⟩
 have hN : Below w.heap.size w (w3.setCell ⟨w.heap.size, 0, none⟩ (.int .i64 c)) := ((uh HN).trans (hb.mono (uh HN).size)).setCell (by simp) _
 have z1 : (w3.setCell ⟨w.heap.size, 0, none⟩ (.int .i64 c)).cell? ⟨w.heap.size, 0, none⟩ = some (.int .i64 c) := World.cell?_setCell_same _ _ _ ((hb.cell (p := ⟨w.heap.size, 0, none⟩) zl).trans z0)
 simp [Leaves, settle, results, Tryz.results231, go_sem, z1]
 exact hN
theorem faced_ok_bool (N : Nat) (cap : Array Value) (w : World) (Q : Value → World → Prop) (hf : ∀ W : World, (callFunc N cap).run Tryz.prog W = .ok (.enter N cap) W)
  (h : Calls Tryz.prog N cap (w.alloc (.cells #[.int .i64 0] 2)) fun e w' => ∃ v, e = .returned v ∧ Q v w' ∧ Below (w.heap.size + 1) (w.alloc (.cells #[.int .i64 0] 2)) w') :
  Calls Tryz.prog 231 #[.func (.func N) #[] cap] w fun e w' => ∃ v w1, e = .returned (.tuple #[v, .int .i64 0]) ∧ Q v w1 ∧ w' = w1.setCell ⟨w.heap.size, 0, none⟩ (.int .i64 0) ∧ Below w.heap.size w w' ∧ w.heap.size < w1.heap.size := by
 have hmf : ∀ (fn : Fn) (first cap : Array Value) (w : World), (Instr.makeFunc fn first cap).run Tryz.prog w = .ok (.func fn first cap) w := fun _ _ _ _ => rfl
 have HL := yh h
 have nb : Below w.heap.size w (w.alloc (.cells #[.int .i64 0] 2)) := (Below.refl _ _).alloc (Nat.le_refl _) _
 have HX : Hid (Box 0 #[.int .i64 0] 2 (w.alloc (.cells #[.int .i64 0] 2)) w.heap.size) := newBox (Nat.zero_le _)
 have HN := yh nb
 clear h nb
 go_enter_defers Tryz.func231, Tryz.ntmps231
 go_wp2_with fail
 refine (uh HL).mono ?_
 rintro e w1 ⟨v, rfl, hq, hb⟩
 have HQ := yh hq
 replace HN := yh ((uh HN).trans (hb.mono (by omega)))
 have hX := (uh HX).keep (hb.mono (by simp))
 have z0 : w1.cell? ⟨w.heap.size, 0, none⟩ = some (.int .i64 0) := hX.at 0 _ rfl
 have zf : w1.frozen? ⟨w.heap.size, 0, none⟩ = false := hX.soft 0
 have zl := hX.lt
 clear HL HX hX hb hq
 go_wp2_with fail
 refine leaves_cons (f := 280) (args := #[.pointer (some ⟨w.heap.size, 0, none⟩)]) (by simp) (by simp [go_sem]) ?_
 refine (catch_ok_bool ⟨w.heap.size, 0, none⟩ _).mono ?_
 rintro e u' w2 ⟨rfl, rfl, rfl⟩
 have hN : Below w.heap.size w (w1.setCell ⟨w.heap.size, 0, none⟩ (.int .i64 0)) := (uh HN).setCell (by simp) _
 have z1 : (w1.setCell ⟨w.heap.size, 0, none⟩ (.int .i64 0)).cell? ⟨w.heap.size, 0, none⟩ = some (.int .i64 0) := World.cell?_setCell_same _ _ _ z0
 refine ⟨.tuple #[v, .int .i64 0], by simp [results, Tryz.results231, go_sem, z1], v, w1, rfl, uh HQ, rfl, hN, zl⟩
theorem catch_bad_msgs (p : Addr) (x c : Int) (w : World) (hc : w.cell? p = some (.int .i64 x)) (hz : w.frozen? p = false) (hp : p.block < w.heap.size) :
  CallsD Tryz.prog 302 #[.pointer (some p)] (.panicking (wrongP c)) w fun e u' w' =>
   e = .returned (.tuple #[]) ∧ u' = .panicking [{ v := .iface 331 (.agg #[.int .i64 c]), recovered := true }] ∧ ∃ w1, w' = w1.setCell p (.int .i64 c) ∧ Below w.heap.size w w1 := by
 refine callsD_of_wpS Tryz.func302 rfl fun c₀ cs hu => ?_
 apply wpS_seq
 apply wpS_region
 simp [wpOpsS, go_sem, recoverD, hu, Tryz.ntmps302, Exit.thenS, wrongP]
 refine wpS_of_wp ?_
 have HL := yh (wrongCodeC c w)
 go_wp2_with fail
 refine (uh HL).mono ?_
 rintro e w1 ⟨rfl, hb⟩
 have hc1 : w1.cell? p = some (.int .i64 x) := (hb.cell (p := p) hp).trans hc
 have hz1 : w1.frozen? p = false := (World.frozen?_of_block (hb.block _ hp)).trans hz
 have hp1 : p.block < w1.heap.size := Nat.lt_of_lt_of_le hp hb.size
 have HB := yh hb
 clear hb HL hc hz
 go_wp2_with fail
 refine ⟨rfl, _, rfl, .tuple #[], ?_, rfl, rfl, w1, rfl, uh HB⟩
 simp [results, Tryz.results302, go_sem]
theorem catch_ok_msgs (p : Addr) (w : World) :
  CallsD Tryz.prog 302 #[.pointer (some p)] .returning w fun e u' w' => e = .returned (.tuple #[]) ∧ u' = .returning ∧ w' = w := by
 refine callsD_of_wpS Tryz.func302 rfl fun c₀ cs hu => ?_
 apply wpS_seq
 apply wpS_region
 simp [wpOpsS, go_sem, recoverD, hu, Tryz.ntmps302, Exit.thenS]
 refine wpS_of_wp ?_
 go_wp2_with fail
 cases c₀
 simp_all [bodyPostS, results, Tryz.results302, go_sem]
theorem faced_bad_msgs (N : Nat) (cap : Array Value) (c : Int) (w : World) (hf : ∀ W : World, (callFunc N cap).run Tryz.prog W = .ok (.enter N cap) W)
  (h : Calls Tryz.prog N cap (w.alloc (.cells #[.int .i64 0] 2)) fun e w' => e = .panicked (wrongP c) ∧ Below (w.heap.size + 1) (w.alloc (.cells #[.int .i64 0] 2)) w') :
  Calls Tryz.prog 275 #[.func (.func N) #[] cap] w fun e w' => e = .returned (.tuple #[.slice none 0 0, .int .i64 c]) ∧ Below w.heap.size w w' := by
 have hmf : ∀ (fn : Fn) (first cap : Array Value) (w : World), (Instr.makeFunc fn first cap).run Tryz.prog w = .ok (.func fn first cap) w := fun _ _ _ _ => rfl
 have HL := yh h
 have nb : Below w.heap.size w (w.alloc (.cells #[.int .i64 0] 2)) := (Below.refl _ _).alloc (Nat.le_refl _) _
 have HX : Hid (Box 0 #[.int .i64 0] 2 (w.alloc (.cells #[.int .i64 0] 2)) w.heap.size) := newBox (Nat.zero_le _)
 have HN := yh nb
 clear h nb
 go_enter_defers Tryz.func275, Tryz.ntmps275
 go_wp2_with fail
 refine (uh HL).mono ?_
 rintro e w1 ⟨rfl, hb⟩
 replace HN := yh ((uh HN).trans (hb.mono (by omega)))
 have hX := (uh HX).keep (hb.mono (by simp))
 have z0 : w1.cell? ⟨w.heap.size, 0, none⟩ = some (.int .i64 0) := hX.at 0 _ rfl
 have zf : w1.frozen? ⟨w.heap.size, 0, none⟩ = false := hX.soft 0
 have zl := hX.lt
 clear HL HX hX hb
 go_wp2_with fail
 refine leaves_cons (f := 302) (args := #[.pointer (some ⟨w.heap.size, 0, none⟩)]) (by simp) (by simp [go_sem]) ?_
 refine (catch_bad_msgs ⟨w.heap.size, 0, none⟩ 0 c w1 z0 zf zl).mono ?_
 rintro e u' w2 ⟨rfl, rfl, w3, rfl, hb⟩
 have hN : Below w.heap.size w (w3.setCell ⟨w.heap.size, 0, none⟩ (.int .i64 c)) := ((uh HN).trans (hb.mono (uh HN).size)).setCell (by simp) _
 have z1 : (w3.setCell ⟨w.heap.size, 0, none⟩ (.int .i64 c)).cell? ⟨w.heap.size, 0, none⟩ = some (.int .i64 c) := World.cell?_setCell_same _ _ _ ((hb.cell (p := ⟨w.heap.size, 0, none⟩) zl).trans z0)
 simp [Leaves, settle, results, Tryz.results275, go_sem, z1]
 exact hN
theorem faced_ok_msgs (N : Nat) (cap : Array Value) (w : World) (Q : Value → World → Prop) (hf : ∀ W : World, (callFunc N cap).run Tryz.prog W = .ok (.enter N cap) W)
  (h : Calls Tryz.prog N cap (w.alloc (.cells #[.int .i64 0] 2)) fun e w' => ∃ v, e = .returned v ∧ Q v w' ∧ Below (w.heap.size + 1) (w.alloc (.cells #[.int .i64 0] 2)) w') :
  Calls Tryz.prog 275 #[.func (.func N) #[] cap] w fun e w' => ∃ v w1, e = .returned (.tuple #[v, .int .i64 0]) ∧ Q v w1 ∧ w' = w1.setCell ⟨w.heap.size, 0, none⟩ (.int .i64 0) ∧ Below w.heap.size w w' ∧ w.heap.size < w1.heap.size := by
 have hmf : ∀ (fn : Fn) (first cap : Array Value) (w : World), (Instr.makeFunc fn first cap).run Tryz.prog w = .ok (.func fn first cap) w := fun _ _ _ _ => rfl
 have HL := yh h
 have nb : Below w.heap.size w (w.alloc (.cells #[.int .i64 0] 2)) := (Below.refl _ _).alloc (Nat.le_refl _) _
 have HX : Hid (Box 0 #[.int .i64 0] 2 (w.alloc (.cells #[.int .i64 0] 2)) w.heap.size) := newBox (Nat.zero_le _)
 have HN := yh nb
 clear h nb
 go_enter_defers Tryz.func275, Tryz.ntmps275
 go_wp2_with fail
 refine (uh HL).mono ?_
 rintro e w1 ⟨v, rfl, hq, hb⟩
 have HQ := yh hq
 replace HN := yh ((uh HN).trans (hb.mono (by omega)))
 have hX := (uh HX).keep (hb.mono (by simp))
 have z0 : w1.cell? ⟨w.heap.size, 0, none⟩ = some (.int .i64 0) := hX.at 0 _ rfl
 have zf : w1.frozen? ⟨w.heap.size, 0, none⟩ = false := hX.soft 0
 have zl := hX.lt
 clear HL HX hX hb hq
 go_wp2_with fail
 refine leaves_cons (f := 302) (args := #[.pointer (some ⟨w.heap.size, 0, none⟩)]) (by simp) (by simp [go_sem]) ?_
 refine (catch_ok_msgs ⟨w.heap.size, 0, none⟩ _).mono ?_
 rintro e u' w2 ⟨rfl, rfl, rfl⟩
 have hN : Below w.heap.size w (w1.setCell ⟨w.heap.size, 0, none⟩ (.int .i64 0)) := (uh HN).setCell (by simp) _
 have z1 : (w1.setCell ⟨w.heap.size, 0, none⟩ (.int .i64 0)).cell? ⟨w.heap.size, 0, none⟩ = some (.int .i64 0) := World.cell?_setCell_same _ _ _ z0
 refine ⟨.tuple #[v, .int .i64 0], by simp [results, Tryz.results275, go_sem, z1], v, w1, rfl, uh HQ, rfl, hN, zl⟩
theorem msgsFrom_drop {xs : List DMsg} {k : Nat} (hk : k < xs.length) : msgsFrom (xs.drop k) = if msgFault xs[k] = 0 then msgsFrom (xs.drop (k + 1)) else msgFault xs[k] := by
 rw [List.drop_eq_getElem_cons hk, msgsFrom]
theorem mustBeNetC (v : Value) (xs : List DMsg) (w : World) (h : (Lay.sl Lay.tMsg).Reads w [v] xs) :
  Calls Tryz.prog 233 #[v] w fun e w' => e = wrongE (netFault xs) ∧ Below w.heap.size w w' := by
 have hbig := h.big
 obtain ⟨ao, cap, rfl⟩ := open_sl h
 have H := yh h
 clear h
 go_enter Tryz.func233, Tryz.ntmps233
 cases e1 : decide ((xs.length : Int) ≤ 40)
 ·
  have HF : Hid (netFault xs = 2) := by show netFault xs = 2; rw [netFault, if_pos (by simp at e1; omega)]
  go_wp2_with fail
  refine (mustF 2 _).mono ?_
  rintro e w9 ⟨rfl, h9⟩
  subst w9
  go_wp2_with fail
  exact ⟨rfl, by rw [uh HF]; rfl, Below.refl _ _⟩
 have HF : Hid (netFault xs = msgsFrom (xs.drop 0)) := by show netFault xs = _; rw [netFault, if_neg (by simp at e1; omega)]; rfl
 go_wp2_with fail
 refine (mustT 2 _).mono ?_
 rintro e w9 ⟨rfl, h9⟩
 subst w9
 clear e1
 go_wp2_with fail
 go_loopw [10] (fun i wr => ∃ k : Nat, k ≤ xs.length ∧ i = .int .i64 k ∧ netFault xs = msgsFrom (xs.drop k) ∧ Below w.heap.size w wr) (fun i _ => xs.length - (intOf i).toNat)
 case atStart => exact ⟨0, Nat.zero_le _, rfl, uh HF, Below.refl _ _⟩
 case round =>
  obtain ⟨k, hk, rfl, hF, hB⟩ := hrel
  clear HF
  by_cases hlt : k < xs.length
  ·
   obtain ⟨b, off, rfl, hbl⟩ := Lay.sl_addr (uh H) (by omega)
   obtain ⟨row, hc, hr⟩ := Lay.row_at (uh H) hlt
   replace hr := hr.later hB
   rw [msgsFrom_drop hlt] at hF
   have hdl : decide ((k : Int) < (xs.length : Int)) = true := by simp; omega
   obtain ⟨a, d, rfl, -⟩ := open_Msg hr
   have c0 : wr.cell? ⟨b, off + k * 10, none⟩ = some (.int .i64 (xs[k]).kind) := (hB.cell (p := ⟨b, off + k * 10, none⟩) hbl).trans (hc 0 (by decide))
   have c1 : wr.cell? ⟨b, off + k * 10 + 1, none⟩ = some (.int .i64 (xs[k]).epoch) := (hB.cell (p := ⟨b, off + k * 10 + 1, none⟩) hbl).trans (hc 1 (by decide))
   have c2 : wr.cell? ⟨b, off + k * 10 + 2, none⟩ = some (.int .i64 (xs[k]).src) := (hB.cell (p := ⟨b, off + k * 10 + 2, none⟩) hbl).trans (hc 2 (by decide))
   have c3 : wr.cell? ⟨b, off + k * 10 + 3, none⟩ = some (.int .i64 (xs[k]).dst) := (hB.cell (p := ⟨b, off + k * 10 + 3, none⟩) hbl).trans (hc 3 (by decide))
   have c4 : wr.cell? ⟨b, off + k * 10 + 4, none⟩ = some (.int .i64 (xs[k]).index) := (hB.cell (p := ⟨b, off + k * 10 + 4, none⟩) hbl).trans (hc 4 (by decide))
   have c5 : wr.cell? ⟨b, off + k * 10 + 5, none⟩ = some (.int .i64 (xs[k]).write.kind) := (hB.cell (p := ⟨b, off + k * 10 + 5, none⟩) hbl).trans (hc 5 (by decide))
   have c6 : wr.cell? ⟨b, off + k * 10 + 6, none⟩ = some (.int .i64 (xs[k]).write.id) := (hB.cell (p := ⟨b, off + k * 10 + 6, none⟩) hbl).trans (hc 6 (by decide))
   have c7 : wr.cell? ⟨b, off + k * 10 + 7, none⟩ = some (.slice a (xs[k]).write.vec.length d) := (hB.cell (p := ⟨b, off + k * 10 + 7, none⟩) hbl).trans (hc 7 (by decide))
   have c8 : wr.cell? ⟨b, off + k * 10 + 8, none⟩ = some (.int .i64 (xs[k]).write.session) := (hB.cell (p := ⟨b, off + k * 10 + 8, none⟩) hbl).trans (hc 8 (by decide))
   have c9 : wr.cell? ⟨b, off + k * 10 + 9, none⟩ = some (.int .i64 (xs[k]).write.seq) := (hB.cell (p := ⟨b, off + k * 10 + 9, none⟩) hbl).trans (hc 9 (by decide))
   have HF := yh hF
   have HR := yh hr
   have HB := yh hB
   clear hF hr hB hc
   generalize hx : xs[k] = x at *
   clear hx
   have nb : Below wr.heap.size wr (wr.alloc (.cells #[.int .i64 x.kind, .int .i64 x.epoch, .int .i64 x.src, .int .i64 x.dst, .int .i64 x.index, .int .i64 x.write.kind, .int .i64 x.write.id, .slice a x.write.vec.length d, .int .i64 x.write.session, .int .i64 x.write.seq] 89)) := (Below.refl _ _).alloc (Nat.le_refl _) _
   have HL := yh (mustBeMsgC _ x _ ((uh HR).later nb))
   replace HB := yh ((uh HB).trans (nb.mono (uh HB).size))
   clear nb
   go_wp2_with fail
   refine (uh HL).mono ?_
   generalize wr.alloc (.cells #[.int .i64 x.kind, .int .i64 x.epoch, .int .i64 x.src, .int .i64 x.dst, .int .i64 x.index, .int .i64 x.write.kind, .int .i64 x.write.id, .slice a x.write.vec.length d, .int .i64 x.write.session, .int .i64 x.write.seq] 89) = W1 at *
   rintro e W2 ⟨he, hb⟩
   replace HB := yh ((uh HB).trans (hb.mono (uh HB).size))
   clear hb HL c0 c1 c2 c3 c4 c5 c6 c7 c8 c9
   by_cases hf : msgFault x = 0
   ·
    rw [wrongE_ok hf] at he
    subst he
    replace HF := yh ((uh HF).trans (if_pos hf))
    clear hf
    go_wp2_with fail
    go_roundw
    case rel => exact ⟨k + 1, by omega, by go_num, uh HF, uh HB⟩
    case measure => simp [intOf]; omega
   rw [wrongE_bad hf] at he
   subst he
   replace HF := yh ((uh HF).trans (if_neg hf))
   have HG := yh hf
   clear hf
   go_wp2_with fail
   exact ⟨rfl, by rw [uh HF]; exact (wrongE_bad (uh HG)).symm, uh HB⟩
  obtain rfl : k = xs.length := by omega
  rw [List.drop_length] at hF
  have hdl : decide ((xs.length : Int) < (xs.length : Int)) = false := by simp
  have HF := yh hF
  have HB := yh hB
  clear hF hB
  go_wp2_with fail
  go_end0
  exact ⟨by rw [uh HF]; rfl, uh HB⟩
theorem netFaultWork (v : Value) (xs : List DMsg) (g : Nat) (w : World) (h : (Lay.sl Lay.tMsg).Reads w [v] xs) (hx : Box 0 #[v] 33 w g) :
  Calls Tryz.prog 232 #[.pointer (some ⟨g, 0, none⟩)] w fun e w' => e = workE (.bool true) (netFault xs) ∧ Below w.heap.size w w' := by
 have HL := yh (mustBeNetC v xs w h)
 obtain ⟨ao, cap, rfl⟩ := open_sl h
 have HX := yh hx
 clear hx h
 have z0 : w.cell? ⟨g, 0, none⟩ = some (.slice ao xs.length cap) := (uh HX).at 0 _ rfl
 go_enter Tryz.func232, Tryz.ntmps232
 go_wp2_with fail
 refine (uh HL).mono ?_
 rintro e W2 ⟨he, hb⟩
 have HB := yh hb
 clear hb HL z0
 by_cases hf : netFault xs = 0
 ·
  rw [wrongE_ok hf] at he
  subst he
  have HF := yh hf
  clear hf
  go_wp2_with fail
  go_ret
  exact ⟨(workE_ok (uh HF)).symm, uh HB⟩
 rw [wrongE_bad hf] at he
 subst he
 have HF := yh hf
 clear hf
 go_wp2_with fail
 exact ⟨rfl, (workE_bad (uh HF)).symm, uh HB⟩
theorem implNetFault (v : Value) (xs : List DMsg) (w : World) (h : (Lay.sl Lay.tMsg).Reads w [v] xs) :
  Calls Tryz.prog 160 #[v] w fun e w' => e = .returned (.int .i64 (netFault xs)) ∧ Below w.heap.size w w' := by
 have hmf : ∀ (fn : Fn) (first cap : Array Value) (w : World), (Instr.makeFunc fn first cap).run Tryz.prog w = .ok (.func fn first cap) w := fun _ _ _ _ => rfl
 obtain ⟨ao, cap, rfl⟩ := open_sl h
 have nb : Below w.heap.size w (w.alloc (.cells #[.slice ao xs.length cap] 33)) := (Below.refl _ _).alloc (Nat.le_refl _) _
 have HR := yh (h.later nb)
 have HB := yh nb
 have HX : Hid (Box 0 #[.slice ao xs.length cap] 33 (w.alloc (.cells #[.slice ao xs.length cap] 33)) w.heap.size) := newBox (Nat.zero_le _)
 clear h nb
 go_enter Tryz.func160, Tryz.ntmps160
 go_upto_region 1 with fail
 generalize w.alloc (.cells #[.slice ao xs.length cap] 33) = W1 at *
 have nb : Below W1.heap.size W1 (W1.alloc (.cells #[.int .i64 0] 2)) := (Below.refl _ _).alloc (Nat.le_refl _) _
 have HW := yh (netFaultWork _ xs w.heap.size _ ((uh HR).later nb) ((uh HX).keep nb))
 have hz : (W1.alloc (.cells #[.int .i64 0] 2)).heap.size = W1.heap.size + 1 := by simp
 have HZ := yh hz
 clear nb hz
 by_cases hf : netFault xs = 0
 ·
  have HL := yh (faced_ok_bool 232 #[.pointer (some ⟨w.heap.size, 0, none⟩)] W1 (fun v _ => v = .bool true) (fun _ => by rfl) ((uh HW).mono (by
   rintro e w' ⟨he, hb⟩
   rw [workE_ok hf] at he
   rw [uh HZ] at hb
   exact ⟨_, he, rfl, hb⟩)))
  have HF := yh hf
  clear hf HW HZ
  go_wp2_with fail
  refine (uh HL).mono ?_
  rintro e W2 ⟨v, W3, rfl, rfl, hW, hb, -⟩
  replace HB := yh ((uh HB).trans (hb.mono (uh HB).size))
  clear hW hb HL
  go_wp2_with fail
  go_ret
  exact ⟨by rw [uh HF]; rfl, uh HB⟩
 have HL := yh (faced_bad_bool 232 #[.pointer (some ⟨w.heap.size, 0, none⟩)] (netFault xs) W1 (fun _ => by rfl) ((uh HW).mono (by
  rintro e w' ⟨he, hb⟩
  rw [workE_bad hf] at he
  rw [uh HZ] at hb
  exact ⟨he, hb⟩)))
 clear hf HW HZ
 go_wp2_with fail
 refine (uh HL).mono ?_
 rintro e W2 ⟨rfl, hb⟩
 replace HB := yh ((uh HB).trans (hb.mono (uh HB).size))
 clear hb HL
 go_wp2_with fail
 go_ret
 exact ⟨rfl, uh HB⟩
theorem isNobodyC (a3 : Option Addr) (d3 : Nat) (a4 : Option Addr) (d4 : Nat) (a5 : Option Addr) (d5 : Nat) (a6 : Option Addr) (d6 : Nat) (x : DWorld) (id : Int) (g : Nat) (w : World) (h : Lay.tWorld.Reads w [.int .i64 x.now, .int .i64 x.events, .int .i64 x.chain.epoch, .slice a3 x.chain.ids.length d3, .slice a4 x.nodes.length d4, .slice a5 x.msgs.length d5, .slice a6 x.history.length d6] x) (hx : Box 0 #[.int .i64 x.now, .int .i64 x.events, .int .i64 x.chain.epoch, .slice a3 x.chain.ids.length d3, .slice a4 x.nodes.length d4, .slice a5 x.msgs.length d5, .slice a6 x.history.length d6] 36 w g) :
  Calls Tryz.prog 158 #[.int .i64 id, .pointer (some ⟨g, 0, none⟩)] w fun e w' => e = .returned (.bool (!nodeIn x id)) ∧ Below w.heap.size w w' := by
 have HL := yh (hasNodeC _ x id w h)
 have z0 := Box.at hx 0 _ rfl
 have z1 := Box.at hx 1 _ rfl
 have z2 := Box.at hx 2 _ rfl
 have z3 := Box.at hx 3 _ rfl
 have z4 := Box.at hx 4 _ rfl
 have z5 := Box.at hx 5 _ rfl
 have z6 := Box.at hx 6 _ rfl
 simp only [ga, gb, gc] at z0 z1 z2 z3 z4 z5 z6
 clear h
 go_enter Tryz.func158, Tryz.ntmps158
 go_wp2_with fail
 refine (uh HL).mono ?_
 rintro e w1 ⟨rfl, hb⟩
 have HB := yh hb
 clear hb HL z0 z1 z2 z3 z4 z5 z6
 go_wp2_with fail
 go_ret
 exact ⟨rfl, uh HB⟩
theorem indexNobody (a3 : Option Addr) (d3 : Nat) (a4 : Option Addr) (d4 : Nat) (a5 : Option Addr) (d5 : Nat) (a6 : Option Addr) (d6 : Nat) (x : DWorld) (v : Value) (ids : List Int) (g : Nat) (w : World) (h : Lay.tWorld.Reads w [.int .i64 x.now, .int .i64 x.events, .int .i64 x.chain.epoch, .slice a3 x.chain.ids.length d3, .slice a4 x.nodes.length d4, .slice a5 x.msgs.length d5, .slice a6 x.history.length d6] x) (hx : Box 0 #[.int .i64 x.now, .int .i64 x.events, .int .i64 x.chain.epoch, .slice a3 x.chain.ids.length d3, .slice a4 x.nodes.length d4, .slice a5 x.msgs.length d5, .slice a6 x.history.length d6] 36 w g) (R : (Lay.sl Lay.int).Reads w [v] ids) :
  Calls Tryz.prog 230 #[v, .func (.func 158) #[] #[.pointer (some ⟨g, 0, none⟩)]] w fun e w' => ∃ i : Int, e = .returned (.int .i64 i) ∧ decide (0 ≤ i) = !(ids.all (nodeIn x)) ∧ Below w.heap.size w w' := by
 have hbig := R.big
 obtain ⟨ao, cap, rfl⟩ := open_sl R
 have H := yh R
 have HX := yh h
 have HBX := yh hx
 clear h hx R
 go_enter Tryz.func230, Tryz.ntmps230
 go_wp2_with fail
 go_loopw [8] (fun i wr => ∃ k : Nat, k ≤ ids.length ∧ i = .int .i64 k ∧ (∀ j (hj : j < ids.length), j < k → nodeIn x ids[j] = true) ∧ Below w.heap.size w wr) (fun i _ => ids.length - (intOf i).toNat)
 case atStart => exact ⟨0, Nat.zero_le _, rfl, fun j _ hj => by omega, Below.refl _ _⟩
 case round =>
  obtain ⟨k, hk, rfl, hz, hB⟩ := hrel
  by_cases hlt : k < ids.length
  ·
   obtain ⟨b, off, rfl, hbl⟩ := Lay.sl_addr (uh H) (by omega)
   have c1 := (hB.cell (p := ⟨b, off + k, none⟩) hbl).trans (int_cell (uh H) hlt)
   have hdl : decide ((k : Int) < (ids.length : Int)) = true := by simp; omega
   have HL := yh (isNobodyC a3 d3 a4 d4 a5 d5 a6 d6 x ids[k] g wr ((uh HX).later hB) ((uh HBX).keep hB))
   have HA : Hid (nodeIn x ids[k] = false → (!(ids.all (nodeIn x))) = true) := fun q => by
    have : ids.all (nodeIn x) = false := by rw [List.all_eq_false]; exact ⟨ids[k], List.getElem_mem _, by rw [q]; simp⟩
    rw [this]; rfl
   have HN : Hid (nodeIn x ids[k] = true → ∀ j (hj : j < ids.length), j < k + 1 → nodeIn x ids[j] = true) := fun q j hj hjk => by
    by_cases h2 : j < k
    ·
     exact hz j hj h2
    obtain rfl : j = k := by omega
    exact q
   have HB := yh hB
   clear hz hB
   generalize hy : ids[k] = y at *
   clear hy
   go_wp2_with fail
   refine (uh HL).mono ?_
   rintro e w2 ⟨rfl, hb⟩
   replace HB := yh ((uh HB).trans (hb.mono (uh HB).size))
   clear hb HL c1
   cases hq : nodeIn x y
   ·
    have HAA := yh (uh HA hq)
    clear HN HA hq
    go_wp2_with fail
    go_ret
    exact ⟨(k : Int), rfl, by rw [uh HAA]; simp, uh HB⟩
   have HNN := yh (uh HN hq)
   clear HN HA hq
   go_wp2_with fail
   go_roundw
   case rel => exact ⟨k + 1, by omega, by go_num, uh HNN, uh HB⟩
   case measure => simp [intOf]; omega
  obtain rfl : k = ids.length := by omega
  have hdl : decide ((ids.length : Int) < (ids.length : Int)) = false := by simp
  have HB := yh hB
  have HZ : Hid (ids.all (nodeIn x) = true) := List.all_eq_true.2 fun y hy => by
   obtain ⟨j, hj, rfl⟩ := List.getElem_of_mem hy
   exact hz j hj hj
  clear hz hB
  go_wp2_with fail
  go_ret
  exact ⟨-1, rfl, by rw [uh HZ]; simp, uh HB⟩
theorem containsNobody (a3 : Option Addr) (d3 : Nat) (a4 : Option Addr) (d4 : Nat) (a5 : Option Addr) (d5 : Nat) (a6 : Option Addr) (d6 : Nat) (x : DWorld) (v : Value) (ids : List Int) (g : Nat) (w : World) (h : Lay.tWorld.Reads w [.int .i64 x.now, .int .i64 x.events, .int .i64 x.chain.epoch, .slice a3 x.chain.ids.length d3, .slice a4 x.nodes.length d4, .slice a5 x.msgs.length d5, .slice a6 x.history.length d6] x) (hx : Box 0 #[.int .i64 x.now, .int .i64 x.events, .int .i64 x.chain.epoch, .slice a3 x.chain.ids.length d3, .slice a4 x.nodes.length d4, .slice a5 x.msgs.length d5, .slice a6 x.history.length d6] 36 w g) (R : (Lay.sl Lay.int).Reads w [v] ids) :
  Calls Tryz.prog 159 #[v, .func (.func 158) #[] #[.pointer (some ⟨g, 0, none⟩)]] w fun e w' => e = .returned (.bool (!(ids.all (nodeIn x)))) ∧ Below w.heap.size w w' := by
 have HL := yh (indexNobody a3 d3 a4 d4 a5 d5 a6 d6 x v ids g w h hx R)
 obtain ⟨ao, cap, rfl⟩ := open_sl R
 clear h hx R
 go_enter Tryz.func159, Tryz.ntmps159
 go_wp2_with fail
 refine (uh HL).mono ?_
 rintro e w1 ⟨i, rfl, hi, hb⟩
 have HI := yh hi
 have HB := yh hb
 clear hb HL hi
 go_wp2_with fail
 go_ret
 exact ⟨by rw [← uh HI]; rfl, uh HB⟩
theorem wf_eq (x : DWorld) : worldFault x = if (decide (0 ≤ x.now) && decide (x.now ≤ 9000)) = false ∨ (decide (0 ≤ x.events) && decide (x.events ≤ 9999)) = false then 3
  else if chainFault x.chain ≠ 0 then chainFault x.chain else if nodesP x.chain x.nodes ≠ 0 then nodesP x.chain x.nodes else if (!(x.chain.ids.all (nodeIn x))) = true then 4
  else if netFault x.msgs ≠ 0 then netFault x.msgs else histP x.events x.history := by
 have e1 : (¬ (0 ≤ x.now ∧ x.now ≤ 9000) ∨ ¬ (0 ≤ x.events ∧ x.events ≤ 9999)) ↔ ((decide (0 ≤ x.now) && decide (x.now ≤ 9000)) = false ∨ (decide (0 ≤ x.events) && decide (x.events ≤ 9999)) = false) := by
  simp only [Bool.and_eq_false_iff, decide_eq_false_iff_not]
  omega
 unfold worldFault
 by_cases h1 : (decide (0 ≤ x.now) && decide (x.now ≤ 9000)) = false ∨ (decide (0 ≤ x.events) && decide (x.events ≤ 9999)) = false
 ·
  rw [if_pos (e1.2 h1), if_pos h1]
 rw [if_neg (fun q => h1 (e1.1 q)), if_neg h1]
 by_cases h2 : chainFault x.chain ≠ 0
 ·
  rw [if_pos h2, if_pos h2]
 rw [if_neg h2, if_neg h2]
 by_cases h3 : x.nodes.length < 1 ∨ 5 < x.nodes.length
 ·
  have hP : nodesP x.chain x.nodes = 2 := if_neg (by omega)
  rw [if_pos h3, hP, if_pos (show ((2 : Int) ≠ 0) by omega)]
 have hP : nodesP x.chain x.nodes = nodesF x.chain 0 x.nodes := if_pos (by omega)
 rw [if_neg h3, hP]
 unfold nodesFault
 by_cases h4 : nodesF x.chain 0 x.nodes ≠ 0
 ·
  rw [if_pos h4, if_pos h4, if_pos h4]
 rw [if_neg h4, if_neg h4]
 cases h5 : x.chain.ids.all (nodeIn x)
 ·
  simp
 simp only [if_true, Bool.not_true, ne_eq, not_true_eq_false, if_false]
 by_cases h6 : netFault x.msgs ≠ 0
 ·
  rw [if_pos h6, if_pos h6]; simp
 rw [if_neg h6, if_neg h6]
 rfl
theorem wf_vals (x : DWorld) : 0 ≤ worldFault x ∧ worldFault x ≤ 10 := worldFault_vals x (chainFault_vals _)
theorem implWorldFault (cs : List Value) (x : DWorld) (w : World) (h : Lay.tWorld.Reads w cs x) :
  Calls Tryz.prog 85 #[.agg cs.toArray] w fun e w' => e = .returned (.int .i64 (worldFault x)) ∧ Below w.heap.size w w' := by
 obtain ⟨a3, d3, a4, d4, a5, d5, a6, d6, rfl, RC, RN, RM, RE⟩ := open_World h
 have nb : Below w.heap.size w (w.alloc (.cells #[.int .i64 x.now, .int .i64 x.events, .int .i64 x.chain.epoch, .slice a3 x.chain.ids.length d3, .slice a4 x.nodes.length d4, .slice a5 x.msgs.length d5, .slice a6 x.history.length d6] 36)) := (Below.refl _ _).alloc (Nat.le_refl _) _
 have HX : Hid (Box 0 #[.int .i64 x.now, .int .i64 x.events, .int .i64 x.chain.epoch, .slice a3 x.chain.ids.length d3, .slice a4 x.nodes.length d4, .slice a5 x.msgs.length d5, .slice a6 x.history.length d6] 36 (w.alloc (.cells #[.int .i64 x.now, .int .i64 x.events, .int .i64 x.chain.epoch, .slice a3 x.chain.ids.length d3, .slice a4 x.nodes.length d4, .slice a5 x.msgs.length d5, .slice a6 x.history.length d6] 36)) w.heap.size) := newBox (Nat.zero_le _)
 have HR := yh (h.later nb)
 have HP := yh (wf_eq x)
 have HB := yh nb
 have hmf : ∀ (fn : Fn) (first cap : Array Value) (w : World), (Instr.makeFunc fn first cap).run Tryz.prog w = .ok (.func fn first cap) w := fun _ _ _ _ => rfl
 clear nb h RC RN RM RE
 generalize worldFault x = r at *
 go_enter Tryz.func85, Tryz.ntmps85
 go_upto_region 1 with fail
 generalize w.alloc (.cells #[.int .i64 x.now, .int .i64 x.events, .int .i64 x.chain.epoch, .slice a3 x.chain.ids.length d3, .slice a4 x.nodes.length d4, .slice a5 x.msgs.length d5, .slice a6 x.history.length d6] 36) = w1 at *
 have z0 := Box.at (uh HX) 0 _ rfl
 have z1 := Box.at (uh HX) 1 _ rfl
 have z2 := Box.at (uh HX) 2 _ rfl
 have z3 := Box.at (uh HX) 3 _ rfl
 have z4 := Box.at (uh HX) 4 _ rfl
 have z5 := Box.at (uh HX) 5 _ rfl
 have z6 := Box.at (uh HX) 6 _ rfl
 simp only [ga, gb, gc] at z0 z1 z2 z3 z4 z5 z6
 go_wp2_with fail
 refine (isUpToC x.now 9000 w1).mono ?_
 rintro e w2 ⟨rfl, h2⟩
 subst w2
 cases d1 : (decide (0 ≤ x.now) && decide (x.now ≤ 9000))
 ·
  replace HP := yh ((uh HP).trans (if_pos (Or.inl d1)))
  clear d1
  go_wp2_with fail
  go_ret
  exact ⟨by rw [uh HP]; rfl, uh HB⟩
 go_wp2_with fail
 refine (isUpToC x.events 9999 w1).mono ?_
 rintro e w2 ⟨rfl, h2⟩
 subst w2
 cases d2 : (decide (0 ≤ x.events) && decide (x.events ≤ 9999))
 ·
  replace HP := yh ((uh HP).trans (if_pos (Or.inr d2)))
  clear d1 d2
  go_wp2_with fail
  go_ret
  exact ⟨by rw [uh HP]; rfl, uh HB⟩
 replace HP := yh ((uh HP).trans (if_neg (by rw [d1, d2]; simp)))
 clear d1 d2
 go_wp2_with fail
 obtain ⟨_, _, _, _, _, _, _, _, hq, RC, -, -, -⟩ := open_World (uh HR)
 simp only [List.cons.injEq, Value.slice.injEq, and_true, true_and] at hq
 obtain ⟨⟨rfl, rfl⟩, ⟨rfl, rfl⟩, ⟨rfl, rfl⟩, rfl, rfl⟩ := hq
 refine (implChainFault _ x.chain w1 RC).mono ?_
 rintro e w2 ⟨rfl, hb⟩
 clear RC z0 z1 z2 z3 z4 z5 z6
 replace HX := yh ((uh HX).keep hb)
 replace HR := yh ((uh HR).later hb)
 replace HB := yh ((uh HB).trans (hb.mono (uh HB).size))
 clear hb
 have z0 := Box.at (uh HX) 0 _ rfl
 have z1 := Box.at (uh HX) 1 _ rfl
 have z2 := Box.at (uh HX) 2 _ rfl
 have z3 := Box.at (uh HX) 3 _ rfl
 have z4 := Box.at (uh HX) 4 _ rfl
 have z5 := Box.at (uh HX) 5 _ rfl
 have z6 := Box.at (uh HX) 6 _ rfl
 simp only [ga, gb, gc] at z0 z1 z2 z3 z4 z5 z6
 by_cases d3 : chainFault x.chain ≠ 0
 ·
  have hd : (chainFault x.chain != 0) = true := by simpa using d3
  replace HP := yh ((uh HP).trans (if_pos d3))
  clear d3
  generalize chainFault x.chain = c at *
  go_wp2_with fail
  go_ret
  exact ⟨by rw [uh HP]; rfl, uh HB⟩
 replace HP := yh ((uh HP).trans (if_neg d3))
 have hd : chainFault x.chain = 0 := by simpa using d3
 clear d3
 rw [hd]
 clear hd
 go_wp2_with fail
 obtain ⟨_, _, _, _, _, _, _, _, hq, RC, RN, -, -⟩ := open_World (uh HR)
 simp only [List.cons.injEq, Value.slice.injEq, and_true, true_and] at hq
 obtain ⟨⟨rfl, rfl⟩, ⟨rfl, rfl⟩, ⟨rfl, rfl⟩, rfl, rfl⟩ := hq
 refine (nodesFaultC _ x.chain _ x.nodes w2 RC RN).mono ?_
 rintro e w3 ⟨rfl, hb⟩
 clear RC RN z0 z1 z2 z3 z4 z5 z6
 replace HX := yh ((uh HX).keep hb)
 replace HR := yh ((uh HR).later hb)
 replace HB := yh ((uh HB).trans (hb.mono (uh HB).size))
 clear hb
 have z0 := Box.at (uh HX) 0 _ rfl
 have z1 := Box.at (uh HX) 1 _ rfl
 have z2 := Box.at (uh HX) 2 _ rfl
 have z3 := Box.at (uh HX) 3 _ rfl
 have z4 := Box.at (uh HX) 4 _ rfl
 have z5 := Box.at (uh HX) 5 _ rfl
 have z6 := Box.at (uh HX) 6 _ rfl
 simp only [ga, gb, gc] at z0 z1 z2 z3 z4 z5 z6
 by_cases d3 : nodesP x.chain x.nodes ≠ 0
 ·
  have hd : (nodesP x.chain x.nodes != 0) = true := by simpa using d3
  replace HP := yh ((uh HP).trans (if_pos d3))
  clear d3
  generalize nodesP x.chain x.nodes = c at *
  go_wp2_with fail
  go_ret
  exact ⟨by rw [uh HP]; rfl, uh HB⟩
 replace HP := yh ((uh HP).trans (if_neg d3))
 have hd : nodesP x.chain x.nodes = 0 := by simpa using d3
 clear d3
 rw [hd]
 clear hd
 go_wp2_with fail
 obtain ⟨_, _, _, _, _, _, _, _, hq, RC, -, -, -⟩ := open_World (uh HR)
 simp only [List.cons.injEq, Value.slice.injEq, and_true, true_and] at hq
 obtain ⟨⟨rfl, rfl⟩, ⟨rfl, rfl⟩, ⟨rfl, rfl⟩, rfl, rfl⟩ := hq
 obtain ⟨_, _, hq, RI⟩ := open_Chain RC
 simp only [List.cons.injEq, Value.slice.injEq, and_true, true_and] at hq
 obtain ⟨rfl, rfl⟩ := hq
 refine (containsNobody a3 d3 a4 d4 a5 d5 a6 d6 x _ x.chain.ids w.heap.size w3 (uh HR) (uh HX) RI).mono ?_
 rintro e w4 ⟨rfl, hb⟩
 clear RC RI z0 z1 z2 z3 z4 z5 z6
 replace HX := yh ((uh HX).keep hb)
 replace HR := yh ((uh HR).later hb)
 replace HB := yh ((uh HB).trans (hb.mono (uh HB).size))
 clear hb
 have z0 := Box.at (uh HX) 0 _ rfl
 have z1 := Box.at (uh HX) 1 _ rfl
 have z2 := Box.at (uh HX) 2 _ rfl
 have z3 := Box.at (uh HX) 3 _ rfl
 have z4 := Box.at (uh HX) 4 _ rfl
 have z5 := Box.at (uh HX) 5 _ rfl
 have z6 := Box.at (uh HX) 6 _ rfl
 simp only [ga, gb, gc] at z0 z1 z2 z3 z4 z5 z6
 cases d3 : x.chain.ids.all (nodeIn x)
 ·
  replace HP := yh ((uh HP).trans (if_pos (by rw [d3]; rfl)))
  clear d3
  go_wp2_with fail
  go_ret
  exact ⟨by rw [uh HP]; rfl, uh HB⟩
 replace HP := yh ((uh HP).trans (if_neg (by rw [d3]; simp)))
 clear d3
 go_wp2_with fail
 obtain ⟨_, _, _, _, _, _, _, _, hq, -, -, RM, -⟩ := open_World (uh HR)
 simp only [List.cons.injEq, Value.slice.injEq, and_true, true_and] at hq
 obtain ⟨⟨rfl, rfl⟩, ⟨rfl, rfl⟩, ⟨rfl, rfl⟩, rfl, rfl⟩ := hq
 refine (implNetFault _ x.msgs w4 RM).mono ?_
 rintro e w5 ⟨rfl, hb⟩
 clear RM z0 z1 z2 z3 z4 z5 z6
 replace HX := yh ((uh HX).keep hb)
 replace HR := yh ((uh HR).later hb)
 replace HB := yh ((uh HB).trans (hb.mono (uh HB).size))
 clear hb
 have z0 := Box.at (uh HX) 0 _ rfl
 have z1 := Box.at (uh HX) 1 _ rfl
 have z2 := Box.at (uh HX) 2 _ rfl
 have z3 := Box.at (uh HX) 3 _ rfl
 have z4 := Box.at (uh HX) 4 _ rfl
 have z5 := Box.at (uh HX) 5 _ rfl
 have z6 := Box.at (uh HX) 6 _ rfl
 simp only [ga, gb, gc] at z0 z1 z2 z3 z4 z5 z6
 by_cases d3 : netFault x.msgs ≠ 0
 ·
  have hd : (netFault x.msgs != 0) = true := by simpa using d3
  replace HP := yh ((uh HP).trans (if_pos d3))
  clear d3
  generalize netFault x.msgs = c at *
  go_wp2_with fail
  go_ret
  exact ⟨by rw [uh HP]; rfl, uh HB⟩
 replace HP := yh ((uh HP).trans (if_neg d3))
 have hd : netFault x.msgs = 0 := by simpa using d3
 clear d3
 rw [hd]
 clear hd
 go_wp2_with fail
 obtain ⟨_, _, _, _, _, _, _, _, hq, -, -, -, RE⟩ := open_World (uh HR)
 simp only [List.cons.injEq, Value.slice.injEq, and_true, true_and] at hq
 obtain ⟨⟨rfl, rfl⟩, ⟨rfl, rfl⟩, ⟨rfl, rfl⟩, rfl, rfl⟩ := hq
 refine (historyFaultC _ x.history x.events w5 RE).mono ?_
 rintro e w6 ⟨rfl, hb⟩
 replace HB := yh ((uh HB).trans (hb.mono (uh HB).size))
 clear RE hb z0 z1 z2 z3 z4 z5 z6
 go_wp2_with fail
 go_ret
 exact ⟨by rw [uh HP]; rfl, uh HB⟩
theorem slClone (ad : Addr) (cap : Nat) (zs : List Int) (w : World) (h : IsInts w (.slice (some ad) zs.length cap) zs) (hn : zs.length ≤ 100000000) :
  Calls Tryz.prog 182 #[.slice (some ad) zs.length cap] w fun e w' => ∃ v', e = .returned v' ∧ w'.ownsRow w.heap.size 2 1 v' zs.length (zs.map (Value.int .i64)) ∧ Below w.heap.size w w' := by
 have nb : Below w.heap.size w (w.alloc (.cells #[] 2)) := (Below.refl _ _).alloc (Nat.le_refl _) _
 have O : (w.alloc (.cells #[] 2)).ownsRow w.heap.size 2 1 (.slice (some ⟨w.heap.size, 0, none⟩) 0 0) 0 [] := World.ownsRow_lit w _ 0 (Nat.le_refl _) (by unfold maxLen; omega) rfl
 have h1 := h.later nb
 have HB := yh nb
 have hnil : ∀ w : World, (binOp .eql 22 (.slice (some ad) zs.length cap) (.slice none 0 0)).run Tryz.prog w = .ok (.bool false) w := fun _ => by kernel_rfl
 clear nb h
 go_enter Tryz.func182, Tryz.ntmps182
 go_wp2_with (at_builtin; refine wpList_append_ints O h1 rfl _ _ rfl rfl rfl (by omega) (by simp) ?_)
 rintro v' w' O2 - hb
 have HB2 := yh ((uh HB).trans hb)
 clear O h1 hb HB
 go_wp2_with fail
 go_ret
 exact ⟨v', rfl, by simpa using O2, uh HB2⟩
theorem clone_nil (d : Nat) (w : World) : Calls Tryz.prog 182 #[.slice none 0 d] w fun e w' => e = .returned (.slice none 0 0) ∧ Below w.heap.size w w' := by
 have hnil : ∀ w : World, (binOp .eql 22 (.slice none 0 d) (.slice none 0 0)).run Tryz.prog w = .ok (.bool true) w := fun _ => by kernel_rfl
 have HB : Hid (∀ o, Below w.heap.size w (w.alloc o)) := fun o => (Below.refl _ _).alloc (Nat.le_refl _) o
 go_enter Tryz.func182, Tryz.ntmps182
 go_wp2_with fail
 go_ret
 exact ⟨rfl, Below.refl _ _⟩
theorem cloneC (v : Value) (zs : List Int) (w : World) (h : (Lay.sl Lay.int).Reads w [v] zs) (hn : zs.length ≤ 10000000) :
  Calls Tryz.prog 182 #[v] w fun e w' => ∃ a n c, e = .returned (.slice a n c) ∧ ((Lay.sl Lay.int).OwnIn w' [.slice a n c] zs w.heap.size w'.heap.size ∧ n = zs.length) ∧ Below w.heap.size w w' := by
 obtain ⟨ao, cap, rfl⟩ := open_sl h
 cases ao with
 | none =>
  have h0 : zs = [] := by
   by_cases hp : 0 < zs.length
   ·
    obtain ⟨b, off, e, -⟩ := Lay.sl_addr h hp
    cases e
   exact List.eq_nil_of_length_eq_zero (by omega)
  subst h0
  refine (clone_nil cap w).mono ?_
  rintro e w' ⟨rfl, hb⟩
  exact ⟨none, 0, 0, rfl, ⟨nil_own, rfl⟩, hb⟩
 | some ad =>
  refine (slClone ad cap zs w (Lay.ints_reads h) (by omega)).mono ?_
  rintro e w' ⟨v', rfl, O, hb⟩
  have hO := Lay.ownInts (Lay.ints_reads h).wf (by omega) O
  obtain ⟨a3, c3, rfl⟩ := open_sl hO.reads
  exact ⟨a3, _, c3, rfl, ⟨hO, rfl⟩, hb⟩
theorem infoWriteC : (Tryz.prog.info? 87).map (fun i => (i.zero, i.size, decide (i.bytes ≤ 1000))) = some (some (.agg #[.int .i64 0, .int .i64 0, .slice none 0 0, .int .i64 0, .int .i64 0]), 5, true) := by kernel_rfl
theorem own_writeC {w : World} {x : DWrite} {v : Value} {lo hi : Nat} (h : (Lay.sl Lay.int).OwnIn w [v] x.vec lo hi) (v0 : (Lit.int .i64 x.kind).wf = true) (v1 : (Lit.int .i64 x.id).wf = true) (v3 : (Lit.int .i64 x.session).wf = true) (v4 : (Lit.int .i64 x.seq).wf = true) : Lay.tWrite.OwnIn w [.int .i64 x.kind, .int .i64 x.id, v, .int .i64 x.session, .int .i64 x.seq] x lo hi := by
 obtain ⟨bl, O, i⟩ := h
 exact ⟨bl, mkOwn_Write O v0 v1 v3 v4 O.2.1, i⟩
theorem copiedC (v : Value) (xs : List DWrite) (w : World) (h : (Lay.sl Lay.tWrite).Reads w [v] xs) (hlen : xs.length ≤ 1000000) (hv : ∀ x ∈ xs, x.vec.length ≤ 10000000) :
  Calls Tryz.prog 242 #[v] w fun e w' => ∃ (g : Nat), e = .returned (.slice (some ⟨g, 0, none⟩) xs.length xs.length) ∧ (Lay.sl Lay.tWrite).OwnIn w' [.slice (some ⟨g, 0, none⟩) xs.length xs.length] xs w.heap.size w'.heap.size ∧ Below w.heap.size w w' := by
 have hbig := h.big
 obtain ⟨ao, cap, rfl⟩ := open_sl h
 obtain ⟨i0, hi, hz0, hz1, hz2⟩ : ∃ i, Tryz.prog.info? 87 = some i ∧ i.zero = some (.agg #[.int .i64 0, .int .i64 0, .slice none 0 0, .int .i64 0, .int .i64 0]) ∧ i.size = 5 ∧ i.bytes ≤ 1000 := by
  have := infoWriteC
  cases hq : Tryz.prog.info? 87 with
  | none => rw [hq] at this; simp at this
  | some i =>
   rw [hq] at this
   simp only [Option.map_some, Option.some.injEq, Prod.mk.injEq, decide_eq_true_eq] at this
   exact ⟨i, rfl, this.1, this.2.1, this.2.2⟩
 have H := yh h
 have HN := yh hv
 clear h hv
 go_enter Tryz.func242, Tryz.ntmps242
 go_wp2_with (at_make; refine wpList_make_full _ rfl _ _ 82 rfl w.heap.size 87 i0 _ 5 Tryz.underlying82 hi hz0 hz1 _ _ _ _ xs.length rfl rfl rfl rfl ?c1 ?c2 ?c3 ?_)
 case c1 => have := Nat.mul_le_mul hz2 hlen; omega
 case c2 => unfold maxLen; omega
 case c3 => exact Nat.le_refl _
 intro w1 hown1 hgrow1
 have hB1 : Below w.heap.size w w1 := (Below.refl _ _).grown hgrow1 (Nat.le_refl _) (by simp)
 clear hgrow1 hi hz0 hz1 hz2
 have HO1 := yh hown1
 have HB1 := yh hB1
 clear hown1 hB1
 go_wp2_with fail
 go_loopw [11] (fun i wr => ∃ (k : Nat) (rows : List (List Value)) (Q : List Value) (hi : Nat), k ≤ xs.length ∧ i = .int .i64 k ∧ wr.ownsRow w.heap.size 87 5 (.slice (some ⟨w.heap.size, 0, none⟩) xs.length xs.length) xs.length (rows.flatten ++ Q) ∧ Q.length = (xs.length - k) * 5 ∧ Lay.Subs Lay.tWrite wr rows (xs.take k) (w.heap.size + 1) hi ∧ hi ≤ wr.heap.size ∧ w.heap.size < hi ∧ Below w.heap.size w wr) (fun i _ => xs.length - (intOf i).toNat)
 case atStart =>
  have hl := ((uh HO1).lt w.heap.size rfl).2
  exact ⟨0, [], _, w1.heap.size, Nat.zero_le _, rfl, by simpa using uh HO1, by have := (uh HO1).1; simpa using this, Lay.subs_nil, Nat.le_refl _, hl, uh HB1⟩
 case round =>
  obtain ⟨k, rows, Q, hi, hk, rfl, hown, hQ, hsub, hhi, hlo, hB⟩ := hrel
  clear HO1 HB1
  by_cases hlt : k < xs.length
  ·
   obtain ⟨b, off, rfl, hbl⟩ := Lay.sl_addr (uh H) (by omega)
   obtain ⟨row, hc, hr⟩ := Lay.row_at (uh H) hlt
   replace hr := hr.later hB
   have hr2 := hr
   obtain ⟨a2, d2, rfl, R2⟩ := open_Write hr2
   obtain ⟨v0, v1, v3, v4⟩ : (Lit.int .i64 (xs[k]).kind).wf = true ∧ (Lit.int .i64 (xs[k]).id).wf = true ∧ (Lit.int .i64 (xs[k]).session).wf = true ∧ (Lit.int .i64 (xs[k]).seq).wf = true := by
    obtain ⟨bl9, hl9⟩ := hr
    obtain ⟨a9, d9, b9, -, -, f0, f1, -, f3, f4⟩ := lies_Write.1 hl9
    exact ⟨f0, f1, f3, f4⟩
   have c0 : wr.cell? ⟨b, off + k * 5, none⟩ = some (.int .i64 (xs[k]).kind) := (hB.cell (p := ⟨b, off + k * 5, none⟩) hbl).trans (hc 0 (by decide))
   have c1 : wr.cell? ⟨b, off + k * 5 + 1, none⟩ = some (.int .i64 (xs[k]).id) := (hB.cell (p := ⟨b, off + k * 5 + 1, none⟩) hbl).trans (hc 1 (by decide))
   have c2 : wr.cell? ⟨b, off + k * 5 + 2, none⟩ = some (.slice a2 (xs[k]).vec.length d2) := (hB.cell (p := ⟨b, off + k * 5 + 2, none⟩) hbl).trans (hc 2 (by decide))
   have c3' : wr.cell? ⟨b, off + k * 5 + 3, none⟩ = some (.int .i64 (xs[k]).session) := (hB.cell (p := ⟨b, off + k * 5 + 3, none⟩) hbl).trans (hc 3 (by decide))
   have c4 : wr.cell? ⟨b, off + k * 5 + 4, none⟩ = some (.int .i64 (xs[k]).seq) := (hB.cell (p := ⟨b, off + k * 5 + 4, none⟩) hbl).trans (hc 4 (by decide))
   have hrl : rows.flatten.length = k * 5 := by have := (Lay.subs_len hsub).1; rw [List.length_take, Nat.min_eq_left hk] at this; exact this
   have hvl := uh HN xs[k] (List.getElem_mem hlt)
   have HT : Hid (xs.take (k + 1) = xs.take k ++ [xs[k]]) := List.take_succ_eq_append_getElem hlt
   have HB := yh hB
   have HO := yh hown
   have HS := yh hsub
   have HQ := yh hQ
   have HV := yh (And.intro v0 (And.intro v1 (And.intro v3 v4)))
   clear hB hr hc hown hsub hQ v0 v1 v3 v4
   generalize hxk : xs[k] = x at *
   clear hxk
   have hbr : b < wr.heap.size := Nat.lt_of_lt_of_le hbl (uh HB).size
   have nb : Below wr.heap.size wr (wr.alloc (.cells #[.int .i64 x.kind, .int .i64 x.id, .slice a2 x.vec.length d2, .int .i64 x.session, .int .i64 x.seq] 87)) := (Below.refl _ _).alloc (Nat.le_refl _) _
   have bT : Box wr.heap.size #[.int .i64 x.kind, .int .i64 x.id, .slice a2 x.vec.length d2, .int .i64 x.session, .int .i64 x.seq] 87 (wr.alloc (.cells #[.int .i64 x.kind, .int .i64 x.id, .slice a2 x.vec.length d2, .int .i64 x.session, .int .i64 x.seq] 87)) wr.heap.size := newBox (Nat.le_refl _)
   have HL := yh (cloneC _ x.vec _ (R2.later nb) hvl)
   have HNB := yh nb
   have HBT := yh bT
   clear R2 nb bT
   go_wp2_with fail
   clear c0 c1 c2 c3' c4
   refine (uh HL).mono ?_
   generalize hW0 : wr.alloc (.cells #[.int .i64 x.kind, .int .i64 x.id, .slice a2 x.vec.length d2, .int .i64 x.session, .int .i64 x.seq] 87) = W0 at *
   have hz0 : W0.heap.size = wr.heap.size + 1 := by rw [← hW0]; simp
   clear hW0
   rintro e w2 ⟨a3, n3, c3, rfl, ⟨O, hn3⟩, hb⟩
   subst hn3
   have hbt := (uh HBT).keep hb
   have y0 := hbt.at 0 _ rfl
   have y1 := hbt.at 1 _ rfl
   have y2 := hbt.at 2 _ rfl
   have y3 := hbt.at 3 _ rfl
   have y4 := hbt.at 4 _ rfl
   have yf := hbt.soft
   have yl := hbt.lt
   simp only [ga, gb, gc] at y0 y1 y2 y3 y4
   have hnb2 := (uh HNB).trans (hb.mono (uh HNB).size)
   have hz2 : W0.heap.size ≤ w2.heap.size := hb.size
   have e3 : Ext (fun q => q = wr.heap.size) w2 (w2.setCell ⟨wr.heap.size, 2, none⟩ (.slice a3 x.vec.length c3)) := (Ext.refl (fun q => q = wr.heap.size) _).setCell ⟨wr.heap.size, 2, none⟩ _ rfl
   have hb3 : Below wr.heap.size wr (w2.setCell ⟨wr.heap.size, 2, none⟩ (.slice a3 x.vec.length c3)) := hnb2.setCell (by simp) _
   have o2 := own_below (uh HO) hb3
   have o1 := own_below (uh HO) hnb2
   have ow : Lay.tWrite.OwnIn (w2.setCell ⟨wr.heap.size, 2, none⟩ (.slice a3 x.vec.length c3)) [.int .i64 x.kind, .int .i64 x.id, .slice a3 x.vec.length c3, .int .i64 x.session, .int .i64 x.seq] x W0.heap.size w2.heap.size := own_writeC (O.ext e3 (fun q h1 h2 h3 => by omega)) (uh HV).1 (uh HV).2.1 (uh HV).2.2.1 (uh HV).2.2.2
   replace HS := yh (Lay.subs_snoc (Lay.subs_ext (uh HS) (ext_of_below hb3 nowhere) (fun _ _ _ h => h)) ow (by omega) (by omega) (by omega))
   have hb2 := (uh HB).trans (hb3.mono (uh HB).size)
   have hz3 : (w2.setCell ⟨wr.heap.size, 2, none⟩ (.slice a3 x.vec.length c3)).heap.size = w2.heap.size := by simp
   have hxw : w.heap.size < wr.heap.size := by omega
   clear hb HB HO O HV HNB HBT HL hnb2 e3 hb3 ow hbt
   have hQ := uh HQ
   have hl5 : (rows.flatten ++ Q).length = xs.length * 5 := o2.1
   obtain ⟨u0, g0⟩ : ∃ u, w2.cell? ⟨w.heap.size, k * 5, none⟩ = some u := by
    rw [o1.cellAt (k * 5) (by omega)]
    exact ⟨_, List.getElem?_eq_getElem (by omega)⟩
   have t0 := o1.frozenAt (k * 5)
   obtain ⟨u1, g1⟩ : ∃ u, w2.cell? ⟨w.heap.size, k * 5 + 1, none⟩ = some u := by
    rw [o1.cellAt (k * 5 + 1) (by omega)]
    exact ⟨_, List.getElem?_eq_getElem (by omega)⟩
   have t1 := o1.frozenAt (k * 5 + 1)
   obtain ⟨u2, g2⟩ : ∃ u, w2.cell? ⟨w.heap.size, k * 5 + 2, none⟩ = some u := by
    rw [o1.cellAt (k * 5 + 2) (by omega)]
    exact ⟨_, List.getElem?_eq_getElem (by omega)⟩
   have t2 := o1.frozenAt (k * 5 + 2)
   obtain ⟨u3, g3⟩ : ∃ u, w2.cell? ⟨w.heap.size, k * 5 + 3, none⟩ = some u := by
    rw [o1.cellAt (k * 5 + 3) (by omega)]
    exact ⟨_, List.getElem?_eq_getElem (by omega)⟩
   have t3 := o1.frozenAt (k * 5 + 3)
   obtain ⟨u4, g4⟩ : ∃ u, w2.cell? ⟨w.heap.size, k * 5 + 4, none⟩ = some u := by
    rw [o1.cellAt (k * 5 + 4) (by omega)]
    exact ⟨_, List.getElem?_eq_getElem (by omega)⟩
   have t4 := o1.frozenAt (k * 5 + 4)
   have o3 := own_setAll o2 (k * 5) [.int .i64 x.kind, .int .i64 x.id, .slice a3 x.vec.length c3, .int .i64 x.session, .int .i64 x.seq]
   rw [show k * 5 = rows.flatten.length from hrl.symm, setFrom_app _ _ _ (by rw [hQ]; simp; have : 1 * 5 ≤ (xs.length - k) * 5 := Nat.mul_le_mul_right _ (by omega); omega), hrl] at o3
   have E : Ext (fun q => q = w.heap.size) (w2.setCell ⟨wr.heap.size, 2, none⟩ (.slice a3 x.vec.length c3)) (setAll (w2.setCell ⟨wr.heap.size, 2, none⟩ (.slice a3 x.vec.length c3)) w.heap.size (k * 5) [.int .i64 x.kind, .int .i64 x.id, .slice a3 x.vec.length c3, .int .i64 x.session, .int .i64 x.seq]) := ext_setAll _ (Ext.refl _ _) _ _ _ rfl
   replace HS := yh (Lay.subs_ext (uh HS) E (fun q h1 h2 h3 => by omega))
   have HB := yh (below_setAll hb2 w.heap.size (k * 5) [.int .i64 x.kind, .int .i64 x.id, .slice a3 x.vec.length c3, .int .i64 x.session, .int .i64 x.seq] (Nat.le_refl _))
   have HZ : Hid ((setAll (w2.setCell ⟨wr.heap.size, 2, none⟩ (.slice a3 x.vec.length c3)) w.heap.size (k * 5) [.int .i64 x.kind, .int .i64 x.id, .slice a3 x.vec.length c3, .int .i64 x.session, .int .i64 x.seq]).heap.size = w2.heap.size) := (size_setAll _ _ _ _).trans hz3
   have HO : Hid ((setAll (w2.setCell ⟨wr.heap.size, 2, none⟩ (.slice a3 x.vec.length c3)) w.heap.size (k * 5) [.int .i64 x.kind, .int .i64 x.id, .slice a3 x.vec.length c3, .int .i64 x.session, .int .i64 x.seq]).ownsRow w.heap.size 87 5 (.slice (some ⟨w.heap.size, 0, none⟩) xs.length xs.length) xs.length ((rows ++ [([.int .i64 x.kind, .int .i64 x.id, .slice a3 x.vec.length c3, .int .i64 x.session, .int .i64 x.seq] : List Value)]).flatten ++ Q.drop 5)) := by
    show (setAll (w2.setCell ⟨wr.heap.size, 2, none⟩ (.slice a3 x.vec.length c3)) w.heap.size (k * 5) [.int .i64 x.kind, .int .i64 x.id, .slice a3 x.vec.length c3, .int .i64 x.session, .int .i64 x.seq]).ownsRow w.heap.size 87 5 (.slice (some ⟨w.heap.size, 0, none⟩) xs.length xs.length) xs.length ((rows ++ [([.int .i64 x.kind, .int .i64 x.id, .slice a3 x.vec.length c3, .int .i64 x.session, .int .i64 x.seq] : List Value)]).flatten ++ Q.drop 5)
    rw [List.flatten_append]
    simpa using o3
   have hl2 := (o1.lt w.heap.size rfl).2
   clear o3 o2 o1 E hb2 hl5
   have hQ2 : Hid ((Q.drop 5).length = (xs.length - (k + 1)) * 5) := by
    show (Q.drop 5).length = (xs.length - (k + 1)) * 5
    rw [List.length_drop, hQ, show xs.length - k = xs.length - (k + 1) + 1 by omega, Nat.add_mul]
    omega
   have HW2 : Hid (w.heap.size < w2.heap.size) := hl2
   clear hQ HQ hz3 hz2 hz0
   go_wp2_with fail
   go_roundw
   case rel => exact ⟨k + 1, rows ++ [([.int .i64 x.kind, .int .i64 x.id, .slice a3 x.vec.length c3, .int .i64 x.session, .int .i64 x.seq] : List Value)], Q.drop 5, w2.heap.size, by omega, by go_num, uh HO, uh hQ2, (by rw [uh HT]; exact uh HS), Nat.le_of_eq (uh HZ).symm, uh HW2, uh HB⟩
   case measure => simp [intOf]; omega
  obtain rfl : k = xs.length := by omega
  have e0 : Q = [] := List.eq_nil_of_length_eq_zero (by rw [hQ]; simp)
  subst e0
  rw [List.append_nil] at hown
  rw [List.take_length] at hsub
  have HO := yh (Lay.subs_done (A := Lay.tWrite) hown hsub (by omega) hhi hbig)
  have HB := yh hB
  clear hown hsub hB
  go_wp2_with fail
  go_ret
  exact ⟨_, rfl, uh HO, uh HB⟩
theorem wf_Node {w : World} {cs : List Value} {x : DNode} (h : Lay.tNode.Reads w cs x) : (Lit.int .i64 x.id).wf = true ∧ (Lit.int .i64 x.epoch).wf = true ∧ (Lit.int .i64 x.lease).wf = true ∧ (Lit.int .i64 x.sure).wf = true ∧ (Lit.int .i64 x.clean).wf = true := by
 obtain ⟨bl, h⟩ := h
 obtain ⟨_, _, _, -, -, w0, w2, w3, -, w5, w6⟩ := lies_Node.1 h
 exact ⟨w0, w2, w3, w5, w6⟩
theorem own_nodeC {w : World} {x : DNode} {v : Value} {lo hi : Nat} (h : (Lay.sl Lay.tWrite).OwnIn w [v] x.writes lo hi) (hw : (Lit.int .i64 x.id).wf = true ∧ (Lit.int .i64 x.epoch).wf = true ∧ (Lit.int .i64 x.lease).wf = true ∧ (Lit.int .i64 x.sure).wf = true ∧ (Lit.int .i64 x.clean).wf = true) :
  Lay.tNode.OwnIn w [.int .i64 x.id, .bool x.up, .int .i64 x.epoch, .int .i64 x.lease, v, .int .i64 x.sure, .int .i64 x.clean] x lo hi := by
 obtain ⟨bl, O, i⟩ := h
 obtain ⟨w0, w2, w3, w5, w6⟩ := hw
 exact ⟨bl, mkOwn_Node O w0 w2 w3 w5 w6 O.2.1, i⟩
theorem infoNodeC : (Tryz.prog.info? 84).map (fun i => (i.zero, i.size, decide (i.bytes ≤ 1000))) = some (some (.agg #[.int .i64 0, .bool false, .int .i64 0, .int .i64 0, .slice none 0 0, .int .i64 0, .int .i64 0]), 7, true) := by kernel_rfl
theorem copiedNodesC (v : Value) (xs : List DNode) (w : World) (h : (Lay.sl Lay.tNode).Reads w [v] xs) (hlen : xs.length ≤ 1000000) (hv : ∀ x ∈ xs, x.writes.length ≤ 1000000 ∧ ∀ y ∈ x.writes, y.vec.length ≤ 10000000) :
  Calls Tryz.prog 271 #[v] w fun e w' => ∃ (g : Nat), e = .returned (.slice (some ⟨g, 0, none⟩) xs.length xs.length) ∧ (Lay.sl Lay.tNode).OwnIn w' [.slice (some ⟨g, 0, none⟩) xs.length xs.length] xs w.heap.size w'.heap.size ∧ Below w.heap.size w w' := by
 have hbig := h.big
 obtain ⟨ao, cap, rfl⟩ := open_sl h
 obtain ⟨i0, hi, hz0, hz1, hz2⟩ : ∃ i, Tryz.prog.info? 84 = some i ∧ i.zero = some (.agg #[.int .i64 0, .bool false, .int .i64 0, .int .i64 0, .slice none 0 0, .int .i64 0, .int .i64 0]) ∧ i.size = 7 ∧ i.bytes ≤ 1000 := by
  have := infoNodeC
  cases hq : Tryz.prog.info? 84 with
  | none => rw [hq] at this; simp at this
  | some i =>
   rw [hq] at this
   simp only [Option.map_some, Option.some.injEq, Prod.mk.injEq, decide_eq_true_eq] at this
   exact ⟨i, rfl, this.1, this.2.1, this.2.2⟩
 have H := yh h
 have HN := yh hv
 clear h hv
 go_enter Tryz.func271, Tryz.ntmps271
 go_wp2_with (at_make; refine wpList_make_full _ rfl _ _ 32 rfl w.heap.size 84 i0 _ 7 Tryz.underlying32 hi hz0 hz1 _ _ _ _ xs.length rfl rfl rfl rfl ?c1 ?c2 ?c3 ?_)
 case c1 => have := Nat.mul_le_mul hz2 hlen; omega
 case c2 => unfold maxLen; omega
 case c3 => exact Nat.le_refl _
 intro w1 hown1 hgrow1
 have hB1 : Below w.heap.size w w1 := (Below.refl _ _).grown hgrow1 (Nat.le_refl _) (by simp)
 clear hgrow1 hi hz0 hz1 hz2
 have HO1 := yh hown1
 have HB1 := yh hB1
 clear hown1 hB1
 go_wp2_with fail
 go_loopw [11] (fun i wr => ∃ (k : Nat) (rows : List (List Value)) (Q : List Value) (hi : Nat), k ≤ xs.length ∧ i = .int .i64 k ∧ wr.ownsRow w.heap.size 84 7 (.slice (some ⟨w.heap.size, 0, none⟩) xs.length xs.length) xs.length (rows.flatten ++ Q) ∧ Q.length = (xs.length - k) * 7 ∧ Lay.Subs Lay.tNode wr rows (xs.take k) (w.heap.size + 1) hi ∧ hi ≤ wr.heap.size ∧ w.heap.size < hi ∧ Below w.heap.size w wr) (fun i _ => xs.length - (intOf i).toNat)
 case atStart =>
  have hl := ((uh HO1).lt w.heap.size rfl).2
  exact ⟨0, [], _, w1.heap.size, Nat.zero_le _, rfl, by simpa using uh HO1, by have := (uh HO1).1; simpa using this, Lay.subs_nil, Nat.le_refl _, hl, uh HB1⟩
 case round =>
  obtain ⟨k, rows, Q, hi, hk, rfl, hown, hQ, hsub, hhi, hlo, hB⟩ := hrel
  clear HO1 HB1
  by_cases hlt : k < xs.length
  ·
   obtain ⟨b, off, rfl, hbl⟩ := Lay.sl_addr (uh H) (by omega)
   obtain ⟨row, hc, hr⟩ := Lay.row_at (uh H) hlt
   replace hr := hr.later hB
   have hr2 := hr
   obtain ⟨a4, d4, rfl, R0⟩ := open_Node hr2
   have c0 : wr.cell? ⟨b, off + k * 7, none⟩ = some (.int .i64 (xs[k]).id) := (hB.cell (p := ⟨b, off + k * 7, none⟩) hbl).trans (hc 0 (by decide))
   have c1 : wr.cell? ⟨b, off + k * 7 + 1, none⟩ = some (.bool (xs[k]).up) := (hB.cell (p := ⟨b, off + k * 7 + 1, none⟩) hbl).trans (hc 1 (by decide))
   have c2 : wr.cell? ⟨b, off + k * 7 + 2, none⟩ = some (.int .i64 (xs[k]).epoch) := (hB.cell (p := ⟨b, off + k * 7 + 2, none⟩) hbl).trans (hc 2 (by decide))
   have c3 : wr.cell? ⟨b, off + k * 7 + 3, none⟩ = some (.int .i64 (xs[k]).lease) := (hB.cell (p := ⟨b, off + k * 7 + 3, none⟩) hbl).trans (hc 3 (by decide))
   have c4 : wr.cell? ⟨b, off + k * 7 + 4, none⟩ = some (.slice a4 (xs[k]).writes.length d4) := (hB.cell (p := ⟨b, off + k * 7 + 4, none⟩) hbl).trans (hc 4 (by decide))
   have c5 : wr.cell? ⟨b, off + k * 7 + 5, none⟩ = some (.int .i64 (xs[k]).sure) := (hB.cell (p := ⟨b, off + k * 7 + 5, none⟩) hbl).trans (hc 5 (by decide))
   have c6 : wr.cell? ⟨b, off + k * 7 + 6, none⟩ = some (.int .i64 (xs[k]).clean) := (hB.cell (p := ⟨b, off + k * 7 + 6, none⟩) hbl).trans (hc 6 (by decide))
   have hrl : rows.flatten.length = k * 7 := by have := (Lay.subs_len hsub).1; rw [List.length_take, Nat.min_eq_left hk] at this; exact this
   have hvl := uh HN xs[k] (List.getElem_mem hlt)
   have HT : Hid (xs.take (k + 1) = xs.take k ++ [xs[k]]) := List.take_succ_eq_append_getElem hlt
   have HB := yh hB
   have HO := yh hown
   have HS := yh hsub
   have HQ := yh hQ
   have HWF := yh (wf_Node hr)
   have HVL := yh hvl
   have HR0 := yh R0
   clear hB hr hc hown hsub hQ hr2 hvl R0
   generalize hxk : xs[k] = x at *
   clear hxk
   have hbr : b < wr.heap.size := Nat.lt_of_lt_of_le hbl (uh HB).size
   have nb : Below wr.heap.size wr (wr.alloc (.cells #[.int .i64 x.id, .bool x.up, .int .i64 x.epoch, .int .i64 x.lease, .slice a4 x.writes.length d4, .int .i64 x.sure, .int .i64 x.clean] 84)) := (Below.refl _ _).alloc (Nat.le_refl _) _
   have HX : Hid (Box 0 #[.int .i64 x.id, .bool x.up, .int .i64 x.epoch, .int .i64 x.lease, .slice a4 x.writes.length d4, .int .i64 x.sure, .int .i64 x.clean] 84 (wr.alloc (.cells #[.int .i64 x.id, .bool x.up, .int .i64 x.epoch, .int .i64 x.lease, .slice a4 x.writes.length d4, .int .i64 x.sure, .int .i64 x.clean] 84)) wr.heap.size) := newBox (Nat.zero_le _)
   have hz0 : (wr.alloc (.cells #[.int .i64 x.id, .bool x.up, .int .i64 x.epoch, .int .i64 x.lease, .slice a4 x.writes.length d4, .int .i64 x.sure, .int .i64 x.clean] 84)).heap.size = wr.heap.size + 1 := by simp
   have HV := yh nb
   clear nb
   go_upto_region 5 with fail
   generalize wr.alloc (.cells #[.int .i64 x.id, .bool x.up, .int .i64 x.epoch, .int .i64 x.lease, .slice a4 x.writes.length d4, .int .i64 x.sure, .int .i64 x.clean] 84) = W0 at *
   clear c0 c1 c2 c3 c4 c5 c6
   have hx := uh HX
   have y4 := Box.at hx 4 _ rfl
   have yf := Box.soft hx
   have yl := hx.lt
   simp only [ga, gb, gc] at y4
   have HC := yh (copiedC _ x.writes W0 ((uh HR0).later (uh HV)) (uh HVL).1 (uh HVL).2)
   clear hx
   go_wp2_with fail
   refine (uh HC).mono ?_
   rintro e v1 ⟨gw, rfl, O, hb⟩
   have hz1 : W0.heap.size ≤ v1.heap.size := hb.size
   have hx := (uh HX).keep hb
   clear y4 yf yl
   have y4 := Box.at hx 4 _ rfl
   have yf := Box.soft hx
   have yl := hx.lt
   simp only [ga, gb, gc] at y4
   have hv := (uh HV).trans (hb.mono (uh HV).size)
   replace HV := yh (hv.setCell (p := ⟨wr.heap.size, 4, none⟩) (Nat.le_refl _) (.slice (some ⟨gw, 0, none⟩) x.writes.length x.writes.length))
   have hx2 := Box.set hx 4 (.slice (some ⟨gw, 0, none⟩) x.writes.length x.writes.length)
   simp only [List.setIfInBounds_toArray, List.set_cons_zero, List.set_cons_succ] at hx2
   replace HX := yh hx2
   have e1 : Ext (fun q => q = wr.heap.size) v1 (v1.setCell ⟨wr.heap.size, 4, none⟩ (.slice (some ⟨gw, 0, none⟩) x.writes.length x.writes.length)) := (Ext.refl _ _).setCell _ _ rfl
   have P0 := yh (O.ext e1 (fun q h1 h2 h3 => by omega))
   have hz1' : (v1.setCell ⟨wr.heap.size, 4, none⟩ (.slice (some ⟨gw, 0, none⟩) x.writes.length x.writes.length)).heap.size = v1.heap.size := by simp
   clear hx hx2 e1 hv O hb HC
   go_upto_region 6 with fail
   generalize hW : v1.setCell ⟨wr.heap.size, 4, none⟩ (.slice (some ⟨gw, 0, none⟩) x.writes.length x.writes.length) = W1 at *
   clear hW y4 yf yl
   have hx := uh HX
   have y0 := Box.at hx 0 _ rfl
   have y1 := Box.at hx 1 _ rfl
   have y2 := Box.at hx 2 _ rfl
   have y3 := Box.at hx 3 _ rfl
   have y4 := Box.at hx 4 _ rfl
   have y5 := Box.at hx 5 _ rfl
   have y6 := Box.at hx 6 _ rfl
   simp only [ga, gb, gc] at y0 y1 y2 y3 y4 y5 y6
   have yl := hx.lt
   clear hx
   have hb3 : Below wr.heap.size wr W1 := uh HV
   have o2 := own_below (uh HO) hb3
   have O := own_nodeC (uh P0) (uh HWF)
   replace HS := yh (Lay.subs_snoc (Lay.subs_ext (uh HS) (ext_of_below hb3 nowhere) (fun _ _ _ h => h)) O (by omega) (by omega) (by omega))
   have hb2 := (uh HB).trans (hb3.mono (uh HB).size)
   have hxw : w.heap.size < wr.heap.size := by omega
   have hwz := hb3.size
   clear HB HO O HV hb3 P0
   have hQ := uh HQ
   have hl5 : (rows.flatten ++ Q).length = xs.length * 7 := o2.1
   obtain ⟨u0, g0⟩ : ∃ u, W1.cell? ⟨w.heap.size, k * 7, none⟩ = some u := by
    rw [o2.cellAt (k * 7) (by omega)]
    exact ⟨_, List.getElem?_eq_getElem (by omega)⟩
   have t0 := o2.frozenAt (k * 7)
   obtain ⟨u1, g1⟩ : ∃ u, W1.cell? ⟨w.heap.size, k * 7 + 1, none⟩ = some u := by
    rw [o2.cellAt (k * 7 + 1) (by omega)]
    exact ⟨_, List.getElem?_eq_getElem (by omega)⟩
   have t1 := o2.frozenAt (k * 7 + 1)
   obtain ⟨u2, g2⟩ : ∃ u, W1.cell? ⟨w.heap.size, k * 7 + 2, none⟩ = some u := by
    rw [o2.cellAt (k * 7 + 2) (by omega)]
    exact ⟨_, List.getElem?_eq_getElem (by omega)⟩
   have t2 := o2.frozenAt (k * 7 + 2)
   obtain ⟨u3, g3⟩ : ∃ u, W1.cell? ⟨w.heap.size, k * 7 + 3, none⟩ = some u := by
    rw [o2.cellAt (k * 7 + 3) (by omega)]
    exact ⟨_, List.getElem?_eq_getElem (by omega)⟩
   have t3 := o2.frozenAt (k * 7 + 3)
   obtain ⟨u4, g4⟩ : ∃ u, W1.cell? ⟨w.heap.size, k * 7 + 4, none⟩ = some u := by
    rw [o2.cellAt (k * 7 + 4) (by omega)]
    exact ⟨_, List.getElem?_eq_getElem (by omega)⟩
   have t4 := o2.frozenAt (k * 7 + 4)
   obtain ⟨u5, g5⟩ : ∃ u, W1.cell? ⟨w.heap.size, k * 7 + 5, none⟩ = some u := by
    rw [o2.cellAt (k * 7 + 5) (by omega)]
    exact ⟨_, List.getElem?_eq_getElem (by omega)⟩
   have t5 := o2.frozenAt (k * 7 + 5)
   obtain ⟨u6, g6⟩ : ∃ u, W1.cell? ⟨w.heap.size, k * 7 + 6, none⟩ = some u := by
    rw [o2.cellAt (k * 7 + 6) (by omega)]
    exact ⟨_, List.getElem?_eq_getElem (by omega)⟩
   have t6 := o2.frozenAt (k * 7 + 6)
   have o3 := own_setAll o2 (k * 7) [.int .i64 x.id, .bool x.up, .int .i64 x.epoch, .int .i64 x.lease, .slice (some ⟨gw, 0, none⟩) x.writes.length x.writes.length, .int .i64 x.sure, .int .i64 x.clean]
   rw [show k * 7 = rows.flatten.length from hrl.symm, setFrom_app _ _ _ (by rw [hQ]; simp; have : 1 * 7 ≤ (xs.length - k) * 7 := Nat.mul_le_mul_right _ (by omega); omega), hrl] at o3
   have E : Ext (fun q => q = w.heap.size) W1 (setAll W1 w.heap.size (k * 7) [.int .i64 x.id, .bool x.up, .int .i64 x.epoch, .int .i64 x.lease, .slice (some ⟨gw, 0, none⟩) x.writes.length x.writes.length, .int .i64 x.sure, .int .i64 x.clean]) := ext_setAll _ (Ext.refl _ _) _ _ _ rfl
   replace HS := yh (Lay.subs_ext (uh HS) E (fun q h1 h2 h3 => by omega))
   have HB := yh (below_setAll hb2 w.heap.size (k * 7) [.int .i64 x.id, .bool x.up, .int .i64 x.epoch, .int .i64 x.lease, .slice (some ⟨gw, 0, none⟩) x.writes.length x.writes.length, .int .i64 x.sure, .int .i64 x.clean] (Nat.le_refl _))
   have HZ : Hid ((setAll W1 w.heap.size (k * 7) [.int .i64 x.id, .bool x.up, .int .i64 x.epoch, .int .i64 x.lease, .slice (some ⟨gw, 0, none⟩) x.writes.length x.writes.length, .int .i64 x.sure, .int .i64 x.clean]).heap.size = v1.heap.size) := (size_setAll _ _ _ _).trans hz1'
   have HO : Hid ((setAll W1 w.heap.size (k * 7) [.int .i64 x.id, .bool x.up, .int .i64 x.epoch, .int .i64 x.lease, .slice (some ⟨gw, 0, none⟩) x.writes.length x.writes.length, .int .i64 x.sure, .int .i64 x.clean]).ownsRow w.heap.size 84 7 (.slice (some ⟨w.heap.size, 0, none⟩) xs.length xs.length) xs.length ((rows ++ [([.int .i64 x.id, .bool x.up, .int .i64 x.epoch, .int .i64 x.lease, .slice (some ⟨gw, 0, none⟩) x.writes.length x.writes.length, .int .i64 x.sure, .int .i64 x.clean] : List Value)]).flatten ++ Q.drop 7)) := by
    show (setAll W1 w.heap.size (k * 7) [.int .i64 x.id, .bool x.up, .int .i64 x.epoch, .int .i64 x.lease, .slice (some ⟨gw, 0, none⟩) x.writes.length x.writes.length, .int .i64 x.sure, .int .i64 x.clean]).ownsRow w.heap.size 84 7 (.slice (some ⟨w.heap.size, 0, none⟩) xs.length xs.length) xs.length ((rows ++ [([.int .i64 x.id, .bool x.up, .int .i64 x.epoch, .int .i64 x.lease, .slice (some ⟨gw, 0, none⟩) x.writes.length x.writes.length, .int .i64 x.sure, .int .i64 x.clean] : List Value)]).flatten ++ Q.drop 7)
    rw [List.flatten_append]
    simpa using o3
   have hl2 := (o2.lt w.heap.size rfl).2
   clear o3 o2 E hb2 hl5
   have hQ2 : Hid ((Q.drop 7).length = (xs.length - (k + 1)) * 7) := by
    show (Q.drop 7).length = (xs.length - (k + 1)) * 7
    rw [List.length_drop, hQ, show xs.length - k = xs.length - (k + 1) + 1 by omega, Nat.add_mul]
    omega
   have HW2 : Hid (w.heap.size < v1.heap.size) := by show w.heap.size < v1.heap.size; omega
   clear hQ HQ hz0 HX hz1 hz1'
   go_wp2_with fail
   go_roundw
   case rel => exact ⟨k + 1, rows ++ [([.int .i64 x.id, .bool x.up, .int .i64 x.epoch, .int .i64 x.lease, .slice (some ⟨gw, 0, none⟩) x.writes.length x.writes.length, .int .i64 x.sure, .int .i64 x.clean] : List Value)], Q.drop 7, v1.heap.size, by omega, by go_num, uh HO, uh hQ2, (by rw [uh HT]; exact uh HS), Nat.le_of_eq (uh HZ).symm, uh HW2, uh HB⟩
   case measure => simp [intOf]; omega
  obtain rfl : k = xs.length := by omega
  have e0 : Q = [] := List.eq_nil_of_length_eq_zero (by rw [hQ]; simp)
  subst e0
  rw [List.append_nil] at hown
  rw [List.take_length] at hsub
  have HO := yh (Lay.subs_done (A := Lay.tNode) hown hsub (by omega) hhi hbig)
  have HB := yh hB
  clear hown hsub hB
  go_wp2_with fail
  go_ret
  exact ⟨_, rfl, uh HO, uh HB⟩
theorem hit_bl {w : World} {row : List Value} {x : DHit} {bl : List Nat} (h : Lay.tHit.lies w row x bl) : bl = [] := by
 obtain ⟨rfl, -⟩ := (lies_Hit.1 h).2
 rfl
theorem hits_flat {w : World} {base T : Nat} {v : Value} {rows : List (List Value)} {xs : List DHit} {bls : List (List Nat)} (h : Grow Lay.tHit w base T v rows xs bls) : bls.flatten = [] := by
 rw [List.flatten_eq_nil_iff]
 intro l hl
 obtain ⟨j, hj, rfl⟩ := List.getElem_of_mem hl
 have n1 := h.nbls
 have n2 := h.nrows
 exact hit_bl (h.lies j (by omega) (by omega) hj)
theorem cloneH_nil (d : Nat) (w : World) : Calls Tryz.prog 183 #[.slice none 0 d] w fun e w' => e = .returned (.slice none 0 0) ∧ Below w.heap.size w w' := by
 have hnil : ∀ w : World, (binOp .eql 53 (.slice none 0 d) (.slice none 0 0)).run Tryz.prog w = .ok (.bool true) w := fun _ => by kernel_rfl
 go_enter Tryz.func183, Tryz.ntmps183
 go_wp2_with fail
 go_ret
 exact ⟨rfl, Below.refl _ _⟩
theorem cloneH (v : Value) (zs : List DHit) (w : World) (h : (Lay.sl Lay.tHit).Reads w [v] zs) (hn : zs.length ≤ 10000000) :
  Calls Tryz.prog 183 #[v] w fun e w' => ∃ a c, e = .returned (.slice a zs.length c) ∧ (Lay.sl Lay.tHit).OwnIn w' [.slice a zs.length c] zs w.heap.size w'.heap.size ∧ Below w.heap.size w w' := by
 obtain ⟨ao, cap, rfl⟩ := open_sl h
 cases ao with
 | none =>
  have h0 : zs = [] := by
   by_cases hp : 0 < zs.length
   ·
    obtain ⟨b, off, e, -⟩ := Lay.sl_addr h hp
    cases e
   exact List.eq_nil_of_length_eq_zero (by omega)
  subst h0
  refine (cloneH_nil cap w).mono ?_
  rintro e w' ⟨rfl, hb⟩
  exact ⟨none, 0, rfl, nil_own, hb⟩
 | some ad =>
  have nb : Below w.heap.size w (w.alloc (.cells #[] 196)) := (Below.refl _ _).alloc (Nat.le_refl _) _
  have O : (w.alloc (.cells #[] 196)).ownsRow w.heap.size 196 2 (.slice (some ⟨w.heap.size, 0, none⟩) 0 0) 0 [] := World.ownsRow_lit w _ 0 (Nat.le_refl _) (by unfold maxLen; omega) rfl
  have G : Grow Lay.tHit (w.alloc (.cells #[] 196)) w.heap.size 196 (.slice (some ⟨w.heap.size, 0, none⟩) 0 0) [] [] [] := Grow.nil O
  have h1 := h.liesIn.later nb
  have HB := yh nb
  have HN := yh hn
  have hnil : ∀ w : World, (binOp .eql 53 (.slice (some ad) zs.length cap) (.slice none 0 0)).run Tryz.prog w = .ok (.bool false) w := fun _ => by kernel_rfl
  clear nb h O
  go_enter Tryz.func183, Tryz.ntmps183
  go_wp2_with (at_builtin; refine wpList_append_hitsL G h1 rfl _ _ rfl rfl rfl ?hn1 ?hn2 ?_)
  case hn1 => have := uh HN; simp; omega
  case hn2 => simp
  rintro a' m' cap' w' rows' bls' G2 hb hm -
  obtain rfl : m' = zs.length := by simpa using hm
  have hfl := hits_flat G2
  have HO : Hid ((Lay.sl Lay.tHit).OwnIn w' [.slice a' zs.length cap'] zs w.heap.size w'.heap.size) := G2.toOwn (by have := uh HN; omega) (by rw [hfl]; simp) (by rw [hfl]; simp)
  have HB2 := yh ((uh HB).trans (hb.mono (Nat.le_refl _)))
  clear G h1 hb HB G2 hfl hm
  go_wp2_with fail
  go_ret
  exact ⟨a', cap', rfl, uh HO, uh HB2⟩
theorem wf_Entry {w : World} {cs : List Value} {x : DEntry} (h : Lay.tEntry.Reads w cs x) : (Lit.int .i64 x.kind).wf = true ∧ (Lit.int .i64 x.session).wf = true ∧ (Lit.int .i64 x.seq).wf = true ∧ (Lit.int .i64 x.id).wf = true ∧ (Lit.int .i64 x.k).wf = true ∧ (Lit.int .i64 x.start).wf = true ∧ (Lit.int .i64 x.fin).wf = true ∧ (Lit.int .i64 x.place).wf = true := by
 obtain ⟨bl, h⟩ := h
 obtain ⟨_, _, _, _, _, _, _, _, _, -, -, w0, w1, w2, w3, -, w5, w6, w7, w8, -, -⟩ := lies_Entry.1 h
 exact ⟨w0, w1, w2, w3, w5, w6, w7, w8⟩
theorem own_entryC {w : World} {x : DEntry} {v u s : Value} {l0 h0 l1 h1 l2 h2 : Nat} (p : (Lay.sl Lay.int).OwnIn w [v] x.query l0 h0) (q : (Lay.sl Lay.int).OwnIn w [u] x.vec l1 h1) (r : (Lay.sl Lay.tHit).OwnIn w [s] x.hits l2 h2) (e1 : h0 ≤ l1) (e2 : h1 ≤ l2) (e3 : l0 ≤ l1) (e4 : l1 ≤ l2) (e5 : h1 ≤ h2) (e6 : h0 ≤ h2) (hw : (Lit.int .i64 x.kind).wf = true ∧ (Lit.int .i64 x.session).wf = true ∧ (Lit.int .i64 x.seq).wf = true ∧ (Lit.int .i64 x.id).wf = true ∧ (Lit.int .i64 x.k).wf = true ∧ (Lit.int .i64 x.start).wf = true ∧ (Lit.int .i64 x.fin).wf = true ∧ (Lit.int .i64 x.place).wf = true) :
  Lay.tEntry.OwnIn w [.int .i64 x.kind, .int .i64 x.session, .int .i64 x.seq, .int .i64 x.id, v, .int .i64 x.k, .int .i64 x.start, .int .i64 x.fin, .int .i64 x.place, u, s] x l0 h2 := by
 obtain ⟨b1, O1, i1⟩ := p
 obtain ⟨b2, O2, i2⟩ := q
 obtain ⟨b3, O3, i3⟩ := r
 obtain ⟨w0, w1, w2, w3, w5, w6, w7, w8⟩ := hw
 refine ⟨b1 ++ (b2 ++ b3), mkOwn_Entry O1 O2 O3 w0 w1 w2 w3 w5 w6 w7 w8 ?_, ?_⟩
 ·
  rw [List.nodup_append, List.nodup_append]
  refine ⟨O1.2.1, ⟨O2.2.1, O3.2.1, fun a ha c hc e => ?_⟩, fun a ha c hc e => ?_⟩
  ·
   have := i2 a ha; have := i3 c hc; omega
  have := i1 a ha
  rcases List.mem_append.1 hc with hc | hc
  ·
   have := i2 c hc; omega
  have := i3 c hc; omega
 intro a ha
 rcases List.mem_append.1 ha with ha | ha
 ·
  have := i1 a ha; omega
 rcases List.mem_append.1 ha with ha | ha
 ·
  have := i2 a ha; omega
 have := i3 a ha; omega
theorem infoEntryC : (Tryz.prog.info? 127).map (fun i => (i.zero, i.size, decide (i.bytes ≤ 1000))) = some (some (.agg #[.int .i64 0, .int .i64 0, .int .i64 0, .int .i64 0, .slice none 0 0, .int .i64 0, .int .i64 0, .int .i64 0, .int .i64 0, .slice none 0 0, .slice none 0 0]), 11, true) := by kernel_rfl
theorem copiedHistoryC (v : Value) (xs : List DEntry) (w : World) (h : (Lay.sl Lay.tEntry).Reads w [v] xs) (hlen : xs.length ≤ 1000000) (hv : ∀ x ∈ xs, x.query.length ≤ 10000000 ∧ x.vec.length ≤ 10000000 ∧ x.hits.length ≤ 10000000) :
  Calls Tryz.prog 273 #[v] w fun e w' => ∃ (g : Nat), e = .returned (.slice (some ⟨g, 0, none⟩) xs.length xs.length) ∧ (Lay.sl Lay.tEntry).OwnIn w' [.slice (some ⟨g, 0, none⟩) xs.length xs.length] xs w.heap.size w'.heap.size ∧ Below w.heap.size w w' := by
 have hbig := h.big
 obtain ⟨ao, cap, rfl⟩ := open_sl h
 obtain ⟨i0, hi, hz0, hz1, hz2⟩ : ∃ i, Tryz.prog.info? 127 = some i ∧ i.zero = some (.agg #[.int .i64 0, .int .i64 0, .int .i64 0, .int .i64 0, .slice none 0 0, .int .i64 0, .int .i64 0, .int .i64 0, .int .i64 0, .slice none 0 0, .slice none 0 0]) ∧ i.size = 11 ∧ i.bytes ≤ 1000 := by
  have := infoEntryC
  cases hq : Tryz.prog.info? 127 with
  | none => rw [hq] at this; simp at this
  | some i =>
   rw [hq] at this
   simp only [Option.map_some, Option.some.injEq, Prod.mk.injEq, decide_eq_true_eq] at this
   exact ⟨i, rfl, this.1, this.2.1, this.2.2⟩
 have H := yh h
 have HN := yh hv
 clear h hv
 go_enter Tryz.func273, Tryz.ntmps273
 go_wp2_with (at_make; refine wpList_make_full _ rfl _ _ 34 rfl w.heap.size 127 i0 _ 11 Tryz.underlying34 hi hz0 hz1 _ _ _ _ xs.length rfl rfl rfl rfl ?c1 ?c2 ?c3 ?_)
 case c1 => have := Nat.mul_le_mul hz2 hlen; omega
 case c2 => unfold maxLen; omega
 case c3 => exact Nat.le_refl _
 intro w1 hown1 hgrow1
 have hB1 : Below w.heap.size w w1 := (Below.refl _ _).grown hgrow1 (Nat.le_refl _) (by simp)
 clear hgrow1 hi hz0 hz1 hz2
 have HO1 := yh hown1
 have HB1 := yh hB1
 clear hown1 hB1
 go_wp2_with fail
 go_loopw [11] (fun i wr => ∃ (k : Nat) (rows : List (List Value)) (Q : List Value) (hi : Nat), k ≤ xs.length ∧ i = .int .i64 k ∧ wr.ownsRow w.heap.size 127 11 (.slice (some ⟨w.heap.size, 0, none⟩) xs.length xs.length) xs.length (rows.flatten ++ Q) ∧ Q.length = (xs.length - k) * 11 ∧ Lay.Subs Lay.tEntry wr rows (xs.take k) (w.heap.size + 1) hi ∧ hi ≤ wr.heap.size ∧ w.heap.size < hi ∧ Below w.heap.size w wr) (fun i _ => xs.length - (intOf i).toNat)
 case atStart =>
  have hl := ((uh HO1).lt w.heap.size rfl).2
  exact ⟨0, [], _, w1.heap.size, Nat.zero_le _, rfl, by simpa using uh HO1, by have := (uh HO1).1; simpa using this, Lay.subs_nil, Nat.le_refl _, hl, uh HB1⟩
 case round =>
  obtain ⟨k, rows, Q, hi, hk, rfl, hown, hQ, hsub, hhi, hlo, hB⟩ := hrel
  clear HO1 HB1
  by_cases hlt : k < xs.length
  ·
   obtain ⟨b, off, rfl, hbl⟩ := Lay.sl_addr (uh H) (by omega)
   obtain ⟨row, hc, hr⟩ := Lay.row_at (uh H) hlt
   replace hr := hr.later hB
   have hr2 := hr
   obtain ⟨aq, dq, av, dv, ah, dh, rfl, R0, R1, R2⟩ := open_Entry hr2
   have c0 : wr.cell? ⟨b, off + k * 11, none⟩ = some (.int .i64 (xs[k]).kind) := (hB.cell (p := ⟨b, off + k * 11, none⟩) hbl).trans (hc 0 (by decide))
   have c1 : wr.cell? ⟨b, off + k * 11 + 1, none⟩ = some (.int .i64 (xs[k]).session) := (hB.cell (p := ⟨b, off + k * 11 + 1, none⟩) hbl).trans (hc 1 (by decide))
   have c2 : wr.cell? ⟨b, off + k * 11 + 2, none⟩ = some (.int .i64 (xs[k]).seq) := (hB.cell (p := ⟨b, off + k * 11 + 2, none⟩) hbl).trans (hc 2 (by decide))
   have c3 : wr.cell? ⟨b, off + k * 11 + 3, none⟩ = some (.int .i64 (xs[k]).id) := (hB.cell (p := ⟨b, off + k * 11 + 3, none⟩) hbl).trans (hc 3 (by decide))
   have c4 : wr.cell? ⟨b, off + k * 11 + 4, none⟩ = some (.slice aq (xs[k]).query.length dq) := (hB.cell (p := ⟨b, off + k * 11 + 4, none⟩) hbl).trans (hc 4 (by decide))
   have c5 : wr.cell? ⟨b, off + k * 11 + 5, none⟩ = some (.int .i64 (xs[k]).k) := (hB.cell (p := ⟨b, off + k * 11 + 5, none⟩) hbl).trans (hc 5 (by decide))
   have c6 : wr.cell? ⟨b, off + k * 11 + 6, none⟩ = some (.int .i64 (xs[k]).start) := (hB.cell (p := ⟨b, off + k * 11 + 6, none⟩) hbl).trans (hc 6 (by decide))
   have c7 : wr.cell? ⟨b, off + k * 11 + 7, none⟩ = some (.int .i64 (xs[k]).fin) := (hB.cell (p := ⟨b, off + k * 11 + 7, none⟩) hbl).trans (hc 7 (by decide))
   have c8 : wr.cell? ⟨b, off + k * 11 + 8, none⟩ = some (.int .i64 (xs[k]).place) := (hB.cell (p := ⟨b, off + k * 11 + 8, none⟩) hbl).trans (hc 8 (by decide))
   have c9 : wr.cell? ⟨b, off + k * 11 + 9, none⟩ = some (.slice av (xs[k]).vec.length dv) := (hB.cell (p := ⟨b, off + k * 11 + 9, none⟩) hbl).trans (hc 9 (by decide))
   have c10 : wr.cell? ⟨b, off + k * 11 + 10, none⟩ = some (.slice ah (xs[k]).hits.length dh) := (hB.cell (p := ⟨b, off + k * 11 + 10, none⟩) hbl).trans (hc 10 (by decide))
   have hrl : rows.flatten.length = k * 11 := by have := (Lay.subs_len hsub).1; rw [List.length_take, Nat.min_eq_left hk] at this; exact this
   have hvl := uh HN xs[k] (List.getElem_mem hlt)
   have HT : Hid (xs.take (k + 1) = xs.take k ++ [xs[k]]) := List.take_succ_eq_append_getElem hlt
   have HB := yh hB
   have HO := yh hown
   have HS := yh hsub
   have HQ := yh hQ
   have HWF := yh (wf_Entry hr)
   have HVL := yh hvl
   have HR0 := yh R0
   have HR1 := yh R1
   have HR2 := yh R2
   clear hB hr hc hown hsub hQ hr2 hvl R0 R1 R2
   generalize hxk : xs[k] = x at *
   clear hxk
   have hbr : b < wr.heap.size := Nat.lt_of_lt_of_le hbl (uh HB).size
   have nb : Below wr.heap.size wr (wr.alloc (.cells #[.int .i64 x.kind, .int .i64 x.session, .int .i64 x.seq, .int .i64 x.id, .slice aq x.query.length dq, .int .i64 x.k, .int .i64 x.start, .int .i64 x.fin, .int .i64 x.place, .slice av x.vec.length dv, .slice ah x.hits.length dh] 127)) := (Below.refl _ _).alloc (Nat.le_refl _) _
   have HX : Hid (Box 0 #[.int .i64 x.kind, .int .i64 x.session, .int .i64 x.seq, .int .i64 x.id, .slice aq x.query.length dq, .int .i64 x.k, .int .i64 x.start, .int .i64 x.fin, .int .i64 x.place, .slice av x.vec.length dv, .slice ah x.hits.length dh] 127 (wr.alloc (.cells #[.int .i64 x.kind, .int .i64 x.session, .int .i64 x.seq, .int .i64 x.id, .slice aq x.query.length dq, .int .i64 x.k, .int .i64 x.start, .int .i64 x.fin, .int .i64 x.place, .slice av x.vec.length dv, .slice ah x.hits.length dh] 127)) wr.heap.size) := newBox (Nat.zero_le _)
   have hz0 : (wr.alloc (.cells #[.int .i64 x.kind, .int .i64 x.session, .int .i64 x.seq, .int .i64 x.id, .slice aq x.query.length dq, .int .i64 x.k, .int .i64 x.start, .int .i64 x.fin, .int .i64 x.place, .slice av x.vec.length dv, .slice ah x.hits.length dh] 127)).heap.size = wr.heap.size + 1 := by simp
   have HV := yh nb
   clear nb
   go_upto_region 5 with fail
   generalize wr.alloc (.cells #[.int .i64 x.kind, .int .i64 x.session, .int .i64 x.seq, .int .i64 x.id, .slice aq x.query.length dq, .int .i64 x.k, .int .i64 x.start, .int .i64 x.fin, .int .i64 x.place, .slice av x.vec.length dv, .slice ah x.hits.length dh] 127) = W0 at *
   clear c0 c1 c2 c3 c4 c5 c6 c7 c8 c9 c10
   have hx := uh HX
   have y4 := Box.at hx 4 _ rfl
   have yf := Box.soft hx
   have yl := hx.lt
   simp only [ga, gb, gc] at y4
   have HC := yh (cloneC _ x.query W0 ((uh HR0).later (uh HV)) (uh HVL).1)
   clear hx
   go_wp2_with fail
   refine (uh HC).mono ?_
   rintro e v1 ⟨p1, n1, q1, rfl, ⟨O, rfl⟩, hb⟩
   have hz1 : W0.heap.size ≤ v1.heap.size := hb.size
   have hx := (uh HX).keep hb
   clear y4 yf yl
   have y4 := Box.at hx 4 _ rfl
   have yf := Box.soft hx
   have yl := hx.lt
   simp only [ga, gb, gc] at y4
   have hv := (uh HV).trans (hb.mono (uh HV).size)
   replace HV := yh (hv.setCell (p := ⟨wr.heap.size, 4, none⟩) (Nat.le_refl _) (.slice p1 x.query.length q1))
   have hx2 := Box.set hx 4 (.slice p1 x.query.length q1)
   simp only [List.setIfInBounds_toArray, List.set_cons_zero, List.set_cons_succ] at hx2
   replace HX := yh hx2
   have e1 : Ext (fun q => q = wr.heap.size) v1 (v1.setCell ⟨wr.heap.size, 4, none⟩ (.slice p1 x.query.length q1)) := (Ext.refl _ _).setCell _ _ rfl
   have P0 := yh (O.ext e1 (fun q h1 h2 h3 => by omega))
   have hz1' : (v1.setCell ⟨wr.heap.size, 4, none⟩ (.slice p1 x.query.length q1)).heap.size = v1.heap.size := by simp
   clear hx hx2 e1 hv O hb HC
   go_upto_region 6 with fail
   generalize hW : v1.setCell ⟨wr.heap.size, 4, none⟩ (.slice p1 x.query.length q1) = W1 at *
   clear hW y4 yf yl
   have hx := uh HX
   have y9 := Box.at hx 9 _ rfl
   have yf := Box.soft hx
   have yl := hx.lt
   simp only [ga, gb, gc] at y9
   have HC := yh (cloneC _ x.vec W1 ((uh HR1).later (uh HV)) (uh HVL).2.1)
   clear hx
   go_wp2_with fail
   refine (uh HC).mono ?_
   rintro e v2 ⟨p2, n2, q2, rfl, ⟨O, rfl⟩, hb⟩
   have hz2 : W1.heap.size ≤ v2.heap.size := hb.size
   have hx := (uh HX).keep hb
   clear y9 yf yl
   have y9 := Box.at hx 9 _ rfl
   have yf := Box.soft hx
   have yl := hx.lt
   simp only [ga, gb, gc] at y9
   have hv := (uh HV).trans (hb.mono (uh HV).size)
   replace HV := yh (hv.setCell (p := ⟨wr.heap.size, 9, none⟩) (Nat.le_refl _) (.slice p2 x.vec.length q2))
   have hx2 := Box.set hx 9 (.slice p2 x.vec.length q2)
   simp only [List.setIfInBounds_toArray, List.set_cons_zero, List.set_cons_succ] at hx2
   replace HX := yh hx2
   have e2 : Ext (fun q => q = wr.heap.size) v2 (v2.setCell ⟨wr.heap.size, 9, none⟩ (.slice p2 x.vec.length q2)) := (Ext.refl _ _).setCell _ _ rfl
   replace P0 := yh (((uh P0).later hb).ext e2 (fun q h1 h2 h3 => by omega))
   have P1 := yh (O.ext e2 (fun q h1 h2 h3 => by omega))
   have hz2' : (v2.setCell ⟨wr.heap.size, 9, none⟩ (.slice p2 x.vec.length q2)).heap.size = v2.heap.size := by simp
   clear hx hx2 e2 hv O hb HC
   go_upto_region 7 with fail
   generalize hW : v2.setCell ⟨wr.heap.size, 9, none⟩ (.slice p2 x.vec.length q2) = W2 at *
   clear hW y9 yf yl
   have hx := uh HX
   have y10 := Box.at hx 10 _ rfl
   have yf := Box.soft hx
   have yl := hx.lt
   simp only [ga, gb, gc] at y10
   have HC := yh (cloneH _ x.hits W2 ((uh HR2).later (uh HV)) (uh HVL).2.2)
   clear hx
   go_wp2_with fail
   refine (uh HC).mono ?_
   rintro e v3 ⟨p3, q3, rfl, O, hb⟩
   have hz3 : W2.heap.size ≤ v3.heap.size := hb.size
   have hx := (uh HX).keep hb
   clear y10 yf yl
   have y10 := Box.at hx 10 _ rfl
   have yf := Box.soft hx
   have yl := hx.lt
   simp only [ga, gb, gc] at y10
   have hv := (uh HV).trans (hb.mono (uh HV).size)
   replace HV := yh (hv.setCell (p := ⟨wr.heap.size, 10, none⟩) (Nat.le_refl _) (.slice p3 x.hits.length q3))
   have hx2 := Box.set hx 10 (.slice p3 x.hits.length q3)
   simp only [List.setIfInBounds_toArray, List.set_cons_zero, List.set_cons_succ] at hx2
   replace HX := yh hx2
   have e3 : Ext (fun q => q = wr.heap.size) v3 (v3.setCell ⟨wr.heap.size, 10, none⟩ (.slice p3 x.hits.length q3)) := (Ext.refl _ _).setCell _ _ rfl
   replace P0 := yh (((uh P0).later hb).ext e3 (fun q h1 h2 h3 => by omega))
   replace P1 := yh (((uh P1).later hb).ext e3 (fun q h1 h2 h3 => by omega))
   have P2 := yh (O.ext e3 (fun q h1 h2 h3 => by omega))
   have hz3' : (v3.setCell ⟨wr.heap.size, 10, none⟩ (.slice p3 x.hits.length q3)).heap.size = v3.heap.size := by simp
   clear hx hx2 e3 hv O hb HC
   go_upto_region 8 with fail
   generalize hW : v3.setCell ⟨wr.heap.size, 10, none⟩ (.slice p3 x.hits.length q3) = W3 at *
   clear hW y10 yf yl
   have hx := uh HX
   have y0 := Box.at hx 0 _ rfl
   have y1 := Box.at hx 1 _ rfl
   have y2 := Box.at hx 2 _ rfl
   have y3 := Box.at hx 3 _ rfl
   have y4 := Box.at hx 4 _ rfl
   have y5 := Box.at hx 5 _ rfl
   have y6 := Box.at hx 6 _ rfl
   have y7 := Box.at hx 7 _ rfl
   have y8 := Box.at hx 8 _ rfl
   have y9 := Box.at hx 9 _ rfl
   have y10 := Box.at hx 10 _ rfl
   simp only [ga, gb, gc] at y0 y1 y2 y3 y4 y5 y6 y7 y8 y9 y10
   have yl := hx.lt
   clear hx
   have hb3 : Below wr.heap.size wr W3 := uh HV
   have o2 := own_below (uh HO) hb3
   have O := own_entryC (uh P0) (uh P1) (uh P2) (by omega) (by omega) (by omega) (by omega) (by omega) (by omega) (uh HWF)
   replace HS := yh (Lay.subs_snoc (Lay.subs_ext (uh HS) (ext_of_below hb3 nowhere) (fun _ _ _ h => h)) O (by omega) (by omega) (by omega))
   have hb2 := (uh HB).trans (hb3.mono (uh HB).size)
   have hxw : w.heap.size < wr.heap.size := by omega
   have hwz := hb3.size
   clear HB HO O HV hb3 P0 P1 P2
   have hQ := uh HQ
   have hl5 : (rows.flatten ++ Q).length = xs.length * 11 := o2.1
   obtain ⟨u0, g0⟩ : ∃ u, W3.cell? ⟨w.heap.size, k * 11, none⟩ = some u := by
    rw [o2.cellAt (k * 11) (by omega)]
    exact ⟨_, List.getElem?_eq_getElem (by omega)⟩
   have t0 := o2.frozenAt (k * 11)
   obtain ⟨u1, g1⟩ : ∃ u, W3.cell? ⟨w.heap.size, k * 11 + 1, none⟩ = some u := by
    rw [o2.cellAt (k * 11 + 1) (by omega)]
    exact ⟨_, List.getElem?_eq_getElem (by omega)⟩
   have t1 := o2.frozenAt (k * 11 + 1)
   obtain ⟨u2, g2⟩ : ∃ u, W3.cell? ⟨w.heap.size, k * 11 + 2, none⟩ = some u := by
    rw [o2.cellAt (k * 11 + 2) (by omega)]
    exact ⟨_, List.getElem?_eq_getElem (by omega)⟩
   have t2 := o2.frozenAt (k * 11 + 2)
   obtain ⟨u3, g3⟩ : ∃ u, W3.cell? ⟨w.heap.size, k * 11 + 3, none⟩ = some u := by
    rw [o2.cellAt (k * 11 + 3) (by omega)]
    exact ⟨_, List.getElem?_eq_getElem (by omega)⟩
   have t3 := o2.frozenAt (k * 11 + 3)
   obtain ⟨u4, g4⟩ : ∃ u, W3.cell? ⟨w.heap.size, k * 11 + 4, none⟩ = some u := by
    rw [o2.cellAt (k * 11 + 4) (by omega)]
    exact ⟨_, List.getElem?_eq_getElem (by omega)⟩
   have t4 := o2.frozenAt (k * 11 + 4)
   obtain ⟨u5, g5⟩ : ∃ u, W3.cell? ⟨w.heap.size, k * 11 + 5, none⟩ = some u := by
    rw [o2.cellAt (k * 11 + 5) (by omega)]
    exact ⟨_, List.getElem?_eq_getElem (by omega)⟩
   have t5 := o2.frozenAt (k * 11 + 5)
   obtain ⟨u6, g6⟩ : ∃ u, W3.cell? ⟨w.heap.size, k * 11 + 6, none⟩ = some u := by
    rw [o2.cellAt (k * 11 + 6) (by omega)]
    exact ⟨_, List.getElem?_eq_getElem (by omega)⟩
   have t6 := o2.frozenAt (k * 11 + 6)
   obtain ⟨u7, g7⟩ : ∃ u, W3.cell? ⟨w.heap.size, k * 11 + 7, none⟩ = some u := by
    rw [o2.cellAt (k * 11 + 7) (by omega)]
    exact ⟨_, List.getElem?_eq_getElem (by omega)⟩
   have t7 := o2.frozenAt (k * 11 + 7)
   obtain ⟨u8, g8⟩ : ∃ u, W3.cell? ⟨w.heap.size, k * 11 + 8, none⟩ = some u := by
    rw [o2.cellAt (k * 11 + 8) (by omega)]
    exact ⟨_, List.getElem?_eq_getElem (by omega)⟩
   have t8 := o2.frozenAt (k * 11 + 8)
   obtain ⟨u9, g9⟩ : ∃ u, W3.cell? ⟨w.heap.size, k * 11 + 9, none⟩ = some u := by
    rw [o2.cellAt (k * 11 + 9) (by omega)]
    exact ⟨_, List.getElem?_eq_getElem (by omega)⟩
   have t9 := o2.frozenAt (k * 11 + 9)
   obtain ⟨u10, g10⟩ : ∃ u, W3.cell? ⟨w.heap.size, k * 11 + 10, none⟩ = some u := by
    rw [o2.cellAt (k * 11 + 10) (by omega)]
    exact ⟨_, List.getElem?_eq_getElem (by omega)⟩
   have t10 := o2.frozenAt (k * 11 + 10)
   have o3 := own_setAll o2 (k * 11) [.int .i64 x.kind, .int .i64 x.session, .int .i64 x.seq, .int .i64 x.id, .slice p1 x.query.length q1, .int .i64 x.k, .int .i64 x.start, .int .i64 x.fin, .int .i64 x.place, .slice p2 x.vec.length q2, .slice p3 x.hits.length q3]
   rw [show k * 11 = rows.flatten.length from hrl.symm, setFrom_app _ _ _ (by rw [hQ]; simp; have : 1 * 11 ≤ (xs.length - k) * 11 := Nat.mul_le_mul_right _ (by omega); omega), hrl] at o3
   have E : Ext (fun q => q = w.heap.size) W3 (setAll W3 w.heap.size (k * 11) [.int .i64 x.kind, .int .i64 x.session, .int .i64 x.seq, .int .i64 x.id, .slice p1 x.query.length q1, .int .i64 x.k, .int .i64 x.start, .int .i64 x.fin, .int .i64 x.place, .slice p2 x.vec.length q2, .slice p3 x.hits.length q3]) := ext_setAll _ (Ext.refl _ _) _ _ _ rfl
   replace HS := yh (Lay.subs_ext (uh HS) E (fun q h1 h2 h3 => by omega))
   have HB := yh (below_setAll hb2 w.heap.size (k * 11) [.int .i64 x.kind, .int .i64 x.session, .int .i64 x.seq, .int .i64 x.id, .slice p1 x.query.length q1, .int .i64 x.k, .int .i64 x.start, .int .i64 x.fin, .int .i64 x.place, .slice p2 x.vec.length q2, .slice p3 x.hits.length q3] (Nat.le_refl _))
   have HZ : Hid ((setAll W3 w.heap.size (k * 11) [.int .i64 x.kind, .int .i64 x.session, .int .i64 x.seq, .int .i64 x.id, .slice p1 x.query.length q1, .int .i64 x.k, .int .i64 x.start, .int .i64 x.fin, .int .i64 x.place, .slice p2 x.vec.length q2, .slice p3 x.hits.length q3]).heap.size = v3.heap.size) := (size_setAll _ _ _ _).trans hz3'
   have HO : Hid ((setAll W3 w.heap.size (k * 11) [.int .i64 x.kind, .int .i64 x.session, .int .i64 x.seq, .int .i64 x.id, .slice p1 x.query.length q1, .int .i64 x.k, .int .i64 x.start, .int .i64 x.fin, .int .i64 x.place, .slice p2 x.vec.length q2, .slice p3 x.hits.length q3]).ownsRow w.heap.size 127 11 (.slice (some ⟨w.heap.size, 0, none⟩) xs.length xs.length) xs.length ((rows ++ [([.int .i64 x.kind, .int .i64 x.session, .int .i64 x.seq, .int .i64 x.id, .slice p1 x.query.length q1, .int .i64 x.k, .int .i64 x.start, .int .i64 x.fin, .int .i64 x.place, .slice p2 x.vec.length q2, .slice p3 x.hits.length q3] : List Value)]).flatten ++ Q.drop 11)) := by
    show (setAll W3 w.heap.size (k * 11) [.int .i64 x.kind, .int .i64 x.session, .int .i64 x.seq, .int .i64 x.id, .slice p1 x.query.length q1, .int .i64 x.k, .int .i64 x.start, .int .i64 x.fin, .int .i64 x.place, .slice p2 x.vec.length q2, .slice p3 x.hits.length q3]).ownsRow w.heap.size 127 11 (.slice (some ⟨w.heap.size, 0, none⟩) xs.length xs.length) xs.length ((rows ++ [([.int .i64 x.kind, .int .i64 x.session, .int .i64 x.seq, .int .i64 x.id, .slice p1 x.query.length q1, .int .i64 x.k, .int .i64 x.start, .int .i64 x.fin, .int .i64 x.place, .slice p2 x.vec.length q2, .slice p3 x.hits.length q3] : List Value)]).flatten ++ Q.drop 11)
    rw [List.flatten_append]
    simpa using o3
   have hl2 := (o2.lt w.heap.size rfl).2
   clear o3 o2 E hb2 hl5
   have hQ2 : Hid ((Q.drop 11).length = (xs.length - (k + 1)) * 11) := by
    show (Q.drop 11).length = (xs.length - (k + 1)) * 11
    rw [List.length_drop, hQ, show xs.length - k = xs.length - (k + 1) + 1 by omega, Nat.add_mul]
    omega
   have HW2 : Hid (w.heap.size < v3.heap.size) := by show w.heap.size < v3.heap.size; omega
   clear hQ HQ hz0 HX hz1 hz1' hz2 hz2' hz3 hz3'
   go_wp2_with fail
   go_roundw
   case rel => exact ⟨k + 1, rows ++ [([.int .i64 x.kind, .int .i64 x.session, .int .i64 x.seq, .int .i64 x.id, .slice p1 x.query.length q1, .int .i64 x.k, .int .i64 x.start, .int .i64 x.fin, .int .i64 x.place, .slice p2 x.vec.length q2, .slice p3 x.hits.length q3] : List Value)], Q.drop 11, v3.heap.size, by omega, by go_num, uh HO, uh hQ2, (by rw [uh HT]; exact uh HS), Nat.le_of_eq (uh HZ).symm, uh HW2, uh HB⟩
   case measure => simp [intOf]; omega
  obtain rfl : k = xs.length := by omega
  have e0 : Q = [] := List.eq_nil_of_length_eq_zero (by rw [hQ]; simp)
  subst e0
  rw [List.append_nil] at hown
  rw [List.take_length] at hsub
  have HO := yh (Lay.subs_done (A := Lay.tEntry) hown hsub (by omega) hhi hbig)
  have HB := yh hB
  clear hown hsub hB
  go_wp2_with fail
  go_ret
  exact ⟨_, rfl, uh HO, uh HB⟩
end Go.Proofs.YtoanimpijfijgaaGreat
