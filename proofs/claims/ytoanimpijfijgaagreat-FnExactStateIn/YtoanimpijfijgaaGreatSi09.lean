/-
  Texts of this proof in one: ImplMsgF, ImplFaced, ImplNetF, ImplWF, ImplClone, CloneC, ImplCopied, CopyNs, AppHit, LayMore, AppHitsL, LayPart, CloneH, CopyHs, ImplCopiedM, ImplWC, ImplDone, ImplStepped, FacePlain, CommPlain, StatePlain, RowIn, SpecWE.
  Their conditions stand in their theorems.
-/
import Derived.Test.YtoanimpijfijgaaGreatSi06
import Derived.Test.YtoanimpijfijgaaGreatSi08
import Derived.Test.YtoanimpijfijgaaGreatSi07
import Derived.Deep.CutRange
import Derived.Test.YtoanimpijfijgaaGreatSi00
import Derived.Defers
import Derived.Recover
import Derived.Laws.Pointers
import Derived.Test.YtoanimpijfijgaaGreatChecked
import Derived.BigQuiet
import Derived.Deep.QuietTactic
import Derived.WalkSmall
import Derived.Test.YtoanimpijfijgaaGreatSi01
import Derived.WalkKit
import Derived.Test.YtoanimpijfijgaaGreatSi04
import Derived.Maps.AppendAt
import Derived.Test.YtoanimpijfijgaaGreatSi02
import Derived.Test.YtoanimpijfijgaaGreatSi05
import Derived.Deep.RegionHeld3
set_option maxRecDepth 100000
set_option maxHeartbeats 4000000
namespace Go.Proofs.YtoanimpijfijgaaGreat
open Go.RowKit
def idxB (x : DMsg) : Bool := (decide (0 ≤ x.index) && decide (x.index ≤ 40)) && (x.kind == 2 || decide (0 < x.index))
theorem isMsgIndexC (a : Option Addr) (d : Nat) (x : DMsg) (w : World) :
  Calls Tryz.prog 309 #[.agg #[.int .i64 x.kind, .int .i64 x.epoch, .int .i64 x.src, .int .i64 x.dst, .int .i64 x.index, .int .i64 x.write.kind, .int .i64 x.write.id, .slice a x.write.vec.length d, .int .i64 x.write.session, .int .i64 x.write.seq]] w fun e w' => e = .returned (.bool (idxB x)) ∧ Below w.heap.size w w' := by
 have HB : Hid (Below w.heap.size w (w.alloc (.cells #[.int .i64 x.kind, .int .i64 x.epoch, .int .i64 x.src, .int .i64 x.dst, .int .i64 x.index, .int .i64 x.write.kind, .int .i64 x.write.id, .slice a x.write.vec.length d, .int .i64 x.write.session, .int .i64 x.write.seq] 89))) := (Below.refl _ _).alloc (Nat.le_refl _) _
 have L := yh (isUpToC x.index 40 (w.alloc (.cells #[.int .i64 x.kind, .int .i64 x.epoch, .int .i64 x.src, .int .i64 x.dst, .int .i64 x.index, .int .i64 x.write.kind, .int .i64 x.write.id, .slice a x.write.vec.length d, .int .i64 x.write.session, .int .i64 x.write.seq] 89)))
 cases d1 : (decide (0 ≤ x.index) && decide (x.index ≤ 40))
 ·
  have HI : Hid (idxB x = false) := by show idxB x = false; rw [idxB, d1]; rfl
  rw [d1] at L
  clear d1
  go_enter Tryz.func309, Tryz.ntmps309
  go_wp2_with fail
  refine (uh L).mono ?_
  rintro e w1 ⟨rfl, h1⟩
  subst w1
  clear L
  go_wp2_with fail
  go_ret
  exact ⟨by rw [uh HI]; rfl, uh HB⟩
 rw [d1] at L
 cases d2 : (x.kind == 2)
 ·
  have HI : Hid (idxB x = decide (0 < x.index)) := by show idxB x = _; rw [idxB, d1, d2]; rfl
  clear d1
  go_enter Tryz.func309, Tryz.ntmps309
  go_wp2_with fail
  refine (uh L).mono ?_
  rintro e w1 ⟨rfl, h1⟩
  subst w1
  clear L
  go_wp2_with fail
  go_ret
  exact ⟨by rw [uh HI]; rfl, uh HB⟩
 have HI : Hid (idxB x = true) := by show idxB x = _; rw [idxB, d1, d2]; rfl
 clear d1
 go_enter Tryz.func309, Tryz.ntmps309
 go_wp2_with fail
 refine (uh L).mono ?_
 rintro e w1 ⟨rfl, h1⟩
 subst w1
 clear L
 go_wp2_with fail
 go_ret
 exact ⟨by rw [uh HI]; rfl, uh HB⟩
def zeroW : DWrite := ⟨0, 0, [], 0, 0⟩
theorem sameW_zero (y : DWrite) : sameW y zeroW = true ↔ noW y := by
 constructor
 ·
  intro h
  simp only [sameW, zeroW, Bool.and_eq_true, beq_iff_eq] at h
  exact ⟨h.1, h.2.1, h.2.2.1, h.2.2.2.1, by rw [of_decide_eq_true h.2.2.2.2]; rfl⟩
 rintro ⟨h1, h2, h3, h4, h5⟩
 have h6 : y.vec = [] := List.eq_nil_of_length_eq_zero h5
 simp only [sameW, zeroW, Bool.and_eq_true, beq_iff_eq]
 exact ⟨h1, h2, h3, h4, decide_eq_true h6⟩
theorem zeroW_reads (w : World) : Lay.tWrite.Reads w [.int .i64 0, .int .i64 0, .slice none 0 0, .int .i64 0, .int .i64 0] zeroW :=
 ⟨[], lies_Write.2 ⟨none, 0, [], rfl, rfl, by decide, by decide, ⟨none, 0, rfl, ⟨by simp [zeroW], by simp [zeroW]⟩, Or.inl ⟨rfl, rfl⟩⟩, by decide, by decide⟩⟩
theorem mfi_kind {x : DMsg} (h : (x.kind == 1) = false) (h2 : (x.kind == 2) = false) : msgFault x = 1 := by
 have h1 : ¬ x.kind = 1 := by simpa using h
 have h3 : ¬ x.kind = 2 := by simpa using h2
 rw [msgFault, if_pos (Or.inl (by omega))]
theorem mfi_self {x : DMsg} (h : (x.src != x.dst) = false) : msgFault x = 1 := by
 rw [msgFault, if_pos (Or.inr (Or.inl (by simpa using h)))]
theorem mfi_ack {x : DMsg} (h : (x.kind == 2) = true) (h2 : sameW x.write zeroW = false) : msgFault x = 1 := by
 rw [msgFault, if_pos (Or.inr (Or.inr ⟨by simpa using h, fun q => by rw [(sameW_zero _).2 q] at h2; simp at h2⟩))]
def formM (x : DMsg) : Prop := (1 ≤ x.kind ∧ x.kind ≤ 2) ∧ x.src ≠ x.dst ∧ (x.kind = 2 → noW x.write)
theorem mfi_form {x : DMsg} (h : formM x) : msgFault x = if ¬ (1 ≤ x.epoch ∧ x.epoch ≤ 999) ∨ ¬ (1 ≤ x.src ∧ x.src ≤ 5) ∨ ¬ (1 ≤ x.dst ∧ x.dst ≤ 5) ∨ ¬ (0 ≤ x.index ∧ x.index ≤ 40) ∨ (x.kind ≠ 2 ∧ x.index = 0) then 3
 else if x.kind = 2 then 0 else wF x.write := by
 rw [msgFault, if_neg]
 rintro (h1 | h1 | h1)
 ·
  exact h1 h.1
 ·
  exact h.2.1 h1
 exact h1.2 (h.2.2 h1.1)
theorem mfi_epoch {x : DMsg} (h : formM x) (h2 : (decide (1 ≤ x.epoch) && decide (x.epoch ≤ 999)) = false) : msgFault x = 3 := by
 rw [mfi_form h, if_pos (Or.inl fun q => by simp at h2; omega)]
theorem mfi_src {x : DMsg} (h : formM x) (h2 : (decide (1 ≤ x.src) && decide (x.src ≤ 5)) = false) : msgFault x = 3 := by
 rw [mfi_form h, if_pos (Or.inr (Or.inl fun q => by simp at h2; omega))]
theorem mfi_dst {x : DMsg} (h : formM x) (h2 : (decide (1 ≤ x.dst) && decide (x.dst ≤ 5)) = false) : msgFault x = 3 := by
 rw [mfi_form h, if_pos (Or.inr (Or.inr (Or.inl fun q => by simp at h2; omega)))]
theorem mfi_idx {x : DMsg} (h : formM x) (h2 : idxB x = false) : msgFault x = 3 := by
 rw [mfi_form h, if_pos]
 have : ¬ (0 ≤ x.index ∧ x.index ≤ 40) ∨ (x.kind ≠ 2 ∧ x.index = 0) := by
  refine Decidable.byContradiction fun q => ?_
  rw [idxB] at h2
  have q1 : 0 ≤ x.index ∧ x.index ≤ 40 := Decidable.byContradiction fun z => q (Or.inl z)
  rw [decide_eq_true q1.1, decide_eq_true q1.2] at h2
  simp at h2
  exact q (Or.inr ⟨h2.1, by omega⟩)
 exact Or.inr (Or.inr (Or.inr this))
theorem mfi_rest {x : DMsg} (h : formM x) (h1 : (decide (1 ≤ x.epoch) && decide (x.epoch ≤ 999)) = true) (h2 : (decide (1 ≤ x.src) && decide (x.src ≤ 5)) = true) (h3 : (decide (1 ≤ x.dst) && decide (x.dst ≤ 5)) = true) (h4 : idxB x = true) : msgFault x = if x.kind = 2 then 0 else wF x.write := by
 simp only [Bool.and_eq_true, decide_eq_true_eq] at h1 h2 h3
 simp only [idxB, Bool.and_eq_true, Bool.or_eq_true, decide_eq_true_eq, beq_iff_eq] at h4
 rw [mfi_form h, if_neg]
 rintro (q | q | q | q | q)
 ·
  exact q h1
 ·
  exact q h2
 ·
  exact q h3
 ·
  exact q h4.1
 rcases h4.2 with z | z
 ·
  exact q.1 z
 omega
theorem vec_of {w : World} {x : DWrite} {a : Option Addr} {d : Nat} (h : Lay.tWrite.Reads w [.int .i64 x.kind, .int .i64 x.id, .slice a x.vec.length d, .int .i64 x.session, .int .i64 x.seq] x) : (Lay.sl Lay.int).Reads w [.slice a x.vec.length d] x.vec := by
 obtain ⟨a2, d2, e, R⟩ := open_Write h
 simp only [List.cons.injEq, Value.slice.injEq, and_true, true_and] at e
 obtain ⟨rfl, rfl⟩ := e
 exact R
theorem mustBeMsgC (cs : List Value) (x : DMsg) (w : World) (h : Lay.tMsg.Reads w cs x) :
  Calls Tryz.prog 283 #[.agg cs.toArray] w fun e w' => e = wrongE (msgFault x) ∧ Below w.heap.size w w' := by
 obtain ⟨a, d, rfl, R⟩ := open_Msg h
 have nb : Below w.heap.size w (w.alloc (.cells #[.int .i64 x.kind, .int .i64 x.epoch, .int .i64 x.src, .int .i64 x.dst, .int .i64 x.index, .int .i64 x.write.kind, .int .i64 x.write.id, .slice a x.write.vec.length d, .int .i64 x.write.session, .int .i64 x.write.seq] 89)) := (Below.refl _ _).alloc (Nat.le_refl _) _
 have HR := yh (R.later nb)
 have HB := yh nb
 have HX : Hid (Box 0 #[.int .i64 x.kind, .int .i64 x.epoch, .int .i64 x.src, .int .i64 x.dst, .int .i64 x.index, .int .i64 x.write.kind, .int .i64 x.write.id, .slice a x.write.vec.length d, .int .i64 x.write.session, .int .i64 x.write.seq] 89 (w.alloc (.cells #[.int .i64 x.kind, .int .i64 x.epoch, .int .i64 x.src, .int .i64 x.dst, .int .i64 x.index, .int .i64 x.write.kind, .int .i64 x.write.id, .slice a x.write.vec.length d, .int .i64 x.write.session, .int .i64 x.write.seq] 89)) w.heap.size) := newBox (Nat.zero_le _)
 clear R h nb
 go_enter Tryz.func283, Tryz.ntmps283
 go_upto_region 1 with fail
 generalize (w.alloc (.cells #[.int .i64 x.kind, .int .i64 x.epoch, .int .i64 x.src, .int .i64 x.dst, .int .i64 x.index, .int .i64 x.write.kind, .int .i64 x.write.id, .slice a x.write.vec.length d, .int .i64 x.write.session, .int .i64 x.write.seq] 89)) = W1 at *
 have z0 : W1.cell? ⟨w.heap.size, 0, none⟩ = some (.int .i64 x.kind) := (uh HX).at 0 _ rfl
 have z1 : W1.cell? ⟨w.heap.size, 1, none⟩ = some (.int .i64 x.epoch) := (uh HX).at 1 _ rfl
 have z2 : W1.cell? ⟨w.heap.size, 2, none⟩ = some (.int .i64 x.src) := (uh HX).at 2 _ rfl
 have z3 : W1.cell? ⟨w.heap.size, 3, none⟩ = some (.int .i64 x.dst) := (uh HX).at 3 _ rfl
 have z4 : W1.cell? ⟨w.heap.size, 4, none⟩ = some (.int .i64 x.index) := (uh HX).at 4 _ rfl
 have z5 : W1.cell? ⟨w.heap.size, 5, none⟩ = some (.int .i64 x.write.kind) := (uh HX).at 5 _ rfl
 have z6 : W1.cell? ⟨w.heap.size, 6, none⟩ = some (.int .i64 x.write.id) := (uh HX).at 6 _ rfl
 have z7 : W1.cell? ⟨w.heap.size, 7, none⟩ = some (.slice a x.write.vec.length d) := (uh HX).at 7 _ rfl
 have z8 : W1.cell? ⟨w.heap.size, 8, none⟩ = some (.int .i64 x.write.session) := (uh HX).at 8 _ rfl
 have z9 : W1.cell? ⟨w.heap.size, 9, none⟩ = some (.int .i64 x.write.seq) := (uh HX).at 9 _ rfl
 cases e1 : (x.kind == 1)
 ·
  cases e2 : (x.kind == 2)
  ·
   have HF := yh (mfi_kind e1 e2)
   go_wp2_with fail
   refine (mustF 1 _).mono ?_
   rintro e w9 ⟨rfl, h9⟩
   subst w9
   go_wp2_with fail
   exact ⟨rfl, by rw [uh HF]; rfl, uh HB⟩
  go_wp2_with fail
  refine (mustT 1 _).mono ?_
  rintro e w9 ⟨rfl, h9⟩
  subst w9
  cases e3 : (x.src != x.dst)
  ·
   have HF := yh (mfi_self e3)
   go_wp2_with fail
   refine (mustF 1 _).mono ?_
   rintro e w9 ⟨rfl, h9⟩
   subst w9
   go_wp2_with fail
   exact ⟨rfl, by rw [uh HF]; rfl, uh HB⟩
  go_wp2_with fail
  refine (mustT 1 _).mono ?_
  rintro e w9 ⟨rfl, h9⟩
  subst w9
  have HL := yh (sameWrite _ _ x.write zeroW W1 (uh HR) (zeroW_reads W1))
  go_wp2_with fail
  refine (uh HL).mono ?_
  rintro e Wa ⟨rfl, hb⟩
  replace HX := yh ((uh HX).keep hb)
  replace HR := yh ((uh HR).later hb)
  replace HB := yh ((uh HB).trans (hb.mono (uh HB).size))
  clear hb z0 z1 z2 z3 z4 z5 z6 z7 z8 z9
  have z0 : Wa.cell? ⟨w.heap.size, 0, none⟩ = some (.int .i64 x.kind) := (uh HX).at 0 _ rfl
  have z1 : Wa.cell? ⟨w.heap.size, 1, none⟩ = some (.int .i64 x.epoch) := (uh HX).at 1 _ rfl
  have z2 : Wa.cell? ⟨w.heap.size, 2, none⟩ = some (.int .i64 x.src) := (uh HX).at 2 _ rfl
  have z3 : Wa.cell? ⟨w.heap.size, 3, none⟩ = some (.int .i64 x.dst) := (uh HX).at 3 _ rfl
  have z4 : Wa.cell? ⟨w.heap.size, 4, none⟩ = some (.int .i64 x.index) := (uh HX).at 4 _ rfl
  have z5 : Wa.cell? ⟨w.heap.size, 5, none⟩ = some (.int .i64 x.write.kind) := (uh HX).at 5 _ rfl
  have z6 : Wa.cell? ⟨w.heap.size, 6, none⟩ = some (.int .i64 x.write.id) := (uh HX).at 6 _ rfl
  have z7 : Wa.cell? ⟨w.heap.size, 7, none⟩ = some (.slice a x.write.vec.length d) := (uh HX).at 7 _ rfl
  have z8 : Wa.cell? ⟨w.heap.size, 8, none⟩ = some (.int .i64 x.write.session) := (uh HX).at 8 _ rfl
  have z9 : Wa.cell? ⟨w.heap.size, 9, none⟩ = some (.int .i64 x.write.seq) := (uh HX).at 9 _ rfl
  clear HL
  cases e9 : sameW x.write zeroW
  ·
   have HF := yh (mfi_ack e2 e9)
   clear e9
   go_wp2_with fail
   refine (mustF 1 _).mono ?_
   rintro e w9 ⟨rfl, h9⟩
   subst w9
   go_wp2_with fail
   exact ⟨rfl, by rw [uh HF]; rfl, uh HB⟩
  have HFM : Hid (formM x) := ⟨by simp at e2; omega, by simpa using e3, fun _ => (sameW_zero _).1 e9⟩
  clear e9
  go_wp2_with fail
  refine (mustT 1 _).mono ?_
  rintro e w9 ⟨rfl, h9⟩
  subst w9
  cases e4 : (decide (1 ≤ x.epoch) && decide (x.epoch ≤ 999))
  ·
   have HL := yh (isChainEpochC x.epoch Wa)
   rw [e4] at HL
   have HF := yh (mfi_epoch (uh HFM) e4)
   clear e4
   go_wp2_with fail
   refine (uh HL).mono ?_
   rintro e w9 ⟨rfl, h9⟩
   subst w9
   clear HL
   go_wp2_with fail
   refine (mustF 3 _).mono ?_
   rintro e w9 ⟨rfl, h9⟩
   subst w9
   go_wp2_with fail
   exact ⟨rfl, by rw [uh HF]; rfl, uh HB⟩
  have HL := yh (isChainEpochC x.epoch Wa)
  rw [e4] at HL
  have HE := yh e4
  clear e4
  go_wp2_with fail
  refine (uh HL).mono ?_
  rintro e w9 ⟨rfl, h9⟩
  subst w9
  clear HL
  go_wp2_with fail
  refine (mustT 3 _).mono ?_
  rintro e w9 ⟨rfl, h9⟩
  subst w9
  cases e5 : (decide (1 ≤ x.src) && decide (x.src ≤ 5))
  ·
   have HL := yh (isNodeIdC x.src Wa)
   rw [e5] at HL
   have HF := yh (mfi_src (uh HFM) e5)
   clear e5
   go_wp2_with fail
   refine (uh HL).mono ?_
   rintro e w9 ⟨rfl, h9⟩
   subst w9
   clear HL
   go_wp2_with fail
   refine (mustF 3 _).mono ?_
   rintro e w9 ⟨rfl, h9⟩
   subst w9
   go_wp2_with fail
   exact ⟨rfl, by rw [uh HF]; rfl, uh HB⟩
  have HL := yh (isNodeIdC x.src Wa)
  rw [e5] at HL
  have HS := yh e5
  clear e5
  go_wp2_with fail
  refine (uh HL).mono ?_
  rintro e w9 ⟨rfl, h9⟩
  subst w9
  clear HL
  cases e6 : (decide (1 ≤ x.dst) && decide (x.dst ≤ 5))
  ·
   have HL := yh (isNodeIdC x.dst Wa)
   rw [e6] at HL
   have HF := yh (mfi_dst (uh HFM) e6)
   clear e6
   go_wp2_with fail
   refine (uh HL).mono ?_
   rintro e w9 ⟨rfl, h9⟩
   subst w9
   clear HL
   go_wp2_with fail
   refine (mustF 3 _).mono ?_
   rintro e w9 ⟨rfl, h9⟩
   subst w9
   go_wp2_with fail
   exact ⟨rfl, by rw [uh HF]; rfl, uh HB⟩
  have HL := yh (isNodeIdC x.dst Wa)
  rw [e6] at HL
  have HD := yh e6
  clear e6
  go_wp2_with fail
  refine (uh HL).mono ?_
  rintro e w9 ⟨rfl, h9⟩
  subst w9
  clear HL
  go_wp2_with fail
  refine (mustT 3 _).mono ?_
  rintro e w9 ⟨rfl, h9⟩
  subst w9
  have HL := yh (isMsgIndexC a d x Wa)
  go_wp2_with fail
  refine (uh HL).mono ?_
  rintro e W2 ⟨rfl, hb⟩
  replace HX := yh ((uh HX).keep hb)
  replace HR := yh ((uh HR).later hb)
  replace HB := yh ((uh HB).trans (hb.mono (uh HB).size))
  clear hb z0 z1 z2 z3 z4 z5 z6 z7 z8 z9
  have z0 : W2.cell? ⟨w.heap.size, 0, none⟩ = some (.int .i64 x.kind) := (uh HX).at 0 _ rfl
  have z1 : W2.cell? ⟨w.heap.size, 1, none⟩ = some (.int .i64 x.epoch) := (uh HX).at 1 _ rfl
  have z2 : W2.cell? ⟨w.heap.size, 2, none⟩ = some (.int .i64 x.src) := (uh HX).at 2 _ rfl
  have z3 : W2.cell? ⟨w.heap.size, 3, none⟩ = some (.int .i64 x.dst) := (uh HX).at 3 _ rfl
  have z4 : W2.cell? ⟨w.heap.size, 4, none⟩ = some (.int .i64 x.index) := (uh HX).at 4 _ rfl
  have z5 : W2.cell? ⟨w.heap.size, 5, none⟩ = some (.int .i64 x.write.kind) := (uh HX).at 5 _ rfl
  have z6 : W2.cell? ⟨w.heap.size, 6, none⟩ = some (.int .i64 x.write.id) := (uh HX).at 6 _ rfl
  have z7 : W2.cell? ⟨w.heap.size, 7, none⟩ = some (.slice a x.write.vec.length d) := (uh HX).at 7 _ rfl
  have z8 : W2.cell? ⟨w.heap.size, 8, none⟩ = some (.int .i64 x.write.session) := (uh HX).at 8 _ rfl
  have z9 : W2.cell? ⟨w.heap.size, 9, none⟩ = some (.int .i64 x.write.seq) := (uh HX).at 9 _ rfl
  clear HL
  cases e7 : idxB x
  ·
   have HF := yh (mfi_idx (uh HFM) e7)
   clear e7
   go_wp2_with fail
   refine (mustF 3 _).mono ?_
   rintro e w9 ⟨rfl, h9⟩
   subst w9
   go_wp2_with fail
   exact ⟨rfl, by rw [uh HF]; rfl, uh HB⟩
  have HF := yh (mfi_rest (uh HFM) (uh HE) (uh HS) (uh HD) e7)
  clear e7
  go_wp2_with fail
  refine (mustT 3 _).mono ?_
  rintro e w9 ⟨rfl, h9⟩
  subst w9
  replace HF := yh ((uh HF).trans (if_pos (by simpa using e2)))
  go_wp2_with fail
  go_end0
  exact ⟨by rw [uh HF]; rfl, uh HB⟩
 go_wp2_with fail
 refine (mustT 1 _).mono ?_
 rintro e w9 ⟨rfl, h9⟩
 subst w9
 cases e3 : (x.src != x.dst)
 ·
  have HF := yh (mfi_self e3)
  go_wp2_with fail
  refine (mustF 1 _).mono ?_
  rintro e w9 ⟨rfl, h9⟩
  subst w9
  go_wp2_with fail
  exact ⟨rfl, by rw [uh HF]; rfl, uh HB⟩
 have HFM : Hid (formM x) := ⟨by simp at e1; omega, by simpa using e3, fun q => by simp at e1; omega⟩
 go_wp2_with fail
 refine (mustT 1 _).mono ?_
 rintro e w9 ⟨rfl, h9⟩
 subst w9
 go_wp2_with fail
 refine (mustT 1 _).mono ?_
 rintro e w9 ⟨rfl, h9⟩
 subst w9
 cases e4 : (decide (1 ≤ x.epoch) && decide (x.epoch ≤ 999))
 ·
  have HL := yh (isChainEpochC x.epoch W1)
  rw [e4] at HL
  have HF := yh (mfi_epoch (uh HFM) e4)
  clear e4
  go_wp2_with fail
  refine (uh HL).mono ?_
  rintro e w9 ⟨rfl, h9⟩
  subst w9
  clear HL
  go_wp2_with fail
  refine (mustF 3 _).mono ?_
  rintro e w9 ⟨rfl, h9⟩
  subst w9
  go_wp2_with fail
  exact ⟨rfl, by rw [uh HF]; rfl, uh HB⟩
 have HL := yh (isChainEpochC x.epoch W1)
 rw [e4] at HL
 have HE := yh e4
 clear e4
 go_wp2_with fail
 refine (uh HL).mono ?_
 rintro e w9 ⟨rfl, h9⟩
 subst w9
 clear HL
 go_wp2_with fail
 refine (mustT 3 _).mono ?_
 rintro e w9 ⟨rfl, h9⟩
 subst w9
 cases e5 : (decide (1 ≤ x.src) && decide (x.src ≤ 5))
 ·
  have HL := yh (isNodeIdC x.src W1)
  rw [e5] at HL
  have HF := yh (mfi_src (uh HFM) e5)
  clear e5
  go_wp2_with fail
  refine (uh HL).mono ?_
  rintro e w9 ⟨rfl, h9⟩
  subst w9
  clear HL
  go_wp2_with fail
  refine (mustF 3 _).mono ?_
  rintro e w9 ⟨rfl, h9⟩
  subst w9
  go_wp2_with fail
  exact ⟨rfl, by rw [uh HF]; rfl, uh HB⟩
 have HL := yh (isNodeIdC x.src W1)
 rw [e5] at HL
 have HS := yh e5
 clear e5
 go_wp2_with fail
 refine (uh HL).mono ?_
 rintro e w9 ⟨rfl, h9⟩
 subst w9
 clear HL
 cases e6 : (decide (1 ≤ x.dst) && decide (x.dst ≤ 5))
 ·
  have HL := yh (isNodeIdC x.dst W1)
  rw [e6] at HL
  have HF := yh (mfi_dst (uh HFM) e6)
  clear e6
  go_wp2_with fail
  refine (uh HL).mono ?_
  rintro e w9 ⟨rfl, h9⟩
  subst w9
  clear HL
  go_wp2_with fail
  refine (mustF 3 _).mono ?_
  rintro e w9 ⟨rfl, h9⟩
  subst w9
  go_wp2_with fail
  exact ⟨rfl, by rw [uh HF]; rfl, uh HB⟩
 have HL := yh (isNodeIdC x.dst W1)
 rw [e6] at HL
 have HD := yh e6
 clear e6
 go_wp2_with fail
 refine (uh HL).mono ?_
 rintro e w9 ⟨rfl, h9⟩
 subst w9
 clear HL
 go_wp2_with fail
 refine (mustT 3 _).mono ?_
 rintro e w9 ⟨rfl, h9⟩
 subst w9
 have HL := yh (isMsgIndexC a d x W1)
 go_wp2_with fail
 refine (uh HL).mono ?_
 rintro e W2 ⟨rfl, hb⟩
 replace HX := yh ((uh HX).keep hb)
 replace HR := yh ((uh HR).later hb)
 replace HB := yh ((uh HB).trans (hb.mono (uh HB).size))
 clear hb z0 z1 z2 z3 z4 z5 z6 z7 z8 z9
 have z0 : W2.cell? ⟨w.heap.size, 0, none⟩ = some (.int .i64 x.kind) := (uh HX).at 0 _ rfl
 have z1 : W2.cell? ⟨w.heap.size, 1, none⟩ = some (.int .i64 x.epoch) := (uh HX).at 1 _ rfl
 have z2 : W2.cell? ⟨w.heap.size, 2, none⟩ = some (.int .i64 x.src) := (uh HX).at 2 _ rfl
 have z3 : W2.cell? ⟨w.heap.size, 3, none⟩ = some (.int .i64 x.dst) := (uh HX).at 3 _ rfl
 have z4 : W2.cell? ⟨w.heap.size, 4, none⟩ = some (.int .i64 x.index) := (uh HX).at 4 _ rfl
 have z5 : W2.cell? ⟨w.heap.size, 5, none⟩ = some (.int .i64 x.write.kind) := (uh HX).at 5 _ rfl
 have z6 : W2.cell? ⟨w.heap.size, 6, none⟩ = some (.int .i64 x.write.id) := (uh HX).at 6 _ rfl
 have z7 : W2.cell? ⟨w.heap.size, 7, none⟩ = some (.slice a x.write.vec.length d) := (uh HX).at 7 _ rfl
 have z8 : W2.cell? ⟨w.heap.size, 8, none⟩ = some (.int .i64 x.write.session) := (uh HX).at 8 _ rfl
 have z9 : W2.cell? ⟨w.heap.size, 9, none⟩ = some (.int .i64 x.write.seq) := (uh HX).at 9 _ rfl
 clear HL
 cases e7 : idxB x
 ·
  have HF := yh (mfi_idx (uh HFM) e7)
  clear e7
  go_wp2_with fail
  refine (mustF 3 _).mono ?_
  rintro e w9 ⟨rfl, h9⟩
  subst w9
  go_wp2_with fail
  exact ⟨rfl, by rw [uh HF]; rfl, uh HB⟩
 have HF := yh (mfi_rest (uh HFM) (uh HE) (uh HS) (uh HD) e7)
 clear e7
 go_wp2_with fail
 refine (mustT 3 _).mono ?_
 rintro e w9 ⟨rfl, h9⟩
 subst w9
 replace HF := yh ((uh HF).trans (if_neg (by simp at e1; omega)))
 have HL := yh (implWriteFault x.write.kind x.write.id _ x.write.session x.write.seq x.write.vec W2 (Lay.ints_reads (vec_of (uh HR))))
 go_wp2_with fail
 refine (uh HL).mono ?_
 rintro e W3 ⟨rfl, hb⟩
 replace HX := yh ((uh HX).keep hb)
 replace HR := yh ((uh HR).later hb)
 replace HB := yh ((uh HB).trans (hb.mono (uh HB).size))
 clear hb z0 z1 z2 z3 z4 z5 z6 z7 z8 z9
 have z0 : W3.cell? ⟨w.heap.size, 0, none⟩ = some (.int .i64 x.kind) := (uh HX).at 0 _ rfl
 have z1 : W3.cell? ⟨w.heap.size, 1, none⟩ = some (.int .i64 x.epoch) := (uh HX).at 1 _ rfl
 have z2 : W3.cell? ⟨w.heap.size, 2, none⟩ = some (.int .i64 x.src) := (uh HX).at 2 _ rfl
 have z3 : W3.cell? ⟨w.heap.size, 3, none⟩ = some (.int .i64 x.dst) := (uh HX).at 3 _ rfl
 have z4 : W3.cell? ⟨w.heap.size, 4, none⟩ = some (.int .i64 x.index) := (uh HX).at 4 _ rfl
 have z5 : W3.cell? ⟨w.heap.size, 5, none⟩ = some (.int .i64 x.write.kind) := (uh HX).at 5 _ rfl
 have z6 : W3.cell? ⟨w.heap.size, 6, none⟩ = some (.int .i64 x.write.id) := (uh HX).at 6 _ rfl
 have z7 : W3.cell? ⟨w.heap.size, 7, none⟩ = some (.slice a x.write.vec.length d) := (uh HX).at 7 _ rfl
 have z8 : W3.cell? ⟨w.heap.size, 8, none⟩ = some (.int .i64 x.write.session) := (uh HX).at 8 _ rfl
 have z9 : W3.cell? ⟨w.heap.size, 9, none⟩ = some (.int .i64 x.write.seq) := (uh HX).at 9 _ rfl
 clear HL
 replace HF : Hid (msgFault x = writeFault x.write.kind x.write.id x.write.vec x.write.session x.write.seq) := uh HF
 generalize writeFault x.write.kind x.write.id x.write.vec x.write.session x.write.seq = f at *
 cases e8 : (f == 0)
 ·
  have hf : f ≠ 0 := by simpa using e8
  have HG := yh hf
  clear hf
  go_wp2_with fail
  refine (mustF f _).mono ?_
  rintro e w9 ⟨rfl, h9⟩
  subst w9
  go_wp2_with fail
  exact ⟨rfl, by rw [uh HF]; exact (wrongE_bad (uh HG)).symm, uh HB⟩
 have hf : f = 0 := by simpa using e8
 subst hf
 clear e8
 go_wp2_with fail
 refine (mustT 0 _).mono ?_
 rintro e w9 ⟨rfl, h9⟩
 subst w9
 go_wp2_with fail
 go_end0
 exact ⟨by rw [uh HF]; rfl, uh HB⟩
theorem asWrong (v : Value) (w : World) : (Instr.typeAssert (.iface 331 v) 20 331 true).run Tryz.prog w = .ok (.tuple #[v, .bool true]) w := by kernel_rfl
theorem wrongCodeC (c : Int) (w : World) :
  Calls Tryz.prog 281 #[.iface 331 (.agg #[.int .i64 c])] w fun e w' => e = .returned (.int .i64 c) ∧ Below w.heap.size w w' := by
 have HB : Hid (Below w.heap.size w (w.alloc (.cells #[.int .i64 c] 331))) := yh ((Below.refl _ _).alloc (Nat.le_refl _) _)
 have q := asWrong
 go_enter Tryz.func281, Tryz.ntmps281
 go_wp2_with fail
 go_ret
 exact ⟨rfl, uh HB⟩
theorem catch_bad_bool (p : Addr) (x c : Int) (w : World) (hc : w.cell? p = some (.int .i64 x)) (hz : w.frozen? p = false) (hp : p.block < w.heap.size) :
  CallsD Tryz.prog 280 #[.pointer (some p)] (.panicking (wrongP c)) w fun e u' w' =>
   e = .returned (.tuple #[]) ∧ u' = .panicking [{ v := .iface 331 (.agg #[.int .i64 c]), recovered := true }] ∧ ∃ w1, w' = w1.setCell p (.int .i64 c) ∧ Below w.heap.size w w1 := by
 refine callsD_of_wpS Tryz.func280 rfl fun c₀ cs hu => ?_
 apply wpS_seq
 apply wpS_region
 simp [wpOpsS, go_sem, recoverD, hu, Tryz.ntmps280, Exit.thenS, wrongP]
 refine wpS_of_wp ?_
 have HL := yh (wrongCodeC c w)
 go_wp2_with fail
 refine (uh HL).mono ?_
 rintro e w1 ⟨rfl, hb⟩
 have hc1 : w1.cell? p = some (.int .i64 x) := (hb.cell (p := p) hp).trans hc
 have hz1 : w1.frozen? p = false := (World.frozen?_of_block (hb.block _ hp)).trans hz
 have hp1 : p.block < w1.heap.size := Nat.lt_of_lt_of_le hp hb.size
 have HB := yh hb
 clear hb HL hc hz
 go_wp2_with fail
 refine ⟨rfl, _, rfl, .tuple #[], ?_, rfl, rfl, w1, rfl, uh HB⟩
 simp [results, Tryz.results280, go_sem]
theorem catch_ok_bool (p : Addr) (w : World) :
  CallsD Tryz.prog 280 #[.pointer (some p)] .returning w fun e u' w' => e = .returned (.tuple #[]) ∧ u' = .returning ∧ w' = w := by
 refine callsD_of_wpS Tryz.func280 rfl fun c₀ cs hu => ?_
 apply wpS_seq
 apply wpS_region
 simp [wpOpsS, go_sem, recoverD, hu, Tryz.ntmps280, Exit.thenS]
 refine wpS_of_wp ?_
 go_wp2_with fail
 cases c₀
 simp_all [bodyPostS, results, Tryz.results280, go_sem]
theorem faced_bad_bool (N : Nat) (cap : Array Value) (c : Int) (w : World) (hf : ∀ W : World, (callFunc N cap).run Tryz.prog W = .ok (.enter N cap) W)
  (h : Calls Tryz.prog N cap (w.alloc (.cells #[.int .i64 0] 2)) fun e w' => e = .panicked (wrongP c) ∧ Below (w.heap.size + 1) (w.alloc (.cells #[.int .i64 0] 2)) w') :
  Calls Tryz.prog 231 #[.func (.func N) #[] cap] w fun e w' => e = .returned (.tuple #[.bool false, .int .i64 c]) ∧ Below w.heap.size w w' := by
 have hmf : ∀ (fn : Fn) (first cap : Array Value) (w : World), (Instr.makeFunc fn first cap).run Tryz.prog w = .ok (.func fn first cap) w := fun _ _ _ _ => rfl
 have HL := yh h
 have nb : Below w.heap.size w (w.alloc (.cells #[.int .i64 0] 2)) := (Below.refl _ _).alloc (Nat.le_refl _) _
 have HX : Hid (Box 0 #[.int .i64 0] 2 (w.alloc (.cells #[.int .i64 0] 2)) w.heap.size) := newBox (Nat.zero_le _)
 have HN := yh nb
 clear h nb
 go_enter_defers Tryz.func231, Tryz.ntmps231
 go_wp2_with fail
 refine (uh HL).mono ?_
 rintro e w1 ⟨rfl, hb⟩
 replace HN := yh ((uh HN).trans (hb.mono (by omega)))
 have hX := (uh HX).keep (hb.mono (by simp))
 have z0 : w1.cell? ⟨w.heap.size, 0, none⟩ = some (.int .i64 0) := hX.at 0 _ rfl
 have zf : w1.frozen? ⟨w.heap.size, 0, none⟩ = false := hX.soft 0
 have zl := hX.lt
 clear HL HX hX hb
 go_wp2_with fail
 refine leaves_cons (f := 280) (args := #[.pointer (some ⟨w.heap.size, 0, none⟩)]) (by simp) (by simp [go_sem]) ?_
 refine (catch_bad_bool ⟨w.heap.size, 0, none⟩ 0 c w1 z0 zf zl).mono ?_
 rintro e u' w2 ⟨rfl, rfl, w3, rfl, hb⟩
 have hN : Below w.heap.size w (w3.setCell ⟨w.heap.size, 0, none⟩ (.int .i64 c)) := ((uh HN).trans (hb.mono (uh HN).size)).setCell (by simp) _
 have z1 : (w3.setCell ⟨w.heap.size, 0, none⟩ (.int .i64 c)).cell? ⟨w.heap.size, 0, none⟩ = some (.int .i64 c) := World.cell?_setCell_same _ _ _ ((hb.cell (p := ⟨w.heap.size, 0, none⟩) zl).trans z0)
 simp [Leaves, settle, results, Tryz.results231, go_sem, z1]
 exact hN
theorem faced_ok_bool (N : Nat) (cap : Array Value) (w : World) (Q : Value → World → Prop) (hf : ∀ W : World, (callFunc N cap).run Tryz.prog W = .ok (.enter N cap) W)
  (h : Calls Tryz.prog N cap (w.alloc (.cells #[.int .i64 0] 2)) fun e w' => ∃ v, e = .returned v ∧ Q v w' ∧ Below (w.heap.size + 1) (w.alloc (.cells #[.int .i64 0] 2)) w') :
  Calls Tryz.prog 231 #[.func (.func N) #[] cap] w fun e w' => ∃ v w1, e = .returned (.tuple #[v, .int .i64 0]) ∧ Q v w1 ∧ w' = w1.setCell ⟨w.heap.size, 0, none⟩ (.int .i64 0) ∧ Below w.heap.size w w' ∧ w.heap.size < w1.heap.size := by
 have hmf : ∀ (fn : Fn) (first cap : Array Value) (w : World), (Instr.makeFunc fn first cap).run Tryz.prog w = .ok (.func fn first cap) w := fun _ _ _ _ => rfl
 have HL := yh h
 have nb : Below w.heap.size w (w.alloc (.cells #[.int .i64 0] 2)) := (Below.refl _ _).alloc (Nat.le_refl _) _
 have HX : Hid (Box 0 #[.int .i64 0] 2 (w.alloc (.cells #[.int .i64 0] 2)) w.heap.size) := newBox (Nat.zero_le _)
 have HN := yh nb
 clear h nb
 go_enter_defers Tryz.func231, Tryz.ntmps231
 go_wp2_with fail
 refine (uh HL).mono ?_
 rintro e w1 ⟨v, rfl, hq, hb⟩
 have HQ := yh hq
 replace HN := yh ((uh HN).trans (hb.mono (by omega)))
 have hX := (uh HX).keep (hb.mono (by simp))
 have z0 : w1.cell? ⟨w.heap.size, 0, none⟩ = some (.int .i64 0) := hX.at 0 _ rfl
 have zf : w1.frozen? ⟨w.heap.size, 0, none⟩ = false := hX.soft 0
 have zl := hX.lt
 clear HL HX hX hb hq
 go_wp2_with fail
 refine leaves_cons (f := 280) (args := #[.pointer (some ⟨w.heap.size, 0, none⟩)]) (by simp) (by simp [go_sem]) ?_
 refine (catch_ok_bool ⟨w.heap.size, 0, none⟩ _).mono ?_
 rintro e u' w2 ⟨rfl, rfl, rfl⟩
 have hN : Below w.heap.size w (w1.setCell ⟨w.heap.size, 0, none⟩ (.int .i64 0)) := (uh HN).setCell (by simp) _
 have z1 : (w1.setCell ⟨w.heap.size, 0, none⟩ (.int .i64 0)).cell? ⟨w.heap.size, 0, none⟩ = some (.int .i64 0) := World.cell?_setCell_same _ _ _ z0
 refine ⟨.tuple #[v, .int .i64 0], by simp [results, Tryz.results231, go_sem, z1], v, w1, rfl, uh HQ, rfl, hN, zl⟩
theorem msgsFrom_drop {xs : List DMsg} {k : Nat} (hk : k < xs.length) : msgsFrom (xs.drop k) = if msgFault xs[k] = 0 then msgsFrom (xs.drop (k + 1)) else msgFault xs[k] := by
 rw [List.drop_eq_getElem_cons hk, msgsFrom]
theorem mustBeNetC (v : Value) (xs : List DMsg) (w : World) (h : (Lay.sl Lay.tMsg).Reads w [v] xs) :
  Calls Tryz.prog 233 #[v] w fun e w' => e = wrongE (netFault xs) ∧ Below w.heap.size w w' := by
 have hbig := h.big
 obtain ⟨ao, cap, rfl⟩ := open_sl h
 have H := yh h
 clear h
 go_enter Tryz.func233, Tryz.ntmps233
 cases e1 : decide ((xs.length : Int) ≤ 40)
 ·
  have HF : Hid (netFault xs = 2) := by show netFault xs = 2; rw [netFault, if_pos (by simp at e1; omega)]
  go_wp2_with fail
  refine (mustF 2 _).mono ?_
  rintro e w9 ⟨rfl, h9⟩
  subst w9
  go_wp2_with fail
  exact ⟨rfl, by rw [uh HF]; rfl, Below.refl _ _⟩
 have HF : Hid (netFault xs = msgsFrom (xs.drop 0)) := by show netFault xs = _; rw [netFault, if_neg (by simp at e1; omega)]; rfl
 go_wp2_with fail
 refine (mustT 2 _).mono ?_
 rintro e w9 ⟨rfl, h9⟩
 subst w9
 clear e1
 go_wp2_with fail
 go_loopw [10] (fun i wr => ∃ k : Nat, k ≤ xs.length ∧ i = .int .i64 k ∧ netFault xs = msgsFrom (xs.drop k) ∧ Below w.heap.size w wr) (fun i _ => xs.length - (intOf i).toNat)
 case atStart => exact ⟨0, Nat.zero_le _, rfl, uh HF, Below.refl _ _⟩
 case round =>
  obtain ⟨k, hk, rfl, hF, hB⟩ := hrel
  clear HF
  by_cases hlt : k < xs.length
  ·
   obtain ⟨b, off, rfl, hbl⟩ := Lay.sl_addr (uh H) (by omega)
   obtain ⟨row, hc, hr⟩ := Lay.row_at (uh H) hlt
   replace hr := hr.later hB
   rw [msgsFrom_drop hlt] at hF
   have hdl : decide ((k : Int) < (xs.length : Int)) = true := by simp; omega
   obtain ⟨a, d, rfl, -⟩ := open_Msg hr
   have c0 : wr.cell? ⟨b, off + k * 10, none⟩ = some (.int .i64 (xs[k]).kind) := (hB.cell (p := ⟨b, off + k * 10, none⟩) hbl).trans (hc 0 (by decide))
   have c1 : wr.cell? ⟨b, off + k * 10 + 1, none⟩ = some (.int .i64 (xs[k]).epoch) := (hB.cell (p := ⟨b, off + k * 10 + 1, none⟩) hbl).trans (hc 1 (by decide))
   have c2 : wr.cell? ⟨b, off + k * 10 + 2, none⟩ = some (.int .i64 (xs[k]).src) := (hB.cell (p := ⟨b, off + k * 10 + 2, none⟩) hbl).trans (hc 2 (by decide))
   have c3 : wr.cell? ⟨b, off + k * 10 + 3, none⟩ = some (.int .i64 (xs[k]).dst) := (hB.cell (p := ⟨b, off + k * 10 + 3, none⟩) hbl).trans (hc 3 (by decide))
   have c4 : wr.cell? ⟨b, off + k * 10 + 4, none⟩ = some (.int .i64 (xs[k]).index) := (hB.cell (p := ⟨b, off + k * 10 + 4, none⟩) hbl).trans (hc 4 (by decide))
   have c5 : wr.cell? ⟨b, off + k * 10 + 5, none⟩ = some (.int .i64 (xs[k]).write.kind) := (hB.cell (p := ⟨b, off + k * 10 + 5, none⟩) hbl).trans (hc 5 (by decide))
   have c6 : wr.cell? ⟨b, off + k * 10 + 6, none⟩ = some (.int .i64 (xs[k]).write.id) := (hB.cell (p := ⟨b, off + k * 10 + 6, none⟩) hbl).trans (hc 6 (by decide))
   have c7 : wr.cell? ⟨b, off + k * 10 + 7, none⟩ = some (.slice a (xs[k]).write.vec.length d) := (hB.cell (p := ⟨b, off + k * 10 + 7, none⟩) hbl).trans (hc 7 (by decide))
   have c8 : wr.cell? ⟨b, off + k * 10 + 8, none⟩ = some (.int .i64 (xs[k]).write.session) := (hB.cell (p := ⟨b, off + k * 10 + 8, none⟩) hbl).trans (hc 8 (by decide))
   have c9 : wr.cell? ⟨b, off + k * 10 + 9, none⟩ = some (.int .i64 (xs[k]).write.seq) := (hB.cell (p := ⟨b, off + k * 10 + 9, none⟩) hbl).trans (hc 9 (by decide))
   have HF := yh hF
   have HR := yh hr
   have HB := yh hB
   clear hF hr hB hc
   generalize hx : xs[k] = x at *
   clear hx
   have nb : Below wr.heap.size wr (wr.alloc (.cells #[.int .i64 x.kind, .int .i64 x.epoch, .int .i64 x.src, .int .i64 x.dst, .int .i64 x.index, .int .i64 x.write.kind, .int .i64 x.write.id, .slice a x.write.vec.length d, .int .i64 x.write.session, .int .i64 x.write.seq] 89)) := (Below.refl _ _).alloc (Nat.le_refl _) _
   have HL := yh (mustBeMsgC _ x _ ((uh HR).later nb))
   replace HB := yh ((uh HB).trans (nb.mono (uh HB).size))
   clear nb
   go_wp2_with fail
   refine (uh HL).mono ?_
   generalize wr.alloc (.cells #[.int .i64 x.kind, .int .i64 x.epoch, .int .i64 x.src, .int .i64 x.dst, .int .i64 x.index, .int .i64 x.write.kind, .int .i64 x.write.id, .slice a x.write.vec.length d, .int .i64 x.write.session, .int .i64 x.write.seq] 89) = W1 at *
   rintro e W2 ⟨he, hb⟩
   replace HB := yh ((uh HB).trans (hb.mono (uh HB).size))
   clear hb HL c0 c1 c2 c3 c4 c5 c6 c7 c8 c9
   by_cases hf : msgFault x = 0
   ·
    rw [wrongE_ok hf] at he
    subst he
    replace HF := yh ((uh HF).trans (if_pos hf))
    clear hf
    go_wp2_with fail
    go_roundw
    case rel => exact ⟨k + 1, by omega, by go_num, uh HF, uh HB⟩
    case measure => simp [intOf]; omega
   rw [wrongE_bad hf] at he
   subst he
   replace HF := yh ((uh HF).trans (if_neg hf))
   have HG := yh hf
   clear hf
   go_wp2_with fail
   exact ⟨rfl, by rw [uh HF]; exact (wrongE_bad (uh HG)).symm, uh HB⟩
  obtain rfl : k = xs.length := by omega
  rw [List.drop_length] at hF
  have hdl : decide ((xs.length : Int) < (xs.length : Int)) = false := by simp
  have HF := yh hF
  have HB := yh hB
  clear hF hB
  go_wp2_with fail
  go_end0
  exact ⟨by rw [uh HF]; rfl, uh HB⟩
theorem netFaultWork (v : Value) (xs : List DMsg) (g : Nat) (w : World) (h : (Lay.sl Lay.tMsg).Reads w [v] xs) (hx : Box 0 #[v] 33 w g) :
  Calls Tryz.prog 232 #[.pointer (some ⟨g, 0, none⟩)] w fun e w' => e = workE (.bool true) (netFault xs) ∧ Below w.heap.size w w' := by
 have HL := yh (mustBeNetC v xs w h)
 obtain ⟨ao, cap, rfl⟩ := open_sl h
 have HX := yh hx
 clear hx h
 have z0 : w.cell? ⟨g, 0, none⟩ = some (.slice ao xs.length cap) := (uh HX).at 0 _ rfl
 go_enter Tryz.func232, Tryz.ntmps232
 go_wp2_with fail
 refine (uh HL).mono ?_
 rintro e W2 ⟨he, hb⟩
 have HB := yh hb
 clear hb HL z0
 by_cases hf : netFault xs = 0
 ·
  rw [wrongE_ok hf] at he
  subst he
  have HF := yh hf
  clear hf
  go_wp2_with fail
  go_ret
  exact ⟨(workE_ok (uh HF)).symm, uh HB⟩
 rw [wrongE_bad hf] at he
 subst he
 have HF := yh hf
 clear hf
 go_wp2_with fail
 exact ⟨rfl, (workE_bad (uh HF)).symm, uh HB⟩
theorem implNetFault (v : Value) (xs : List DMsg) (w : World) (h : (Lay.sl Lay.tMsg).Reads w [v] xs) :
  Calls Tryz.prog 160 #[v] w fun e w' => e = .returned (.int .i64 (netFault xs)) ∧ Below w.heap.size w w' := by
 have hmf : ∀ (fn : Fn) (first cap : Array Value) (w : World), (Instr.makeFunc fn first cap).run Tryz.prog w = .ok (.func fn first cap) w := fun _ _ _ _ => rfl
 obtain ⟨ao, cap, rfl⟩ := open_sl h
 have nb : Below w.heap.size w (w.alloc (.cells #[.slice ao xs.length cap] 33)) := (Below.refl _ _).alloc (Nat.le_refl _) _
 have HR := yh (h.later nb)
 have HB := yh nb
 have HX : Hid (Box 0 #[.slice ao xs.length cap] 33 (w.alloc (.cells #[.slice ao xs.length cap] 33)) w.heap.size) := newBox (Nat.zero_le _)
 clear h nb
 go_enter Tryz.func160, Tryz.ntmps160
 go_upto_region 1 with fail
 generalize w.alloc (.cells #[.slice ao xs.length cap] 33) = W1 at *
 have nb : Below W1.heap.size W1 (W1.alloc (.cells #[.int .i64 0] 2)) := (Below.refl _ _).alloc (Nat.le_refl _) _
 have HW := yh (netFaultWork _ xs w.heap.size _ ((uh HR).later nb) ((uh HX).keep nb))
 have hz : (W1.alloc (.cells #[.int .i64 0] 2)).heap.size = W1.heap.size + 1 := by simp
 have HZ := yh hz
 clear nb hz
 by_cases hf : netFault xs = 0
 ·
  have HL := yh (faced_ok_bool 232 #[.pointer (some ⟨w.heap.size, 0, none⟩)] W1 (fun v _ => v = .bool true) (fun _ => by rfl) ((uh HW).mono (by
   rintro e w' ⟨he, hb⟩
   rw [workE_ok hf] at he
   rw [uh HZ] at hb
   exact ⟨_, he, rfl, hb⟩)))
  have HF := yh hf
  clear hf HW HZ
  go_wp2_with fail
  refine (uh HL).mono ?_
  rintro e W2 ⟨v, W3, rfl, rfl, hW, hb, -⟩
  replace HB := yh ((uh HB).trans (hb.mono (uh HB).size))
  clear hW hb HL
  go_wp2_with fail
  go_ret
  exact ⟨by rw [uh HF]; rfl, uh HB⟩
 have HL := yh (faced_bad_bool 232 #[.pointer (some ⟨w.heap.size, 0, none⟩)] (netFault xs) W1 (fun _ => by rfl) ((uh HW).mono (by
  rintro e w' ⟨he, hb⟩
  rw [workE_bad hf] at he
  rw [uh HZ] at hb
  exact ⟨he, hb⟩)))
 clear hf HW HZ
 go_wp2_with fail
 refine (uh HL).mono ?_
 rintro e W2 ⟨rfl, hb⟩
 replace HB := yh ((uh HB).trans (hb.mono (uh HB).size))
 clear hb HL
 go_wp2_with fail
 go_ret
 exact ⟨rfl, uh HB⟩
theorem isNobodyC (a3 : Option Addr) (d3 : Nat) (a4 : Option Addr) (d4 : Nat) (a5 : Option Addr) (d5 : Nat) (a6 : Option Addr) (d6 : Nat) (x : DWorld) (id : Int) (g : Nat) (w : World) (h : Lay.tWorld.Reads w [.int .i64 x.now, .int .i64 x.events, .int .i64 x.chain.epoch, .slice a3 x.chain.ids.length d3, .slice a4 x.nodes.length d4, .slice a5 x.msgs.length d5, .slice a6 x.history.length d6] x) (hx : Box 0 #[.int .i64 x.now, .int .i64 x.events, .int .i64 x.chain.epoch, .slice a3 x.chain.ids.length d3, .slice a4 x.nodes.length d4, .slice a5 x.msgs.length d5, .slice a6 x.history.length d6] 36 w g) :
  Calls Tryz.prog 158 #[.int .i64 id, .pointer (some ⟨g, 0, none⟩)] w fun e w' => e = .returned (.bool (!nodeIn x id)) ∧ Below w.heap.size w w' := by
 have HL := yh (hasNodeC _ x id w h)
 have z0 := Box.at hx 0 _ rfl
 have z1 := Box.at hx 1 _ rfl
 have z2 := Box.at hx 2 _ rfl
 have z3 := Box.at hx 3 _ rfl
 have z4 := Box.at hx 4 _ rfl
 have z5 := Box.at hx 5 _ rfl
 have z6 := Box.at hx 6 _ rfl
 simp only [ga, gb, gc] at z0 z1 z2 z3 z4 z5 z6
 clear h
 go_enter Tryz.func158, Tryz.ntmps158
 go_wp2_with fail
 refine (uh HL).mono ?_
 rintro e w1 ⟨rfl, hb⟩
 have HB := yh hb
 clear hb HL z0 z1 z2 z3 z4 z5 z6
 go_wp2_with fail
 go_ret
 exact ⟨rfl, uh HB⟩
theorem indexNobody (a3 : Option Addr) (d3 : Nat) (a4 : Option Addr) (d4 : Nat) (a5 : Option Addr) (d5 : Nat) (a6 : Option Addr) (d6 : Nat) (x : DWorld) (v : Value) (ids : List Int) (g : Nat) (w : World) (h : Lay.tWorld.Reads w [.int .i64 x.now, .int .i64 x.events, .int .i64 x.chain.epoch, .slice a3 x.chain.ids.length d3, .slice a4 x.nodes.length d4, .slice a5 x.msgs.length d5, .slice a6 x.history.length d6] x) (hx : Box 0 #[.int .i64 x.now, .int .i64 x.events, .int .i64 x.chain.epoch, .slice a3 x.chain.ids.length d3, .slice a4 x.nodes.length d4, .slice a5 x.msgs.length d5, .slice a6 x.history.length d6] 36 w g) (R : (Lay.sl Lay.int).Reads w [v] ids) :
  Calls Tryz.prog 230 #[v, .func (.func 158) #[] #[.pointer (some ⟨g, 0, none⟩)]] w fun e w' => ∃ i : Int, e = .returned (.int .i64 i) ∧ decide (0 ≤ i) = !(ids.all (nodeIn x)) ∧ Below w.heap.size w w' := by
 have hbig := R.big
 obtain ⟨ao, cap, rfl⟩ := open_sl R
 have H := yh R
 have HX := yh h
 have HBX := yh hx
 clear h hx R
 go_enter Tryz.func230, Tryz.ntmps230
 go_wp2_with fail
 go_loopw [8] (fun i wr => ∃ k : Nat, k ≤ ids.length ∧ i = .int .i64 k ∧ (∀ j (hj : j < ids.length), j < k → nodeIn x ids[j] = true) ∧ Below w.heap.size w wr) (fun i _ => ids.length - (intOf i).toNat)
 case atStart => exact ⟨0, Nat.zero_le _, rfl, fun j _ hj => by omega, Below.refl _ _⟩
 case round =>
  obtain ⟨k, hk, rfl, hz, hB⟩ := hrel
  by_cases hlt : k < ids.length
  ·
   obtain ⟨b, off, rfl, hbl⟩ := Lay.sl_addr (uh H) (by omega)
   have c1 := (hB.cell (p := ⟨b, off + k, none⟩) hbl).trans (int_cell (uh H) hlt)
   have hdl : decide ((k : Int) < (ids.length : Int)) = true := by simp; omega
   have HL := yh (isNobodyC a3 d3 a4 d4 a5 d5 a6 d6 x ids[k] g wr ((uh HX).later hB) ((uh HBX).keep hB))
   have HA : Hid (nodeIn x ids[k] = false → (!(ids.all (nodeIn x))) = true) := fun q => by
    have : ids.all (nodeIn x) = false := by rw [List.all_eq_false]; exact ⟨ids[k], List.getElem_mem _, by rw [q]; simp⟩
    rw [this]; rfl
   have HN : Hid (nodeIn x ids[k] = true → ∀ j (hj : j < ids.length), j < k + 1 → nodeIn x ids[j] = true) := fun q j hj hjk => by
    by_cases h2 : j < k
    ·
     exact hz j hj h2
    obtain rfl : j = k := by omega
    exact q
   have HB := yh hB
   clear hz hB
   generalize hy : ids[k] = y at *
   clear hy
   go_wp2_with fail
   refine (uh HL).mono ?_
   rintro e w2 ⟨rfl, hb⟩
   replace HB := yh ((uh HB).trans (hb.mono (uh HB).size))
   clear hb HL c1
   cases hq : nodeIn x y
   ·
    have HAA := yh (uh HA hq)
    clear HN HA hq
    go_wp2_with fail
    go_ret
    exact ⟨(k : Int), rfl, by rw [uh HAA]; simp, uh HB⟩
   have HNN := yh (uh HN hq)
   clear HN HA hq
   go_wp2_with fail
   go_roundw
   case rel => exact ⟨k + 1, by omega, by go_num, uh HNN, uh HB⟩
   case measure => simp [intOf]; omega
  obtain rfl : k = ids.length := by omega
  have hdl : decide ((ids.length : Int) < (ids.length : Int)) = false := by simp
  have HB := yh hB
  have HZ : Hid (ids.all (nodeIn x) = true) := List.all_eq_true.2 fun y hy => by
   obtain ⟨j, hj, rfl⟩ := List.getElem_of_mem hy
   exact hz j hj hj
  clear hz hB
  go_wp2_with fail
  go_ret
  exact ⟨-1, rfl, by rw [uh HZ]; simp, uh HB⟩
theorem containsNobody (a3 : Option Addr) (d3 : Nat) (a4 : Option Addr) (d4 : Nat) (a5 : Option Addr) (d5 : Nat) (a6 : Option Addr) (d6 : Nat) (x : DWorld) (v : Value) (ids : List Int) (g : Nat) (w : World) (h : Lay.tWorld.Reads w [.int .i64 x.now, .int .i64 x.events, .int .i64 x.chain.epoch, .slice a3 x.chain.ids.length d3, .slice a4 x.nodes.length d4, .slice a5 x.msgs.length d5, .slice a6 x.history.length d6] x) (hx : Box 0 #[.int .i64 x.now, .int .i64 x.events, .int .i64 x.chain.epoch, .slice a3 x.chain.ids.length d3, .slice a4 x.nodes.length d4, .slice a5 x.msgs.length d5, .slice a6 x.history.length d6] 36 w g) (R : (Lay.sl Lay.int).Reads w [v] ids) :
  Calls Tryz.prog 159 #[v, .func (.func 158) #[] #[.pointer (some ⟨g, 0, none⟩)]] w fun e w' => e = .returned (.bool (!(ids.all (nodeIn x)))) ∧ Below w.heap.size w w' := by
 have HL := yh (indexNobody a3 d3 a4 d4 a5 d5 a6 d6 x v ids g w h hx R)
 obtain ⟨ao, cap, rfl⟩ := open_sl R
 clear h hx R
 go_enter Tryz.func159, Tryz.ntmps159
 go_wp2_with fail
 refine (uh HL).mono ?_
 rintro e w1 ⟨i, rfl, hi, hb⟩
 have HI := yh hi
 have HB := yh hb
 clear hb HL hi
 go_wp2_with fail
 go_ret
 exact ⟨by rw [← uh HI]; rfl, uh HB⟩
theorem wf_eq (x : DWorld) : worldFault x = if (decide (0 ≤ x.now) && decide (x.now ≤ 9000)) = false ∨ (decide (0 ≤ x.events) && decide (x.events ≤ 9999)) = false then 3
  else if chainFault x.chain ≠ 0 then chainFault x.chain else if nodesP x.chain x.nodes ≠ 0 then nodesP x.chain x.nodes else if (!(x.chain.ids.all (nodeIn x))) = true then 4
  else if netFault x.msgs ≠ 0 then netFault x.msgs else histP x.events x.history := by
 have e1 : (¬ (0 ≤ x.now ∧ x.now ≤ 9000) ∨ ¬ (0 ≤ x.events ∧ x.events ≤ 9999)) ↔ ((decide (0 ≤ x.now) && decide (x.now ≤ 9000)) = false ∨ (decide (0 ≤ x.events) && decide (x.events ≤ 9999)) = false) := by
  simp only [Bool.and_eq_false_iff, decide_eq_false_iff_not]
  omega
 unfold worldFault
 by_cases h1 : (decide (0 ≤ x.now) && decide (x.now ≤ 9000)) = false ∨ (decide (0 ≤ x.events) && decide (x.events ≤ 9999)) = false
 ·
  rw [if_pos (e1.2 h1), if_pos h1]
 rw [if_neg (fun q => h1 (e1.1 q)), if_neg h1]
 by_cases h2 : chainFault x.chain ≠ 0
 ·
  rw [if_pos h2, if_pos h2]
 rw [if_neg h2, if_neg h2]
 by_cases h3 : x.nodes.length < 1 ∨ 5 < x.nodes.length
 ·
  have hP : nodesP x.chain x.nodes = 2 := if_neg (by omega)
  rw [if_pos h3, hP, if_pos (show ((2 : Int) ≠ 0) by omega)]
 have hP : nodesP x.chain x.nodes = nodesF x.chain 0 x.nodes := if_pos (by omega)
 rw [if_neg h3, hP]
 unfold nodesFault
 by_cases h4 : nodesF x.chain 0 x.nodes ≠ 0
 ·
  rw [if_pos h4, if_pos h4, if_pos h4]
 rw [if_neg h4, if_neg h4]
 cases h5 : x.chain.ids.all (nodeIn x)
 ·
  simp
 simp only [if_true, Bool.not_true, ne_eq, not_true_eq_false, if_false]
 by_cases h6 : netFault x.msgs ≠ 0
 ·
  rw [if_pos h6, if_pos h6]; simp
 rw [if_neg h6, if_neg h6]
 rfl
theorem wf_vals (x : DWorld) : 0 ≤ worldFault x ∧ worldFault x ≤ 10 := worldFault_vals x (chainFault_vals _)
theorem implWorldFault (cs : List Value) (x : DWorld) (w : World) (h : Lay.tWorld.Reads w cs x) :
  Calls Tryz.prog 85 #[.agg cs.toArray] w fun e w' => e = .returned (.int .i64 (worldFault x)) ∧ Below w.heap.size w w' := by
 obtain ⟨a3, d3, a4, d4, a5, d5, a6, d6, rfl, RC, RN, RM, RE⟩ := open_World h
 have nb : Below w.heap.size w (w.alloc (.cells #[.int .i64 x.now, .int .i64 x.events, .int .i64 x.chain.epoch, .slice a3 x.chain.ids.length d3, .slice a4 x.nodes.length d4, .slice a5 x.msgs.length d5, .slice a6 x.history.length d6] 36)) := (Below.refl _ _).alloc (Nat.le_refl _) _
 have HX : Hid (Box 0 #[.int .i64 x.now, .int .i64 x.events, .int .i64 x.chain.epoch, .slice a3 x.chain.ids.length d3, .slice a4 x.nodes.length d4, .slice a5 x.msgs.length d5, .slice a6 x.history.length d6] 36 (w.alloc (.cells #[.int .i64 x.now, .int .i64 x.events, .int .i64 x.chain.epoch, .slice a3 x.chain.ids.length d3, .slice a4 x.nodes.length d4, .slice a5 x.msgs.length d5, .slice a6 x.history.length d6] 36)) w.heap.size) := newBox (Nat.zero_le _)
 have HR := yh (h.later nb)
 have HP := yh (wf_eq x)
 have HB := yh nb
 have hmf : ∀ (fn : Fn) (first cap : Array Value) (w : World), (Instr.makeFunc fn first cap).run Tryz.prog w = .ok (.func fn first cap) w := fun _ _ _ _ => rfl
 clear nb h RC RN RM RE
 generalize worldFault x = r at *
 go_enter Tryz.func85, Tryz.ntmps85
 go_upto_region 1 with fail
 generalize w.alloc (.cells #[.int .i64 x.now, .int .i64 x.events, .int .i64 x.chain.epoch, .slice a3 x.chain.ids.length d3, .slice a4 x.nodes.length d4, .slice a5 x.msgs.length d5, .slice a6 x.history.length d6] 36) = w1 at *
 have z0 := Box.at (uh HX) 0 _ rfl
 have z1 := Box.at (uh HX) 1 _ rfl
 have z2 := Box.at (uh HX) 2 _ rfl
 have z3 := Box.at (uh HX) 3 _ rfl
 have z4 := Box.at (uh HX) 4 _ rfl
 have z5 := Box.at (uh HX) 5 _ rfl
 have z6 := Box.at (uh HX) 6 _ rfl
 simp only [ga, gb, gc] at z0 z1 z2 z3 z4 z5 z6
 go_wp2_with fail
 refine (isUpToC x.now 9000 w1).mono ?_
 rintro e w2 ⟨rfl, h2⟩
 subst w2
 cases d1 : (decide (0 ≤ x.now) && decide (x.now ≤ 9000))
 ·
  replace HP := yh ((uh HP).trans (if_pos (Or.inl d1)))
  clear d1
  go_wp2_with fail
  go_ret
  exact ⟨by rw [uh HP]; rfl, uh HB⟩
 go_wp2_with fail
 refine (isUpToC x.events 9999 w1).mono ?_
 rintro e w2 ⟨rfl, h2⟩
 subst w2
 cases d2 : (decide (0 ≤ x.events) && decide (x.events ≤ 9999))
 ·
  replace HP := yh ((uh HP).trans (if_pos (Or.inr d2)))
  clear d1 d2
  go_wp2_with fail
  go_ret
  exact ⟨by rw [uh HP]; rfl, uh HB⟩
 replace HP := yh ((uh HP).trans (if_neg (by rw [d1, d2]; simp)))
 clear d1 d2
 go_wp2_with fail
 obtain ⟨_, _, _, _, _, _, _, _, hq, RC, -, -, -⟩ := open_World (uh HR)
 simp only [List.cons.injEq, Value.slice.injEq, and_true, true_and] at hq
 obtain ⟨⟨rfl, rfl⟩, ⟨rfl, rfl⟩, ⟨rfl, rfl⟩, rfl, rfl⟩ := hq
 refine (implChainFault _ x.chain w1 RC).mono ?_
 rintro e w2 ⟨rfl, hb⟩
 clear RC z0 z1 z2 z3 z4 z5 z6
 replace HX := yh ((uh HX).keep hb)
 replace HR := yh ((uh HR).later hb)
 replace HB := yh ((uh HB).trans (hb.mono (uh HB).size))
 clear hb
 have z0 := Box.at (uh HX) 0 _ rfl
 have z1 := Box.at (uh HX) 1 _ rfl
 have z2 := Box.at (uh HX) 2 _ rfl
 have z3 := Box.at (uh HX) 3 _ rfl
 have z4 := Box.at (uh HX) 4 _ rfl
 have z5 := Box.at (uh HX) 5 _ rfl
 have z6 := Box.at (uh HX) 6 _ rfl
 simp only [ga, gb, gc] at z0 z1 z2 z3 z4 z5 z6
 by_cases d3 : chainFault x.chain ≠ 0
 ·
  have hd : (chainFault x.chain != 0) = true := by simpa using d3
  replace HP := yh ((uh HP).trans (if_pos d3))
  clear d3
  generalize chainFault x.chain = c at *
  go_wp2_with fail
  go_ret
  exact ⟨by rw [uh HP]; rfl, uh HB⟩
 replace HP := yh ((uh HP).trans (if_neg d3))
 have hd : chainFault x.chain = 0 := by simpa using d3
 clear d3
 rw [hd]
 clear hd
 go_wp2_with fail
 obtain ⟨_, _, _, _, _, _, _, _, hq, RC, RN, -, -⟩ := open_World (uh HR)
 simp only [List.cons.injEq, Value.slice.injEq, and_true, true_and] at hq
 obtain ⟨⟨rfl, rfl⟩, ⟨rfl, rfl⟩, ⟨rfl, rfl⟩, rfl, rfl⟩ := hq
 refine (nodesFaultC _ x.chain _ x.nodes w2 RC RN).mono ?_
 rintro e w3 ⟨rfl, hb⟩
 clear RC RN z0 z1 z2 z3 z4 z5 z6
 replace HX := yh ((uh HX).keep hb)
 replace HR := yh ((uh HR).later hb)
 replace HB := yh ((uh HB).trans (hb.mono (uh HB).size))
 clear hb
 have z0 := Box.at (uh HX) 0 _ rfl
 have z1 := Box.at (uh HX) 1 _ rfl
 have z2 := Box.at (uh HX) 2 _ rfl
 have z3 := Box.at (uh HX) 3 _ rfl
 have z4 := Box.at (uh HX) 4 _ rfl
 have z5 := Box.at (uh HX) 5 _ rfl
 have z6 := Box.at (uh HX) 6 _ rfl
 simp only [ga, gb, gc] at z0 z1 z2 z3 z4 z5 z6
 by_cases d3 : nodesP x.chain x.nodes ≠ 0
 ·
  have hd : (nodesP x.chain x.nodes != 0) = true := by simpa using d3
  replace HP := yh ((uh HP).trans (if_pos d3))
  clear d3
  generalize nodesP x.chain x.nodes = c at *
  go_wp2_with fail
  go_ret
  exact ⟨by rw [uh HP]; rfl, uh HB⟩
 replace HP := yh ((uh HP).trans (if_neg d3))
 have hd : nodesP x.chain x.nodes = 0 := by simpa using d3
 clear d3
 rw [hd]
 clear hd
 go_wp2_with fail
 obtain ⟨_, _, _, _, _, _, _, _, hq, RC, -, -, -⟩ := open_World (uh HR)
 simp only [List.cons.injEq, Value.slice.injEq, and_true, true_and] at hq
 obtain ⟨⟨rfl, rfl⟩, ⟨rfl, rfl⟩, ⟨rfl, rfl⟩, rfl, rfl⟩ := hq
 obtain ⟨_, _, hq, RI⟩ := open_Chain RC
 simp only [List.cons.injEq, Value.slice.injEq, and_true, true_and] at hq
 obtain ⟨rfl, rfl⟩ := hq
 refine (containsNobody a3 d3 a4 d4 a5 d5 a6 d6 x _ x.chain.ids w.heap.size w3 (uh HR) (uh HX) RI).mono ?_
 rintro e w4 ⟨rfl, hb⟩
 clear RC RI z0 z1 z2 z3 z4 z5 z6
 replace HX := yh ((uh HX).keep hb)
 replace HR := yh ((uh HR).later hb)
 replace HB := yh ((uh HB).trans (hb.mono (uh HB).size))
 clear hb
 have z0 := Box.at (uh HX) 0 _ rfl
 have z1 := Box.at (uh HX) 1 _ rfl
 have z2 := Box.at (uh HX) 2 _ rfl
 have z3 := Box.at (uh HX) 3 _ rfl
 have z4 := Box.at (uh HX) 4 _ rfl
 have z5 := Box.at (uh HX) 5 _ rfl
 have z6 := Box.at (uh HX) 6 _ rfl
 simp only [ga, gb, gc] at z0 z1 z2 z3 z4 z5 z6
 cases d3 : x.chain.ids.all (nodeIn x)
 ·
  replace HP := yh ((uh HP).trans (if_pos (by rw [d3]; rfl)))
  clear d3
  go_wp2_with fail
  go_ret
  exact ⟨by rw [uh HP]; rfl, uh HB⟩
 replace HP := yh ((uh HP).trans (if_neg (by rw [d3]; simp)))
 clear d3
 go_wp2_with fail
 obtain ⟨_, _, _, _, _, _, _, _, hq, -, -, RM, -⟩ := open_World (uh HR)
 simp only [List.cons.injEq, Value.slice.injEq, and_true, true_and] at hq
 obtain ⟨⟨rfl, rfl⟩, ⟨rfl, rfl⟩, ⟨rfl, rfl⟩, rfl, rfl⟩ := hq
 refine (implNetFault _ x.msgs w4 RM).mono ?_
 rintro e w5 ⟨rfl, hb⟩
 clear RM z0 z1 z2 z3 z4 z5 z6
 replace HX := yh ((uh HX).keep hb)
 replace HR := yh ((uh HR).later hb)
 replace HB := yh ((uh HB).trans (hb.mono (uh HB).size))
 clear hb
 have z0 := Box.at (uh HX) 0 _ rfl
 have z1 := Box.at (uh HX) 1 _ rfl
 have z2 := Box.at (uh HX) 2 _ rfl
 have z3 := Box.at (uh HX) 3 _ rfl
 have z4 := Box.at (uh HX) 4 _ rfl
 have z5 := Box.at (uh HX) 5 _ rfl
 have z6 := Box.at (uh HX) 6 _ rfl
 simp only [ga, gb, gc] at z0 z1 z2 z3 z4 z5 z6
 by_cases d3 : netFault x.msgs ≠ 0
 ·
  have hd : (netFault x.msgs != 0) = true := by simpa using d3
  replace HP := yh ((uh HP).trans (if_pos d3))
  clear d3
  generalize netFault x.msgs = c at *
  go_wp2_with fail
  go_ret
  exact ⟨by rw [uh HP]; rfl, uh HB⟩
 replace HP := yh ((uh HP).trans (if_neg d3))
 have hd : netFault x.msgs = 0 := by simpa using d3
 clear d3
 rw [hd]
 clear hd
 go_wp2_with fail
 obtain ⟨_, _, _, _, _, _, _, _, hq, -, -, -, RE⟩ := open_World (uh HR)
 simp only [List.cons.injEq, Value.slice.injEq, and_true, true_and] at hq
 obtain ⟨⟨rfl, rfl⟩, ⟨rfl, rfl⟩, ⟨rfl, rfl⟩, rfl, rfl⟩ := hq
 refine (historyFaultC _ x.history x.events w5 RE).mono ?_
 rintro e w6 ⟨rfl, hb⟩
 replace HB := yh ((uh HB).trans (hb.mono (uh HB).size))
 clear RE hb z0 z1 z2 z3 z4 z5 z6
 go_wp2_with fail
 go_ret
 exact ⟨by rw [uh HP]; rfl, uh HB⟩
theorem nodeIn_at {x : DWorld} {id : Int} (h : nodeIn x id = true) : ∃ k, ∃ _ : k < x.nodes.length, id = (k : Int) + 1 := by
 simp only [nodeIn, Bool.and_eq_true, decide_eq_true_eq] at h
 exact ⟨(id - 1).toNat, by omega, by omega⟩
theorem nodeOf_at {x : DWorld} {k : Nat} (hk : k < x.nodes.length) : nodeOf x ((k : Int) + 1) = x.nodes[k] := by
 have : ((k : Int) + 1 - 1).toNat = k := by omega
 rw [nodeOf, this]
 simp [List.getD, hk]
def tailId (x : DWorld) : Int := x.chain.ids.getD (x.chain.ids.length - 1) 0
structure WorldMid (x : DWorld) : Prop where
 chain : chainFault x.chain = 0
 some : 1 ≤ x.nodes.length ∧ x.nodes.length ≤ 5
 nodes : ∀ k (h : k < x.nodes.length), nodeFault x.nodes[k] = 0 ∧ x.nodes[k].id = (k : Int) + 1 ∧ x.nodes[k].epoch ≤ x.chain.epoch
 ids : ∀ z ∈ x.chain.ids, nodeIn x z = true
theorem WorldOK.mid {x : DWorld} (h : WorldOK x) : WorldMid x := ⟨h.chain, h.some, h.nodes, h.ids⟩
theorem tail_at {x : DWorld} (h : WorldOK x) : ∃ (k : Nat) (_ : k < x.nodes.length), tailId x = (k : Int) + 1 := by
 have h1 := (chainFault_zero h.chain).len
 have hlt : x.chain.ids.length - 1 < x.chain.ids.length := by omega
 have e : tailId x = x.chain.ids[x.chain.ids.length - 1] := by
  unfold tailId
  generalize x.chain.ids.length - 1 = j at *
  simp [List.getD, hlt]
 have h2 := h.ids _ (List.getElem_mem hlt)
 rw [← e] at h2
 exact nodeIn_at h2
def sureWs (x : DWorld) : List DWrite := (nodeOf x (tailId x)).writes.take (nodeOf x (tailId x)).sure.toNat
def stateInR (x : DWorld) : DTableResult := if worldFault x ≠ 0 then ⟨worldFault x, []⟩ else ⟨0, ofI (sureWs x)⟩
structure RowIn (cs : Array Value) (w : World) (b o : Nat) : Prop where
 lt : b < w.heap.size
 cells : ∀ (i : Nat) (v : Value), cs[i]? = some v → w.cell? ⟨b, o + i, none⟩ = some v
variable {cs : Array Value} {w w' : World} {b o : Nat}
theorem RowIn.at (h : RowIn cs w b o) (i : Nat) (v : Value) (hi : cs[i]? = some v) : w.cell? ⟨b, o + i, none⟩ = some v := h.cells i v hi
theorem RowIn.keep (h : RowIn cs w b o) (hb : Below w.heap.size w w') : RowIn cs w' b o := ⟨Nat.lt_of_lt_of_le h.lt hb.size, fun i v hi => (hb.cell (p := ⟨b, o + i, none⟩) h.lt).trans (h.cells i v hi)⟩
theorem RowIn.drew (h : RowIn cs w b o) : RowIn cs w.drew b o := ⟨h.lt, h.cells⟩
theorem RowIn.ofRow {α : Type} {A : Lay α} {off k : Nat} {row : List Value} (hc : ∀ m, m < A.n → w.cell? ⟨b, off + k * A.n + m, none⟩ = row[m]?) (hl : row.length = A.n) (hb : b < w.heap.size) : RowIn row.toArray w b (off + k * A.n) := ⟨hb, fun i v hi => by
 have h1 : row[i]? = some v := by simpa using hi
 have h2 : i < A.n := by
  rw [← hl]
  rcases Nat.lt_or_ge i row.length with q | q
  ·
   exact q
  rw [List.getElem?_eq_none q] at h1; simp at h1
 rw [hc i h2, h1]⟩
theorem l12NodeC (a3 : Option Addr) (d3 : Nat) (a4 : Option Addr) (d4 : Nat) (a5 : Option Addr) (d5 : Nat) (a6 : Option Addr) (d6 : Nat) (x : DWorld) (id : Int) (xb : Nat) (w : World) (hX : Box 0 #[.int .i64 x.now, .int .i64 x.events, .int .i64 x.chain.epoch, .slice a3 x.chain.ids.length d3, .slice a4 x.nodes.length d4, .slice a5 x.msgs.length d5, .slice a6 x.history.length d6] 36 w xb) :
  Calls Tryz.prog 130 #[.pointer (some ⟨xb, 0, none⟩), .int .i64 id] w fun e w' => e = .returned (.bool (nodeIn x id)) ∧ w' = w := by
 have HL := yh (inC id 1 (x.nodes.length : Int) w)
 have z3 := Box.at hX 4 _ rfl
 simp only [ga, gb, gc] at z3
 have xl := hX.lt
 clear hX
 go_enter Tryz.func130, Tryz.ntmps130
 go_wp2_with fail
 refine (uh HL).mono ?_
 rintro e w1 ⟨rfl, h1⟩
 subst w1
 clear HL
 go_wp2_with fail
 go_ret
 exact ⟨rfl, rfl⟩
theorem l12EntryC (a3 : Option Addr) (d3 : Nat) (a4 : Option Addr) (d4 : Nat) (a5 : Option Addr) (d5 : Nat) (a6 : Option Addr) (d6 : Nat) (aq : Option Addr) (dq : Nat) (av : Option Addr) (dv : Nat) (ah : Option Addr) (dh : Nat) (x : DWorld) (e : DEntry) (xb b o : Nat) (w : World) (hX : Box 0 #[.int .i64 x.now, .int .i64 x.events, .int .i64 x.chain.epoch, .slice a3 x.chain.ids.length d3, .slice a4 x.nodes.length d4, .slice a5 x.msgs.length d5, .slice a6 x.history.length d6] 36 w xb) (hE : RowIn #[.int .i64 e.kind, .int .i64 e.session, .int .i64 e.seq, .int .i64 e.id, .slice aq e.query.length dq, .int .i64 e.k, .int .i64 e.start, .int .i64 e.fin, .int .i64 e.place, .slice av e.vec.length dv, .slice ah e.hits.length dh] w b o) :
  Calls Tryz.prog 181 #[.pointer (some ⟨xb, 0, none⟩), .pointer (some ⟨b, o, none⟩)] w fun r w' => r = .returned (.bool (entryB x e)) ∧ Below w.heap.size w w' := by
 have L1 : Hid (∀ W, Calls Tryz.prog 64 #[.int .i64 e.kind, .int .i64 1, .int .i64 3] W fun r w' => r = .returned (.bool (decide (1 ≤ e.kind) && decide (e.kind ≤ 3))) ∧ w' = W) := fun W => inC _ _ _ W
 have L2 : Hid (∀ W, Calls Tryz.prog 64 #[.int .i64 e.start, .int .i64 1, .int .i64 x.events] W fun r w' => r = .returned (.bool (decide (1 ≤ e.start) && decide (e.start ≤ x.events))) ∧ w' = W) := fun W => inC _ _ _ W
 have L3 : Hid (∀ W, Calls Tryz.prog 64 #[.int .i64 e.fin, .int .i64 e.start, .int .i64 x.events] W fun r w' => r = .returned (.bool (decide (e.start ≤ e.fin) && decide (e.fin ≤ x.events))) ∧ w' = W) := fun W => inC _ _ _ W
 have L4 : Hid (∀ W, Calls Tryz.prog 64 #[.int .i64 e.place, .int .i64 0, .int .i64 40] W fun r w' => r = .returned (.bool (decide (0 ≤ e.place) && decide (e.place ≤ 40))) ∧ w' = W) := fun W => inC _ _ _ W
 have HP : Hid (entryB x e = ((decide (1 ≤ e.kind) && decide (e.kind ≤ 3)) && ((decide (1 ≤ e.start) && decide (e.start ≤ x.events)) && ((e.fin == 0 || (decide (e.start ≤ e.fin) && decide (e.fin ≤ x.events))) && (decide (0 ≤ e.place) && decide (e.place ≤ 40)))))) := rfl
 generalize entryB x e = r at *
 have HBD : Hid (Below w.heap.size w w.drew) := (Below.refl _ _).drew
 have y1 := Box.at hX.drew 1 _ rfl
 have z0 := hE.drew.at 0 _ rfl
 have z6 := hE.drew.at 6 _ rfl
 have z7 := hE.drew.at 7 _ rfl
 have z8 := hE.drew.at 8 _ rfl
 simp only [List.getElem_toArray, List.getElem_cons_zero, List.getElem_cons_succ, Nat.add_zero] at y1 z0 z6 z7 z8
 clear hX hE
 generalize (decide (1 ≤ e.kind) && decide (e.kind ≤ 3)) = A at *
 generalize (decide (1 ≤ e.start) && decide (e.start ≤ x.events)) = B at *
 generalize (decide (e.start ≤ e.fin) && decide (e.fin ≤ x.events)) = C at *
 generalize (decide (0 ≤ e.place) && decide (e.place ≤ 40)) = D at *
 generalize hz : (e.fin == 0) = Z at *
 go_enter Tryz.func181, Tryz.ntmps181
 cases A
 ·
  go_wp2_with fail
  refine wp_region_noPanic ?_
  refine wp_region_held_drew (S := fun w' => w' = w.drew) (by kernel_rfl) rfl (fun zq => ?_)
  generalize w.drew = wD at zq y1 z0 z6 z7 z8 HBD ⊢
  refine tkJ 0 (v := ?vp1_0) ?hp1_0 zq ?rp1_0
  case hp1_0 =>
   intro wS hSw
   subst hSw
   (try dsimp only at hSw)
   go_simp
   try with_reducible rfl
  refine tkJ 1 (v := ?vp1_1) ?hp1_1 zq ?rp1_1
  case hp1_1 =>
   intro wS hSw
   subst hSw
   (try dsimp only at hSw)
   go_simp
   try with_reducible rfl
  refine tkJ 2 (v := ?vp1_2) ?hp1_2 zq ?rp1_2
  case hp1_2 =>
   intro wS hSw
   subst hSw
   (try dsimp only at hSw)
   go_simp
   try with_reducible rfl
  refine tkJ 3 (v := ?vp1_3) ?hp1_3 zq ?rp1_3
  case hp1_3 =>
   intro wS hSw
   subst hSw
   (try dsimp only at hSw)
   go_simp
   try with_reducible rfl
  refine rdH 4 (fun K hK => ?_)
  go_simp
  go_at_call 64
  refine (uh L1 wD).mono ?_
  rintro e u1 ⟨rfl, h1⟩
  subst u1
  try go_wp2_with fail
  refine hK.out _ _ rfl (fun zq => ?_)
  clear hK K
  try simp only [Act.put, pz, py, px]
  refine tkJ 5 (v := ?vp1_5) ?hp1_5 zq ?rp1_5
  case hp1_5 =>
   intro wS hSw
   subst hSw
   (try dsimp only at hSw)
   go_simp
   try with_reducible rfl
  refine skH 6 zq ?_
  refine skH 7 zq ?_
  refine skH 8 zq ?_
  refine skH 9 zq ?_
  refine skH 10 zq ?_
  refine skH 11 zq ?_
  refine skH 12 zq ?_
  refine skH 13 zq ?_
  refine skH 14 zq ?_
  refine tkJ 15 (v := ?vp1_15) ?hp1_15 zq ?rp1_15
  case hp1_15 =>
   intro wS hSw
   subst hSw
   (try dsimp only at hSw)
   go_simp
   try with_reducible rfl
  refine tkJ 16 (v := ?vp1_16) ?hp1_16 zq ?rp1_16
  case hp1_16 =>
   intro wS hSw
   subst hSw
   (try dsimp only at hSw)
   go_simp
   try with_reducible rfl
  refine skH 17 zq ?_
  refine skH 18 zq ?_
  refine skH 19 zq ?_
  refine skH 20 zq ?_
  refine skH 21 zq ?_
  refine skH 22 zq ?_
  refine skH 23 zq ?_
  refine skH 24 zq ?_
  refine skH 25 zq ?_
  refine skH 26 zq ?_
  refine skH 27 zq ?_
  refine skH 28 zq ?_
  refine skH 29 zq ?_
  refine skH 30 zq ?_
  refine skH 31 zq ?_
  refine skH 32 zq ?_
  refine skH 33 zq ?_
  refine skH 34 zq ?_
  refine skH 35 zq ?_
  refine skH 36 zq ?_
  refine tkJ 37 (v := ?vp1_37) ?hp1_37 zq ?rp1_37
  case hp1_37 =>
   intro wS hSw
   subst hSw
   (try dsimp only at hSw)
   go_simp
   try with_reducible rfl
  refine tkJ 38 (v := ?vp1_38) ?hp1_38 zq ?rp1_38
  case hp1_38 =>
   intro wS hSw
   subst hSw
   (try dsimp only at hSw)
   go_simp
   try with_reducible rfl
  refine skH 39 zq ?_
  refine skH 40 zq ?_
  refine skH 41 zq ?_
  refine skH 42 zq ?_
  refine skH 43 zq ?_
  refine tkJ 44 (v := ?vp1_44) ?hp1_44 zq ?rp1_44
  case hp1_44 =>
   intro wS hSw
   subst hSw
   (try dsimp only at hSw)
   go_simp
   try with_reducible rfl
  refine tkJ 45 (v := ?vp1_45) ?hp1_45 zq ?rp1_45
  case hp1_45 =>
   intro wS hSw
   subst hSw
   (try dsimp only at hSw)
   go_simp
   try with_reducible rfl
  refine wpAnyH_done (by kernel_rfl) ?_ _
  refine NoPanic.normal ?_
  clear zq
  go_wp2_with fail
  go_ret
  exact ⟨by rw [uh HP]; simp, uh HBD⟩
 cases B
 ·
  go_wp2_with fail
  refine wp_region_noPanic ?_
  refine wp_region_held_drew (S := fun w' => w' = w.drew) (by kernel_rfl) rfl (fun zq => ?_)
  generalize w.drew = wD at zq y1 z0 z6 z7 z8 HBD ⊢
  refine tkJ 0 (v := ?vp2_0) ?hp2_0 zq ?rp2_0
  case hp2_0 =>
   intro wS hSw
   subst hSw
   (try dsimp only at hSw)
   go_simp
   try with_reducible rfl
  refine tkJ 1 (v := ?vp2_1) ?hp2_1 zq ?rp2_1
  case hp2_1 =>
   intro wS hSw
   subst hSw
   (try dsimp only at hSw)
   go_simp
   try with_reducible rfl
  refine tkJ 2 (v := ?vp2_2) ?hp2_2 zq ?rp2_2
  case hp2_2 =>
   intro wS hSw
   subst hSw
   (try dsimp only at hSw)
   go_simp
   try with_reducible rfl
  refine tkJ 3 (v := ?vp2_3) ?hp2_3 zq ?rp2_3
  case hp2_3 =>
   intro wS hSw
   subst hSw
   (try dsimp only at hSw)
   go_simp
   try with_reducible rfl
  refine rdH 4 (fun K hK => ?_)
  go_simp
  go_at_call 64
  refine (uh L1 wD).mono ?_
  rintro e u1 ⟨rfl, h1⟩
  subst u1
  try go_wp2_with fail
  refine hK.out _ _ rfl (fun zq => ?_)
  clear hK K
  try simp only [Act.put, pz, py, px]
  refine tkJ 5 (v := ?vp2_5) ?hp2_5 zq ?rp2_5
  case hp2_5 =>
   intro wS hSw
   subst hSw
   (try dsimp only at hSw)
   go_simp
   try with_reducible rfl
  refine tkJ 6 (v := ?vp2_6) ?hp2_6 zq ?rp2_6
  case hp2_6 =>
   intro wS hSw
   subst hSw
   (try dsimp only at hSw)
   go_simp
   try with_reducible rfl
  refine tkJ 7 (v := ?vp2_7) ?hp2_7 zq ?rp2_7
  case hp2_7 =>
   intro wS hSw
   subst hSw
   (try dsimp only at hSw)
   go_simp
   try with_reducible rfl
  refine tkJ 8 (v := ?vp2_8) ?hp2_8 zq ?rp2_8
  case hp2_8 =>
   intro wS hSw
   subst hSw
   (try dsimp only at hSw)
   go_simp
   try with_reducible rfl
  refine tkJ 9 (v := ?vp2_9) ?hp2_9 zq ?rp2_9
  case hp2_9 =>
   intro wS hSw
   subst hSw
   (try dsimp only at hSw)
   go_simp
   try with_reducible rfl
  refine tkJ 10 (v := ?vp2_10) ?hp2_10 zq ?rp2_10
  case hp2_10 =>
   intro wS hSw
   subst hSw
   (try dsimp only at hSw)
   go_simp
   try with_reducible rfl
  refine tkJ 11 (v := ?vp2_11) ?hp2_11 zq ?rp2_11
  case hp2_11 =>
   intro wS hSw
   subst hSw
   (try dsimp only at hSw)
   go_simp
   try with_reducible rfl
  refine tkJ 12 (v := ?vp2_12) ?hp2_12 zq ?rp2_12
  case hp2_12 =>
   intro wS hSw
   subst hSw
   (try dsimp only at hSw)
   go_simp
   try with_reducible rfl
  refine tkJ 13 (v := ?vp2_13) ?hp2_13 zq ?rp2_13
  case hp2_13 =>
   intro wS hSw
   subst hSw
   (try dsimp only at hSw)
   go_simp
   try with_reducible rfl
  refine rdH 14 (fun K hK => ?_)
  go_simp
  go_at_call 64
  refine (uh L2 wD).mono ?_
  rintro e u1 ⟨rfl, h1⟩
  subst u1
  try go_wp2_with fail
  refine hK.out _ _ rfl (fun zq => ?_)
  clear hK K
  try simp only [Act.put, pz, py, px]
  refine tkJ 15 (v := ?vp2_15) ?hp2_15 zq ?rp2_15
  case hp2_15 =>
   intro wS hSw
   subst hSw
   (try dsimp only at hSw)
   go_simp
   try with_reducible rfl
  refine tkJ 16 (v := ?vp2_16) ?hp2_16 zq ?rp2_16
  case hp2_16 =>
   intro wS hSw
   subst hSw
   (try dsimp only at hSw)
   go_simp
   try with_reducible rfl
  refine skH 17 zq ?_
  refine skH 18 zq ?_
  refine skH 19 zq ?_
  refine skH 20 zq ?_
  refine skH 21 zq ?_
  refine skH 22 zq ?_
  refine skH 23 zq ?_
  refine skH 24 zq ?_
  refine skH 25 zq ?_
  refine skH 26 zq ?_
  refine skH 27 zq ?_
  refine skH 28 zq ?_
  refine skH 29 zq ?_
  refine skH 30 zq ?_
  refine skH 31 zq ?_
  refine skH 32 zq ?_
  refine skH 33 zq ?_
  refine skH 34 zq ?_
  refine skH 35 zq ?_
  refine skH 36 zq ?_
  refine tkJ 37 (v := ?vp2_37) ?hp2_37 zq ?rp2_37
  case hp2_37 =>
   intro wS hSw
   subst hSw
   (try dsimp only at hSw)
   go_simp
   try with_reducible rfl
  refine tkJ 38 (v := ?vp2_38) ?hp2_38 zq ?rp2_38
  case hp2_38 =>
   intro wS hSw
   subst hSw
   (try dsimp only at hSw)
   go_simp
   try with_reducible rfl
  refine skH 39 zq ?_
  refine skH 40 zq ?_
  refine skH 41 zq ?_
  refine skH 42 zq ?_
  refine skH 43 zq ?_
  refine tkJ 44 (v := ?vp2_44) ?hp2_44 zq ?rp2_44
  case hp2_44 =>
   intro wS hSw
   subst hSw
   (try dsimp only at hSw)
   go_simp
   try with_reducible rfl
  refine tkJ 45 (v := ?vp2_45) ?hp2_45 zq ?rp2_45
  case hp2_45 =>
   intro wS hSw
   subst hSw
   (try dsimp only at hSw)
   go_simp
   try with_reducible rfl
  refine wpAnyH_done (by kernel_rfl) ?_ _
  refine NoPanic.normal ?_
  clear zq
  go_wp2_with fail
  go_ret
  exact ⟨by rw [uh HP]; simp, uh HBD⟩
 cases Z
 ·
  cases C
  ·
   go_wp2_with fail
   refine wp_region_noPanic ?_
   refine wp_region_held_drew (S := fun w' => w' = w.drew) (by kernel_rfl) rfl (fun zq => ?_)
   generalize w.drew = wD at zq y1 z0 z6 z7 z8 HBD ⊢
   refine tkJ 0 (v := ?vp3_0) ?hp3_0 zq ?rp3_0
   case hp3_0 =>
    intro wS hSw
    subst hSw
    (try dsimp only at hSw)
    go_simp
    try with_reducible rfl
   refine tkJ 1 (v := ?vp3_1) ?hp3_1 zq ?rp3_1
   case hp3_1 =>
    intro wS hSw
    subst hSw
    (try dsimp only at hSw)
    go_simp
    try with_reducible rfl
   refine tkJ 2 (v := ?vp3_2) ?hp3_2 zq ?rp3_2
   case hp3_2 =>
    intro wS hSw
    subst hSw
    (try dsimp only at hSw)
    go_simp
    try with_reducible rfl
   refine tkJ 3 (v := ?vp3_3) ?hp3_3 zq ?rp3_3
   case hp3_3 =>
    intro wS hSw
    subst hSw
    (try dsimp only at hSw)
    go_simp
    try with_reducible rfl
   refine rdH 4 (fun K hK => ?_)
   go_simp
   go_at_call 64
   refine (uh L1 wD).mono ?_
   rintro e u1 ⟨rfl, h1⟩
   subst u1
   try go_wp2_with fail
   refine hK.out _ _ rfl (fun zq => ?_)
   clear hK K
   try simp only [Act.put, pz, py, px]
   refine tkJ 5 (v := ?vp3_5) ?hp3_5 zq ?rp3_5
   case hp3_5 =>
    intro wS hSw
    subst hSw
    (try dsimp only at hSw)
    go_simp
    try with_reducible rfl
   refine tkJ 6 (v := ?vp3_6) ?hp3_6 zq ?rp3_6
   case hp3_6 =>
    intro wS hSw
    subst hSw
    (try dsimp only at hSw)
    go_simp
    try with_reducible rfl
   refine tkJ 7 (v := ?vp3_7) ?hp3_7 zq ?rp3_7
   case hp3_7 =>
    intro wS hSw
    subst hSw
    (try dsimp only at hSw)
    go_simp
    try with_reducible rfl
   refine tkJ 8 (v := ?vp3_8) ?hp3_8 zq ?rp3_8
   case hp3_8 =>
    intro wS hSw
    subst hSw
    (try dsimp only at hSw)
    go_simp
    try with_reducible rfl
   refine tkJ 9 (v := ?vp3_9) ?hp3_9 zq ?rp3_9
   case hp3_9 =>
    intro wS hSw
    subst hSw
    (try dsimp only at hSw)
    go_simp
    try with_reducible rfl
   refine tkJ 10 (v := ?vp3_10) ?hp3_10 zq ?rp3_10
   case hp3_10 =>
    intro wS hSw
    subst hSw
    (try dsimp only at hSw)
    go_simp
    try with_reducible rfl
   refine tkJ 11 (v := ?vp3_11) ?hp3_11 zq ?rp3_11
   case hp3_11 =>
    intro wS hSw
    subst hSw
    (try dsimp only at hSw)
    go_simp
    try with_reducible rfl
   refine tkJ 12 (v := ?vp3_12) ?hp3_12 zq ?rp3_12
   case hp3_12 =>
    intro wS hSw
    subst hSw
    (try dsimp only at hSw)
    go_simp
    try with_reducible rfl
   refine tkJ 13 (v := ?vp3_13) ?hp3_13 zq ?rp3_13
   case hp3_13 =>
    intro wS hSw
    subst hSw
    (try dsimp only at hSw)
    go_simp
    try with_reducible rfl
   refine rdH 14 (fun K hK => ?_)
   go_simp
   go_at_call 64
   refine (uh L2 wD).mono ?_
   rintro e u1 ⟨rfl, h1⟩
   subst u1
   try go_wp2_with fail
   refine hK.out _ _ rfl (fun zq => ?_)
   clear hK K
   try simp only [Act.put, pz, py, px]
   refine tkJ 15 (v := ?vp3_15) ?hp3_15 zq ?rp3_15
   case hp3_15 =>
    intro wS hSw
    subst hSw
    (try dsimp only at hSw)
    go_simp
    try with_reducible rfl
   refine tkJ 16 (v := ?vp3_16) ?hp3_16 zq ?rp3_16
   case hp3_16 =>
    intro wS hSw
    subst hSw
    (try dsimp only at hSw)
    go_simp
    try with_reducible rfl
   refine tkJ 17 (v := ?vp3_17) ?hp3_17 zq ?rp3_17
   case hp3_17 =>
    intro wS hSw
    subst hSw
    (try dsimp only at hSw)
    go_simp
    try with_reducible rfl
   refine tkJ 18 (v := ?vp3_18) ?hp3_18 zq ?rp3_18
   case hp3_18 =>
    intro wS hSw
    subst hSw
    (try dsimp only at hSw)
    go_simp
    try with_reducible rfl
   refine tkJ 19 (v := ?vp3_19) ?hp3_19 zq ?rp3_19
   case hp3_19 =>
    intro wS hSw
    subst hSw
    (try dsimp only at hSw)
    go_simp
    try with_reducible rfl
   refine tkJ 20 (v := ?vp3_20) ?hp3_20 zq ?rp3_20
   case hp3_20 =>
    intro wS hSw
    subst hSw
    (try dsimp only at hSw)
    go_simp
    try with_reducible rfl
   refine tkJ 21 (v := ?vp3_21) ?hp3_21 zq ?rp3_21
   case hp3_21 =>
    intro wS hSw
    subst hSw
    (try dsimp only at hSw)
    go_simp
    try with_reducible rfl
   refine tkJ 22 (v := ?vp3_22) ?hp3_22 zq ?rp3_22
   case hp3_22 =>
    intro wS hSw
    subst hSw
    (try dsimp only at hSw)
    go_simp
    try with_reducible rfl
   refine tkJ 23 (v := ?vp3_23) ?hp3_23 zq ?rp3_23
   case hp3_23 =>
    intro wS hSw
    subst hSw
    (try dsimp only at hSw)
    go_simp
    try with_reducible rfl
   refine tkJ 24 (v := ?vp3_24) ?hp3_24 zq ?rp3_24
   case hp3_24 =>
    intro wS hSw
    subst hSw
    (try dsimp only at hSw)
    go_simp
    try with_reducible rfl
   refine tkJ 25 (v := ?vp3_25) ?hp3_25 zq ?rp3_25
   case hp3_25 =>
    intro wS hSw
    subst hSw
    (try dsimp only at hSw)
    go_simp
    try with_reducible rfl
   refine tkJ 26 (v := ?vp3_26) ?hp3_26 zq ?rp3_26
   case hp3_26 =>
    intro wS hSw
    subst hSw
    (try dsimp only at hSw)
    go_simp
    try with_reducible rfl
   refine tkJ 27 (v := ?vp3_27) ?hp3_27 zq ?rp3_27
   case hp3_27 =>
    intro wS hSw
    subst hSw
    (try dsimp only at hSw)
    go_simp
    try with_reducible rfl
   refine tkJ 28 (v := ?vp3_28) ?hp3_28 zq ?rp3_28
   case hp3_28 =>
    intro wS hSw
    subst hSw
    (try dsimp only at hSw)
    go_simp
    try with_reducible rfl
   refine tkJ 29 (v := ?vp3_29) ?hp3_29 zq ?rp3_29
   case hp3_29 =>
    intro wS hSw
    subst hSw
    (try dsimp only at hSw)
    go_simp
    try with_reducible rfl
   refine tkJ 30 (v := ?vp3_30) ?hp3_30 zq ?rp3_30
   case hp3_30 =>
    intro wS hSw
    subst hSw
    (try dsimp only at hSw)
    go_simp
    try with_reducible rfl
   refine tkJ 31 (v := ?vp3_31) ?hp3_31 zq ?rp3_31
   case hp3_31 =>
    intro wS hSw
    subst hSw
    (try dsimp only at hSw)
    go_simp
    try with_reducible rfl
   refine tkJ 32 (v := ?vp3_32) ?hp3_32 zq ?rp3_32
   case hp3_32 =>
    intro wS hSw
    subst hSw
    (try dsimp only at hSw)
    go_simp
    try with_reducible rfl
   refine tkJ 33 (v := ?vp3_33) ?hp3_33 zq ?rp3_33
   case hp3_33 =>
    intro wS hSw
    subst hSw
    (try dsimp only at hSw)
    go_simp
    try with_reducible rfl
   refine tkJ 34 (v := ?vp3_34) ?hp3_34 zq ?rp3_34
   case hp3_34 =>
    intro wS hSw
    subst hSw
    (try dsimp only at hSw)
    go_simp
    try with_reducible rfl
   refine rdH 35 (fun K hK => ?_)
   go_simp
   go_at_call 64
   refine (uh L3 wD).mono ?_
   rintro e u1 ⟨rfl, h1⟩
   subst u1
   try go_wp2_with fail
   refine hK.out _ _ rfl (fun zq => ?_)
   clear hK K
   try simp only [Act.put, pz, py, px]
   refine tkJ 36 (v := ?vp3_36) ?hp3_36 zq ?rp3_36
   case hp3_36 =>
    intro wS hSw
    subst hSw
    (try dsimp only at hSw)
    go_simp
    try with_reducible rfl
   refine tkJ 37 (v := ?vp3_37) ?hp3_37 zq ?rp3_37
   case hp3_37 =>
    intro wS hSw
    subst hSw
    (try dsimp only at hSw)
    go_simp
    try with_reducible rfl
   refine tkJ 38 (v := ?vp3_38) ?hp3_38 zq ?rp3_38
   case hp3_38 =>
    intro wS hSw
    subst hSw
    (try dsimp only at hSw)
    go_simp
    try with_reducible rfl
   refine skH 39 zq ?_
   refine skH 40 zq ?_
   refine skH 41 zq ?_
   refine skH 42 zq ?_
   refine skH 43 zq ?_
   refine tkJ 44 (v := ?vp3_44) ?hp3_44 zq ?rp3_44
   case hp3_44 =>
    intro wS hSw
    subst hSw
    (try dsimp only at hSw)
    go_simp
    try with_reducible rfl
   refine tkJ 45 (v := ?vp3_45) ?hp3_45 zq ?rp3_45
   case hp3_45 =>
    intro wS hSw
    subst hSw
    (try dsimp only at hSw)
    go_simp
    try with_reducible rfl
   refine wpAnyH_done (by kernel_rfl) ?_ _
   refine NoPanic.normal ?_
   clear zq
   go_wp2_with fail
   go_ret
   exact ⟨by rw [uh HP]; simp, uh HBD⟩
  go_wp2_with fail
  refine wp_region_noPanic ?_
  refine wp_region_held_drew (S := fun w' => w' = w.drew) (by kernel_rfl) rfl (fun zq => ?_)
  generalize w.drew = wD at zq y1 z0 z6 z7 z8 HBD ⊢
  refine tkJ 0 (v := ?vp4_0) ?hp4_0 zq ?rp4_0
  case hp4_0 =>
   intro wS hSw
   subst hSw
   (try dsimp only at hSw)
   go_simp
   try with_reducible rfl
  refine tkJ 1 (v := ?vp4_1) ?hp4_1 zq ?rp4_1
  case hp4_1 =>
   intro wS hSw
   subst hSw
   (try dsimp only at hSw)
   go_simp
   try with_reducible rfl
  refine tkJ 2 (v := ?vp4_2) ?hp4_2 zq ?rp4_2
  case hp4_2 =>
   intro wS hSw
   subst hSw
   (try dsimp only at hSw)
   go_simp
   try with_reducible rfl
  refine tkJ 3 (v := ?vp4_3) ?hp4_3 zq ?rp4_3
  case hp4_3 =>
   intro wS hSw
   subst hSw
   (try dsimp only at hSw)
   go_simp
   try with_reducible rfl
  refine rdH 4 (fun K hK => ?_)
  go_simp
  go_at_call 64
  refine (uh L1 wD).mono ?_
  rintro e u1 ⟨rfl, h1⟩
  subst u1
  try go_wp2_with fail
  refine hK.out _ _ rfl (fun zq => ?_)
  clear hK K
  try simp only [Act.put, pz, py, px]
  refine tkJ 5 (v := ?vp4_5) ?hp4_5 zq ?rp4_5
  case hp4_5 =>
   intro wS hSw
   subst hSw
   (try dsimp only at hSw)
   go_simp
   try with_reducible rfl
  refine tkJ 6 (v := ?vp4_6) ?hp4_6 zq ?rp4_6
  case hp4_6 =>
   intro wS hSw
   subst hSw
   (try dsimp only at hSw)
   go_simp
   try with_reducible rfl
  refine tkJ 7 (v := ?vp4_7) ?hp4_7 zq ?rp4_7
  case hp4_7 =>
   intro wS hSw
   subst hSw
   (try dsimp only at hSw)
   go_simp
   try with_reducible rfl
  refine tkJ 8 (v := ?vp4_8) ?hp4_8 zq ?rp4_8
  case hp4_8 =>
   intro wS hSw
   subst hSw
   (try dsimp only at hSw)
   go_simp
   try with_reducible rfl
  refine tkJ 9 (v := ?vp4_9) ?hp4_9 zq ?rp4_9
  case hp4_9 =>
   intro wS hSw
   subst hSw
   (try dsimp only at hSw)
   go_simp
   try with_reducible rfl
  refine tkJ 10 (v := ?vp4_10) ?hp4_10 zq ?rp4_10
  case hp4_10 =>
   intro wS hSw
   subst hSw
   (try dsimp only at hSw)
   go_simp
   try with_reducible rfl
  refine tkJ 11 (v := ?vp4_11) ?hp4_11 zq ?rp4_11
  case hp4_11 =>
   intro wS hSw
   subst hSw
   (try dsimp only at hSw)
   go_simp
   try with_reducible rfl
  refine tkJ 12 (v := ?vp4_12) ?hp4_12 zq ?rp4_12
  case hp4_12 =>
   intro wS hSw
   subst hSw
   (try dsimp only at hSw)
   go_simp
   try with_reducible rfl
  refine tkJ 13 (v := ?vp4_13) ?hp4_13 zq ?rp4_13
  case hp4_13 =>
   intro wS hSw
   subst hSw
   (try dsimp only at hSw)
   go_simp
   try with_reducible rfl
  refine rdH 14 (fun K hK => ?_)
  go_simp
  go_at_call 64
  refine (uh L2 wD).mono ?_
  rintro e u1 ⟨rfl, h1⟩
  subst u1
  try go_wp2_with fail
  refine hK.out _ _ rfl (fun zq => ?_)
  clear hK K
  try simp only [Act.put, pz, py, px]
  refine tkJ 15 (v := ?vp4_15) ?hp4_15 zq ?rp4_15
  case hp4_15 =>
   intro wS hSw
   subst hSw
   (try dsimp only at hSw)
   go_simp
   try with_reducible rfl
  refine tkJ 16 (v := ?vp4_16) ?hp4_16 zq ?rp4_16
  case hp4_16 =>
   intro wS hSw
   subst hSw
   (try dsimp only at hSw)
   go_simp
   try with_reducible rfl
  refine tkJ 17 (v := ?vp4_17) ?hp4_17 zq ?rp4_17
  case hp4_17 =>
   intro wS hSw
   subst hSw
   (try dsimp only at hSw)
   go_simp
   try with_reducible rfl
  refine tkJ 18 (v := ?vp4_18) ?hp4_18 zq ?rp4_18
  case hp4_18 =>
   intro wS hSw
   subst hSw
   (try dsimp only at hSw)
   go_simp
   try with_reducible rfl
  refine tkJ 19 (v := ?vp4_19) ?hp4_19 zq ?rp4_19
  case hp4_19 =>
   intro wS hSw
   subst hSw
   (try dsimp only at hSw)
   go_simp
   try with_reducible rfl
  refine tkJ 20 (v := ?vp4_20) ?hp4_20 zq ?rp4_20
  case hp4_20 =>
   intro wS hSw
   subst hSw
   (try dsimp only at hSw)
   go_simp
   try with_reducible rfl
  refine tkJ 21 (v := ?vp4_21) ?hp4_21 zq ?rp4_21
  case hp4_21 =>
   intro wS hSw
   subst hSw
   (try dsimp only at hSw)
   go_simp
   try with_reducible rfl
  refine tkJ 22 (v := ?vp4_22) ?hp4_22 zq ?rp4_22
  case hp4_22 =>
   intro wS hSw
   subst hSw
   (try dsimp only at hSw)
   go_simp
   try with_reducible rfl
  refine tkJ 23 (v := ?vp4_23) ?hp4_23 zq ?rp4_23
  case hp4_23 =>
   intro wS hSw
   subst hSw
   (try dsimp only at hSw)
   go_simp
   try with_reducible rfl
  refine tkJ 24 (v := ?vp4_24) ?hp4_24 zq ?rp4_24
  case hp4_24 =>
   intro wS hSw
   subst hSw
   (try dsimp only at hSw)
   go_simp
   try with_reducible rfl
  refine tkJ 25 (v := ?vp4_25) ?hp4_25 zq ?rp4_25
  case hp4_25 =>
   intro wS hSw
   subst hSw
   (try dsimp only at hSw)
   go_simp
   try with_reducible rfl
  refine tkJ 26 (v := ?vp4_26) ?hp4_26 zq ?rp4_26
  case hp4_26 =>
   intro wS hSw
   subst hSw
   (try dsimp only at hSw)
   go_simp
   try with_reducible rfl
  refine tkJ 27 (v := ?vp4_27) ?hp4_27 zq ?rp4_27
  case hp4_27 =>
   intro wS hSw
   subst hSw
   (try dsimp only at hSw)
   go_simp
   try with_reducible rfl
  refine tkJ 28 (v := ?vp4_28) ?hp4_28 zq ?rp4_28
  case hp4_28 =>
   intro wS hSw
   subst hSw
   (try dsimp only at hSw)
   go_simp
   try with_reducible rfl
  refine tkJ 29 (v := ?vp4_29) ?hp4_29 zq ?rp4_29
  case hp4_29 =>
   intro wS hSw
   subst hSw
   (try dsimp only at hSw)
   go_simp
   try with_reducible rfl
  refine tkJ 30 (v := ?vp4_30) ?hp4_30 zq ?rp4_30
  case hp4_30 =>
   intro wS hSw
   subst hSw
   (try dsimp only at hSw)
   go_simp
   try with_reducible rfl
  refine tkJ 31 (v := ?vp4_31) ?hp4_31 zq ?rp4_31
  case hp4_31 =>
   intro wS hSw
   subst hSw
   (try dsimp only at hSw)
   go_simp
   try with_reducible rfl
  refine tkJ 32 (v := ?vp4_32) ?hp4_32 zq ?rp4_32
  case hp4_32 =>
   intro wS hSw
   subst hSw
   (try dsimp only at hSw)
   go_simp
   try with_reducible rfl
  refine tkJ 33 (v := ?vp4_33) ?hp4_33 zq ?rp4_33
  case hp4_33 =>
   intro wS hSw
   subst hSw
   (try dsimp only at hSw)
   go_simp
   try with_reducible rfl
  refine tkJ 34 (v := ?vp4_34) ?hp4_34 zq ?rp4_34
  case hp4_34 =>
   intro wS hSw
   subst hSw
   (try dsimp only at hSw)
   go_simp
   try with_reducible rfl
  refine rdH 35 (fun K hK => ?_)
  go_simp
  go_at_call 64
  refine (uh L3 wD).mono ?_
  rintro e u1 ⟨rfl, h1⟩
  subst u1
  try go_wp2_with fail
  refine hK.out _ _ rfl (fun zq => ?_)
  clear hK K
  try simp only [Act.put, pz, py, px]
  refine tkJ 36 (v := ?vp4_36) ?hp4_36 zq ?rp4_36
  case hp4_36 =>
   intro wS hSw
   subst hSw
   (try dsimp only at hSw)
   go_simp
   try with_reducible rfl
  refine tkJ 37 (v := ?vp4_37) ?hp4_37 zq ?rp4_37
  case hp4_37 =>
   intro wS hSw
   subst hSw
   (try dsimp only at hSw)
   go_simp
   try with_reducible rfl
  refine tkJ 38 (v := ?vp4_38) ?hp4_38 zq ?rp4_38
  case hp4_38 =>
   intro wS hSw
   subst hSw
   (try dsimp only at hSw)
   go_simp
   try with_reducible rfl
  refine tkJ 39 (v := ?vp4_39) ?hp4_39 zq ?rp4_39
  case hp4_39 =>
   intro wS hSw
   subst hSw
   (try dsimp only at hSw)
   go_simp
   try with_reducible rfl
  refine tkJ 40 (v := ?vp4_40) ?hp4_40 zq ?rp4_40
  case hp4_40 =>
   intro wS hSw
   subst hSw
   (try dsimp only at hSw)
   go_simp
   try with_reducible rfl
  refine tkJ 41 (v := ?vp4_41) ?hp4_41 zq ?rp4_41
  case hp4_41 =>
   intro wS hSw
   subst hSw
   (try dsimp only at hSw)
   go_simp
   try with_reducible rfl
  refine tkJ 42 (v := ?vp4_42) ?hp4_42 zq ?rp4_42
  case hp4_42 =>
   intro wS hSw
   subst hSw
   (try dsimp only at hSw)
   go_simp
   try with_reducible rfl
  refine rdH 43 (fun K hK => ?_)
  go_simp
  go_at_call 64
  refine (uh L4 wD).mono ?_
  rintro e u1 ⟨rfl, h1⟩
  subst u1
  try go_wp2_with fail
  refine hK.out _ _ rfl (fun zq => ?_)
  clear hK K
  try simp only [Act.put, pz, py, px]
  refine tkJ 44 (v := ?vp4_44) ?hp4_44 zq ?rp4_44
  case hp4_44 =>
   intro wS hSw
   subst hSw
   (try dsimp only at hSw)
   go_simp
   try with_reducible rfl
  refine tkJ 45 (v := ?vp4_45) ?hp4_45 zq ?rp4_45
  case hp4_45 =>
   intro wS hSw
   subst hSw
   (try dsimp only at hSw)
   go_simp
   try with_reducible rfl
  refine wpAnyH_done (by kernel_rfl) ?_ _
  refine NoPanic.normal ?_
  clear zq
  go_wp2_with fail
  go_ret
  exact ⟨by rw [uh HP]; simp, uh HBD⟩
 go_wp2_with fail
 refine wp_region_noPanic ?_
 refine wp_region_held_drew (S := fun w' => w' = w.drew) (by kernel_rfl) rfl (fun zq => ?_)
 generalize w.drew = wD at zq y1 z0 z6 z7 z8 HBD ⊢
 refine tkJ 0 (v := ?vp5_0) ?hp5_0 zq ?rp5_0
 case hp5_0 =>
  intro wS hSw
  subst hSw
  (try dsimp only at hSw)
  go_simp
  try with_reducible rfl
 refine tkJ 1 (v := ?vp5_1) ?hp5_1 zq ?rp5_1
 case hp5_1 =>
  intro wS hSw
  subst hSw
  (try dsimp only at hSw)
  go_simp
  try with_reducible rfl
 refine tkJ 2 (v := ?vp5_2) ?hp5_2 zq ?rp5_2
 case hp5_2 =>
  intro wS hSw
  subst hSw
  (try dsimp only at hSw)
  go_simp
  try with_reducible rfl
 refine tkJ 3 (v := ?vp5_3) ?hp5_3 zq ?rp5_3
 case hp5_3 =>
  intro wS hSw
  subst hSw
  (try dsimp only at hSw)
  go_simp
  try with_reducible rfl
 refine rdH 4 (fun K hK => ?_)
 go_simp
 go_at_call 64
 refine (uh L1 wD).mono ?_
 rintro e u1 ⟨rfl, h1⟩
 subst u1
 try go_wp2_with fail
 refine hK.out _ _ rfl (fun zq => ?_)
 clear hK K
 try simp only [Act.put, pz, py, px]
 refine tkJ 5 (v := ?vp5_5) ?hp5_5 zq ?rp5_5
 case hp5_5 =>
  intro wS hSw
  subst hSw
  (try dsimp only at hSw)
  go_simp
  try with_reducible rfl
 refine tkJ 6 (v := ?vp5_6) ?hp5_6 zq ?rp5_6
 case hp5_6 =>
  intro wS hSw
  subst hSw
  (try dsimp only at hSw)
  go_simp
  try with_reducible rfl
 refine tkJ 7 (v := ?vp5_7) ?hp5_7 zq ?rp5_7
 case hp5_7 =>
  intro wS hSw
  subst hSw
  (try dsimp only at hSw)
  go_simp
  try with_reducible rfl
 refine tkJ 8 (v := ?vp5_8) ?hp5_8 zq ?rp5_8
 case hp5_8 =>
  intro wS hSw
  subst hSw
  (try dsimp only at hSw)
  go_simp
  try with_reducible rfl
 refine tkJ 9 (v := ?vp5_9) ?hp5_9 zq ?rp5_9
 case hp5_9 =>
  intro wS hSw
  subst hSw
  (try dsimp only at hSw)
  go_simp
  try with_reducible rfl
 refine tkJ 10 (v := ?vp5_10) ?hp5_10 zq ?rp5_10
 case hp5_10 =>
  intro wS hSw
  subst hSw
  (try dsimp only at hSw)
  go_simp
  try with_reducible rfl
 refine tkJ 11 (v := ?vp5_11) ?hp5_11 zq ?rp5_11
 case hp5_11 =>
  intro wS hSw
  subst hSw
  (try dsimp only at hSw)
  go_simp
  try with_reducible rfl
 refine tkJ 12 (v := ?vp5_12) ?hp5_12 zq ?rp5_12
 case hp5_12 =>
  intro wS hSw
  subst hSw
  (try dsimp only at hSw)
  go_simp
  try with_reducible rfl
 refine tkJ 13 (v := ?vp5_13) ?hp5_13 zq ?rp5_13
 case hp5_13 =>
  intro wS hSw
  subst hSw
  (try dsimp only at hSw)
  go_simp
  try with_reducible rfl
 refine rdH 14 (fun K hK => ?_)
 go_simp
 go_at_call 64
 refine (uh L2 wD).mono ?_
 rintro e u1 ⟨rfl, h1⟩
 subst u1
 try go_wp2_with fail
 refine hK.out _ _ rfl (fun zq => ?_)
 clear hK K
 try simp only [Act.put, pz, py, px]
 refine tkJ 15 (v := ?vp5_15) ?hp5_15 zq ?rp5_15
 case hp5_15 =>
  intro wS hSw
  subst hSw
  (try dsimp only at hSw)
  go_simp
  try with_reducible rfl
 refine tkJ 16 (v := ?vp5_16) ?hp5_16 zq ?rp5_16
 case hp5_16 =>
  intro wS hSw
  subst hSw
  (try dsimp only at hSw)
  go_simp
  try with_reducible rfl
 refine tkJ 17 (v := ?vp5_17) ?hp5_17 zq ?rp5_17
 case hp5_17 =>
  intro wS hSw
  subst hSw
  (try dsimp only at hSw)
  go_simp
  try with_reducible rfl
 refine tkJ 18 (v := ?vp5_18) ?hp5_18 zq ?rp5_18
 case hp5_18 =>
  intro wS hSw
  subst hSw
  (try dsimp only at hSw)
  go_simp
  try with_reducible rfl
 refine tkJ 19 (v := ?vp5_19) ?hp5_19 zq ?rp5_19
 case hp5_19 =>
  intro wS hSw
  subst hSw
  (try dsimp only at hSw)
  go_simp
  try with_reducible rfl
 refine tkJ 20 (v := ?vp5_20) ?hp5_20 zq ?rp5_20
 case hp5_20 =>
  intro wS hSw
  subst hSw
  (try dsimp only at hSw)
  go_simp
  try with_reducible rfl
 refine tkJ 21 (v := ?vp5_21) ?hp5_21 zq ?rp5_21
 case hp5_21 =>
  intro wS hSw
  subst hSw
  (try dsimp only at hSw)
  go_simp
  try with_reducible rfl
 refine tkJ 22 (v := ?vp5_22) ?hp5_22 zq ?rp5_22
 case hp5_22 =>
  intro wS hSw
  subst hSw
  (try dsimp only at hSw)
  go_simp
  try with_reducible rfl
 refine skH 23 zq ?_
 refine skH 24 zq ?_
 refine skH 25 zq ?_
 refine skH 26 zq ?_
 refine skH 27 zq ?_
 refine skH 28 zq ?_
 refine skH 29 zq ?_
 refine skH 30 zq ?_
 refine skH 31 zq ?_
 refine skH 32 zq ?_
 refine skH 33 zq ?_
 refine skH 34 zq ?_
 refine skH 35 zq ?_
 refine tkJ 36 (v := ?vp5_36) ?hp5_36 zq ?rp5_36
 case hp5_36 =>
  intro wS hSw
  subst hSw
  (try dsimp only at hSw)
  go_simp
  try with_reducible rfl
 refine tkJ 37 (v := ?vp5_37) ?hp5_37 zq ?rp5_37
 case hp5_37 =>
  intro wS hSw
  subst hSw
  (try dsimp only at hSw)
  go_simp
  try with_reducible rfl
 refine tkJ 38 (v := ?vp5_38) ?hp5_38 zq ?rp5_38
 case hp5_38 =>
  intro wS hSw
  subst hSw
  (try dsimp only at hSw)
  go_simp
  try with_reducible rfl
 refine tkJ 39 (v := ?vp5_39) ?hp5_39 zq ?rp5_39
 case hp5_39 =>
  intro wS hSw
  subst hSw
  (try dsimp only at hSw)
  go_simp
  try with_reducible rfl
 refine tkJ 40 (v := ?vp5_40) ?hp5_40 zq ?rp5_40
 case hp5_40 =>
  intro wS hSw
  subst hSw
  (try dsimp only at hSw)
  go_simp
  try with_reducible rfl
 refine tkJ 41 (v := ?vp5_41) ?hp5_41 zq ?rp5_41
 case hp5_41 =>
  intro wS hSw
  subst hSw
  (try dsimp only at hSw)
  go_simp
  try with_reducible rfl
 refine tkJ 42 (v := ?vp5_42) ?hp5_42 zq ?rp5_42
 case hp5_42 =>
  intro wS hSw
  subst hSw
  (try dsimp only at hSw)
  go_simp
  try with_reducible rfl
 refine rdH 43 (fun K hK => ?_)
 go_simp
 go_at_call 64
 refine (uh L4 wD).mono ?_
 rintro e u1 ⟨rfl, h1⟩
 subst u1
 try go_wp2_with fail
 refine hK.out _ _ rfl (fun zq => ?_)
 clear hK K
 try simp only [Act.put, pz, py, px]
 refine tkJ 44 (v := ?vp5_44) ?hp5_44 zq ?rp5_44
 case hp5_44 =>
  intro wS hSw
  subst hSw
  (try dsimp only at hSw)
  go_simp
  try with_reducible rfl
 refine tkJ 45 (v := ?vp5_45) ?hp5_45 zq ?rp5_45
 case hp5_45 =>
  intro wS hSw
  subst hSw
  (try dsimp only at hSw)
  go_simp
  try with_reducible rfl
 refine wpAnyH_done (by kernel_rfl) ?_ _
 refine NoPanic.normal ?_
 clear zq
 go_wp2_with fail
 go_ret
 exact ⟨by rw [uh HP]; simp, uh HBD⟩
end Go.Proofs.YtoanimpijfijgaaGreat
