/-
  Texts of this proof in one: ImplWrF, ImplMsgF, ImplFaced, ImplNetF, ImplSameM, ImplClone, CloneC.
  Their conditions stand in their theorems.
-/
import Derived.Test.YtkmfkaljdngigaaDm06
import Derived.Deep.CutRange
import Derived.Defers
import Derived.Recover
import Derived.Laws.Pointers
import Derived.Test.YtkmfkaljdngigaaChecked
import Derived.Test.YtkmfkaljdngigaaDm04
import Derived.Test.YtkmfkaljdngigaaDm01
import Derived.WalkKit
import Derived.BigQuiet
import Derived.Deep.QuietTactic
import Derived.WalkSmall

namespace Go.Proofs.Ytkmfkaljdngigaa
open Go.RowKit

/-- WriteFault of the program. -/
theorem implWriteFault (k i : Int) (v : Value) (s q : Int) (zs : List Int) (w : World) (h : IsInts w v zs) :
    Calls Try.prog 65 #[.agg #[.int .i64 k, .int .i64 i, v, .int .i64 s, .int .i64 q]] w fun e w' => e = .returned (.int .i64 (writeFault k i zs s q)) ∧ Below w.heap.size w w' := by
  have h' := h
  obtain ⟨ao, cap, rfl, -⟩ := h'
  have B0 : Below w.heap.size w (w.alloc (.cells #[.int .i64 k, .int .i64 i, .slice ao zs.length cap, .int .i64 s, .int .i64 q] 29)) := (Below.refl _ _).alloc (Nat.le_refl _) _
  have L := hide (implDeed k i (.slice ao zs.length cap) s q zs _ (h.later B0))
  have HB := hide B0
  clear B0 h
  go_enter Try.func65, Try.ntmps65
  go_wp2_with fail
  refine (unhide L).mono ?_
  rintro e w1 ⟨rfl, hb1⟩
  have HB1 := hide ((unhide HB).trans (hb1.mono (unhide HB).size))
  clear hb1 HB L
  go_wp2_with fail
  go_ret
  exact ⟨rfl, unhide HB1⟩

end Go.Proofs.Ytkmfkaljdngigaa

namespace Go.Proofs.Ytkmfkaljdngigaa
open Go.RowKit

theorem isChainEpochC (n : Int) (w : World) :
    Calls Try.prog 62 #[.int .i64 n] w fun e w' => e = .returned (.bool (decide (1 ≤ n) && decide (n ≤ 999))) ∧ w' = w := by
  by_cases h1 : 1 ≤ n
  · have d1 : decide (1 ≤ n) = true := by simpa using h1
    rw [d1]
    cases d2 : decide (n ≤ 999) <;>
    · go_enter Try.func62, Try.ntmps62
      go_wp2_with fail
      go_ret
      exact ⟨rfl, rfl⟩
  · have d1 : decide (1 ≤ n) = false := by simpa using h1
    rw [d1]
    go_enter Try.func62, Try.ntmps62
    go_wp2_with fail
    go_ret
    exact ⟨rfl, rfl⟩
/-- Whether an index fits a message. -/
def idxB (x : DMsg) : Bool := (decide (0 ≤ x.index) && decide (x.index ≤ 40)) && (x.kind == 2 || decide (0 < x.index))
set_option maxRecDepth 10000 in
theorem isMsgIndexC (a : Option Addr) (d : Nat) (x : DMsg) (w : World) :
    Calls Try.prog 64 #[.agg #[.int .i64 x.kind, .int .i64 x.epoch, .int .i64 x.src, .int .i64 x.dst, .int .i64 x.index, .int .i64 x.write.kind, .int .i64 x.write.id, .slice a x.write.vec.length d, .int .i64 x.write.session, .int .i64 x.write.seq]] w fun e w' => e = .returned (.bool (idxB x)) ∧ Below w.heap.size w w' := by
  have HB : Hid (Below w.heap.size w (w.alloc (.cells #[.int .i64 x.kind, .int .i64 x.epoch, .int .i64 x.src, .int .i64 x.dst, .int .i64 x.index, .int .i64 x.write.kind, .int .i64 x.write.id, .slice a x.write.vec.length d, .int .i64 x.write.session, .int .i64 x.write.seq] 31))) := (Below.refl _ _).alloc (Nat.le_refl _) _
  have L := hide (isUpToC x.index 40 (w.alloc (.cells #[.int .i64 x.kind, .int .i64 x.epoch, .int .i64 x.src, .int .i64 x.dst, .int .i64 x.index, .int .i64 x.write.kind, .int .i64 x.write.id, .slice a x.write.vec.length d, .int .i64 x.write.session, .int .i64 x.write.seq] 31)))
  cases d1 : (decide (0 ≤ x.index) && decide (x.index ≤ 40))
  · have HI : Hid (idxB x = false) := by show idxB x = false; rw [idxB, d1]; rfl
    rw [d1] at L
    clear d1
    go_enter Try.func64, Try.ntmps64
    go_wp2_with fail
    refine (unhide L).mono ?_
    rintro e w1 ⟨rfl, h1⟩
    subst w1
    clear L
    go_wp2_with fail
    go_ret
    exact ⟨by rw [unhide HI]; rfl, unhide HB⟩
  · rw [d1] at L
    cases d2 : (x.kind == 2)
    · have HI : Hid (idxB x = decide (0 < x.index)) := by show idxB x = _; rw [idxB, d1, d2]; rfl
      clear d1
      go_enter Try.func64, Try.ntmps64
      go_wp2_with fail
      refine (unhide L).mono ?_
      rintro e w1 ⟨rfl, h1⟩
      subst w1
      clear L
      go_wp2_with fail
      go_ret
      exact ⟨by rw [unhide HI]; rfl, unhide HB⟩
    · have HI : Hid (idxB x = true) := by show idxB x = _; rw [idxB, d1, d2]; rfl
      clear d1
      go_enter Try.func64, Try.ntmps64
      go_wp2_with fail
      refine (unhide L).mono ?_
      rintro e w1 ⟨rfl, h1⟩
      subst w1
      clear L
      go_wp2_with fail
      go_ret
      exact ⟨by rw [unhide HI]; rfl, unhide HB⟩

def zeroW : DWrite := ⟨0, 0, [], 0, 0⟩
theorem sameW_zero (y : DWrite) : sameW y zeroW = true ↔ noW y := by
  constructor
  · intro h
    simp only [sameW, zeroW, Bool.and_eq_true, beq_iff_eq] at h
    exact ⟨h.1, h.2.1, h.2.2.1, h.2.2.2.1, by rw [of_decide_eq_true h.2.2.2.2]; rfl⟩
  · rintro ⟨h1, h2, h3, h4, h5⟩
    have h6 : y.vec = [] := List.eq_nil_of_length_eq_zero h5
    simp only [sameW, zeroW, Bool.and_eq_true, beq_iff_eq]
    exact ⟨h1, h2, h3, h4, decide_eq_true h6⟩
theorem zeroW_reads (w : World) : Lay.tWrite.Reads w [.int .i64 0, .int .i64 0, .slice none 0 0, .int .i64 0, .int .i64 0] zeroW :=
  ⟨[], lies_Write.2 ⟨none, 0, [], rfl, rfl, by decide, by decide, ⟨none, 0, rfl, ⟨by simp [zeroW], by simp [zeroW]⟩, Or.inl ⟨rfl, rfl⟩⟩, by decide, by decide⟩⟩

/-! What comes first. -/
theorem mfi_kind {x : DMsg} (h : (x.kind == 1) = false) (h2 : (x.kind == 2) = false) : msgFault x = 1 := by
  have h1 : ¬ x.kind = 1 := by simpa using h
  have h3 : ¬ x.kind = 2 := by simpa using h2
  rw [msgFault, if_pos (Or.inl (by omega))]
theorem mfi_self {x : DMsg} (h : (x.src != x.dst) = false) : msgFault x = 1 := by
  rw [msgFault, if_pos (Or.inr (Or.inl (by simpa using h)))]
theorem mfi_ack {x : DMsg} (h : (x.kind == 2) = true) (h2 : sameW x.write zeroW = false) : msgFault x = 1 := by
  rw [msgFault, if_pos (Or.inr (Or.inr ⟨by simpa using h, fun q => by rw [(sameW_zero _).2 q] at h2; simp at h2⟩))]
/-- The form is right. -/
def formM (x : DMsg) : Prop := (1 ≤ x.kind ∧ x.kind ≤ 2) ∧ x.src ≠ x.dst ∧ (x.kind = 2 → noW x.write)
theorem mfi_form {x : DMsg} (h : formM x) : msgFault x = if ¬ (1 ≤ x.epoch ∧ x.epoch ≤ 999) ∨ ¬ (1 ≤ x.src ∧ x.src ≤ 5) ∨ ¬ (1 ≤ x.dst ∧ x.dst ≤ 5) ∨ ¬ (0 ≤ x.index ∧ x.index ≤ 40) ∨ (x.kind ≠ 2 ∧ x.index = 0) then 3
  else if x.kind = 2 then 0 else wF x.write := by
  rw [msgFault, if_neg]
  rintro (h1 | h1 | h1)
  · exact h1 h.1
  · exact h.2.1 h1
  · exact h1.2 (h.2.2 h1.1)
theorem mfi_epoch {x : DMsg} (h : formM x) (h2 : (decide (1 ≤ x.epoch) && decide (x.epoch ≤ 999)) = false) : msgFault x = 3 := by
  rw [mfi_form h, if_pos (Or.inl fun q => by simp at h2; omega)]
theorem mfi_src {x : DMsg} (h : formM x) (h2 : (decide (1 ≤ x.src) && decide (x.src ≤ 5)) = false) : msgFault x = 3 := by
  rw [mfi_form h, if_pos (Or.inr (Or.inl fun q => by simp at h2; omega))]
theorem mfi_dst {x : DMsg} (h : formM x) (h2 : (decide (1 ≤ x.dst) && decide (x.dst ≤ 5)) = false) : msgFault x = 3 := by
  rw [mfi_form h, if_pos (Or.inr (Or.inr (Or.inl fun q => by simp at h2; omega)))]
theorem mfi_idx {x : DMsg} (h : formM x) (h2 : idxB x = false) : msgFault x = 3 := by
  rw [mfi_form h, if_pos]
  have : ¬ (0 ≤ x.index ∧ x.index ≤ 40) ∨ (x.kind ≠ 2 ∧ x.index = 0) := by
    refine Decidable.byContradiction fun q => ?_
    rw [idxB] at h2
    have q1 : 0 ≤ x.index ∧ x.index ≤ 40 := Decidable.byContradiction fun z => q (Or.inl z)
    rw [decide_eq_true q1.1, decide_eq_true q1.2] at h2
    simp at h2
    exact q (Or.inr ⟨h2.1, by omega⟩)
  exact Or.inr (Or.inr (Or.inr this))
theorem mfi_rest {x : DMsg} (h : formM x) (h1 : (decide (1 ≤ x.epoch) && decide (x.epoch ≤ 999)) = true) (h2 : (decide (1 ≤ x.src) && decide (x.src ≤ 5)) = true) (h3 : (decide (1 ≤ x.dst) && decide (x.dst ≤ 5)) = true) (h4 : idxB x = true) : msgFault x = if x.kind = 2 then 0 else wF x.write := by
  simp only [Bool.and_eq_true, decide_eq_true_eq] at h1 h2 h3
  simp only [idxB, Bool.and_eq_true, Bool.or_eq_true, decide_eq_true_eq, beq_iff_eq] at h4
  rw [mfi_form h, if_neg]
  rintro (q | q | q | q | q)
  · exact q h1
  · exact q h2
  · exact q h3
  · exact q h4.1
  · rcases h4.2 with z | z
    · exact q.1 z
    · omega
theorem vec_of {w : World} {x : DWrite} {a : Option Addr} {d : Nat} (h : Lay.tWrite.Reads w [.int .i64 x.kind, .int .i64 x.id, .slice a x.vec.length d, .int .i64 x.session, .int .i64 x.seq] x) : (Lay.sl Lay.int).Reads w [.slice a x.vec.length d] x.vec := by
  obtain ⟨a2, d2, e, R⟩ := open_Write h
  simp only [List.cons.injEq, Value.slice.injEq, and_true, true_and] at e
  obtain ⟨rfl, rfl⟩ := e
  exact R
set_option maxRecDepth 10000 in
set_option maxHeartbeats 4000000 in
theorem mustBeMsgC (cs : List Value) (x : DMsg) (w : World) (h : Lay.tMsg.Reads w cs x) :
    Calls Try.prog 35 #[.agg cs.toArray] w fun e w' => e = wrongE (msgFault x) ∧ Below w.heap.size w w' := by
  obtain ⟨a, d, rfl, R⟩ := open_Msg h
  have nb : Below w.heap.size w (w.alloc (.cells #[.int .i64 x.kind, .int .i64 x.epoch, .int .i64 x.src, .int .i64 x.dst, .int .i64 x.index, .int .i64 x.write.kind, .int .i64 x.write.id, .slice a x.write.vec.length d, .int .i64 x.write.session, .int .i64 x.write.seq] 31)) := (Below.refl _ _).alloc (Nat.le_refl _) _
  have HR := hide (R.later nb)
  have HB := hide nb
  have HX : Hid (Box 0 #[.int .i64 x.kind, .int .i64 x.epoch, .int .i64 x.src, .int .i64 x.dst, .int .i64 x.index, .int .i64 x.write.kind, .int .i64 x.write.id, .slice a x.write.vec.length d, .int .i64 x.write.session, .int .i64 x.write.seq] 31 (w.alloc (.cells #[.int .i64 x.kind, .int .i64 x.epoch, .int .i64 x.src, .int .i64 x.dst, .int .i64 x.index, .int .i64 x.write.kind, .int .i64 x.write.id, .slice a x.write.vec.length d, .int .i64 x.write.session, .int .i64 x.write.seq] 31)) w.heap.size) := newBox (Nat.zero_le _)
  clear R h nb
  go_enter Try.func35, Try.ntmps35
  go_upto_region 1 with fail
  generalize (w.alloc (.cells #[.int .i64 x.kind, .int .i64 x.epoch, .int .i64 x.src, .int .i64 x.dst, .int .i64 x.index, .int .i64 x.write.kind, .int .i64 x.write.id, .slice a x.write.vec.length d, .int .i64 x.write.session, .int .i64 x.write.seq] 31)) = W1 at *
  have z0 : W1.cell? ⟨w.heap.size, 0, none⟩ = some (.int .i64 x.kind) := (unhide HX).at 0 _ rfl
  have z1 : W1.cell? ⟨w.heap.size, 1, none⟩ = some (.int .i64 x.epoch) := (unhide HX).at 1 _ rfl
  have z2 : W1.cell? ⟨w.heap.size, 2, none⟩ = some (.int .i64 x.src) := (unhide HX).at 2 _ rfl
  have z3 : W1.cell? ⟨w.heap.size, 3, none⟩ = some (.int .i64 x.dst) := (unhide HX).at 3 _ rfl
  have z4 : W1.cell? ⟨w.heap.size, 4, none⟩ = some (.int .i64 x.index) := (unhide HX).at 4 _ rfl
  have z5 : W1.cell? ⟨w.heap.size, 5, none⟩ = some (.int .i64 x.write.kind) := (unhide HX).at 5 _ rfl
  have z6 : W1.cell? ⟨w.heap.size, 6, none⟩ = some (.int .i64 x.write.id) := (unhide HX).at 6 _ rfl
  have z7 : W1.cell? ⟨w.heap.size, 7, none⟩ = some (.slice a x.write.vec.length d) := (unhide HX).at 7 _ rfl
  have z8 : W1.cell? ⟨w.heap.size, 8, none⟩ = some (.int .i64 x.write.session) := (unhide HX).at 8 _ rfl
  have z9 : W1.cell? ⟨w.heap.size, 9, none⟩ = some (.int .i64 x.write.seq) := (unhide HX).at 9 _ rfl
  cases e1 : (x.kind == 1)
  · cases e2 : (x.kind == 2)
    · have HF := hide (mfi_kind e1 e2)
      go_wp2_with fail
      refine (mustF 1 _).mono ?_
      rintro e w9 ⟨rfl, h9⟩
      subst w9
      go_wp2_with fail
      exact ⟨rfl, by rw [unhide HF]; rfl, unhide HB⟩
    · go_wp2_with fail
      refine (mustT 1 _).mono ?_
      rintro e w9 ⟨rfl, h9⟩
      subst w9
      cases e3 : (x.src != x.dst)
      · have HF := hide (mfi_self e3)
        go_wp2_with fail
        refine (mustF 1 _).mono ?_
        rintro e w9 ⟨rfl, h9⟩
        subst w9
        go_wp2_with fail
        exact ⟨rfl, by rw [unhide HF]; rfl, unhide HB⟩
      · go_wp2_with fail
        refine (mustT 1 _).mono ?_
        rintro e w9 ⟨rfl, h9⟩
        subst w9
        have HL := hide (sameWrite _ _ x.write zeroW W1 (unhide HR) (zeroW_reads W1))
        go_wp2_with fail
        refine (unhide HL).mono ?_
        rintro e Wa ⟨rfl, hb⟩
        replace HX := hide ((unhide HX).keep hb)
        replace HR := hide ((unhide HR).later hb)
        replace HB := hide ((unhide HB).trans (hb.mono (unhide HB).size))
        clear hb z0 z1 z2 z3 z4 z5 z6 z7 z8 z9
        have z0 : Wa.cell? ⟨w.heap.size, 0, none⟩ = some (.int .i64 x.kind) := (unhide HX).at 0 _ rfl
        have z1 : Wa.cell? ⟨w.heap.size, 1, none⟩ = some (.int .i64 x.epoch) := (unhide HX).at 1 _ rfl
        have z2 : Wa.cell? ⟨w.heap.size, 2, none⟩ = some (.int .i64 x.src) := (unhide HX).at 2 _ rfl
        have z3 : Wa.cell? ⟨w.heap.size, 3, none⟩ = some (.int .i64 x.dst) := (unhide HX).at 3 _ rfl
        have z4 : Wa.cell? ⟨w.heap.size, 4, none⟩ = some (.int .i64 x.index) := (unhide HX).at 4 _ rfl
        have z5 : Wa.cell? ⟨w.heap.size, 5, none⟩ = some (.int .i64 x.write.kind) := (unhide HX).at 5 _ rfl
        have z6 : Wa.cell? ⟨w.heap.size, 6, none⟩ = some (.int .i64 x.write.id) := (unhide HX).at 6 _ rfl
        have z7 : Wa.cell? ⟨w.heap.size, 7, none⟩ = some (.slice a x.write.vec.length d) := (unhide HX).at 7 _ rfl
        have z8 : Wa.cell? ⟨w.heap.size, 8, none⟩ = some (.int .i64 x.write.session) := (unhide HX).at 8 _ rfl
        have z9 : Wa.cell? ⟨w.heap.size, 9, none⟩ = some (.int .i64 x.write.seq) := (unhide HX).at 9 _ rfl
        clear HL
        cases e9 : sameW x.write zeroW
        · have HF := hide (mfi_ack e2 e9)
          clear e9
          go_wp2_with fail
          refine (mustF 1 _).mono ?_
          rintro e w9 ⟨rfl, h9⟩
          subst w9
          go_wp2_with fail
          exact ⟨rfl, by rw [unhide HF]; rfl, unhide HB⟩
        · have HFM : Hid (formM x) := ⟨by simp at e2; omega, by simpa using e3, fun _ => (sameW_zero _).1 e9⟩
          clear e9
          go_wp2_with fail
          refine (mustT 1 _).mono ?_
          rintro e w9 ⟨rfl, h9⟩
          subst w9
          cases e4 : (decide (1 ≤ x.epoch) && decide (x.epoch ≤ 999))
          · have HL := hide (isChainEpochC x.epoch Wa)
            rw [e4] at HL
            have HF := hide (mfi_epoch (unhide HFM) e4)
            clear e4
            go_wp2_with fail
            refine (unhide HL).mono ?_
            rintro e w9 ⟨rfl, h9⟩
            subst w9
            clear HL
            go_wp2_with fail
            refine (mustF 3 _).mono ?_
            rintro e w9 ⟨rfl, h9⟩
            subst w9
            go_wp2_with fail
            exact ⟨rfl, by rw [unhide HF]; rfl, unhide HB⟩
          · have HL := hide (isChainEpochC x.epoch Wa)
            rw [e4] at HL
            have HE := hide e4
            clear e4
            go_wp2_with fail
            refine (unhide HL).mono ?_
            rintro e w9 ⟨rfl, h9⟩
            subst w9
            clear HL
            go_wp2_with fail
            refine (mustT 3 _).mono ?_
            rintro e w9 ⟨rfl, h9⟩
            subst w9
            cases e5 : (decide (1 ≤ x.src) && decide (x.src ≤ 5))
            · have HL := hide (isNodeIdC x.src Wa)
              rw [e5] at HL
              have HF := hide (mfi_src (unhide HFM) e5)
              clear e5
              go_wp2_with fail
              refine (unhide HL).mono ?_
              rintro e w9 ⟨rfl, h9⟩
              subst w9
              clear HL
              go_wp2_with fail
              refine (mustF 3 _).mono ?_
              rintro e w9 ⟨rfl, h9⟩
              subst w9
              go_wp2_with fail
              exact ⟨rfl, by rw [unhide HF]; rfl, unhide HB⟩
            · have HL := hide (isNodeIdC x.src Wa)
              rw [e5] at HL
              have HS := hide e5
              clear e5
              go_wp2_with fail
              refine (unhide HL).mono ?_
              rintro e w9 ⟨rfl, h9⟩
              subst w9
              clear HL
              cases e6 : (decide (1 ≤ x.dst) && decide (x.dst ≤ 5))
              · have HL := hide (isNodeIdC x.dst Wa)
                rw [e6] at HL
                have HF := hide (mfi_dst (unhide HFM) e6)
                clear e6
                go_wp2_with fail
                refine (unhide HL).mono ?_
                rintro e w9 ⟨rfl, h9⟩
                subst w9
                clear HL
                go_wp2_with fail
                refine (mustF 3 _).mono ?_
                rintro e w9 ⟨rfl, h9⟩
                subst w9
                go_wp2_with fail
                exact ⟨rfl, by rw [unhide HF]; rfl, unhide HB⟩
              · have HL := hide (isNodeIdC x.dst Wa)
                rw [e6] at HL
                have HD := hide e6
                clear e6
                go_wp2_with fail
                refine (unhide HL).mono ?_
                rintro e w9 ⟨rfl, h9⟩
                subst w9
                clear HL
                go_wp2_with fail
                refine (mustT 3 _).mono ?_
                rintro e w9 ⟨rfl, h9⟩
                subst w9
                have HL := hide (isMsgIndexC a d x Wa)
                go_wp2_with fail
                refine (unhide HL).mono ?_
                rintro e W2 ⟨rfl, hb⟩
                replace HX := hide ((unhide HX).keep hb)
                replace HR := hide ((unhide HR).later hb)
                replace HB := hide ((unhide HB).trans (hb.mono (unhide HB).size))
                clear hb z0 z1 z2 z3 z4 z5 z6 z7 z8 z9
                have z0 : W2.cell? ⟨w.heap.size, 0, none⟩ = some (.int .i64 x.kind) := (unhide HX).at 0 _ rfl
                have z1 : W2.cell? ⟨w.heap.size, 1, none⟩ = some (.int .i64 x.epoch) := (unhide HX).at 1 _ rfl
                have z2 : W2.cell? ⟨w.heap.size, 2, none⟩ = some (.int .i64 x.src) := (unhide HX).at 2 _ rfl
                have z3 : W2.cell? ⟨w.heap.size, 3, none⟩ = some (.int .i64 x.dst) := (unhide HX).at 3 _ rfl
                have z4 : W2.cell? ⟨w.heap.size, 4, none⟩ = some (.int .i64 x.index) := (unhide HX).at 4 _ rfl
                have z5 : W2.cell? ⟨w.heap.size, 5, none⟩ = some (.int .i64 x.write.kind) := (unhide HX).at 5 _ rfl
                have z6 : W2.cell? ⟨w.heap.size, 6, none⟩ = some (.int .i64 x.write.id) := (unhide HX).at 6 _ rfl
                have z7 : W2.cell? ⟨w.heap.size, 7, none⟩ = some (.slice a x.write.vec.length d) := (unhide HX).at 7 _ rfl
                have z8 : W2.cell? ⟨w.heap.size, 8, none⟩ = some (.int .i64 x.write.session) := (unhide HX).at 8 _ rfl
                have z9 : W2.cell? ⟨w.heap.size, 9, none⟩ = some (.int .i64 x.write.seq) := (unhide HX).at 9 _ rfl
                clear HL
                cases e7 : idxB x
                · have HF := hide (mfi_idx (unhide HFM) e7)
                  clear e7
                  go_wp2_with fail
                  refine (mustF 3 _).mono ?_
                  rintro e w9 ⟨rfl, h9⟩
                  subst w9
                  go_wp2_with fail
                  exact ⟨rfl, by rw [unhide HF]; rfl, unhide HB⟩
                · have HF := hide (mfi_rest (unhide HFM) (unhide HE) (unhide HS) (unhide HD) e7)
                  clear e7
                  go_wp2_with fail
                  refine (mustT 3 _).mono ?_
                  rintro e w9 ⟨rfl, h9⟩
                  subst w9
                  replace HF := hide ((unhide HF).trans (if_pos (by simpa using e2)))
                  go_wp2_with fail
                  go_end0
                  exact ⟨by rw [unhide HF]; rfl, unhide HB⟩
  · go_wp2_with fail
    refine (mustT 1 _).mono ?_
    rintro e w9 ⟨rfl, h9⟩
    subst w9
    cases e3 : (x.src != x.dst)
    · have HF := hide (mfi_self e3)
      go_wp2_with fail
      refine (mustF 1 _).mono ?_
      rintro e w9 ⟨rfl, h9⟩
      subst w9
      go_wp2_with fail
      exact ⟨rfl, by rw [unhide HF]; rfl, unhide HB⟩
    · have HFM : Hid (formM x) := ⟨by simp at e1; omega, by simpa using e3, fun q => by simp at e1; omega⟩
      go_wp2_with fail
      refine (mustT 1 _).mono ?_
      rintro e w9 ⟨rfl, h9⟩
      subst w9
      go_wp2_with fail
      refine (mustT 1 _).mono ?_
      rintro e w9 ⟨rfl, h9⟩
      subst w9
      cases e4 : (decide (1 ≤ x.epoch) && decide (x.epoch ≤ 999))
      · have HL := hide (isChainEpochC x.epoch W1)
        rw [e4] at HL
        have HF := hide (mfi_epoch (unhide HFM) e4)
        clear e4
        go_wp2_with fail
        refine (unhide HL).mono ?_
        rintro e w9 ⟨rfl, h9⟩
        subst w9
        clear HL
        go_wp2_with fail
        refine (mustF 3 _).mono ?_
        rintro e w9 ⟨rfl, h9⟩
        subst w9
        go_wp2_with fail
        exact ⟨rfl, by rw [unhide HF]; rfl, unhide HB⟩
      · have HL := hide (isChainEpochC x.epoch W1)
        rw [e4] at HL
        have HE := hide e4
        clear e4
        go_wp2_with fail
        refine (unhide HL).mono ?_
        rintro e w9 ⟨rfl, h9⟩
        subst w9
        clear HL
        go_wp2_with fail
        refine (mustT 3 _).mono ?_
        rintro e w9 ⟨rfl, h9⟩
        subst w9
        cases e5 : (decide (1 ≤ x.src) && decide (x.src ≤ 5))
        · have HL := hide (isNodeIdC x.src W1)
          rw [e5] at HL
          have HF := hide (mfi_src (unhide HFM) e5)
          clear e5
          go_wp2_with fail
          refine (unhide HL).mono ?_
          rintro e w9 ⟨rfl, h9⟩
          subst w9
          clear HL
          go_wp2_with fail
          refine (mustF 3 _).mono ?_
          rintro e w9 ⟨rfl, h9⟩
          subst w9
          go_wp2_with fail
          exact ⟨rfl, by rw [unhide HF]; rfl, unhide HB⟩
        · have HL := hide (isNodeIdC x.src W1)
          rw [e5] at HL
          have HS := hide e5
          clear e5
          go_wp2_with fail
          refine (unhide HL).mono ?_
          rintro e w9 ⟨rfl, h9⟩
          subst w9
          clear HL
          cases e6 : (decide (1 ≤ x.dst) && decide (x.dst ≤ 5))
          · have HL := hide (isNodeIdC x.dst W1)
            rw [e6] at HL
            have HF := hide (mfi_dst (unhide HFM) e6)
            clear e6
            go_wp2_with fail
            refine (unhide HL).mono ?_
            rintro e w9 ⟨rfl, h9⟩
            subst w9
            clear HL
            go_wp2_with fail
            refine (mustF 3 _).mono ?_
            rintro e w9 ⟨rfl, h9⟩
            subst w9
            go_wp2_with fail
            exact ⟨rfl, by rw [unhide HF]; rfl, unhide HB⟩
          · have HL := hide (isNodeIdC x.dst W1)
            rw [e6] at HL
            have HD := hide e6
            clear e6
            go_wp2_with fail
            refine (unhide HL).mono ?_
            rintro e w9 ⟨rfl, h9⟩
            subst w9
            clear HL
            go_wp2_with fail
            refine (mustT 3 _).mono ?_
            rintro e w9 ⟨rfl, h9⟩
            subst w9
            have HL := hide (isMsgIndexC a d x W1)
            go_wp2_with fail
            refine (unhide HL).mono ?_
            rintro e W2 ⟨rfl, hb⟩
            replace HX := hide ((unhide HX).keep hb)
            replace HR := hide ((unhide HR).later hb)
            replace HB := hide ((unhide HB).trans (hb.mono (unhide HB).size))
            clear hb z0 z1 z2 z3 z4 z5 z6 z7 z8 z9
            have z0 : W2.cell? ⟨w.heap.size, 0, none⟩ = some (.int .i64 x.kind) := (unhide HX).at 0 _ rfl
            have z1 : W2.cell? ⟨w.heap.size, 1, none⟩ = some (.int .i64 x.epoch) := (unhide HX).at 1 _ rfl
            have z2 : W2.cell? ⟨w.heap.size, 2, none⟩ = some (.int .i64 x.src) := (unhide HX).at 2 _ rfl
            have z3 : W2.cell? ⟨w.heap.size, 3, none⟩ = some (.int .i64 x.dst) := (unhide HX).at 3 _ rfl
            have z4 : W2.cell? ⟨w.heap.size, 4, none⟩ = some (.int .i64 x.index) := (unhide HX).at 4 _ rfl
            have z5 : W2.cell? ⟨w.heap.size, 5, none⟩ = some (.int .i64 x.write.kind) := (unhide HX).at 5 _ rfl
            have z6 : W2.cell? ⟨w.heap.size, 6, none⟩ = some (.int .i64 x.write.id) := (unhide HX).at 6 _ rfl
            have z7 : W2.cell? ⟨w.heap.size, 7, none⟩ = some (.slice a x.write.vec.length d) := (unhide HX).at 7 _ rfl
            have z8 : W2.cell? ⟨w.heap.size, 8, none⟩ = some (.int .i64 x.write.session) := (unhide HX).at 8 _ rfl
            have z9 : W2.cell? ⟨w.heap.size, 9, none⟩ = some (.int .i64 x.write.seq) := (unhide HX).at 9 _ rfl
            clear HL
            cases e7 : idxB x
            · have HF := hide (mfi_idx (unhide HFM) e7)
              clear e7
              go_wp2_with fail
              refine (mustF 3 _).mono ?_
              rintro e w9 ⟨rfl, h9⟩
              subst w9
              go_wp2_with fail
              exact ⟨rfl, by rw [unhide HF]; rfl, unhide HB⟩
            · have HF := hide (mfi_rest (unhide HFM) (unhide HE) (unhide HS) (unhide HD) e7)
              clear e7
              go_wp2_with fail
              refine (mustT 3 _).mono ?_
              rintro e w9 ⟨rfl, h9⟩
              subst w9
              replace HF := hide ((unhide HF).trans (if_neg (by simp at e1; omega)))
              have HL := hide (implWriteFault x.write.kind x.write.id _ x.write.session x.write.seq x.write.vec W2 (Lay.ints_reads (vec_of (unhide HR))))
              go_wp2_with fail
              refine (unhide HL).mono ?_
              rintro e W3 ⟨rfl, hb⟩
              replace HX := hide ((unhide HX).keep hb)
              replace HR := hide ((unhide HR).later hb)
              replace HB := hide ((unhide HB).trans (hb.mono (unhide HB).size))
              clear hb z0 z1 z2 z3 z4 z5 z6 z7 z8 z9
              have z0 : W3.cell? ⟨w.heap.size, 0, none⟩ = some (.int .i64 x.kind) := (unhide HX).at 0 _ rfl
              have z1 : W3.cell? ⟨w.heap.size, 1, none⟩ = some (.int .i64 x.epoch) := (unhide HX).at 1 _ rfl
              have z2 : W3.cell? ⟨w.heap.size, 2, none⟩ = some (.int .i64 x.src) := (unhide HX).at 2 _ rfl
              have z3 : W3.cell? ⟨w.heap.size, 3, none⟩ = some (.int .i64 x.dst) := (unhide HX).at 3 _ rfl
              have z4 : W3.cell? ⟨w.heap.size, 4, none⟩ = some (.int .i64 x.index) := (unhide HX).at 4 _ rfl
              have z5 : W3.cell? ⟨w.heap.size, 5, none⟩ = some (.int .i64 x.write.kind) := (unhide HX).at 5 _ rfl
              have z6 : W3.cell? ⟨w.heap.size, 6, none⟩ = some (.int .i64 x.write.id) := (unhide HX).at 6 _ rfl
              have z7 : W3.cell? ⟨w.heap.size, 7, none⟩ = some (.slice a x.write.vec.length d) := (unhide HX).at 7 _ rfl
              have z8 : W3.cell? ⟨w.heap.size, 8, none⟩ = some (.int .i64 x.write.session) := (unhide HX).at 8 _ rfl
              have z9 : W3.cell? ⟨w.heap.size, 9, none⟩ = some (.int .i64 x.write.seq) := (unhide HX).at 9 _ rfl
              clear HL
              replace HF : Hid (msgFault x = writeFault x.write.kind x.write.id x.write.vec x.write.session x.write.seq) := unhide HF
              generalize writeFault x.write.kind x.write.id x.write.vec x.write.session x.write.seq = f at *
              cases e8 : (f == 0)
              · have hf : f ≠ 0 := by simpa using e8
                have HG := hide hf
                clear hf
                go_wp2_with fail
                refine (mustF f _).mono ?_
                rintro e w9 ⟨rfl, h9⟩
                subst w9
                go_wp2_with fail
                exact ⟨rfl, by rw [unhide HF]; exact (wrongE_bad (unhide HG)).symm, unhide HB⟩
              · have hf : f = 0 := by simpa using e8
                subst hf
                clear e8
                go_wp2_with fail
                refine (mustT 0 _).mono ?_
                rintro e w9 ⟨rfl, h9⟩
                subst w9
                go_wp2_with fail
                go_end0
                exact ⟨by rw [unhide HF]; rfl, unhide HB⟩
end Go.Proofs.Ytkmfkaljdngigaa

namespace Go.Proofs.Ytkmfkaljdngigaa
open Go.RowKit

theorem asWrong (v : Value) (w : World) : (Instr.typeAssert (.iface 95 v) 20 95 true).run Try.prog w = .ok (.tuple #[v, .bool true]) w := by kernel_rfl
set_option maxRecDepth 10000 in
theorem wrongCodeC (c : Int) (w : World) :
    Calls Try.prog 59 #[.iface 95 (.agg #[.int .i64 c])] w fun e w' => e = .returned (.int .i64 c) ∧ Below w.heap.size w w' := by
  have HB : Hid (Below w.heap.size w (w.alloc (.cells #[.int .i64 c] 95))) := hide ((Below.refl _ _).alloc (Nat.le_refl _) _)
  have q := asWrong
  go_enter Try.func59, Try.ntmps59
  go_wp2_with fail
  go_ret
  exact ⟨rfl, unhide HB⟩
theorem cell_new (w : World) (v : Value) (T : TypeId) : (w.alloc (.cells #[v] T)).cell? ⟨w.heap.size, 0, none⟩ = some v := (newBox (lo := 0) (Nat.zero_le _) : Box 0 #[v] T (w.alloc (.cells #[v] T)) w.heap.size).at 0 _ rfl
set_option maxRecDepth 10000 in
theorem catch_bad_bool (p : Addr) (x c : Int) (w : World) (hc : w.cell? p = some (.int .i64 x)) (hz : w.frozen? p = false) (hp : p.block < w.heap.size) :
    CallsD Try.prog 58 #[.pointer (some p)] (.panicking (wrongP c)) w fun e u' w' =>
      e = .returned (.tuple #[]) ∧ u' = .panicking [{ v := .iface 95 (.agg #[.int .i64 c]), recovered := true }] ∧ ∃ w1, w' = w1.setCell p (.int .i64 c) ∧ Below w.heap.size w w1 := by
  refine callsD_of_wpS Try.func58 rfl fun c₀ cs hu => ?_
  apply wpS_seq
  apply wpS_region
  simp [wpOpsS, go_sem, recoverD, hu, Try.ntmps58, Exit.thenS, wrongP]
  refine wpS_of_wp ?_
  have HL := hide (wrongCodeC c w)
  go_wp2_with fail
  refine (unhide HL).mono ?_
  rintro e w1 ⟨rfl, hb⟩
  have hc1 : w1.cell? p = some (.int .i64 x) := (hb.cell (p := p) hp).trans hc
  have hz1 : w1.frozen? p = false := (World.frozen?_of_block (hb.block _ hp)).trans hz
  have hp1 : p.block < w1.heap.size := Nat.lt_of_lt_of_le hp hb.size
  have HB := hide hb
  clear hb HL hc hz
  go_wp2_with fail
  refine ⟨rfl, _, rfl, .tuple #[], ?_, rfl, rfl, w1, rfl, unhide HB⟩
  simp [results, Try.results58, go_sem]
set_option maxRecDepth 10000 in
theorem catch_ok_bool (p : Addr) (w : World) :
    CallsD Try.prog 58 #[.pointer (some p)] .returning w fun e u' w' => e = .returned (.tuple #[]) ∧ u' = .returning ∧ w' = w := by
  refine callsD_of_wpS Try.func58 rfl fun c₀ cs hu => ?_
  apply wpS_seq
  apply wpS_region
  simp [wpOpsS, go_sem, recoverD, hu, Try.ntmps58, Exit.thenS]
  refine wpS_of_wp ?_
  go_wp2_with fail
  cases c₀
  simp_all [bodyPostS, results, Try.results58, go_sem]
set_option maxRecDepth 10000 in
theorem faced_bad_bool (N : Nat) (cap : Array Value) (c : Int) (w : World) (hf : ∀ W : World, (callFunc N cap).run Try.prog W = .ok (.enter N cap) W)
    (h : Calls Try.prog N cap (w.alloc (.cells #[.int .i64 0] 2)) fun e w' => e = .panicked (wrongP c) ∧ Below (w.heap.size + 1) (w.alloc (.cells #[.int .i64 0] 2)) w') :
    Calls Try.prog 33 #[.func (.func N) #[] cap] w fun e w' => e = .returned (.tuple #[.bool false, .int .i64 c]) ∧ Below w.heap.size w w' := by
  have hmf : ∀ (fn : Fn) (first cap : Array Value) (w : World), (Instr.makeFunc fn first cap).run Try.prog w = .ok (.func fn first cap) w := fun _ _ _ _ => rfl
  have HL := hide h
  have nb : Below w.heap.size w (w.alloc (.cells #[.int .i64 0] 2)) := (Below.refl _ _).alloc (Nat.le_refl _) _
  have HX : Hid (Box 0 #[.int .i64 0] 2 (w.alloc (.cells #[.int .i64 0] 2)) w.heap.size) := newBox (Nat.zero_le _)
  have HN := hide nb
  clear h nb
  go_enter_defers Try.func33, Try.ntmps33
  go_wp2_with fail
  refine (unhide HL).mono ?_
  rintro e w1 ⟨rfl, hb⟩
  replace HN := hide ((unhide HN).trans (hb.mono (by omega)))
  have hX := (unhide HX).keep (hb.mono (by simp))
  have z0 : w1.cell? ⟨w.heap.size, 0, none⟩ = some (.int .i64 0) := hX.at 0 _ rfl
  have zf : w1.frozen? ⟨w.heap.size, 0, none⟩ = false := hX.soft 0
  have zl := hX.lt
  clear HL HX hX hb
  go_wp2_with fail
  refine leaves_cons (f := 58) (args := #[.pointer (some ⟨w.heap.size, 0, none⟩)]) (by simp) (by simp [go_sem]) ?_
  refine (catch_bad_bool ⟨w.heap.size, 0, none⟩ 0 c w1 z0 zf zl).mono ?_
  rintro e u' w2 ⟨rfl, rfl, w3, rfl, hb⟩
  have hN : Below w.heap.size w (w3.setCell ⟨w.heap.size, 0, none⟩ (.int .i64 c)) := ((unhide HN).trans (hb.mono (unhide HN).size)).setCell (by simp) _
  have z1 : (w3.setCell ⟨w.heap.size, 0, none⟩ (.int .i64 c)).cell? ⟨w.heap.size, 0, none⟩ = some (.int .i64 c) := World.cell?_setCell_same _ _ _ ((hb.cell (p := ⟨w.heap.size, 0, none⟩) zl).trans z0)
  simp [Leaves, settle, results, Try.results33, go_sem, z1]
  exact hN
set_option maxRecDepth 10000 in
theorem faced_ok_bool (N : Nat) (cap : Array Value) (w : World) (Q : Value → World → Prop) (hf : ∀ W : World, (callFunc N cap).run Try.prog W = .ok (.enter N cap) W)
    (h : Calls Try.prog N cap (w.alloc (.cells #[.int .i64 0] 2)) fun e w' => ∃ v, e = .returned v ∧ Q v w' ∧ Below (w.heap.size + 1) (w.alloc (.cells #[.int .i64 0] 2)) w') :
    Calls Try.prog 33 #[.func (.func N) #[] cap] w fun e w' => ∃ v w1, e = .returned (.tuple #[v, .int .i64 0]) ∧ Q v w1 ∧ w' = w1.setCell ⟨w.heap.size, 0, none⟩ (.int .i64 0) ∧ Below w.heap.size w w' ∧ w.heap.size < w1.heap.size := by
  have hmf : ∀ (fn : Fn) (first cap : Array Value) (w : World), (Instr.makeFunc fn first cap).run Try.prog w = .ok (.func fn first cap) w := fun _ _ _ _ => rfl
  have HL := hide h
  have nb : Below w.heap.size w (w.alloc (.cells #[.int .i64 0] 2)) := (Below.refl _ _).alloc (Nat.le_refl _) _
  have HX : Hid (Box 0 #[.int .i64 0] 2 (w.alloc (.cells #[.int .i64 0] 2)) w.heap.size) := newBox (Nat.zero_le _)
  have HN := hide nb
  clear h nb
  go_enter_defers Try.func33, Try.ntmps33
  go_wp2_with fail
  refine (unhide HL).mono ?_
  rintro e w1 ⟨v, rfl, hq, hb⟩
  have HQ := hide hq
  replace HN := hide ((unhide HN).trans (hb.mono (by omega)))
  have hX := (unhide HX).keep (hb.mono (by simp))
  have z0 : w1.cell? ⟨w.heap.size, 0, none⟩ = some (.int .i64 0) := hX.at 0 _ rfl
  have zf : w1.frozen? ⟨w.heap.size, 0, none⟩ = false := hX.soft 0
  have zl := hX.lt
  clear HL HX hX hb hq
  go_wp2_with fail
  refine leaves_cons (f := 58) (args := #[.pointer (some ⟨w.heap.size, 0, none⟩)]) (by simp) (by simp [go_sem]) ?_
  refine (catch_ok_bool ⟨w.heap.size, 0, none⟩ _).mono ?_
  rintro e u' w2 ⟨rfl, rfl, rfl⟩
  have hN : Below w.heap.size w (w1.setCell ⟨w.heap.size, 0, none⟩ (.int .i64 0)) := (unhide HN).setCell (by simp) _
  have z1 : (w1.setCell ⟨w.heap.size, 0, none⟩ (.int .i64 0)).cell? ⟨w.heap.size, 0, none⟩ = some (.int .i64 0) := World.cell?_setCell_same _ _ _ z0
  refine ⟨.tuple #[v, .int .i64 0], by simp [results, Try.results33, go_sem, z1], v, w1, rfl, unhide HQ, rfl, hN, zl⟩
set_option maxRecDepth 10000 in
theorem catch_bad_msgs (p : Addr) (x c : Int) (w : World) (hc : w.cell? p = some (.int .i64 x)) (hz : w.frozen? p = false) (hp : p.block < w.heap.size) :
    CallsD Try.prog 69 #[.pointer (some p)] (.panicking (wrongP c)) w fun e u' w' =>
      e = .returned (.tuple #[]) ∧ u' = .panicking [{ v := .iface 95 (.agg #[.int .i64 c]), recovered := true }] ∧ ∃ w1, w' = w1.setCell p (.int .i64 c) ∧ Below w.heap.size w w1 := by
  refine callsD_of_wpS Try.func69 rfl fun c₀ cs hu => ?_
  apply wpS_seq
  apply wpS_region
  simp [wpOpsS, go_sem, recoverD, hu, Try.ntmps69, Exit.thenS, wrongP]
  refine wpS_of_wp ?_
  have HL := hide (wrongCodeC c w)
  go_wp2_with fail
  refine (unhide HL).mono ?_
  rintro e w1 ⟨rfl, hb⟩
  have hc1 : w1.cell? p = some (.int .i64 x) := (hb.cell (p := p) hp).trans hc
  have hz1 : w1.frozen? p = false := (World.frozen?_of_block (hb.block _ hp)).trans hz
  have hp1 : p.block < w1.heap.size := Nat.lt_of_lt_of_le hp hb.size
  have HB := hide hb
  clear hb HL hc hz
  go_wp2_with fail
  refine ⟨rfl, _, rfl, .tuple #[], ?_, rfl, rfl, w1, rfl, unhide HB⟩
  simp [results, Try.results69, go_sem]
set_option maxRecDepth 10000 in
theorem catch_ok_msgs (p : Addr) (w : World) :
    CallsD Try.prog 69 #[.pointer (some p)] .returning w fun e u' w' => e = .returned (.tuple #[]) ∧ u' = .returning ∧ w' = w := by
  refine callsD_of_wpS Try.func69 rfl fun c₀ cs hu => ?_
  apply wpS_seq
  apply wpS_region
  simp [wpOpsS, go_sem, recoverD, hu, Try.ntmps69, Exit.thenS]
  refine wpS_of_wp ?_
  go_wp2_with fail
  cases c₀
  simp_all [bodyPostS, results, Try.results69, go_sem]
set_option maxRecDepth 10000 in
theorem faced_bad_msgs (N : Nat) (cap : Array Value) (c : Int) (w : World) (hf : ∀ W : World, (callFunc N cap).run Try.prog W = .ok (.enter N cap) W)
    (h : Calls Try.prog N cap (w.alloc (.cells #[.int .i64 0] 2)) fun e w' => e = .panicked (wrongP c) ∧ Below (w.heap.size + 1) (w.alloc (.cells #[.int .i64 0] 2)) w') :
    Calls Try.prog 41 #[.func (.func N) #[] cap] w fun e w' => e = .returned (.tuple #[.slice none 0 0, .int .i64 c]) ∧ Below w.heap.size w w' := by
  have hmf : ∀ (fn : Fn) (first cap : Array Value) (w : World), (Instr.makeFunc fn first cap).run Try.prog w = .ok (.func fn first cap) w := fun _ _ _ _ => rfl
  have HL := hide h
  have nb : Below w.heap.size w (w.alloc (.cells #[.int .i64 0] 2)) := (Below.refl _ _).alloc (Nat.le_refl _) _
  have HX : Hid (Box 0 #[.int .i64 0] 2 (w.alloc (.cells #[.int .i64 0] 2)) w.heap.size) := newBox (Nat.zero_le _)
  have HN := hide nb
  clear h nb
  go_enter_defers Try.func41, Try.ntmps41
  go_wp2_with fail
  refine (unhide HL).mono ?_
  rintro e w1 ⟨rfl, hb⟩
  replace HN := hide ((unhide HN).trans (hb.mono (by omega)))
  have hX := (unhide HX).keep (hb.mono (by simp))
  have z0 : w1.cell? ⟨w.heap.size, 0, none⟩ = some (.int .i64 0) := hX.at 0 _ rfl
  have zf : w1.frozen? ⟨w.heap.size, 0, none⟩ = false := hX.soft 0
  have zl := hX.lt
  clear HL HX hX hb
  go_wp2_with fail
  refine leaves_cons (f := 69) (args := #[.pointer (some ⟨w.heap.size, 0, none⟩)]) (by simp) (by simp [go_sem]) ?_
  refine (catch_bad_msgs ⟨w.heap.size, 0, none⟩ 0 c w1 z0 zf zl).mono ?_
  rintro e u' w2 ⟨rfl, rfl, w3, rfl, hb⟩
  have hN : Below w.heap.size w (w3.setCell ⟨w.heap.size, 0, none⟩ (.int .i64 c)) := ((unhide HN).trans (hb.mono (unhide HN).size)).setCell (by simp) _
  have z1 : (w3.setCell ⟨w.heap.size, 0, none⟩ (.int .i64 c)).cell? ⟨w.heap.size, 0, none⟩ = some (.int .i64 c) := World.cell?_setCell_same _ _ _ ((hb.cell (p := ⟨w.heap.size, 0, none⟩) zl).trans z0)
  simp [Leaves, settle, results, Try.results41, go_sem, z1]
  exact hN
set_option maxRecDepth 10000 in
theorem faced_ok_msgs (N : Nat) (cap : Array Value) (w : World) (Q : Value → World → Prop) (hf : ∀ W : World, (callFunc N cap).run Try.prog W = .ok (.enter N cap) W)
    (h : Calls Try.prog N cap (w.alloc (.cells #[.int .i64 0] 2)) fun e w' => ∃ v, e = .returned v ∧ Q v w' ∧ Below (w.heap.size + 1) (w.alloc (.cells #[.int .i64 0] 2)) w') :
    Calls Try.prog 41 #[.func (.func N) #[] cap] w fun e w' => ∃ v w1, e = .returned (.tuple #[v, .int .i64 0]) ∧ Q v w1 ∧ w' = w1.setCell ⟨w.heap.size, 0, none⟩ (.int .i64 0) ∧ Below w.heap.size w w' ∧ w.heap.size < w1.heap.size := by
  have hmf : ∀ (fn : Fn) (first cap : Array Value) (w : World), (Instr.makeFunc fn first cap).run Try.prog w = .ok (.func fn first cap) w := fun _ _ _ _ => rfl
  have HL := hide h
  have nb : Below w.heap.size w (w.alloc (.cells #[.int .i64 0] 2)) := (Below.refl _ _).alloc (Nat.le_refl _) _
  have HX : Hid (Box 0 #[.int .i64 0] 2 (w.alloc (.cells #[.int .i64 0] 2)) w.heap.size) := newBox (Nat.zero_le _)
  have HN := hide nb
  clear h nb
  go_enter_defers Try.func41, Try.ntmps41
  go_wp2_with fail
  refine (unhide HL).mono ?_
  rintro e w1 ⟨v, rfl, hq, hb⟩
  have HQ := hide hq
  replace HN := hide ((unhide HN).trans (hb.mono (by omega)))
  have hX := (unhide HX).keep (hb.mono (by simp))
  have z0 : w1.cell? ⟨w.heap.size, 0, none⟩ = some (.int .i64 0) := hX.at 0 _ rfl
  have zf : w1.frozen? ⟨w.heap.size, 0, none⟩ = false := hX.soft 0
  have zl := hX.lt
  clear HL HX hX hb hq
  go_wp2_with fail
  refine leaves_cons (f := 69) (args := #[.pointer (some ⟨w.heap.size, 0, none⟩)]) (by simp) (by simp [go_sem]) ?_
  refine (catch_ok_msgs ⟨w.heap.size, 0, none⟩ _).mono ?_
  rintro e u' w2 ⟨rfl, rfl, rfl⟩
  have hN : Below w.heap.size w (w1.setCell ⟨w.heap.size, 0, none⟩ (.int .i64 0)) := (unhide HN).setCell (by simp) _
  have z1 : (w1.setCell ⟨w.heap.size, 0, none⟩ (.int .i64 0)).cell? ⟨w.heap.size, 0, none⟩ = some (.int .i64 0) := World.cell?_setCell_same _ _ _ z0
  refine ⟨.tuple #[v, .int .i64 0], by simp [results, Try.results41, go_sem, z1], v, w1, rfl, unhide HQ, rfl, hN, zl⟩
set_option maxRecDepth 10000 in
theorem catch_bad_int (p : Addr) (x c : Int) (w : World) (hc : w.cell? p = some (.int .i64 x)) (hz : w.frozen? p = false) (hp : p.block < w.heap.size) :
    CallsD Try.prog 77 #[.pointer (some p)] (.panicking (wrongP c)) w fun e u' w' =>
      e = .returned (.tuple #[]) ∧ u' = .panicking [{ v := .iface 95 (.agg #[.int .i64 c]), recovered := true }] ∧ ∃ w1, w' = w1.setCell p (.int .i64 c) ∧ Below w.heap.size w w1 := by
  refine callsD_of_wpS Try.func77 rfl fun c₀ cs hu => ?_
  apply wpS_seq
  apply wpS_region
  simp [wpOpsS, go_sem, recoverD, hu, Try.ntmps77, Exit.thenS, wrongP]
  refine wpS_of_wp ?_
  have HL := hide (wrongCodeC c w)
  go_wp2_with fail
  refine (unhide HL).mono ?_
  rintro e w1 ⟨rfl, hb⟩
  have hc1 : w1.cell? p = some (.int .i64 x) := (hb.cell (p := p) hp).trans hc
  have hz1 : w1.frozen? p = false := (World.frozen?_of_block (hb.block _ hp)).trans hz
  have hp1 : p.block < w1.heap.size := Nat.lt_of_lt_of_le hp hb.size
  have HB := hide hb
  clear hb HL hc hz
  go_wp2_with fail
  refine ⟨rfl, _, rfl, .tuple #[], ?_, rfl, rfl, w1, rfl, unhide HB⟩
  simp [results, Try.results77, go_sem]
set_option maxRecDepth 10000 in
theorem catch_ok_int (p : Addr) (w : World) :
    CallsD Try.prog 77 #[.pointer (some p)] .returning w fun e u' w' => e = .returned (.tuple #[]) ∧ u' = .returning ∧ w' = w := by
  refine callsD_of_wpS Try.func77 rfl fun c₀ cs hu => ?_
  apply wpS_seq
  apply wpS_region
  simp [wpOpsS, go_sem, recoverD, hu, Try.ntmps77, Exit.thenS]
  refine wpS_of_wp ?_
  go_wp2_with fail
  cases c₀
  simp_all [bodyPostS, results, Try.results77, go_sem]
set_option maxRecDepth 10000 in
theorem faced_bad_int (N : Nat) (cap : Array Value) (c : Int) (w : World) (hf : ∀ W : World, (callFunc N cap).run Try.prog W = .ok (.enter N cap) W)
    (h : Calls Try.prog N cap (w.alloc (.cells #[.int .i64 0] 2)) fun e w' => e = .panicked (wrongP c) ∧ Below (w.heap.size + 1) (w.alloc (.cells #[.int .i64 0] 2)) w') :
    Calls Try.prog 51 #[.func (.func N) #[] cap] w fun e w' => e = .returned (.tuple #[.int .i64 0, .int .i64 c]) ∧ Below w.heap.size w w' := by
  have hmf : ∀ (fn : Fn) (first cap : Array Value) (w : World), (Instr.makeFunc fn first cap).run Try.prog w = .ok (.func fn first cap) w := fun _ _ _ _ => rfl
  have HL := hide h
  have nb : Below w.heap.size w (w.alloc (.cells #[.int .i64 0] 2)) := (Below.refl _ _).alloc (Nat.le_refl _) _
  have HX : Hid (Box 0 #[.int .i64 0] 2 (w.alloc (.cells #[.int .i64 0] 2)) w.heap.size) := newBox (Nat.zero_le _)
  have HN := hide nb
  clear h nb
  go_enter_defers Try.func51, Try.ntmps51
  go_wp2_with fail
  refine (unhide HL).mono ?_
  rintro e w1 ⟨rfl, hb⟩
  replace HN := hide ((unhide HN).trans (hb.mono (by omega)))
  have hX := (unhide HX).keep (hb.mono (by simp))
  have z0 : w1.cell? ⟨w.heap.size, 0, none⟩ = some (.int .i64 0) := hX.at 0 _ rfl
  have zf : w1.frozen? ⟨w.heap.size, 0, none⟩ = false := hX.soft 0
  have zl := hX.lt
  clear HL HX hX hb
  go_wp2_with fail
  refine leaves_cons (f := 77) (args := #[.pointer (some ⟨w.heap.size, 0, none⟩)]) (by simp) (by simp [go_sem]) ?_
  refine (catch_bad_int ⟨w.heap.size, 0, none⟩ 0 c w1 z0 zf zl).mono ?_
  rintro e u' w2 ⟨rfl, rfl, w3, rfl, hb⟩
  have hN : Below w.heap.size w (w3.setCell ⟨w.heap.size, 0, none⟩ (.int .i64 c)) := ((unhide HN).trans (hb.mono (unhide HN).size)).setCell (by simp) _
  have z1 : (w3.setCell ⟨w.heap.size, 0, none⟩ (.int .i64 c)).cell? ⟨w.heap.size, 0, none⟩ = some (.int .i64 c) := World.cell?_setCell_same _ _ _ ((hb.cell (p := ⟨w.heap.size, 0, none⟩) zl).trans z0)
  simp [Leaves, settle, results, Try.results51, go_sem, z1]
  exact hN
set_option maxRecDepth 10000 in
theorem faced_ok_int (N : Nat) (cap : Array Value) (w : World) (Q : Value → World → Prop) (hf : ∀ W : World, (callFunc N cap).run Try.prog W = .ok (.enter N cap) W)
    (h : Calls Try.prog N cap (w.alloc (.cells #[.int .i64 0] 2)) fun e w' => ∃ v, e = .returned v ∧ Q v w' ∧ Below (w.heap.size + 1) (w.alloc (.cells #[.int .i64 0] 2)) w') :
    Calls Try.prog 51 #[.func (.func N) #[] cap] w fun e w' => ∃ v w1, e = .returned (.tuple #[v, .int .i64 0]) ∧ Q v w1 ∧ w' = w1.setCell ⟨w.heap.size, 0, none⟩ (.int .i64 0) ∧ Below w.heap.size w w' ∧ w.heap.size < w1.heap.size := by
  have hmf : ∀ (fn : Fn) (first cap : Array Value) (w : World), (Instr.makeFunc fn first cap).run Try.prog w = .ok (.func fn first cap) w := fun _ _ _ _ => rfl
  have HL := hide h
  have nb : Below w.heap.size w (w.alloc (.cells #[.int .i64 0] 2)) := (Below.refl _ _).alloc (Nat.le_refl _) _
  have HX : Hid (Box 0 #[.int .i64 0] 2 (w.alloc (.cells #[.int .i64 0] 2)) w.heap.size) := newBox (Nat.zero_le _)
  have HN := hide nb
  clear h nb
  go_enter_defers Try.func51, Try.ntmps51
  go_wp2_with fail
  refine (unhide HL).mono ?_
  rintro e w1 ⟨v, rfl, hq, hb⟩
  have HQ := hide hq
  replace HN := hide ((unhide HN).trans (hb.mono (by omega)))
  have hX := (unhide HX).keep (hb.mono (by simp))
  have z0 : w1.cell? ⟨w.heap.size, 0, none⟩ = some (.int .i64 0) := hX.at 0 _ rfl
  have zf : w1.frozen? ⟨w.heap.size, 0, none⟩ = false := hX.soft 0
  have zl := hX.lt
  clear HL HX hX hb hq
  go_wp2_with fail
  refine leaves_cons (f := 77) (args := #[.pointer (some ⟨w.heap.size, 0, none⟩)]) (by simp) (by simp [go_sem]) ?_
  refine (catch_ok_int ⟨w.heap.size, 0, none⟩ _).mono ?_
  rintro e u' w2 ⟨rfl, rfl, rfl⟩
  have hN : Below w.heap.size w (w1.setCell ⟨w.heap.size, 0, none⟩ (.int .i64 0)) := (unhide HN).setCell (by simp) _
  have z1 : (w1.setCell ⟨w.heap.size, 0, none⟩ (.int .i64 0)).cell? ⟨w.heap.size, 0, none⟩ = some (.int .i64 0) := World.cell?_setCell_same _ _ _ z0
  refine ⟨.tuple #[v, .int .i64 0], by simp [results, Try.results51, go_sem, z1], v, w1, rfl, unhide HQ, rfl, hN, zl⟩
end Go.Proofs.Ytkmfkaljdngigaa

namespace Go.Proofs.Ytkmfkaljdngigaa
open Go.RowKit

theorem msgsFrom_drop {xs : List DMsg} {k : Nat} (hk : k < xs.length) : msgsFrom (xs.drop k) = if msgFault xs[k] = 0 then msgsFrom (xs.drop (k + 1)) else msgFault xs[k] := by
  rw [List.drop_eq_getElem_cons hk, msgsFrom]
set_option maxRecDepth 10000 in
set_option maxHeartbeats 4000000 in
theorem mustBeNetC (v : Value) (xs : List DMsg) (w : World) (h : (Lay.sl Lay.tMsg).Reads w [v] xs) :
    Calls Try.prog 39 #[v] w fun e w' => e = wrongE (netFault xs) ∧ Below w.heap.size w w' := by
  have hbig := h.big
  obtain ⟨ao, cap, rfl⟩ := open_sl h
  have H := hide h
  clear h
  go_enter Try.func39, Try.ntmps39
  cases e1 : decide ((xs.length : Int) ≤ 40)
  · have HF : Hid (netFault xs = 2) := by show netFault xs = 2; rw [netFault, if_pos (by simp at e1; omega)]
    go_wp2_with fail
    refine (mustF 2 _).mono ?_
    rintro e w9 ⟨rfl, h9⟩
    subst w9
    go_wp2_with fail
    exact ⟨rfl, by rw [unhide HF]; rfl, Below.refl _ _⟩
  · have HF : Hid (netFault xs = msgsFrom (xs.drop 0)) := by show netFault xs = _; rw [netFault, if_neg (by simp at e1; omega)]; rfl
    go_wp2_with fail
    refine (mustT 2 _).mono ?_
    rintro e w9 ⟨rfl, h9⟩
    subst w9
    clear e1
    go_wp2_with fail
    go_loopw [10] (fun i wr => ∃ k : Nat, k ≤ xs.length ∧ i = .int .i64 k ∧ netFault xs = msgsFrom (xs.drop k) ∧ Below w.heap.size w wr) (fun i _ => xs.length - (intOf i).toNat)
    case atStart => exact ⟨0, Nat.zero_le _, rfl, unhide HF, Below.refl _ _⟩
    case round =>
      obtain ⟨k, hk, rfl, hF, hB⟩ := hrel
      clear HF
      by_cases hlt : k < xs.length
      · obtain ⟨b, off, rfl, hbl⟩ := Lay.sl_addr (unhide H) (by omega)
        obtain ⟨row, hc, hr⟩ := Lay.row_at (unhide H) hlt
        replace hr := hr.later hB
        rw [msgsFrom_drop hlt] at hF
        have hdl : decide ((k : Int) < (xs.length : Int)) = true := by simp; omega
        obtain ⟨a, d, rfl, -⟩ := open_Msg hr
        have c0 : wr.cell? ⟨b, off + k * 10, none⟩ = some (.int .i64 (xs[k]).kind) := (hB.cell (p := ⟨b, off + k * 10, none⟩) hbl).trans (hc 0 (by decide))
        have c1 : wr.cell? ⟨b, off + k * 10 + 1, none⟩ = some (.int .i64 (xs[k]).epoch) := (hB.cell (p := ⟨b, off + k * 10 + 1, none⟩) hbl).trans (hc 1 (by decide))
        have c2 : wr.cell? ⟨b, off + k * 10 + 2, none⟩ = some (.int .i64 (xs[k]).src) := (hB.cell (p := ⟨b, off + k * 10 + 2, none⟩) hbl).trans (hc 2 (by decide))
        have c3 : wr.cell? ⟨b, off + k * 10 + 3, none⟩ = some (.int .i64 (xs[k]).dst) := (hB.cell (p := ⟨b, off + k * 10 + 3, none⟩) hbl).trans (hc 3 (by decide))
        have c4 : wr.cell? ⟨b, off + k * 10 + 4, none⟩ = some (.int .i64 (xs[k]).index) := (hB.cell (p := ⟨b, off + k * 10 + 4, none⟩) hbl).trans (hc 4 (by decide))
        have c5 : wr.cell? ⟨b, off + k * 10 + 5, none⟩ = some (.int .i64 (xs[k]).write.kind) := (hB.cell (p := ⟨b, off + k * 10 + 5, none⟩) hbl).trans (hc 5 (by decide))
        have c6 : wr.cell? ⟨b, off + k * 10 + 6, none⟩ = some (.int .i64 (xs[k]).write.id) := (hB.cell (p := ⟨b, off + k * 10 + 6, none⟩) hbl).trans (hc 6 (by decide))
        have c7 : wr.cell? ⟨b, off + k * 10 + 7, none⟩ = some (.slice a (xs[k]).write.vec.length d) := (hB.cell (p := ⟨b, off + k * 10 + 7, none⟩) hbl).trans (hc 7 (by decide))
        have c8 : wr.cell? ⟨b, off + k * 10 + 8, none⟩ = some (.int .i64 (xs[k]).write.session) := (hB.cell (p := ⟨b, off + k * 10 + 8, none⟩) hbl).trans (hc 8 (by decide))
        have c9 : wr.cell? ⟨b, off + k * 10 + 9, none⟩ = some (.int .i64 (xs[k]).write.seq) := (hB.cell (p := ⟨b, off + k * 10 + 9, none⟩) hbl).trans (hc 9 (by decide))
        have HF := hide hF
        have HR := hide hr
        have HB := hide hB
        clear hF hr hB hc
        generalize hx : xs[k] = x at *
        clear hx
        have nb : Below wr.heap.size wr (wr.alloc (.cells #[.int .i64 x.kind, .int .i64 x.epoch, .int .i64 x.src, .int .i64 x.dst, .int .i64 x.index, .int .i64 x.write.kind, .int .i64 x.write.id, .slice a x.write.vec.length d, .int .i64 x.write.session, .int .i64 x.write.seq] 31)) := (Below.refl _ _).alloc (Nat.le_refl _) _
        have HL := hide (mustBeMsgC _ x _ ((unhide HR).later nb))
        replace HB := hide ((unhide HB).trans (nb.mono (unhide HB).size))
        clear nb
        go_wp2_with fail
        refine (unhide HL).mono ?_
        generalize wr.alloc (.cells #[.int .i64 x.kind, .int .i64 x.epoch, .int .i64 x.src, .int .i64 x.dst, .int .i64 x.index, .int .i64 x.write.kind, .int .i64 x.write.id, .slice a x.write.vec.length d, .int .i64 x.write.session, .int .i64 x.write.seq] 31) = W1 at *
        rintro e W2 ⟨he, hb⟩
        replace HB := hide ((unhide HB).trans (hb.mono (unhide HB).size))
        clear hb HL c0 c1 c2 c3 c4 c5 c6 c7 c8 c9
        by_cases hf : msgFault x = 0
        · rw [wrongE_ok hf] at he
          subst he
          replace HF := hide ((unhide HF).trans (if_pos hf))
          clear hf
          go_wp2_with fail
          go_roundw
          case rel => exact ⟨k + 1, by omega, by go_num, unhide HF, unhide HB⟩
          case measure => simp [intOf]; omega
        · rw [wrongE_bad hf] at he
          subst he
          replace HF := hide ((unhide HF).trans (if_neg hf))
          have HG := hide hf
          clear hf
          go_wp2_with fail
          exact ⟨rfl, by rw [unhide HF]; exact (wrongE_bad (unhide HG)).symm, unhide HB⟩
      · obtain rfl : k = xs.length := by omega
        rw [List.drop_length] at hF
        have hdl : decide ((xs.length : Int) < (xs.length : Int)) = false := by simp
        have HF := hide hF
        have HB := hide hB
        clear hF hB
        go_wp2_with fail
        go_end0
        exact ⟨by rw [unhide HF]; rfl, unhide HB⟩
set_option maxRecDepth 10000 in
theorem msgFaultWork (a : Option Addr) (d : Nat) (x : DMsg) (g : Nat) (w : World) (h : Lay.tMsg.Reads w [.int .i64 x.kind, .int .i64 x.epoch, .int .i64 x.src, .int .i64 x.dst, .int .i64 x.index, .int .i64 x.write.kind, .int .i64 x.write.id, .slice a x.write.vec.length d, .int .i64 x.write.session, .int .i64 x.write.seq] x) (hx : Box 0 #[.int .i64 x.kind, .int .i64 x.epoch, .int .i64 x.src, .int .i64 x.dst, .int .i64 x.index, .int .i64 x.write.kind, .int .i64 x.write.id, .slice a x.write.vec.length d, .int .i64 x.write.session, .int .i64 x.write.seq] 31 w g) :
    Calls Try.prog 34 #[.pointer (some ⟨g, 0, none⟩)] w fun e w' => e = workE (.bool true) (msgFault x) ∧ Below w.heap.size w w' := by
  have HX := hide hx
  have HL := hide (mustBeMsgC _ x w h)
  clear hx h
  have z0 : w.cell? ⟨g, 0, none⟩ = some (.int .i64 x.kind) := (unhide HX).at 0 _ rfl
  have z1 : w.cell? ⟨g, 1, none⟩ = some (.int .i64 x.epoch) := (unhide HX).at 1 _ rfl
  have z2 : w.cell? ⟨g, 2, none⟩ = some (.int .i64 x.src) := (unhide HX).at 2 _ rfl
  have z3 : w.cell? ⟨g, 3, none⟩ = some (.int .i64 x.dst) := (unhide HX).at 3 _ rfl
  have z4 : w.cell? ⟨g, 4, none⟩ = some (.int .i64 x.index) := (unhide HX).at 4 _ rfl
  have z5 : w.cell? ⟨g, 5, none⟩ = some (.int .i64 x.write.kind) := (unhide HX).at 5 _ rfl
  have z6 : w.cell? ⟨g, 6, none⟩ = some (.int .i64 x.write.id) := (unhide HX).at 6 _ rfl
  have z7 : w.cell? ⟨g, 7, none⟩ = some (.slice a x.write.vec.length d) := (unhide HX).at 7 _ rfl
  have z8 : w.cell? ⟨g, 8, none⟩ = some (.int .i64 x.write.session) := (unhide HX).at 8 _ rfl
  have z9 : w.cell? ⟨g, 9, none⟩ = some (.int .i64 x.write.seq) := (unhide HX).at 9 _ rfl
  go_enter Try.func34, Try.ntmps34
  go_wp2_with fail
  refine (unhide HL).mono ?_
  rintro e W2 ⟨he, hb⟩
  have HB := hide hb
  clear hb HL z0 z1 z2 z3 z4 z5 z6 z7 z8 z9
  by_cases hf : msgFault x = 0
  · rw [wrongE_ok hf] at he
    subst he
    have HF := hide hf
    clear hf
    go_wp2_with fail
    go_ret
    exact ⟨(workE_ok (unhide HF)).symm, unhide HB⟩
  · rw [wrongE_bad hf] at he
    subst he
    have HF := hide hf
    clear hf
    go_wp2_with fail
    exact ⟨rfl, (workE_bad (unhide HF)).symm, unhide HB⟩
set_option maxRecDepth 10000 in
set_option maxHeartbeats 1000000 in
theorem implMsgFault (cs : List Value) (x : DMsg) (w : World) (h : Lay.tMsg.Reads w cs x) :
    Calls Try.prog 11 #[.agg cs.toArray] w fun e w' => e = .returned (.int .i64 (msgFault x)) ∧ Below w.heap.size w w' := by
  have hmf : ∀ (fn : Fn) (first cap : Array Value) (w : World), (Instr.makeFunc fn first cap).run Try.prog w = .ok (.func fn first cap) w := fun _ _ _ _ => rfl
  obtain ⟨a, d, rfl, -⟩ := open_Msg h
  have nb : Below w.heap.size w (w.alloc (.cells #[.int .i64 x.kind, .int .i64 x.epoch, .int .i64 x.src, .int .i64 x.dst, .int .i64 x.index, .int .i64 x.write.kind, .int .i64 x.write.id, .slice a x.write.vec.length d, .int .i64 x.write.session, .int .i64 x.write.seq] 31)) := (Below.refl _ _).alloc (Nat.le_refl _) _
  have HR := hide (h.later nb)
  have HB := hide nb
  have HX : Hid (Box 0 #[.int .i64 x.kind, .int .i64 x.epoch, .int .i64 x.src, .int .i64 x.dst, .int .i64 x.index, .int .i64 x.write.kind, .int .i64 x.write.id, .slice a x.write.vec.length d, .int .i64 x.write.session, .int .i64 x.write.seq] 31 (w.alloc (.cells #[.int .i64 x.kind, .int .i64 x.epoch, .int .i64 x.src, .int .i64 x.dst, .int .i64 x.index, .int .i64 x.write.kind, .int .i64 x.write.id, .slice a x.write.vec.length d, .int .i64 x.write.session, .int .i64 x.write.seq] 31)) w.heap.size) := newBox (Nat.zero_le _)
  clear h nb
  go_enter Try.func11, Try.ntmps11
  go_upto_region 1 with fail
  generalize w.alloc (.cells #[.int .i64 x.kind, .int .i64 x.epoch, .int .i64 x.src, .int .i64 x.dst, .int .i64 x.index, .int .i64 x.write.kind, .int .i64 x.write.id, .slice a x.write.vec.length d, .int .i64 x.write.session, .int .i64 x.write.seq] 31) = W1 at *
  have nb : Below W1.heap.size W1 (W1.alloc (.cells #[.int .i64 0] 2)) := (Below.refl _ _).alloc (Nat.le_refl _) _
  have HW := hide (msgFaultWork a d x w.heap.size _ ((unhide HR).later nb) ((unhide HX).keep nb))
  have hz : (W1.alloc (.cells #[.int .i64 0] 2)).heap.size = W1.heap.size + 1 := by simp
  have HZ := hide hz
  clear nb hz
  by_cases hf : msgFault x = 0
  · have HL := hide (faced_ok_bool 34 #[.pointer (some ⟨w.heap.size, 0, none⟩)] W1 (fun v _ => v = .bool true) (fun _ => by rfl) ((unhide HW).mono (by
      rintro e w' ⟨he, hb⟩
      rw [workE_ok hf] at he
      rw [unhide HZ] at hb
      exact ⟨_, he, rfl, hb⟩)))
    have HF := hide hf
    clear hf HW HZ
    go_wp2_with fail
    refine (unhide HL).mono ?_
    rintro e W2 ⟨v, W3, rfl, rfl, hW, hb, -⟩
    replace HB := hide ((unhide HB).trans (hb.mono (unhide HB).size))
    clear hW hb HL
    go_wp2_with fail
    go_ret
    exact ⟨by rw [unhide HF]; rfl, unhide HB⟩
  · have HL := hide (faced_bad_bool 34 #[.pointer (some ⟨w.heap.size, 0, none⟩)] (msgFault x) W1 (fun _ => by rfl) ((unhide HW).mono (by
      rintro e w' ⟨he, hb⟩
      rw [workE_bad hf] at he
      rw [unhide HZ] at hb
      exact ⟨he, hb⟩)))
    clear hf HW HZ
    go_wp2_with fail
    refine (unhide HL).mono ?_
    rintro e W2 ⟨rfl, hb⟩
    replace HB := hide ((unhide HB).trans (hb.mono (unhide HB).size))
    clear hb HL
    go_wp2_with fail
    go_ret
    exact ⟨rfl, unhide HB⟩
set_option maxRecDepth 10000 in
theorem netFaultWork (v : Value) (xs : List DMsg) (g : Nat) (w : World) (h : (Lay.sl Lay.tMsg).Reads w [v] xs) (hx : Box 0 #[v] 38 w g) :
    Calls Try.prog 38 #[.pointer (some ⟨g, 0, none⟩)] w fun e w' => e = workE (.bool true) (netFault xs) ∧ Below w.heap.size w w' := by
  have HL := hide (mustBeNetC v xs w h)
  obtain ⟨ao, cap, rfl⟩ := open_sl h
  have HX := hide hx
  clear hx h
  have z0 : w.cell? ⟨g, 0, none⟩ = some (.slice ao xs.length cap) := (unhide HX).at 0 _ rfl
  go_enter Try.func38, Try.ntmps38
  go_wp2_with fail
  refine (unhide HL).mono ?_
  rintro e W2 ⟨he, hb⟩
  have HB := hide hb
  clear hb HL z0
  by_cases hf : netFault xs = 0
  · rw [wrongE_ok hf] at he
    subst he
    have HF := hide hf
    clear hf
    go_wp2_with fail
    go_ret
    exact ⟨(workE_ok (unhide HF)).symm, unhide HB⟩
  · rw [wrongE_bad hf] at he
    subst he
    have HF := hide hf
    clear hf
    go_wp2_with fail
    exact ⟨rfl, (workE_bad (unhide HF)).symm, unhide HB⟩
set_option maxRecDepth 10000 in
set_option maxHeartbeats 1000000 in
theorem implNetFault (v : Value) (xs : List DMsg) (w : World) (h : (Lay.sl Lay.tMsg).Reads w [v] xs) :
    Calls Try.prog 16 #[v] w fun e w' => e = .returned (.int .i64 (netFault xs)) ∧ Below w.heap.size w w' := by
  have hmf : ∀ (fn : Fn) (first cap : Array Value) (w : World), (Instr.makeFunc fn first cap).run Try.prog w = .ok (.func fn first cap) w := fun _ _ _ _ => rfl
  obtain ⟨ao, cap, rfl⟩ := open_sl h
  have nb : Below w.heap.size w (w.alloc (.cells #[.slice ao xs.length cap] 38)) := (Below.refl _ _).alloc (Nat.le_refl _) _
  have HR := hide (h.later nb)
  have HB := hide nb
  have HX : Hid (Box 0 #[.slice ao xs.length cap] 38 (w.alloc (.cells #[.slice ao xs.length cap] 38)) w.heap.size) := newBox (Nat.zero_le _)
  clear h nb
  go_enter Try.func16, Try.ntmps16
  go_upto_region 1 with fail
  generalize w.alloc (.cells #[.slice ao xs.length cap] 38) = W1 at *
  have nb : Below W1.heap.size W1 (W1.alloc (.cells #[.int .i64 0] 2)) := (Below.refl _ _).alloc (Nat.le_refl _) _
  have HW := hide (netFaultWork _ xs w.heap.size _ ((unhide HR).later nb) ((unhide HX).keep nb))
  have hz : (W1.alloc (.cells #[.int .i64 0] 2)).heap.size = W1.heap.size + 1 := by simp
  have HZ := hide hz
  clear nb hz
  by_cases hf : netFault xs = 0
  · have HL := hide (faced_ok_bool 38 #[.pointer (some ⟨w.heap.size, 0, none⟩)] W1 (fun v _ => v = .bool true) (fun _ => by rfl) ((unhide HW).mono (by
      rintro e w' ⟨he, hb⟩
      rw [workE_ok hf] at he
      rw [unhide HZ] at hb
      exact ⟨_, he, rfl, hb⟩)))
    have HF := hide hf
    clear hf HW HZ
    go_wp2_with fail
    refine (unhide HL).mono ?_
    rintro e W2 ⟨v, W3, rfl, rfl, hW, hb, -⟩
    replace HB := hide ((unhide HB).trans (hb.mono (unhide HB).size))
    clear hW hb HL
    go_wp2_with fail
    go_ret
    exact ⟨by rw [unhide HF]; rfl, unhide HB⟩
  · have HL := hide (faced_bad_bool 38 #[.pointer (some ⟨w.heap.size, 0, none⟩)] (netFault xs) W1 (fun _ => by rfl) ((unhide HW).mono (by
      rintro e w' ⟨he, hb⟩
      rw [workE_bad hf] at he
      rw [unhide HZ] at hb
      exact ⟨he, hb⟩)))
    clear hf HW HZ
    go_wp2_with fail
    refine (unhide HL).mono ?_
    rintro e W2 ⟨rfl, hb⟩
    replace HB := hide ((unhide HB).trans (hb.mono (unhide HB).size))
    clear hb HL
    go_wp2_with fail
    go_ret
    exact ⟨rfl, unhide HB⟩
end Go.Proofs.Ytkmfkaljdngigaa

namespace Go.Proofs.Ytkmfkaljdngigaa
open Go.RowKit

set_option maxRecDepth 10000 in
set_option maxHeartbeats 4000000 in
theorem sameMsgC (cs cs2 : List Value) (x y : DMsg) (w : World) (h : Lay.tMsg.Reads w cs x) (h2 : Lay.tMsg.Reads w cs2 y) :
    Calls Try.prog 73 #[.agg cs.toArray, .agg cs2.toArray] w fun e w' => e = .returned (.bool (sameM x y)) ∧ Below w.heap.size w w' := by
  obtain ⟨a, d, rfl, R⟩ := open_Msg h
  obtain ⟨a2, d2, rfl, R2⟩ := open_Msg h2
  clear h h2
  have nb : Below w.heap.size w ((w.alloc (.cells #[.int .i64 x.kind, .int .i64 x.epoch, .int .i64 x.src, .int .i64 x.dst, .int .i64 x.index, .int .i64 x.write.kind, .int .i64 x.write.id, .slice a x.write.vec.length d, .int .i64 x.write.session, .int .i64 x.write.seq] 31)).alloc (.cells #[.int .i64 y.kind, .int .i64 y.epoch, .int .i64 y.src, .int .i64 y.dst, .int .i64 y.index, .int .i64 y.write.kind, .int .i64 y.write.id, .slice a2 y.write.vec.length d2, .int .i64 y.write.session, .int .i64 y.write.seq] 31)) := ((Below.refl _ _).alloc (Nat.le_refl _) _).alloc (by simp) _
  have HL := hide (sameWrite _ _ x.write y.write _ (R.later nb) (R2.later nb))
  have HB := hide nb
  clear nb R R2
  cases e0 : (x.kind == y.kind)
  · have HS : Hid (sameM x y = false) := by show sameM x y = false; simp [sameM, e0]
    go_enter Try.func73, Try.ntmps73
    go_wp2_with fail
    go_ret
    exact ⟨by rw [unhide HS]; rfl, unhide HB⟩
  · have ht0 : True := trivial
    cases e1 : (x.epoch == y.epoch)
    · have HS : Hid (sameM x y = false) := by show sameM x y = false; simp [sameM, e0, e1]
      go_enter Try.func73, Try.ntmps73
      go_wp2_with fail
      go_ret
      exact ⟨by rw [unhide HS]; rfl, unhide HB⟩
    · have ht1 : True := trivial
      cases e2 : (x.src == y.src)
      · have HS : Hid (sameM x y = false) := by show sameM x y = false; simp [sameM, e0, e1, e2]
        go_enter Try.func73, Try.ntmps73
        go_wp2_with fail
        go_ret
        exact ⟨by rw [unhide HS]; rfl, unhide HB⟩
      · have ht2 : True := trivial
        cases e3 : (x.dst == y.dst)
        · have HS : Hid (sameM x y = false) := by show sameM x y = false; simp [sameM, e0, e1, e2, e3]
          go_enter Try.func73, Try.ntmps73
          go_wp2_with fail
          go_ret
          exact ⟨by rw [unhide HS]; rfl, unhide HB⟩
        · have ht3 : True := trivial
          cases e4 : (x.index == y.index)
          · have HS : Hid (sameM x y = false) := by show sameM x y = false; simp [sameM, e0, e1, e2, e3, e4]
            go_enter Try.func73, Try.ntmps73
            go_wp2_with fail
            go_ret
            exact ⟨by rw [unhide HS]; rfl, unhide HB⟩
          · have ht4 : True := trivial
            have HS : Hid (sameM x y = sameW x.write y.write) := by show sameM x y = _; simp [sameM, e0, e1, e2, e3, e4]
            clear ht0 ht1 ht2 ht3 ht4
            go_enter Try.func73, Try.ntmps73
            go_wp2_with fail
            refine (unhide HL).mono ?_
            rintro e w1 ⟨rfl, hb⟩
            replace HB := hide ((unhide HB).trans (hb.mono (unhide HB).size))
            clear hb HL
            go_wp2_with fail
            go_ret
            exact ⟨by rw [unhide HS]; rfl, unhide HB⟩
set_option maxRecDepth 10000 in
set_option maxHeartbeats 1000000 in
theorem sentEach (cs : List Value) (a : Option Addr) (d : Nat) (x y : DMsg) (g : Nat) (w : World) (h : Lay.tMsg.Reads w cs y) (hx : Lay.tMsg.Reads w [.int .i64 x.kind, .int .i64 x.epoch, .int .i64 x.src, .int .i64 x.dst, .int .i64 x.index, .int .i64 x.write.kind, .int .i64 x.write.id, .slice a x.write.vec.length d, .int .i64 x.write.session, .int .i64 x.write.seq] x) (hbx : Box 0 #[.int .i64 x.kind, .int .i64 x.epoch, .int .i64 x.src, .int .i64 x.dst, .int .i64 x.index, .int .i64 x.write.kind, .int .i64 x.write.id, .slice a x.write.vec.length d, .int .i64 x.write.session, .int .i64 x.write.seq] 31 w g) :
    Calls Try.prog 72 #[.agg cs.toArray, .pointer (some ⟨g, 0, none⟩)] w fun e w' => e = .returned (.bool (sameM y x)) ∧ Below w.heap.size w w' := by
  obtain ⟨a2, d2, rfl, -⟩ := open_Msg h
  have nb : Below w.heap.size w (w.alloc (.cells #[.int .i64 y.kind, .int .i64 y.epoch, .int .i64 y.src, .int .i64 y.dst, .int .i64 y.index, .int .i64 y.write.kind, .int .i64 y.write.id, .slice a2 y.write.vec.length d2, .int .i64 y.write.session, .int .i64 y.write.seq] 31)) := (Below.refl _ _).alloc (Nat.le_refl _) _
  have HL := hide (sameMsgC _ _ y x _ (h.later nb) (hx.later nb))
  have hb1 := hbx.keep nb
  have HB := hide nb
  clear nb h hx hbx
  have c0 : (w.alloc (.cells #[.int .i64 y.kind, .int .i64 y.epoch, .int .i64 y.src, .int .i64 y.dst, .int .i64 y.index, .int .i64 y.write.kind, .int .i64 y.write.id, .slice a2 y.write.vec.length d2, .int .i64 y.write.session, .int .i64 y.write.seq] 31)).cell? ⟨g, 0, none⟩ = some (.int .i64 x.kind) := (hb1).at 0 _ rfl
  have c1 : (w.alloc (.cells #[.int .i64 y.kind, .int .i64 y.epoch, .int .i64 y.src, .int .i64 y.dst, .int .i64 y.index, .int .i64 y.write.kind, .int .i64 y.write.id, .slice a2 y.write.vec.length d2, .int .i64 y.write.session, .int .i64 y.write.seq] 31)).cell? ⟨g, 1, none⟩ = some (.int .i64 x.epoch) := (hb1).at 1 _ rfl
  have c2 : (w.alloc (.cells #[.int .i64 y.kind, .int .i64 y.epoch, .int .i64 y.src, .int .i64 y.dst, .int .i64 y.index, .int .i64 y.write.kind, .int .i64 y.write.id, .slice a2 y.write.vec.length d2, .int .i64 y.write.session, .int .i64 y.write.seq] 31)).cell? ⟨g, 2, none⟩ = some (.int .i64 x.src) := (hb1).at 2 _ rfl
  have c3 : (w.alloc (.cells #[.int .i64 y.kind, .int .i64 y.epoch, .int .i64 y.src, .int .i64 y.dst, .int .i64 y.index, .int .i64 y.write.kind, .int .i64 y.write.id, .slice a2 y.write.vec.length d2, .int .i64 y.write.session, .int .i64 y.write.seq] 31)).cell? ⟨g, 3, none⟩ = some (.int .i64 x.dst) := (hb1).at 3 _ rfl
  have c4 : (w.alloc (.cells #[.int .i64 y.kind, .int .i64 y.epoch, .int .i64 y.src, .int .i64 y.dst, .int .i64 y.index, .int .i64 y.write.kind, .int .i64 y.write.id, .slice a2 y.write.vec.length d2, .int .i64 y.write.session, .int .i64 y.write.seq] 31)).cell? ⟨g, 4, none⟩ = some (.int .i64 x.index) := (hb1).at 4 _ rfl
  have c5 : (w.alloc (.cells #[.int .i64 y.kind, .int .i64 y.epoch, .int .i64 y.src, .int .i64 y.dst, .int .i64 y.index, .int .i64 y.write.kind, .int .i64 y.write.id, .slice a2 y.write.vec.length d2, .int .i64 y.write.session, .int .i64 y.write.seq] 31)).cell? ⟨g, 5, none⟩ = some (.int .i64 x.write.kind) := (hb1).at 5 _ rfl
  have c6 : (w.alloc (.cells #[.int .i64 y.kind, .int .i64 y.epoch, .int .i64 y.src, .int .i64 y.dst, .int .i64 y.index, .int .i64 y.write.kind, .int .i64 y.write.id, .slice a2 y.write.vec.length d2, .int .i64 y.write.session, .int .i64 y.write.seq] 31)).cell? ⟨g, 6, none⟩ = some (.int .i64 x.write.id) := (hb1).at 6 _ rfl
  have c7 : (w.alloc (.cells #[.int .i64 y.kind, .int .i64 y.epoch, .int .i64 y.src, .int .i64 y.dst, .int .i64 y.index, .int .i64 y.write.kind, .int .i64 y.write.id, .slice a2 y.write.vec.length d2, .int .i64 y.write.session, .int .i64 y.write.seq] 31)).cell? ⟨g, 7, none⟩ = some (.slice a x.write.vec.length d) := (hb1).at 7 _ rfl
  have c8 : (w.alloc (.cells #[.int .i64 y.kind, .int .i64 y.epoch, .int .i64 y.src, .int .i64 y.dst, .int .i64 y.index, .int .i64 y.write.kind, .int .i64 y.write.id, .slice a2 y.write.vec.length d2, .int .i64 y.write.session, .int .i64 y.write.seq] 31)).cell? ⟨g, 8, none⟩ = some (.int .i64 x.write.session) := (hb1).at 8 _ rfl
  have c9 : (w.alloc (.cells #[.int .i64 y.kind, .int .i64 y.epoch, .int .i64 y.src, .int .i64 y.dst, .int .i64 y.index, .int .i64 y.write.kind, .int .i64 y.write.id, .slice a2 y.write.vec.length d2, .int .i64 y.write.session, .int .i64 y.write.seq] 31)).cell? ⟨g, 9, none⟩ = some (.int .i64 x.write.seq) := (hb1).at 9 _ rfl
  clear hb1
  go_enter Try.func72, Try.ntmps72
  go_wp2_with fail
  refine (unhide HL).mono ?_
  rintro e w1 ⟨rfl, hb⟩
  replace HB := hide ((unhide HB).trans (hb.mono (unhide HB).size))
  clear hb HL
  go_wp2_with fail
  go_ret
  exact ⟨rfl, unhide HB⟩
/-- The first place of a message that is the same. -/
def placeM (xs : List DMsg) (x : DMsg) : Int := if xs.any (fun y => sameM y x) then 1 else -1
theorem any_at {xs : List DMsg} {x : DMsg} {k : Nat} (hk : k < xs.length) (h : sameM xs[k] x = true) : xs.any (fun y => sameM y x) = true := List.any_eq_true.2 ⟨xs[k], List.getElem_mem hk, h⟩
theorem any_none {xs : List DMsg} {x : DMsg} (h : ∀ j (hj : j < xs.length), sameM xs[j] x = false) : xs.any (fun y => sameM y x) = false := by
  rw [List.any_eq_false]
  intro y hy
  obtain ⟨j, hj, rfl⟩ := List.getElem_of_mem hy
  simp [h j hj]
set_option maxRecDepth 10000 in
set_option maxHeartbeats 4000000 in
theorem indexFuncM (v : Value) (a : Option Addr) (d : Nat) (xs : List DMsg) (x : DMsg) (g : Nat) (w : World) (h : (Lay.sl Lay.tMsg).Reads w [v] xs) (hx : Lay.tMsg.Reads w [.int .i64 x.kind, .int .i64 x.epoch, .int .i64 x.src, .int .i64 x.dst, .int .i64 x.index, .int .i64 x.write.kind, .int .i64 x.write.id, .slice a x.write.vec.length d, .int .i64 x.write.session, .int .i64 x.write.seq] x) (hbx : Box 0 #[.int .i64 x.kind, .int .i64 x.epoch, .int .i64 x.src, .int .i64 x.dst, .int .i64 x.index, .int .i64 x.write.kind, .int .i64 x.write.id, .slice a x.write.vec.length d, .int .i64 x.write.session, .int .i64 x.write.seq] 31 w g) :
    Calls Try.prog 85 #[v, .func (.func 72) #[] #[.pointer (some ⟨g, 0, none⟩)]] w fun e w' => ∃ i : Int, e = .returned (.int .i64 i) ∧ decide (0 ≤ i) = xs.any (fun y => sameM y x) ∧ Below w.heap.size w w' := by
  have hbig := h.big
  obtain ⟨ao, cap, rfl⟩ := open_sl h
  have H := hide h
  have HX := hide hx
  have HBX := hide hbx
  clear h hx hbx
  go_enter Try.func85, Try.ntmps85
  go_wp2_with fail
  go_loopw [8] (fun i wr => ∃ k : Nat, k ≤ xs.length ∧ i = .int .i64 k ∧ (∀ j (hj : j < xs.length), j < k → sameM xs[j] x = false) ∧ Below w.heap.size w wr) (fun i _ => xs.length - (intOf i).toNat)
  case atStart => exact ⟨0, Nat.zero_le _, rfl, fun j _ hj => by omega, Below.refl _ _⟩
  case round =>
    obtain ⟨k, hk, rfl, hz, hB⟩ := hrel
    by_cases hlt : k < xs.length
    · obtain ⟨b, off, rfl, hbl⟩ := Lay.sl_addr (unhide H) (by omega)
      obtain ⟨row, hc, hr⟩ := Lay.row_at (unhide H) hlt
      replace hr := hr.later hB
      have hdl : decide ((k : Int) < (xs.length : Int)) = true := by simp; omega
      have hr2 := hr
      obtain ⟨a2, d2, rfl, -⟩ := open_Msg hr2
      have c0 : wr.cell? ⟨b, off + k * 10, none⟩ = some (.int .i64 (xs[k]).kind) := (hB.cell (p := ⟨b, off + k * 10, none⟩) hbl).trans (hc 0 (by decide))
      have c1 : wr.cell? ⟨b, off + k * 10 + 1, none⟩ = some (.int .i64 (xs[k]).epoch) := (hB.cell (p := ⟨b, off + k * 10 + 1, none⟩) hbl).trans (hc 1 (by decide))
      have c2 : wr.cell? ⟨b, off + k * 10 + 2, none⟩ = some (.int .i64 (xs[k]).src) := (hB.cell (p := ⟨b, off + k * 10 + 2, none⟩) hbl).trans (hc 2 (by decide))
      have c3 : wr.cell? ⟨b, off + k * 10 + 3, none⟩ = some (.int .i64 (xs[k]).dst) := (hB.cell (p := ⟨b, off + k * 10 + 3, none⟩) hbl).trans (hc 3 (by decide))
      have c4 : wr.cell? ⟨b, off + k * 10 + 4, none⟩ = some (.int .i64 (xs[k]).index) := (hB.cell (p := ⟨b, off + k * 10 + 4, none⟩) hbl).trans (hc 4 (by decide))
      have c5 : wr.cell? ⟨b, off + k * 10 + 5, none⟩ = some (.int .i64 (xs[k]).write.kind) := (hB.cell (p := ⟨b, off + k * 10 + 5, none⟩) hbl).trans (hc 5 (by decide))
      have c6 : wr.cell? ⟨b, off + k * 10 + 6, none⟩ = some (.int .i64 (xs[k]).write.id) := (hB.cell (p := ⟨b, off + k * 10 + 6, none⟩) hbl).trans (hc 6 (by decide))
      have c7 : wr.cell? ⟨b, off + k * 10 + 7, none⟩ = some (.slice a2 (xs[k]).write.vec.length d2) := (hB.cell (p := ⟨b, off + k * 10 + 7, none⟩) hbl).trans (hc 7 (by decide))
      have c8 : wr.cell? ⟨b, off + k * 10 + 8, none⟩ = some (.int .i64 (xs[k]).write.session) := (hB.cell (p := ⟨b, off + k * 10 + 8, none⟩) hbl).trans (hc 8 (by decide))
      have c9 : wr.cell? ⟨b, off + k * 10 + 9, none⟩ = some (.int .i64 (xs[k]).write.seq) := (hB.cell (p := ⟨b, off + k * 10 + 9, none⟩) hbl).trans (hc 9 (by decide))
      have HL := hide (sentEach _ a d x xs[k] g wr hr ((unhide HX).later hB) ((unhide HBX).keep hB))
      have HZ : Hid (∀ j (hj : j < xs.length), j < k → sameM xs[j] x = false) := hz
      have HA : Hid (sameM xs[k] x = true → xs.any (fun y => sameM y x) = true) := fun q => any_at hlt q
      have HN : Hid (sameM xs[k] x = false → ∀ j (hj : j < xs.length), j < k + 1 → sameM xs[j] x = false) := fun q j hj hjk => by
        by_cases h2 : j < k
        · exact hz j hj h2
        · obtain rfl : j = k := by omega
          exact q
      have HB := hide hB
      clear hz hB hr hc hr2
      generalize hy : xs[k] = y at *
      clear hy
      go_wp2_with fail
      refine (unhide HL).mono ?_
      rintro e w2 ⟨rfl, hb⟩
      replace HB := hide ((unhide HB).trans (hb.mono (unhide HB).size))
      clear hb HL c0 c1 c2 c3 c4 c5 c6 c7 c8 c9
      cases hq : sameM y x
      · have HNN := hide (unhide HN hq)
        clear HN HA hq HZ
        go_wp2_with fail
        go_roundw
        case rel => exact ⟨k + 1, by omega, by go_num, unhide HNN, unhide HB⟩
        case measure => simp [intOf]; omega
      · have HAA := hide (unhide HA hq)
        clear HN HA hq HZ
        go_wp2_with fail
        go_ret
        exact ⟨k, rfl, by rw [unhide HAA]; simp, unhide HB⟩
    · obtain rfl : k = xs.length := by omega
      have hdl : decide ((xs.length : Int) < (xs.length : Int)) = false := by simp
      have HAN := hide (any_none (x := x) fun j hj => hz j hj hj)
      have HB := hide hB
      clear hz hB
      go_wp2_with fail
      go_ret
      exact ⟨-1, rfl, by rw [unhide HAN]; rfl, unhide HB⟩
set_option maxRecDepth 10000 in
theorem containsFuncM (v : Value) (a : Option Addr) (d : Nat) (xs : List DMsg) (x : DMsg) (g : Nat) (w : World) (h : (Lay.sl Lay.tMsg).Reads w [v] xs) (hx : Lay.tMsg.Reads w [.int .i64 x.kind, .int .i64 x.epoch, .int .i64 x.src, .int .i64 x.dst, .int .i64 x.index, .int .i64 x.write.kind, .int .i64 x.write.id, .slice a x.write.vec.length d, .int .i64 x.write.session, .int .i64 x.write.seq] x) (hbx : Box 0 #[.int .i64 x.kind, .int .i64 x.epoch, .int .i64 x.src, .int .i64 x.dst, .int .i64 x.index, .int .i64 x.write.kind, .int .i64 x.write.id, .slice a x.write.vec.length d, .int .i64 x.write.session, .int .i64 x.write.seq] 31 w g) :
    Calls Try.prog 71 #[v, .func (.func 72) #[] #[.pointer (some ⟨g, 0, none⟩)]] w fun e w' => e = .returned (.bool (xs.any (fun y => sameM y x))) ∧ Below w.heap.size w w' := by
  have HL := hide (indexFuncM v a d xs x g w h hx hbx)
  obtain ⟨ao, cap, rfl⟩ := open_sl h
  clear h hx hbx
  go_enter Try.func71, Try.ntmps71
  go_wp2_with fail
  refine (unhide HL).mono ?_
  rintro e w2 ⟨i, rfl, hi, hb⟩
  have HI := hide hi
  have HB := hide hb
  clear hb HL hi
  go_wp2_with fail
  go_ret
  exact ⟨by rw [← unhide HI]; rfl, unhide HB⟩
end Go.Proofs.Ytkmfkaljdngigaa

namespace Go.Proofs.Ytkmfkaljdngigaa
open Go.RowKit

set_option maxHeartbeats 400000 in
theorem slClone (ad : Addr) (cap : Nat) (zs : List Int) (w : World) (h : IsInts w (.slice (some ad) zs.length cap) zs) (hn : zs.length ≤ 100000000) :
    Calls Try.prog 86 #[.slice (some ad) zs.length cap] w fun e w' => ∃ v', e = .returned v' ∧ w'.ownsRow w.heap.size 2 1 v' zs.length (zs.map (Value.int .i64)) ∧ Below w.heap.size w w' := by
  have nb : Below w.heap.size w (w.alloc (.cells #[] 2)) := (Below.refl _ _).alloc (Nat.le_refl _) _
  have O : (w.alloc (.cells #[] 2)).ownsRow w.heap.size 2 1 (.slice (some ⟨w.heap.size, 0, none⟩) 0 0) 0 [] := World.ownsRow_lit w _ 0 (Nat.le_refl _) (by unfold maxLen; omega) rfl
  have h1 := h.later nb
  have HB := hide nb
  have hnil : ∀ w : World, (binOp .eql 22 (.slice (some ad) zs.length cap) (.slice none 0 0)).run Try.prog w = .ok (.bool false) w := fun _ => by kernel_rfl
  clear nb h
  go_enter Try.func86, Try.ntmps86
  go_wp2_with (at_builtin; refine wpList_append_ints O h1 rfl _ _ rfl rfl rfl (by omega) (by simp) ?_)
  rintro v' w' O2 - hb
  have HB2 := hide ((unhide HB).trans hb)
  clear O h1 hb HB
  go_wp2_with fail
  go_ret
  exact ⟨v', rfl, by simpa using O2, unhide HB2⟩

end Go.Proofs.Ytkmfkaljdngigaa

namespace Go.Proofs.Ytkmfkaljdngigaa
open Go.RowKit

set_option maxHeartbeats 400000 in
theorem clone_nil (d : Nat) (w : World) : Calls Try.prog 86 #[.slice none 0 d] w fun e w' => e = .returned (.slice none 0 0) ∧ Below w.heap.size w w' := by
  have hnil : ∀ w : World, (binOp .eql 22 (.slice none 0 d) (.slice none 0 0)).run Try.prog w = .ok (.bool true) w := fun _ => by kernel_rfl
  have HB : Hid (∀ o, Below w.heap.size w (w.alloc o)) := fun o => (Below.refl _ _).alloc (Nat.le_refl _) o
  go_enter Try.func86, Try.ntmps86
  go_wp2_with fail
  go_ret
  exact ⟨rfl, Below.refl _ _⟩
theorem cloneC (v : Value) (zs : List Int) (w : World) (h : (Lay.sl Lay.int).Reads w [v] zs) (hn : zs.length ≤ 10000000) :
    Calls Try.prog 86 #[v] w fun e w' => ∃ a n c, e = .returned (.slice a n c) ∧ ((Lay.sl Lay.int).OwnIn w' [.slice a n c] zs w.heap.size w'.heap.size ∧ n = zs.length) ∧ Below w.heap.size w w' := by
  obtain ⟨ao, cap, rfl⟩ := open_sl h
  cases ao with
  | none =>
    have h0 : zs = [] := by
      by_cases hp : 0 < zs.length
      · obtain ⟨b, off, e, -⟩ := Lay.sl_addr h hp
        cases e
      · exact List.eq_nil_of_length_eq_zero (by omega)
    subst h0
    refine (clone_nil cap w).mono ?_
    rintro e w' ⟨rfl, hb⟩
    exact ⟨none, 0, 0, rfl, ⟨nil_own, rfl⟩, hb⟩
  | some ad =>
    refine (slClone ad cap zs w (Lay.ints_reads h) (by omega)).mono ?_
    rintro e w' ⟨v', rfl, O, hb⟩
    have hO := Lay.ownInts (Lay.ints_reads h).wf (by omega) O
    obtain ⟨a3, c3, rfl⟩ := open_sl hO.reads
    exact ⟨a3, _, c3, rfl, ⟨hO, rfl⟩, hb⟩

end Go.Proofs.Ytkmfkaljdngigaa
