/-
  The model's PackWrite: code and words in plain words; the words lie in new memory; nothing old is written.
  No condition.
-/
import Derived.Test.YtgjjmbliahhhjaaWrPack
namespace Go.Proofs.Ytgjjmbliahhhjaa
open Go.RowKit

/-- The parts of a write's vector (of a drop three times 0). -/
def partsOf (k : Int) (zs : List Int) : List Int := if k = 1 then zs else [0, 0, 0]
/-- The eight words. -/
def wordsOf (k i : Int) (zs : List Int) (s q : Int) : List Int :=
  [k, i, s, q, (partsOf k zs).getD 0 0, (partsOf k zs).getD 1 0, (partsOf k zs).getD 2 0, checkOf (packSum k i s q ((partsOf k zs).getD 0 0) ((partsOf k zs).getD 1 0) ((partsOf k zs).getD 2 0))]
def packList (k i : Int) (zs : List Int) (s q : Int) : List Int := if writeFault k i zs s q = 0 then wordsOf k i zs s q else []

/-- What a function that answers an IntsResult tells. -/
def ToldInts (w w' : World) (e : Ending) (c : Int) (l : List Int) : Prop := ∃ r, e = .returned (intsRes c r) ∧ w'.ownsRow w.heap.size 2 1 r l.length (l.map (Value.int .i64)) ∧ Below w.heap.size w w'
theorem toldInts_nil {w w' : World} {c : Int} (h : Below w.heap.size w w') : ToldInts w w' (.returned (intsRes c (.slice none 0 0))) c [] := ⟨_, rfl, World.ownsRow_nil _ _ _ _, h⟩

/-- A write without a fault. -/
theorem writeFault_zero {k i s q : Int} {zs : List Int} (h : writeFault k i zs s q = 0) : (1 ≤ i ∧ i ≤ 999) ∧ (1 ≤ s ∧ s ≤ 9) ∧ (1 ≤ q ∧ q ≤ 999) ∧ ((k = 1 ∧ vecFault zs = 0) ∨ (k = 2 ∧ zs = [])) := by
  unfold writeFault at h
  split at h
  · next hk =>
    split at h
    · next hb =>
      simp only [kindB, Bool.and_eq_true, decide_eq_true_eq, Bool.not_eq_true', Bool.and_eq_false_iff] at hk
      simp only [boundB, Bool.and_eq_true, decide_eq_true_eq] at hb
      refine ⟨hb.1, hb.2.1, hb.2.2, ?_⟩
      by_cases h1 : k = 1
      · rw [if_pos h1] at h
        exact Or.inl ⟨h1, h⟩
      · have h2 : k = 2 := by omega
        refine Or.inr ⟨h2, ?_⟩
        rcases hk.2 with h3 | h3
        · simp [h2] at h3
        · simp at h3
          exact h3
    · omega
  · omega

theorem l3Pack (b : Nat) (k i : Int) (v : Value) (s q : Int) (zs : List Int) (w : World) (hc : WriteAt w b k i v s q) (h : IsInts w v zs) (hf : writeFault k i zs s q = 0) :
    Calls Try.prog 34 #[.pointer (some ⟨b, 0, none⟩)] w fun e w' => ∃ g : Nat, e = .returned (.slice (some ⟨g, 0, none⟩) 8 8) ∧
      w'.ownsRow w.heap.size 2 1 (.slice (some ⟨g, 0, none⟩) 8 8) 8 ((wordsOf k i zs s q).map (Value.int .i64)) ∧ Below w.heap.size w w' := by
  obtain ⟨hi, hs, hq, hk⟩ := writeFault_zero hf
  rcases hk with ⟨rfl, hv⟩ | ⟨rfl, rfl⟩
  · obtain ⟨hl, -⟩ := vecFault_zero hv
    match zs, hl with
    | [x, y, z], _ =>
    obtain ⟨b1, b2, b3⟩ := fault3 hv
    obtain ⟨ao, cap, rfl, -, hcells⟩ := h
    obtain ⟨vb, off, rfl, hcl⟩ := hcells (by simp)
    have e0 := hcl 0 (by simp)
    have e1 := hcl 1 (by simp)
    have e2 := hcl 2 (by simp)
    exact l3Pack_put b vb off cap i s q x y z w hc ⟨e0, e1, e2⟩ hi hs hq b1 b2 b3
  · exact l3Pack_drop b i v s q w hc hi hs hq

set_option maxRecDepth 100000 in
set_option maxHeartbeats 1000000 in
theorem modelPack (k i : Int) (v : Value) (s q : Int) (zs : List Int) (w : World) (h : IsInts w v zs) :
    Calls Try.prog 12 #[.agg #[.int .i64 k, .int .i64 i, v, .int .i64 s, .int .i64 q]] w fun e w' => ToldInts w w' e (writeFault k i zs s q) (packList k i zs s q) := by
  have hv : ∃ a c, v = .slice a zs.length c := by obtain ⟨a, c, h, -⟩ := h; exact ⟨a, c, h⟩
  obtain ⟨av, cv, rfl⟩ := hv
  have bA : Box w.heap.size #[.int .i64 k, .int .i64 i, .slice av zs.length cv, .int .i64 s, .int .i64 q] 27 ((w.alloc (.cells #[.int .i64 k, .int .i64 i, .slice av zs.length cv, .int .i64 s, .int .i64 q] 27)).alloc (.cells #[.int .i64 0, .slice none 0 0] 32)) w.heap.size := (newBox (Nat.le_refl _)).alloc _
  have bR : Box w.heap.size #[.int .i64 0, .slice none 0 0] 32 ((w.alloc (.cells #[.int .i64 k, .int .i64 i, .slice av zs.length cv, .int .i64 s, .int .i64 q] 27)).alloc (.cells #[.int .i64 0, .slice none 0 0] 32)) (w.heap.size + 1) := by
    have := newBox (lo := w.heap.size) (cs := #[.int .i64 0, .slice none 0 0]) (T := 32) (W := w.alloc (.cells #[.int .i64 k, .int .i64 i, .slice av zs.length cv, .int .i64 s, .int .i64 q] 27)) (by simp)
    simpa using this
  have B0 : Below w.heap.size w ((w.alloc (.cells #[.int .i64 k, .int .i64 i, .slice av zs.length cv, .int .i64 s, .int .i64 q] 27)).alloc (.cells #[.int .i64 0, .slice none 0 0] 32)) := ((Below.refl _ _).alloc (Nat.le_refl _) _).alloc (by simp) _
  have hz0 : ((w.alloc (.cells #[.int .i64 k, .int .i64 i, .slice av zs.length cv, .int .i64 s, .int .i64 q] 27)).alloc (.cells #[.int .i64 0, .slice none 0 0] 32)).heap.size = w.heap.size + 2 := by simp
  go_enter Try.func12, Try.ntmps12
  go_wp2_with fail
  generalize (w.alloc (.cells #[.int .i64 k, .int .i64 i, .slice av zs.length cv, .int .i64 s, .int .i64 q] 27)).alloc (.cells #[.int .i64 0, .slice none 0 0] 32) = W0 at *
  refine (l3Fault w.heap.size k i _ s q zs W0 bA.five.1 (h.later B0)).mono ?_
  rintro e w1 ⟨rfl, rfl⟩
  obtain ⟨z0, z1, z2, z3⟩ := bR.two
  by_cases hf : writeFault k i zs s q = 0
  · have L := l3Pack w.heap.size k i _ s q zs w1 bA.five.1 (h.later B0) hf
    have E1 : Hid (packList k i zs s q = wordsOf k i zs s q) := by
      show packList k i zs s q = wordsOf k i zs s q
      rw [packList, if_pos hf]
    have HF := hide hf
    rw [hf]
    have HB := hide B0
    have HR := hide bR
    clear hf bA B0 h z0 z1 z2 z3 bR
    go_wp2_with fail
    refine L.mono ?_
    rintro e w2 ⟨g, rfl, ho, hb⟩
    obtain ⟨z0, z1, z2, z3⟩ := ((unhide HR).keep hb).two
    have HB2 := hide ((unhide HB).trans (hb.mono (unhide HB).size))
    have HO := hide (own_mono (Nat.le_of_eq hz0.symm) ho)
    clear L ho hb HB HR
    go_wp2_with fail
    refine bodyPost_ret (v := intsRes 0 (.slice (some ⟨g, 0, none⟩) 8 8)) (by simp [results, Try.results12, go_sem, intsRes, z0, z1]) rfl ?_
    rw [unhide HF, unhide E1]
    refine ⟨_, rfl, own_mono (b := w.heap.size + 2) (by omega) ?_, ((unhide HB2).setCell (by simp) _).setCell (by simp) _⟩
    exact own_setC (own_setC (unhide HO) (by simp) _) (by simp) _
  · have hd : (writeFault k i zs s q != 0) = true := by rw [bne_iff_ne]; exact hf
    have E1 : Hid (packList k i zs s q = []) := by
      show packList k i zs s q = []
      rw [packList, if_neg hf]
    have HB := hide B0
    clear hf bA B0 h bR
    generalize hF : writeFault k i zs s q = F at *
    have HF := hide hF
    clear hF
    go_wp2_with fail
    refine bodyPost_ret (v := intsRes F (.slice none 0 0)) (by simp [results, Try.results12, go_sem, intsRes, z0, z1]) rfl ?_
    rw [unhide E1, unhide HF]
    refine toldInts_nil ?_
    exact ((unhide HB).setCell (by simp) _).setCell (by simp) _

end Go.Proofs.Ytgjjmbliahhhjaa
