/-
  readVector tells the vector whose text it is, or that there is none: as the plain machine.
  Condition: at most 1048576 bytes.
-/
import Derived.Test.YtjfplfhdfiebgaaDoorChecked
import Derived.Test.YtjfplfhdfiebgaaDoorGround
import Derived.Test.YtjfplfhdfiebgaaDoorVecOf
import Derived.Test.YtjfplfhdfiebgaaDoorReadPlain
import Derived.Test.YtjfplfhdfiebgaaDoorScope5
import Derived.WalkMore
import Derived.Outline
namespace Go.Proofs.YtjfplfhdfiebgaaDoor
open Go.RowKit

theorem byteAt_c (s : ByteArray) (k : Nat) (w : World) (_hs : s.size ≤ 1048576) (hk : k ≤ s.size) :
    Calls Tryd.prog 75 #[.string s, .int .i64 (k : Int)] w fun e w' => e = .returned (.int .u8 (bAt s k)) ∧ w' = w := by
  by_cases h : k < s.size
  · have HB := hide (bAt_lt s k h)
    go_enter Tryd.func75, Tryd.ntmps75
    go_wp2
    go_ret
    exact ⟨by rw [unhide HB]; rfl, rfl⟩
  · have HB := hide (bAt_ge s k h)
    go_enter Tryd.func75, Tryd.ntmps75
    go_wp2
    go_ret
    exact ⟨by rw [unhide HB]; rfl, rfl⟩

theorem isDigit_c (b : Int) (w : World) :
    Calls Tryd.prog 64 #[.int .u8 b] w fun e w' => e = .returned (.bool (digB b)) ∧ w' = w := by
  by_cases h1 : 48 ≤ b
  · by_cases h2 : b ≤ 57
    · have HD : Hid (digB b = true) := by simp [Hid, digB, h1, h2]
      have hd : decide (b ≤ 57) = true := by simp [h2]
      go_enter Tryd.func64, Tryd.ntmps64
      go_wp2
      go_ret
      exact ⟨by rw [unhide HD]; rfl, rfl⟩
    · have HD : Hid (digB b = false) := by simp [Hid, digB, h2]
      have hd : decide (b ≤ 57) = false := by simp [h2]
      go_enter Tryd.func64, Tryd.ntmps64
      go_wp2
      go_ret
      exact ⟨by rw [unhide HD]; rfl, rfl⟩
  · have HD : Hid (digB b = false) := by simp [Hid, digB, h1]
    go_enter Tryd.func64, Tryd.ntmps64
    go_wp2
    go_ret
    exact ⟨by rw [unhide HD]; rfl, rfl⟩

/-- What holds at each label: part, wrong, digit, ended, last. -/
def Inv (s : ByteArray) (R : Option Tri) (l : Nat) (sg sz : Int) (p k : Nat) (t : Tri) : Prop :=
  l < 5 ∧ k ≤ s.size ∧ (l = 0 → p ≤ 2 ∧ PP (3 - p) t (rest s k) = R) ∧ (l = 1 → R = none) ∧
    (l = 2 → p ≤ 2 ∧ (sg = 1 ∨ sg = -1) ∧ (0 ≤ sz ∧ sz ≤ 1000) ∧ digB (bAt s k) = true ∧ DD p t sg sz (rest s k) = R) ∧
    (l = 3 → p ≤ 2 ∧ (sg = 1 ∨ sg = -1) ∧ (0 ≤ sz ∧ sz ≤ 1000) ∧ EE p (setAt p t (sg * sz)) (rest s k) = R) ∧ (l = 4 → fin3 t (rest s k) = R)

def Lab (s : ByteArray) (R : Option Tri) (w : World) (l : Nat) (a' : Act) (w' : World) : Prop :=
  ∃ (sg sz : Int) (p k : Nat) (x y z : Int) (u9 u10 u11 u12 u13 u14 u15 u16 u17 u18 u19 u20 u21 u22 u23 u24 u25 u26 u27 u28 u29 u30 u31 u32 u33 u34 u35 u36 u37 u38 u39 u40 u41 u42 u43 u44 u45 u46 u47 u48 u49 u50 u51 u52 u53 u54 u55 u56 u57 u58 u59 u60 u61 u62 u63 u64 : Value), a' = { tmps := #[.string s, undef, .pointer (some ⟨w.heap.size, 0, none⟩), .bool false, .pointer (some ⟨w.heap.size + 1, 0, none⟩), .int .i64 sg, .int .i64 sz, .int .i64 (p : Int), .int .i64 (k : Int), u9, u10, u11, u12, u13, u14, u15, u16, u17, u18, u19, u20, u21, u22, u23, u24, u25, u26, u27, u28, u29, u30, u31, u32, u33, u34, u35, u36, u37, u38, u39, u40, u41, u42, u43, u44, u45, u46, u47, u48, u49, u50, u51, u52, u53, u54, u55, u56, u57, u58, u59, u60, u61, u62, u63, u64], defers := [] } ∧ w' = (w.alloc (.cells #[.int .i64 0, .int .i64 0, .int .i64 0] 66)).alloc (.cells #[.int .i64 x, .int .i64 y, .int .i64 z] 66) ∧ Inv s R l sg sz p k (x, y, z)

def wt : Nat → Nat
  | 0 => 3
  | 1 => 0
  | 2 => 2
  | 3 => 1
  | _ => 0
def meas (s : ByteArray) (l : Nat) (a' : Act) (_ : World) : Nat := 4 * (s.size + 1 - (intOf (a'.tmps.getD 8 undef)).toNat) + wt l

/-- The answer: the vector and true, or nothing and false. -/
def triRes : Option Tri → Value
  | none => .tuple #[arr3 0 0 0, .bool false]
  | some (x, y, z) => .tuple #[arr3 x y z, .bool true]

theorem lab_mk {s : ByteArray} {R : Option Tri} {w : World} {l : Nat} {sg sz : Int} {p k : Nat} {x y z : Int} {u9 u10 u11 u12 u13 u14 u15 u16 u17 u18 u19 u20 u21 u22 u23 u24 u25 u26 u27 u28 u29 u30 u31 u32 u33 u34 u35 u36 u37 u38 u39 u40 u41 u42 u43 u44 u45 u46 u47 u48 u49 u50 u51 u52 u53 u54 u55 u56 u57 u58 u59 u60 u61 u62 u63 u64 : Value} (h : Inv s R l sg sz p k (x, y, z)) :
    Lab s R w l { tmps := #[.string s, undef, .pointer (some ⟨w.heap.size, 0, none⟩), .bool false, .pointer (some ⟨w.heap.size + 1, 0, none⟩), .int .i64 sg, .int .i64 sz, .int .i64 (p : Int), .int .i64 (k : Int), u9, u10, u11, u12, u13, u14, u15, u16, u17, u18, u19, u20, u21, u22, u23, u24, u25, u26, u27, u28, u29, u30, u31, u32, u33, u34, u35, u36, u37, u38, u39, u40, u41, u42, u43, u44, u45, u46, u47, u48, u49, u50, u51, u52, u53, u54, u55, u56, u57, u58, u59, u60, u61, u62, u63, u64], defers := [] } ((w.alloc (.cells #[.int .i64 0, .int .i64 0, .int .i64 0] 66)).alloc (.cells #[.int .i64 x, .int .i64 y, .int .i64 z] 66)) := ⟨sg, sz, p, k, x, y, z, _, _, _, _, _, _, _, _, _, _, _, _, _, _, _, _, _, _, _, _, _, _, _, _, _, _, _, _, _, _, _, _, _, _, _, _, _, _, _, _, _, _, _, _, _, _, _, _, _, _, _, _, _, _, _, _, rfl, rfl, h⟩

theorem inv_part {s : ByteArray} {R : Option Tri} {sg sz : Int} {p k : Nat} {t : Tri} (hk : k ≤ s.size) (hp : p ≤ 2) (h : PP (3 - p) t (rest s k) = R) : Inv s R 0 sg sz p k t :=
  ⟨by omega, hk, fun _ => ⟨hp, h⟩, fun e => by omega, fun e => by omega, fun e => by omega, fun e => by omega⟩
theorem inv_wrong {s : ByteArray} {R : Option Tri} {sg sz : Int} {p k : Nat} {t : Tri} (hk : k ≤ s.size) (h : none = R) : Inv s R 1 sg sz p k t :=
  ⟨by omega, hk, fun e => by omega, fun _ => h.symm, fun e => by omega, fun e => by omega, fun e => by omega⟩
theorem inv_digit {s : ByteArray} {R : Option Tri} {sg sz : Int} {p k : Nat} {t : Tri} (hk : k ≤ s.size) (hp : p ≤ 2) (hg : sg = 1 ∨ sg = -1) (hz : 0 ≤ sz ∧ sz ≤ 1000) (hd : digB (bAt s k) = true) (h : DD p t sg sz (rest s k) = R) : Inv s R 2 sg sz p k t :=
  ⟨by omega, hk, fun e => by omega, fun e => by omega, fun _ => ⟨hp, hg, hz, hd, h⟩, fun e => by omega, fun e => by omega⟩
theorem inv_ended {s : ByteArray} {R : Option Tri} {sg sz : Int} {p k : Nat} {t : Tri} (hk : k ≤ s.size) (hp : p ≤ 2) (hg : sg = 1 ∨ sg = -1) (hz : 0 ≤ sz ∧ sz ≤ 1000) (h : EE p (setAt p t (sg * sz)) (rest s k) = R) : Inv s R 3 sg sz p k t :=
  ⟨by omega, hk, fun e => by omega, fun e => by omega, fun e => by omega, fun _ => ⟨hp, hg, hz, h⟩, fun e => by omega⟩
theorem inv_last {s : ByteArray} {R : Option Tri} {sg sz : Int} {p k : Nat} {t : Tri} (hk : k ≤ s.size) (h : fin3 t (rest s k) = R) : Inv s R 4 sg sz p k t :=
  ⟨by omega, hk, fun e => by omega, fun e => by omega, fun e => by omega, fun e => by omega, fun _ => h⟩

theorem at_label {G J : Act → World → Prop} {a : Act} {w : World} (h : J a w) (k : ∀ a2 w2, J a2 w2 → G a2 w2) : G a w := k a w h

set_option maxRecDepth 100000 in
set_option maxHeartbeats 16000000 in
theorem readVector_c (s : ByteArray) (w : World) (hs : s.size ≤ 1048576) :
    Calls Tryd.prog 63 #[.string s] w fun e w' => e = .returned (triRes (PP 3 (0, 0, 0) (rest s 0))) ∧ Below w.heap.size w w' := by
  obtain ⟨R, hR⟩ : ∃ R, R = PP 3 (0, 0, 0) (rest s 0) := ⟨_, rfl⟩
  rw [← hR]
  have HR := hide hR
  clear hR
  go_enter Tryd.func63, Tryd.ntmps63
  go_wp2_with fail
  refine wp_scope_five (Lab s R w) (meas s) rfl rfl rfl rfl rfl ?_ ?_ ?_ ?_ ?_ ?_ ?_
  · rintro l a2 w2 ⟨sg, sz, p, k, x, y, z, -, -, -, -, -, -, -, -, -, -, -, -, -, -, -, -, -, -, -, -, -, -, -, -, -, -, -, -, -, -, -, -, -, -, -, -, -, -, -, -, -, -, -, -, -, -, -, -, -, -, -, -, -, -, -, -, -, -, hI⟩
    exact hI.1
  · go_wp2_with fail
    go_step3
    refine at_label (J := Lab s R w 0) (lab_mk (sg := 0) (sz := 0) (p := 0) (k := 0) (inv_part (by omega) (by omega) (unhide HR).symm)) ?_
    rintro a2 w2 ⟨sg, sz, p, k, x, y, z, u9, u10, u11, u12, u13, u14, u15, u16, u17, u18, u19, u20, u21, u22, u23, u24, u25, u26, u27, u28, u29, u30, u31, u32, u33, u34, u35, u36, u37, u38, u39, u40, u41, u42, u43, u44, u45, u46, u47, u48, u49, u50, u51, u52, u53, u54, u55, u56, u57, u58, u59, u60, u61, u62, u63, u64, rfl, rfl, hI⟩
    obtain ⟨-, hk, h0, -⟩ := hI
    obtain ⟨hp, h0⟩ := h0 rfl
    have HP := hide h0
    clear h0
    go_wp2_with fail
    refine (byteAt_c s k _ hs hk).mono ?_
    rintro e w2 ⟨rfl, rfl⟩
    by_cases h45 : bAt s k = 45
    · have e45 : (bAt s k == 45) = true := by rw [h45]; rfl
      have hlt := lt_of_bAt s k (by omega)
      have HU := hide ((PP_minus s k p (x, y, z) hp h45).symm.trans (unhide HP))
      have hk1 : k + 1 ≤ s.size := by omega
      clear h45
      go_wp2_with fail
      rw [show ((k : Int) + 1) = ((k + 1 : Nat) : Int) from by omega]
      refine (byteAt_c s (k + 1) _ hs hk1).mono ?_
      rintro e w2 ⟨rfl, rfl⟩
      go_wp2_with fail
      refine (isDigit_c _ _).mono ?_
      rintro e w2 ⟨rfl, rfl⟩
      cases hd : digB (bAt s (k + 1)) with
      | false =>
        have HN := hide ((UU_bad s (k + 1) p (x, y, z) (-1) hd).symm.trans (unhide HU))
        clear hd
        go_wp2_with fail
        go_step3
        exact lab_mk (inv_wrong (sg := -1) (sz := 0) (p := p) (k := k + 1) hk1 (unhide HN))
      | true =>
        have hlt := digB_lt s (k + 1) hd
        have HD := hide hd
        clear hd
        go_wp2_with fail
        refine (byteAt_c s (k + 1) _ hs hk1).mono ?_
        rintro e w2 ⟨rfl, rfl⟩
        by_cases h48 : bAt s (k + 1) = 48
        · have e48 : (bAt s (k + 1) != 48) = false := by rw [h48]; rfl
          have H48 := hide h48
          clear h48
          go_wp2_with fail
          have HN := hide ((UU_zero_neg s (k + 1) p (x, y, z) (unhide H48)).symm.trans (unhide HU))
          go_step3
          exact lab_mk (inv_wrong (sg := -1) (sz := 0) (p := p) (k := k + 1) hk1 (unhide HN))
        · have e48 : (bAt s (k + 1) != 48) = true := by rw [bne_iff_ne]; exact h48
          have HN := hide ((UU_digit s (k + 1) p (x, y, z) (-1) (unhide HD) h48).symm.trans (unhide HU))
          clear h48
          go_wp2_with fail
          go_step3
          exact lab_mk (inv_digit (sg := -1) (sz := 0) (p := p) (k := k + 1) hk1 hp (Or.inr rfl) (by omega) (unhide HD) (unhide HN))
    · have e45 : (bAt s k == 45) = false := by rw [beq_eq_false_iff_ne]; exact h45
      have HU := hide ((PP_plus s k p (x, y, z) hp h45).symm.trans (unhide HP))
      clear h45
      go_wp2_with fail
      refine (byteAt_c s (k) _ hs hk).mono ?_
      rintro e w2 ⟨rfl, rfl⟩
      go_wp2_with fail
      refine (isDigit_c _ _).mono ?_
      rintro e w2 ⟨rfl, rfl⟩
      cases hd : digB (bAt s (k)) with
      | false =>
        have HN := hide ((UU_bad s (k) p (x, y, z) 1 hd).symm.trans (unhide HU))
        clear hd
        go_wp2_with fail
        go_step3
        exact lab_mk (inv_wrong (sg := 1) (sz := 0) (p := p) (k := k) hk (unhide HN))
      | true =>
        have hlt := digB_lt s (k) hd
        have HD := hide hd
        clear hd
        go_wp2_with fail
        refine (byteAt_c s (k) _ hs hk).mono ?_
        rintro e w2 ⟨rfl, rfl⟩
        by_cases h48 : bAt s (k) = 48
        · have e48 : (bAt s (k) != 48) = false := by rw [h48]; rfl
          have H48 := hide h48
          clear h48
          go_wp2_with fail
          have HN := hide ((UU_zero s (k) p (x, y, z) (unhide H48)).symm.trans (unhide HU))
          go_step3
          rw [show (((k : Nat) : Int) + 1) = ((k + 1 : Nat) : Int) from by omega]
          exact lab_mk (inv_ended (sg := 1) (sz := 0) (p := p) (k := k + 1) (by omega) hp (Or.inl rfl) (by omega) (unhide HN))
        · have e48 : (bAt s (k) != 48) = true := by rw [bne_iff_ne]; exact h48
          have HN := hide ((UU_digit s (k) p (x, y, z) 1 (unhide HD) h48).symm.trans (unhide HU))
          clear h48
          go_wp2_with fail
          go_step3
          exact lab_mk (inv_digit (sg := 1) (sz := 0) (p := p) (k := k) hk hp (Or.inl rfl) (by omega) (unhide HD) (unhide HN))
  · rintro a2 w2 ⟨sg, sz, p, k, x, y, z, u9, u10, u11, u12, u13, u14, u15, u16, u17, u18, u19, u20, u21, u22, u23, u24, u25, u26, u27, u28, u29, u30, u31, u32, u33, u34, u35, u36, u37, u38, u39, u40, u41, u42, u43, u44, u45, u46, u47, u48, u49, u50, u51, u52, u53, u54, u55, u56, u57, u58, u59, u60, u61, u62, u63, u64, rfl, rfl, hI⟩
    obtain ⟨-, hk, h0, -⟩ := hI
    obtain ⟨hp, h0⟩ := h0 rfl
    have HP := hide h0
    clear h0
    go_wp2_with fail
    refine (byteAt_c s k _ hs hk).mono ?_
    rintro e w2 ⟨rfl, rfl⟩
    by_cases h45 : bAt s k = 45
    · have e45 : (bAt s k == 45) = true := by rw [h45]; rfl
      have hlt := lt_of_bAt s k (by omega)
      have HU := hide ((PP_minus s k p (x, y, z) hp h45).symm.trans (unhide HP))
      have hk1 : k + 1 ≤ s.size := by omega
      clear h45
      go_wp2_with fail
      rw [show ((k : Int) + 1) = ((k + 1 : Nat) : Int) from by omega]
      refine (byteAt_c s (k + 1) _ hs hk1).mono ?_
      rintro e w2 ⟨rfl, rfl⟩
      go_wp2_with fail
      refine (isDigit_c _ _).mono ?_
      rintro e w2 ⟨rfl, rfl⟩
      cases hd : digB (bAt s (k + 1)) with
      | false =>
        have HN := hide ((UU_bad s (k + 1) p (x, y, z) (-1) hd).symm.trans (unhide HU))
        clear hd
        go_wp2_with fail
        go_step3
        exact ⟨lab_mk (inv_wrong (sg := -1) (sz := 0) (p := p) (k := k + 1) hk1 (unhide HN)), by simp [meas, wt, intOf] <;> omega⟩
      | true =>
        have hlt := digB_lt s (k + 1) hd
        have HD := hide hd
        clear hd
        go_wp2_with fail
        refine (byteAt_c s (k + 1) _ hs hk1).mono ?_
        rintro e w2 ⟨rfl, rfl⟩
        by_cases h48 : bAt s (k + 1) = 48
        · have e48 : (bAt s (k + 1) != 48) = false := by rw [h48]; rfl
          have H48 := hide h48
          clear h48
          go_wp2_with fail
          have HN := hide ((UU_zero_neg s (k + 1) p (x, y, z) (unhide H48)).symm.trans (unhide HU))
          go_step3
          exact ⟨lab_mk (inv_wrong (sg := -1) (sz := 0) (p := p) (k := k + 1) hk1 (unhide HN)), by simp [meas, wt, intOf] <;> omega⟩
        · have e48 : (bAt s (k + 1) != 48) = true := by rw [bne_iff_ne]; exact h48
          have HN := hide ((UU_digit s (k + 1) p (x, y, z) (-1) (unhide HD) h48).symm.trans (unhide HU))
          clear h48
          go_wp2_with fail
          go_step3
          exact ⟨lab_mk (inv_digit (sg := -1) (sz := 0) (p := p) (k := k + 1) hk1 hp (Or.inr rfl) (by omega) (unhide HD) (unhide HN)), by simp [meas, wt, intOf] <;> omega⟩
    · have e45 : (bAt s k == 45) = false := by rw [beq_eq_false_iff_ne]; exact h45
      have HU := hide ((PP_plus s k p (x, y, z) hp h45).symm.trans (unhide HP))
      clear h45
      go_wp2_with fail
      refine (byteAt_c s (k) _ hs hk).mono ?_
      rintro e w2 ⟨rfl, rfl⟩
      go_wp2_with fail
      refine (isDigit_c _ _).mono ?_
      rintro e w2 ⟨rfl, rfl⟩
      cases hd : digB (bAt s (k)) with
      | false =>
        have HN := hide ((UU_bad s (k) p (x, y, z) 1 hd).symm.trans (unhide HU))
        clear hd
        go_wp2_with fail
        go_step3
        exact ⟨lab_mk (inv_wrong (sg := 1) (sz := 0) (p := p) (k := k) hk (unhide HN)), by simp [meas, wt, intOf] <;> omega⟩
      | true =>
        have hlt := digB_lt s (k) hd
        have HD := hide hd
        clear hd
        go_wp2_with fail
        refine (byteAt_c s (k) _ hs hk).mono ?_
        rintro e w2 ⟨rfl, rfl⟩
        by_cases h48 : bAt s (k) = 48
        · have e48 : (bAt s (k) != 48) = false := by rw [h48]; rfl
          have H48 := hide h48
          clear h48
          go_wp2_with fail
          have HN := hide ((UU_zero s (k) p (x, y, z) (unhide H48)).symm.trans (unhide HU))
          go_step3
          rw [show (((k : Nat) : Int) + 1) = ((k + 1 : Nat) : Int) from by omega]
          exact ⟨lab_mk (inv_ended (sg := 1) (sz := 0) (p := p) (k := k + 1) (by omega) hp (Or.inl rfl) (by omega) (unhide HN)), by simp [meas, wt, intOf] <;> omega⟩
        · have e48 : (bAt s (k) != 48) = true := by rw [bne_iff_ne]; exact h48
          have HN := hide ((UU_digit s (k) p (x, y, z) 1 (unhide HD) h48).symm.trans (unhide HU))
          clear h48
          go_wp2_with fail
          go_step3
          exact ⟨lab_mk (inv_digit (sg := 1) (sz := 0) (p := p) (k := k) hk hp (Or.inl rfl) (by omega) (unhide HD) (unhide HN)), by simp [meas, wt, intOf] <;> omega⟩
  · rintro a2 w2 ⟨sg, sz, p, k, x, y, z, u9, u10, u11, u12, u13, u14, u15, u16, u17, u18, u19, u20, u21, u22, u23, u24, u25, u26, u27, u28, u29, u30, u31, u32, u33, u34, u35, u36, u37, u38, u39, u40, u41, u42, u43, u44, u45, u46, u47, u48, u49, u50, u51, u52, u53, u54, u55, u56, u57, u58, u59, u60, u61, u62, u63, u64, rfl, rfl, hI⟩
    obtain ⟨-, hk, -, h0, -⟩ := hI
    have HW := hide (h0 rfl)
    clear h0
    go_wp2_with fail
    simp only [jumps]
    try rw [Exit.noGoto_ret]
    refine bodyPost_ret (v := .tuple #[arr3 0 0 0, .bool false]) (by simp [results, Tryd.results63, go_sem, arr3]) rfl ⟨by rw [unhide HW]; rfl, ?_⟩
    exact ((Below.refl _ _).alloc (Nat.le_refl _) _).alloc (by simp) _
  · rintro a2 w2 ⟨sg, sz, p, k, x, y, z, u9, u10, u11, u12, u13, u14, u15, u16, u17, u18, u19, u20, u21, u22, u23, u24, u25, u26, u27, u28, u29, u30, u31, u32, u33, u34, u35, u36, u37, u38, u39, u40, u41, u42, u43, u44, u45, u46, u47, u48, u49, u50, u51, u52, u53, u54, u55, u56, u57, u58, u59, u60, u61, u62, u63, u64, rfl, rfl, hI⟩
    obtain ⟨-, hk, -, -, h0, -⟩ := hI
    obtain ⟨hp, hg, ⟨hz1, hz2⟩, hd, h0⟩ := h0 rfl
    have HD := hide hd
    have HE := hide h0
    clear h0 hd
    obtain ⟨b1, b2⟩ : 48 ≤ bAt s k ∧ bAt s k ≤ 57 := by simpa [digB] using unhide HD
    have hlt := digB_lt s k (unhide HD)
    have hk1 : k + 1 ≤ s.size := by omega
    go_wp2_with fail
    refine (byteAt_c s k _ hs hk).mono ?_
    rintro e w2 ⟨rfl, rfl⟩
    by_cases hm : 1000 < sz * 10 + (bAt s k - 48)
    · have HN := hide ((DD_much s k p (x, y, z) sg sz (unhide HD) hm).symm.trans (unhide HE))
      go_wp2_with fail
      go_step3
      exact ⟨lab_mk (inv_wrong (sg := sg) (sz := sz * 10 + (bAt s k - 48)) (p := p) (k := k) hk (unhide HN)), by simp [meas, wt, intOf] <;> omega⟩
    · go_wp2_with fail
      rw [show ((k : Int) + 1) = ((k + 1 : Nat) : Int) from by omega]
      refine (byteAt_c s (k + 1) _ hs hk1).mono ?_
      rintro e w2 ⟨rfl, rfl⟩
      go_wp2_with fail
      refine (isDigit_c _ _).mono ?_
      rintro e w2 ⟨rfl, rfl⟩
      cases hd2 : digB (bAt s (k + 1)) with
      | true =>
        have HN := hide ((DD_more s k p (x, y, z) sg sz (unhide HD) (by omega) hd2).symm.trans (unhide HE))
        have HD2 := hide hd2
        clear hd2
        go_wp2_with fail
        go_step3
        exact ⟨lab_mk (inv_digit (sg := sg) (sz := sz * 10 + (bAt s k - 48)) (p := p) (k := k + 1) hk1 hp hg (by omega) (unhide HD2) (unhide HN)), by simp [meas, wt, intOf] <;> omega⟩
      | false =>
        have HN := hide ((DD_end s k p (x, y, z) sg sz (unhide HD) (by omega) hd2).symm.trans (unhide HE))
        clear hd2 HE
        have HE := HN
        clear HN
        go_wp2_with fail
        go_step3
        have hbv : -1000 ≤ sg * (sz * 10 + (bAt s k - 48)) ∧ sg * (sz * 10 + (bAt s k - 48)) ≤ 1000 := by rcases hg with rfl | rfl <;> omega
        obtain ⟨hb1, hb2⟩ := hbv
        rcases (show p = 0 ∨ p = 1 ∨ p = 2 by omega) with rfl | rfl | rfl
        · go_wp2_with fail
          refine (byteAt_c s (k + 1) _ hs hk1).mono ?_
          rintro e w2 ⟨rfl, rfl⟩
          by_cases h44 : bAt s (k + 1) = 44
          · have e44 : (bAt s (k + 1) != 44) = false := by rw [h44]; rfl
            have hlt4 := lt_of_bAt s (k + 1) (by omega)
            have HN := hide ((EE_comma s (k + 1) 0 (sg * (sz * 10 + (bAt s k - 48)), y, z) (by omega) h44).symm.trans (unhide HE))
            clear h44
            go_wp2_with fail
            go_step3
            first | rw [show (((k + 1 : Nat) : Int) + 1) = ((k + 1 + 1 : Nat) : Int) from by omega] | rw [show ((k : Int) + 1 + 1) = ((k + 1 + 1 : Nat) : Int) from by omega]
            exact ⟨lab_mk (inv_part (sg := sg) (sz := sz * 10 + (bAt s k - 48)) (p := 1) (k := k + 1 + 1) (by omega) (by omega) (unhide HN)), by simp [meas, wt, intOf] <;> omega⟩
          · have e44 : (bAt s (k + 1) != 44) = true := by rw [bne_iff_ne]; exact h44
            have HN := hide ((EE_wrong s (k + 1) 0 (sg * (sz * 10 + (bAt s k - 48)), y, z) (by omega) h44).symm.trans (unhide HE))
            clear h44
            go_wp2_with fail
            go_step3
            exact ⟨lab_mk (inv_wrong (sg := sg) (sz := sz * 10 + (bAt s k - 48)) (p := 1) (k := k + 1) hk1 (unhide HN)), by simp [meas, wt, intOf] <;> omega⟩
        · go_wp2_with fail
          refine (byteAt_c s (k + 1) _ hs hk1).mono ?_
          rintro e w2 ⟨rfl, rfl⟩
          by_cases h44 : bAt s (k + 1) = 44
          · have e44 : (bAt s (k + 1) != 44) = false := by rw [h44]; rfl
            have hlt4 := lt_of_bAt s (k + 1) (by omega)
            have HN := hide ((EE_comma s (k + 1) 1 (x, sg * (sz * 10 + (bAt s k - 48)), z) (by omega) h44).symm.trans (unhide HE))
            clear h44
            go_wp2_with fail
            go_step3
            first | rw [show (((k + 1 : Nat) : Int) + 1) = ((k + 1 + 1 : Nat) : Int) from by omega] | rw [show ((k : Int) + 1 + 1) = ((k + 1 + 1 : Nat) : Int) from by omega]
            exact ⟨lab_mk (inv_part (sg := sg) (sz := sz * 10 + (bAt s k - 48)) (p := 2) (k := k + 1 + 1) (by omega) (by omega) (unhide HN)), by simp [meas, wt, intOf] <;> omega⟩
          · have e44 : (bAt s (k + 1) != 44) = true := by rw [bne_iff_ne]; exact h44
            have HN := hide ((EE_wrong s (k + 1) 1 (x, sg * (sz * 10 + (bAt s k - 48)), z) (by omega) h44).symm.trans (unhide HE))
            clear h44
            go_wp2_with fail
            go_step3
            exact ⟨lab_mk (inv_wrong (sg := sg) (sz := sz * 10 + (bAt s k - 48)) (p := 2) (k := k + 1) hk1 (unhide HN)), by simp [meas, wt, intOf] <;> omega⟩
        · have HN := hide ((EE_last (x, y, sg * (sz * 10 + (bAt s k - 48))) (rest s (k + 1))).symm.trans (unhide HE))
          go_wp2_with fail
          go_step3
          exact ⟨lab_mk (inv_last (sg := sg) (sz := sz * 10 + (bAt s k - 48)) (p := 3) (k := k + 1) hk1 (unhide HN)), by simp [meas, wt, intOf] <;> omega⟩
  · rintro a2 w2 ⟨sg, sz, p, k, x, y, z, u9, u10, u11, u12, u13, u14, u15, u16, u17, u18, u19, u20, u21, u22, u23, u24, u25, u26, u27, u28, u29, u30, u31, u32, u33, u34, u35, u36, u37, u38, u39, u40, u41, u42, u43, u44, u45, u46, u47, u48, u49, u50, u51, u52, u53, u54, u55, u56, u57, u58, u59, u60, u61, u62, u63, u64, rfl, rfl, hI⟩
    obtain ⟨-, hk, -, -, -, h0, -⟩ := hI
    obtain ⟨hp, hg, ⟨hz1, hz2⟩, h0⟩ := h0 rfl
    have HE := hide h0
    clear h0
    have hbv : -1000 ≤ sg * (sz) ∧ sg * (sz) ≤ 1000 := by rcases hg with rfl | rfl <;> omega
    obtain ⟨hb1, hb2⟩ := hbv
    rcases (show p = 0 ∨ p = 1 ∨ p = 2 by omega) with rfl | rfl | rfl
    · go_wp2_with fail
      refine (byteAt_c s (k) _ hs hk).mono ?_
      rintro e w2 ⟨rfl, rfl⟩
      by_cases h44 : bAt s (k) = 44
      · have e44 : (bAt s (k) != 44) = false := by rw [h44]; rfl
        have hlt4 := lt_of_bAt s (k) (by omega)
        have HN := hide ((EE_comma s (k) 0 (sg * (sz), y, z) (by omega) h44).symm.trans (unhide HE))
        clear h44
        go_wp2_with fail
        go_step3
        first | rw [show (((k : Nat) : Int) + 1) = ((k + 1 : Nat) : Int) from by omega] | rw [show ((k : Int) + 1 + 1) = ((k + 1 + 1 : Nat) : Int) from by omega]
        exact ⟨lab_mk (inv_part (sg := sg) (sz := sz) (p := 1) (k := k + 1) (by omega) (by omega) (unhide HN)), by simp [meas, wt, intOf] <;> omega⟩
      · have e44 : (bAt s (k) != 44) = true := by rw [bne_iff_ne]; exact h44
        have HN := hide ((EE_wrong s (k) 0 (sg * (sz), y, z) (by omega) h44).symm.trans (unhide HE))
        clear h44
        go_wp2_with fail
        go_step3
        exact ⟨lab_mk (inv_wrong (sg := sg) (sz := sz) (p := 1) (k := k) hk (unhide HN)), by simp [meas, wt, intOf] <;> omega⟩
    · go_wp2_with fail
      refine (byteAt_c s (k) _ hs hk).mono ?_
      rintro e w2 ⟨rfl, rfl⟩
      by_cases h44 : bAt s (k) = 44
      · have e44 : (bAt s (k) != 44) = false := by rw [h44]; rfl
        have hlt4 := lt_of_bAt s (k) (by omega)
        have HN := hide ((EE_comma s (k) 1 (x, sg * (sz), z) (by omega) h44).symm.trans (unhide HE))
        clear h44
        go_wp2_with fail
        go_step3
        first | rw [show (((k : Nat) : Int) + 1) = ((k + 1 : Nat) : Int) from by omega] | rw [show ((k : Int) + 1 + 1) = ((k + 1 + 1 : Nat) : Int) from by omega]
        exact ⟨lab_mk (inv_part (sg := sg) (sz := sz) (p := 2) (k := k + 1) (by omega) (by omega) (unhide HN)), by simp [meas, wt, intOf] <;> omega⟩
      · have e44 : (bAt s (k) != 44) = true := by rw [bne_iff_ne]; exact h44
        have HN := hide ((EE_wrong s (k) 1 (x, sg * (sz), z) (by omega) h44).symm.trans (unhide HE))
        clear h44
        go_wp2_with fail
        go_step3
        exact ⟨lab_mk (inv_wrong (sg := sg) (sz := sz) (p := 2) (k := k) hk (unhide HN)), by simp [meas, wt, intOf] <;> omega⟩
    · have HN := hide ((EE_last (x, y, sg * (sz)) (rest s (k))).symm.trans (unhide HE))
      go_wp2_with fail
      go_step3
      exact ⟨lab_mk (inv_last (sg := sg) (sz := sz) (p := 3) (k := k) hk (unhide HN)), by simp [meas, wt, intOf] <;> omega⟩
  · rintro a2 w2 ⟨sg, sz, p, k, x, y, z, u9, u10, u11, u12, u13, u14, u15, u16, u17, u18, u19, u20, u21, u22, u23, u24, u25, u26, u27, u28, u29, u30, u31, u32, u33, u34, u35, u36, u37, u38, u39, u40, u41, u42, u43, u44, u45, u46, u47, u48, u49, u50, u51, u52, u53, u54, u55, u56, u57, u58, u59, u60, u61, u62, u63, u64, rfl, rfl, hI⟩
    obtain ⟨-, hk, -, -, -, -, h0⟩ := hI
    have HE := hide (h0 rfl)
    clear h0
    by_cases hsz : k = s.size
    · have esz : ((k : Int) == (s.size : Int)) = true := by rw [beq_iff_eq]; omega
      have HN := hide ((fin3_end s k (x, y, z) (by omega)).symm.trans (unhide HE))
      clear hsz
      go_wp2_with fail
      simp only [jumps]
      try rw [Exit.noGoto_ret]
      refine bodyPost_ret (v := .tuple #[arr3 x y z, .bool true]) (by simp [results, Tryd.results63, go_sem, arr3]) rfl ⟨by rw [← unhide HN]; rfl, ?_⟩
      exact ((Below.refl _ _).alloc (Nat.le_refl _) _).alloc (by simp) _
    · have esz : ((k : Int) == (s.size : Int)) = false := by rw [beq_eq_false_iff_ne]; omega
      have HW := hide ((fin3_more s k (x, y, z) (by omega)).symm.trans (unhide HE)).symm
      clear hsz
      go_wp2_with fail
      go_step3
      go_wp2_with fail
      simp only [jumps]
      try rw [Exit.noGoto_ret]
      refine bodyPost_ret (v := .tuple #[arr3 0 0 0, .bool false]) (by simp [results, Tryd.results63, go_sem, arr3]) rfl ⟨by rw [unhide HW]; rfl, ?_⟩
      exact ((Below.refl _ _).alloc (Nat.le_refl _) _).alloc (by simp) _

end Go.Proofs.YtjfplfhdfiebgaaDoor
