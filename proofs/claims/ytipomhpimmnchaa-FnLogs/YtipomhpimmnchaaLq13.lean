/-
  The law FnLogs answers true at every slice of bytes, and writes nothing that was there.
  No condition.
-/
import Derived.Test.YtipomhpimmnchaaLq08
import Derived.Test.YtipomhpimmnchaaLq09
import Derived.Test.YtipomhpimmnchaaLq10
import Derived.Test.YtipomhpimmnchaaLq12
import Derived.Deep.RegionHeld3

namespace Go.Proofs.Ytipomhpimmnchaa
open Go.RowKit

theorem fieldN0 (c : Int) (a : Option Addr) (n cp : Nat) (w : World) : (Instr.field 26 (.agg #[.int .i64 c, .slice a n cp]) 0).run Try.prog w = .ok (.int .i64 c) w := by kernel_rfl
theorem fieldW0 (c : Int) (a : Option Addr) (n cp : Nat) (w : World) : (Instr.field 36 (.agg #[.int .i64 c, .slice a n cp]) 0).run Try.prog w = .ok (.int .i64 c) w := by kernel_rfl
theorem fieldW1 (c : Int) (a : Option Addr) (n cp : Nat) (w : World) : (Instr.field 36 (.agg #[.int .i64 c, .slice a n cp]) 1).run Try.prog w = .ok (.slice a n cp) w := by kernel_rfl
theorem sl_prefix9 {α : Type} {A : Lay α} {w : World} {xs : List α} {ao : Option Addr} {cap k : Nat} (h : (Lay.sl A).Reads w [.slice ao xs.length cap] xs) (hk : k ≤ xs.length) : (Lay.sl A).Reads w [.slice ao k cap] (xs.take k) := by
  obtain ⟨bl, ao', cp, e, ⟨h1, h2⟩, h⟩ := h
  simp only [List.cons.injEq, Value.slice.injEq, and_true] at e
  obtain ⟨rfl, -, rfl⟩ := e
  have hl : (xs.take k).length = k := by simp; omega
  rcases h with ⟨rfl, -⟩ | ⟨b, off, rows, bls, rfl, hb, -, hr, hbl, hj⟩
  · obtain rfl : k = 0 := by simpa using hk
    exact ⟨[], ao, cap, by simp, by simp, Or.inl ⟨by simp, rfl⟩⟩
  · refine ⟨_, _, cap, by rw [hl], ⟨by omega, by omega⟩, Or.inr ⟨b, off, rows.take k, bls.take k, rfl, hb, rfl, by simp [hr], by simp [hbl], fun j h1 h2 h3 => ?_⟩⟩
    have := hj j (by rw [hl] at h1; omega) (by simp at h2; omega) (by simp at h3; omega)
    simpa using this
theorem code_wider {B B' : Nat} {w : World} {cv : Value} (h : IsCode B w cv) (hB : B ≤ B') : IsCode B' w cv := by
  obtain ⟨ao, len, cap, rfl, hl, h1⟩ := h
  exact ⟨ao, len, cap, rfl, hl, fun hp => by obtain ⟨b, off, e, h2, h3⟩ := h1 hp; exact ⟨b, off, e, by omega, h3⟩⟩
theorem packs_zero {ws : List DWrite} (h : (packAllR ws).code = 0) : ws.length ≤ 40 ∧ wsFrom ws = 0 := by
  unfold packAllR at h
  split at h
  · simp at h
  · split at h
    · rename_i h1 h2
      exact ⟨by omega, h2⟩
    · rename_i h1 h2
      exact absurd h h2

theorem lawLogs_many (ao : Option Addr) (len cap : Nat) (w : World) (hn : 1048576 < len) :
    Calls Try.prog 9 #[.slice ao len cap] w fun e w' => e = .returned (.bool true) ∧ Below w.heap.size w w' := by
  go_enter Try.func9, Try.ntmps9
  go_wp2_with fail
  refine (big_yes ao len cap w hn).mono ?_
  rintro e w' ⟨rfl, rfl⟩
  go_wp2_with fail
  go_ret
  exact ⟨rfl, Below.refl _ _⟩

set_option maxRecDepth 100000 in
set_option maxHeartbeats 8000000 in
theorem lawLogs_few (ao : Option Addr) (len cap : Nat) (w : World) (hn : len ≤ 1048576) (hcode : IsCode w.heap.size w (.slice ao len cap)) :
    Calls Try.prog 9 #[.slice ao len cap] w fun e w' => e = .returned (.bool true) ∧ Below w.heap.size w w' := by
  have HC := hide hcode
  clear hcode
  go_enter Try.func9, Try.ntmps9
  go_wp2_with fail
  refine (big_no ao len cap w hn).mono ?_
  rintro e w ⟨rfl, rfl⟩
  go_wp2_with fail
  refine (drawPA ao len cap w (unhide HC)).mono ?_
  rintro e w1 ⟨v, ws, rfl, hX, hwl, hb1⟩
  obtain ⟨av, dv, rfl⟩ := open_sl hX
  have HRX := hide hX
  have HB := hide hb1
  have L2 := hide (implPackAll _ ws w1 hX)
  clear hX hb1
  go_wp2_with fail
  refine (unhide L2).mono ?_
  rintro e w2 ⟨cs, rfl, O, hb2⟩
  obtain ⟨a1, d1, rfl, R2⟩ := open_IntsResult O.reads
  clear O
  by_cases hf : (packAllR ws).code = 0
  · obtain ⟨hl40, hf0⟩ := packs_zero hf
    obtain ⟨e2, hpl, e3, -⟩ := logs_plain hl40 hf0 0 (Nat.zero_le _)
    obtain ⟨PL, hPL⟩ : ∃ PL, PL = packs ws := ⟨_, rfl⟩
    have HCUT : Hid (∀ k, k ≤ 8 * ws.length → readLogR (PL.take k) = ⟨0, ws.take (k / 8)⟩) := fun k hk => by rw [hPL]; exact (logs_plain hl40 hf0 k hk).2.2.2
    rw [← hPL] at e2 e3 hpl
    rw [e2] at R2 ⊢
    simp only at R2 ⊢
    have HPL := hide hpl
    have hp320 : PL.length ≤ 320 := by omega
    clear e2 hf hf0 hPL hpl
    have nb2 : Below w2.heap.size w2 (w2.alloc (.cells #[.int .i64 0, .slice a1 PL.length d1] 26)) := (Below.refl _ _).alloc (Nat.le_refl _) _
    have x2 : Box 0 #[.int .i64 0, .slice a1 PL.length d1] 26 (w2.alloc (.cells #[.int .i64 0, .slice a1 PL.length d1] 26)) w2.heap.size := newBox (Nat.zero_le _)
    replace HRX := hide (((unhide HRX).later hb2).later nb2)
    have HB2 := hide x2
    have HR2 := hide (R2.later nb2)
    replace HB := hide (((unhide HB).trans (hb2.mono (unhide HB).size)).trans (nb2.mono (Nat.le_trans (unhide HB).size hb2.size)))
    clear R2 nb2 x2 hb2 L2
    have z9 : (w2.alloc (.cells #[.int .i64 0, .slice a1 PL.length d1] 26)).cell? ⟨w2.heap.size, 0, none⟩ = some (.int .i64 0) := (unhide HB2).at 0 _ rfl
    have z1 : (w2.alloc (.cells #[.int .i64 0, .slice a1 PL.length d1] 26)).cell? ⟨w2.heap.size, 1, none⟩ = some (.slice a1 PL.length d1) := (unhide HB2).at 1 _ rfl
    have LA : Hid (Calls Try.prog 49 #[.slice ao len cap, .int .i64 3, .int .i64 ((PL.length : Int) + 1)] (w2.alloc (.cells #[.int .i64 0, .slice a1 PL.length d1] 26)) fun e w' => ∃ r : Nat, e = .returned (.int .i64 r) ∧ r < PL.length + 1 ∧ Below (w2.alloc (.cells #[.int .i64 0, .slice a1 PL.length d1] 26)).heap.size (w2.alloc (.cells #[.int .i64 0, .slice a1 PL.length d1] 26)) w') := lwAt ao len cap 3 (PL.length + 1) (w2.alloc (.cells #[.int .i64 0, .slice a1 PL.length d1] 26)) ((unhide HC).later (unhide HB)) (by omega) (by omega) (by omega)
    go_wp2_with fail
    refine (unhide LA).mono ?_
    clear LA z9 z1
    generalize w2.alloc (.cells #[.int .i64 0, .slice a1 PL.length d1] 26) = Wa at *
    rintro e w3 ⟨k, rfl, hk, hb3⟩
    replace HB2 := hide ((unhide HB2).keep hb3)
    replace HRX := hide ((unhide HRX).later hb3)
    replace HR2 := hide ((unhide HR2).later hb3)
    replace HB := hide ((unhide HB).trans (hb3.mono (unhide HB).size))
    have hkp : k ≤ PL.length := by omega
    clear hb3 hk
    have z1 : w3.cell? ⟨w2.heap.size, 1, none⟩ = some (.slice a1 PL.length d1) := (unhide HB2).at 1 _ rfl
    have L4 := hide (implReadLog _ PL w3 (unhide HR2))
    rw [e3] at L4
    go_wp2_with fail
    clear z1
    refine (unhide L4).mono ?_
    rintro e w4 ⟨cs, rfl, O, hb4⟩
    obtain ⟨a4, d4, rfl, R4⟩ := open_WritesResult O.reads
    simp only at R4 ⊢
    clear O
    have nb4 : Below w4.heap.size w4 (w4.alloc (.cells #[.int .i64 0, .slice a4 ws.length d4] 36)) := (Below.refl _ _).alloc (Nat.le_refl _) _
    have x4 : Box 0 #[.int .i64 0, .slice a4 ws.length d4] 36 (w4.alloc (.cells #[.int .i64 0, .slice a4 ws.length d4] 36)) w4.heap.size := newBox (Nat.zero_le _)
    replace HB2 := hide (((unhide HB2).keep hb4).keep nb4)
    replace HRX := hide (((unhide HRX).later hb4).later nb4)
    replace HR2 := hide (((unhide HR2).later hb4).later nb4)
    have HB4 := hide x4
    have HR4 := hide (R4.later nb4)
    replace HB := hide (((unhide HB).trans (hb4.mono (unhide HB).size)).trans (nb4.mono (Nat.le_trans (unhide HB).size hb4.size)))
    clear R4 nb4 x4 hb4 L4
    have z1 : (w4.alloc (.cells #[.int .i64 0, .slice a4 ws.length d4] 36)).cell? ⟨w2.heap.size, 1, none⟩ = some (.slice a1 PL.length d1) := (unhide HB2).at 1 _ rfl
    have hcap : PL.length ≤ d1 := (unhide HR2).cap.2
    have kd : k ≤ d1 := by omega
    have L5 := hide (implReadLog _ (PL.take k) _ (take_reads (unhide HR2) k hkp))
    have hk8 : k ≤ 8 * ws.length := by have := unhide HPL; omega
    rw [unhide HCUT k hk8] at L5
    obtain ⟨BW, hBW⟩ : ∃ BW, BW = ws.take (k / 8) := ⟨_, rfl⟩
    rw [← hBW] at L5
    have HBW := hide hBW
    clear hBW
    go_wp2_with fail
    clear z1 hcap kd
    generalize w4.alloc (.cells #[.int .i64 0, .slice a4 ws.length d4] 36) = Wb at *
    refine (unhide L5).mono ?_
    rintro e w5 ⟨cs, rfl, O, hb5⟩
    obtain ⟨a5, d5, rfl, R5⟩ := open_WritesResult O.reads
    simp only at R5 ⊢
    clear O
    have nb5 : Below w5.heap.size w5 (w5.alloc (.cells #[.int .i64 0, .slice a5 BW.length d5] 36)) := (Below.refl _ _).alloc (Nat.le_refl _) _
    have x5 : Box 0 #[.int .i64 0, .slice a5 BW.length d5] 36 (w5.alloc (.cells #[.int .i64 0, .slice a5 BW.length d5] 36)) w5.heap.size := newBox (Nat.zero_le _)
    replace HB2 := hide (((unhide HB2).keep hb5).keep nb5)
    replace HB4 := hide (((unhide HB4).keep hb5).keep nb5)
    replace HRX := hide (((unhide HRX).later hb5).later nb5)
    replace HR2 := hide (((unhide HR2).later hb5).later nb5)
    replace HR4 := hide (((unhide HR4).later hb5).later nb5)
    have HB5 := hide x5
    have HR5 := hide (R5.later nb5)
    replace HB := hide (((unhide HB).trans (hb5.mono (unhide HB).size)).trans (nb5.mono (Nat.le_trans (unhide HB).size hb5.size)))
    clear R5 nb5 x5 hb5 L5
    have LR := hide (drawRL ao len cap (w5.alloc (.cells #[.int .i64 0, .slice a5 BW.length d5] 36)) (code_wider ((unhide HC).later (unhide HB)) (unhide HB).size))
    go_wp2_with fail
    refine (unhide LR).mono ?_
    clear LR
    generalize w5.alloc (.cells #[.int .i64 0, .slice a5 BW.length d5] 36) = Wc at *
    rintro e w6 ⟨v6, raw, rfl, hRaw, hraw, hb6⟩
    obtain ⟨a6, d6, rfl⟩ := open_sl hRaw
    replace HB2 := hide ((unhide HB2).keep hb6)
    replace HB4 := hide ((unhide HB4).keep hb6)
    replace HB5 := hide ((unhide HB5).keep hb6)
    replace HRX := hide ((unhide HRX).later hb6)
    replace HR2 := hide ((unhide HR2).later hb6)
    replace HR4 := hide ((unhide HR4).later hb6)
    replace HR5 := hide ((unhide HR5).later hb6)
    replace HB := hide ((unhide HB).trans (hb6.mono (unhide HB).size))
    have HRW := hide hRaw
    have L7 := hide (implReadLog _ raw w6 hRaw)
    clear hRaw hb6 HC
    go_wp2_with fail
    refine (unhide L7).mono ?_
    rintro e w7 ⟨cs, rfl, O, hb7⟩
    obtain ⟨a7, d7, rfl, R7⟩ := open_WritesResult O.reads
    clear O
    obtain ⟨rc, RW, hrr⟩ : ∃ rc RW, readLogR raw = ⟨rc, RW⟩ := ⟨_, _, rfl⟩
    rw [hrr] at R7 ⊢
    simp only at R7 ⊢
    have HRR := hide hrr
    clear hrr
    have nb7 : Below w7.heap.size w7 (w7.alloc (.cells #[.int .i64 rc, .slice a7 RW.length d7] 36)) := (Below.refl _ _).alloc (Nat.le_refl _) _
    have x7 : Box 0 #[.int .i64 rc, .slice a7 RW.length d7] 36 (w7.alloc (.cells #[.int .i64 rc, .slice a7 RW.length d7] 36)) w7.heap.size := newBox (Nat.zero_le _)
    replace HB2 := hide (((unhide HB2).keep hb7).keep nb7)
    replace HB4 := hide (((unhide HB4).keep hb7).keep nb7)
    replace HB5 := hide (((unhide HB5).keep hb7).keep nb7)
    replace HRX := hide (((unhide HRX).later hb7).later nb7)
    replace HR2 := hide (((unhide HR2).later hb7).later nb7)
    replace HR4 := hide (((unhide HR4).later hb7).later nb7)
    replace HR5 := hide (((unhide HR5).later hb7).later nb7)
    replace HRW := hide (((unhide HRW).later hb7).later nb7)
    have HB7 := hide x7
    have HR7 := hide (R7.later nb7)
    replace HB := hide (((unhide HB).trans (hb7.mono (unhide HB).size)).trans (nb7.mono (Nat.le_trans (unhide HB).size hb7.size)))
    clear R7 nb7 x7 hb7 L7
    go_wp2_with fail
    generalize w7.alloc (.cells #[.int .i64 rc, .slice a7 RW.length d7] 36) = wz at *
    have KEEP : Hid (∀ W, Below wz.heap.size wz W → W.cell? ⟨w4.heap.size, 0, none⟩ = some (.int .i64 0) ∧ W.cell? ⟨w4.heap.size, 1, none⟩ = some (.slice a4 ws.length d4) ∧ W.cell? ⟨w5.heap.size, 0, none⟩ = some (.int .i64 0) ∧ W.cell? ⟨w5.heap.size, 1, none⟩ = some (.slice a5 BW.length d5) ∧ W.cell? ⟨w7.heap.size, 0, none⟩ = some (.int .i64 rc) ∧ W.cell? ⟨w7.heap.size, 1, none⟩ = some (.slice a7 RW.length d7)) := fun W hW =>
      ⟨((unhide HB4).keep hW).at 0 _ rfl, ((unhide HB4).keep hW).at 1 _ rfl, ((unhide HB5).keep hW).at 0 _ rfl, ((unhide HB5).keep hW).at 1 _ rfl, ((unhide HB7).keep hW).at 0 _ rfl, ((unhide HB7).keep hW).at 1 _ rfl⟩
    have LS1 : Hid (∀ W, Below wz.heap.size wz W → Calls Try.prog 51 #[.slice a4 ws.length d4, .slice av ws.length dv] W fun e w' => e = .returned (.bool true) ∧ Below W.heap.size W w') := fun W hW => by
      have h9 := implSame _ _ ws ws W ((unhide HR4).later hW) ((unhide HRX).later hW)
      rwa [sameWs_self] at h9
    have LS2 : Hid (∀ W, Below wz.heap.size wz W → Calls Try.prog 51 #[.slice a5 BW.length d5, .slice av (k / 8) dv] W fun e w' => e = .returned (.bool true) ∧ Below W.heap.size W w') := fun W hW => by
      have h9 := implSame _ _ BW (ws.take (k / 8)) W ((unhide HR5).later hW) (sl_prefix9 ((unhide HRX).later hW) (by omega))
      rw [← unhide HBW, sameWs_self] at h9
      exact h9
    have LSP : Hid (∀ W, Below wz.heap.size wz W → Calls Try.prog 20 #[.slice a6 raw.length d6] W fun e w' => ∃ (a : Option Addr) (cp : Nat), e = .returned (.agg #[.int .i64 rc, .slice a RW.length cp]) ∧ (Lay.sl Lay.tWrite).Reads w' [.slice a RW.length cp] RW ∧ Below W.heap.size W w') := fun W hW => by
      refine (specReadLog _ raw W ((unhide HRW).later hW)).mono ?_
      rintro e w' ⟨cs, rfl, O, hb⟩
      rw [unhide HRR] at O
      obtain ⟨a, cp, rfl, R⟩ := open_WritesResult O.reads
      exact ⟨a, cp, rfl, R, hb⟩
    have LS3 : Hid (∀ W (u : Value), Below wz.heap.size wz W → (Lay.sl Lay.tWrite).Reads W [u] RW → Calls Try.prog 51 #[.slice a7 RW.length d7, u] W fun e w' => e = .returned (.bool true) ∧ Below W.heap.size W w') := fun W u hW hu => by
      have h9 := implSame _ _ RW RW W ((unhide HR7).later hW) hu
      rwa [sameWs_self] at h9
    have hcv : ws.length ≤ dv := (unhide HRX).cap.2
    have kd : k / 8 ≤ dv := by omega
    have hq : ((k : Int).tdiv 8) = ((k / 8 : Nat) : Int) := by rw [Int.tdiv_eq_ediv_of_nonneg (by omega)]; omega
    have e0 : ((0 : Int) == 0) = true := by decide
    have e1 : (rc == rc) = true := by simp
    have hf0 := fun a n cp => fieldW0 rc a n cp
    have hf1 := fun a n cp => fieldW1 rc a n cp
    obtain ⟨k8, hk8e⟩ : ∃ k8, k / 8 = k8 := ⟨_, rfl⟩
    rw [hk8e] at LS2 kd hq
    have hwk : IntKind.i64.wrap (k8 : Int) = (k8 : Int) := by rw [IntKind.wrap_i64]; omega
    clear hk8e
    clear e3 hcv HB2 HB4 HB5 HB7 HRX HR2 HR4 HR5 HR7 HRW
    refine wp_region_noPanic ?_
    refine wp_region_held_drew (S := fun w' => Below wz.heap.size wz w') (by kernel_rfl) (Below.refl _ _).drew (fun hHeld => ?_)
    generalize wz.drew = wD at hHeld ⊢
    refine wpAnyH_take (i := 0) (oi := { dst := some 43, op := Go.Op.fieldAddr 36 (Go.Operand.tmp 6) 0, type := 0, pos := "laws.go:368", after := #[], guard := none }) (v := ?vf0_1) rfl (by kernel_rfl) (by kernel_rfl) (by kernel_rfl) (fun _ _ _ h => h) (Or.inl ⟨by rfl, ?hf0_1⟩) hHeld ?rf0_1
    case hf0_1 =>
      intro wS hSw
      (try dsimp only at hSw)
      go_simp
      try with_reducible rfl
    case rf0_1 =>
    simp only [Act.put, List.setIfInBounds_toArray, List.set_cons_zero, List.set_cons_succ]
    refine wpAnyH_take (i := 1) (oi := { dst := some 44, op := Go.Op.load 2 (Go.Operand.tmp 43), type := 2, pos := "laws.go:368", after := #[{ on := 0, ground := Go.Ground.data }], guard := none }) (v := ?vf1_2) rfl (by kernel_rfl) (by kernel_rfl) (by kernel_rfl) (fun _ _ _ h => h) (Or.inl ⟨by rfl, ?hf1_2⟩) hHeld ?rf1_2
    case hf1_2 =>
      intro wS hSw
      obtain ⟨y0, y1, y2, y3, y4, y5⟩ := unhide KEEP _ hSw
      clear hSw
      (try dsimp only at hSw)
      go_simp
      try with_reducible rfl
    case rf1_2 =>
    simp only [Act.put, List.setIfInBounds_toArray, List.set_cons_zero, List.set_cons_succ]
    refine wpAnyH_take (i := 2) (oi := { dst := some 45, op := Go.Op.binOp Go.BinOp.eql 2 (Go.Operand.tmp 44) (Go.Operand.const (Go.Value.int Go.IntKind.i64 0)) 2, type := 4, pos := "laws.go:368", after := #[{ on := 1, ground := Go.Ground.data }], guard := none }) (v := ?vf2_3) rfl (by kernel_rfl) (by kernel_rfl) (by kernel_rfl) (fun _ _ _ h => h) (Or.inl ⟨by rfl, ?hf2_3⟩) hHeld ?rf2_3
    case hf2_3 =>
      intro wS hSw
      (try dsimp only at hSw)
      go_simp
      try with_reducible rfl
    case rf2_3 =>
    simp only [Act.put, List.setIfInBounds_toArray, List.set_cons_zero, List.set_cons_succ]
    refine wpAnyH_take (i := 3) (oi := { dst := some 46, op := Go.Op.move (Go.Operand.tmp 45), type := 4, pos := "laws.go:368", after := #[{ on := 2, ground := Go.Ground.data }], guard := none }) (v := ?vf3_4) rfl (by kernel_rfl) (by kernel_rfl) (by kernel_rfl) (fun _ _ _ h => h) (Or.inl ⟨by rfl, ?hf3_4⟩) hHeld ?rf3_4
    case hf3_4 =>
      intro wS hSw
      (try dsimp only at hSw)
      go_simp
      try with_reducible rfl
    case rf3_4 =>
    simp only [Act.put, List.setIfInBounds_toArray, List.set_cons_zero, List.set_cons_succ]
    refine wpAnyH_take (i := 4) (oi := { dst := some 47, op := Go.Op.fieldAddr 36 (Go.Operand.tmp 6) 1, type := 0, pos := "laws.go:368", after := #[{ on := 3, ground := Go.Ground.guard }], guard := some (3, true) }) (v := ?vf4_5) rfl (by kernel_rfl) (by kernel_rfl) (by kernel_rfl) (fun _ _ _ h => h) (Or.inl ⟨by rfl, ?hf4_5⟩) hHeld ?rf4_5
    case hf4_5 =>
      intro wS hSw
      (try dsimp only at hSw)
      go_simp
      try with_reducible rfl
    case rf4_5 =>
    simp only [Act.put, List.setIfInBounds_toArray, List.set_cons_zero, List.set_cons_succ]
    refine wpAnyH_take (i := 5) (oi := { dst := some 48, op := Go.Op.load 28 (Go.Operand.tmp 47), type := 28, pos := "laws.go:368", after := #[{ on := 4, ground := Go.Ground.data }, { on := 3, ground := Go.Ground.guard }], guard := some (3, true) }) (v := ?vf5_6) rfl (by kernel_rfl) (by kernel_rfl) (by kernel_rfl) (fun _ _ _ h => h) (Or.inl ⟨by rfl, ?hf5_6⟩) hHeld ?rf5_6
    case hf5_6 =>
      intro wS hSw
      obtain ⟨y0, y1, y2, y3, y4, y5⟩ := unhide KEEP _ hSw
      clear hSw
      (try dsimp only at hSw)
      go_simp
      try with_reducible rfl
    case rf5_6 =>
    simp only [Act.put, List.setIfInBounds_toArray, List.set_cons_zero, List.set_cons_succ]
    refine wpAnyH_take (i := 6) (oi := { dst := some 49, op := Go.Op.move (Go.Operand.tmp 3), type := 28, pos := "laws.go:368", after := #[{ on := 3, ground := Go.Ground.guard }], guard := some (3, true) }) (v := ?vf6_7) rfl (by kernel_rfl) (by kernel_rfl) (by kernel_rfl) (fun _ _ _ h => h) (Or.inl ⟨by rfl, ?hf6_7⟩) hHeld ?rf6_7
    case hf6_7 =>
      intro wS hSw
      (try dsimp only at hSw)
      go_simp
      try with_reducible rfl
    case rf6_7 =>
    simp only [Act.put, List.setIfInBounds_toArray, List.set_cons_zero, List.set_cons_succ]
    refine wpAnyH_ready (rs := [7]) (by kernel_rfl) (by simp) ?_
    refine AllReadyH.cons (o := { dst := some 50, op := Go.Op.call { callee := Go.Callee.value (Go.Operand.func 51), args := #[Go.Operand.tmp 48, Go.Operand.tmp 49], argTypes := #[28, 28] }, type := 4, pos := "laws.go:368", after := #[{ on := 5, ground := Go.Ground.data }, { on := 6, ground := Go.Ground.data }, { on := 3, ground := Go.Ground.chain }, { on := 3, ground := Go.Ground.guard }], guard := some (3, true) }) rfl (fun K hK => ?_) AllReadyH.nil
    go_simp
    go_at_call 51
    refine (unhide LS1 _ hHeld).mono ?_
    rintro e v1 ⟨rfl, hbw⟩
    try go_wp2_with fail
    refine hK.out _ _ (hHeld.trans (hbw.mono hHeld.size)) (fun hHeld => ?_)
    clear hK K
    try simp only [Act.put, List.setIfInBounds_toArray, List.set_cons_zero, List.set_cons_succ]
    refine wpAnyH_take (i := 8) (oi := { dst := some 51, op := Go.Op.pick (Go.Operand.tmp 46) (Go.Operand.tmp 50) (Go.Operand.const (Go.Value.bool false)), type := 4, pos := "laws.go:368", after := #[{ on := 3, ground := Go.Ground.data }, { on := 7, ground := Go.Ground.data }], guard := none }) (v := ?vf8_8) rfl (by kernel_rfl) (by kernel_rfl) (by kernel_rfl) (fun _ _ _ h => h) (Or.inl ⟨by rfl, ?hf8_8⟩) hHeld ?rf8_8
    case hf8_8 =>
      intro wS hSw
      (try dsimp only at hSw)
      go_simp
      try with_reducible rfl
    case rf8_8 =>
    simp only [Act.put, List.setIfInBounds_toArray, List.set_cons_zero, List.set_cons_succ]
    refine wpAnyH_take (i := 9) (oi := { dst := some 52, op := Go.Op.move (Go.Operand.tmp 51), type := 4, pos := "laws.go:368", after := #[{ on := 8, ground := Go.Ground.data }, { on := 7, ground := Go.Ground.chain }], guard := none }) (v := ?vf9_9) rfl (by kernel_rfl) (by kernel_rfl) (by kernel_rfl) (fun _ _ _ h => h) (Or.inl ⟨by rfl, ?hf9_9⟩) hHeld ?rf9_9
    case hf9_9 =>
      intro wS hSw
      (try dsimp only at hSw)
      go_simp
      try with_reducible rfl
    case rf9_9 =>
    simp only [Act.put, List.setIfInBounds_toArray, List.set_cons_zero, List.set_cons_succ]
    refine wpAnyH_take (i := 10) (oi := { dst := some 53, op := Go.Op.fieldAddr 36 (Go.Operand.tmp 7) 0, type := 0, pos := "laws.go:368", after := #[{ on := 9, ground := Go.Ground.guard }], guard := some (9, true) }) (v := ?vf10_10) rfl (by kernel_rfl) (by kernel_rfl) (by kernel_rfl) (fun _ _ _ h => h) (Or.inl ⟨by rfl, ?hf10_10⟩) hHeld ?rf10_10
    case hf10_10 =>
      intro wS hSw
      (try dsimp only at hSw)
      go_simp
      try with_reducible rfl
    case rf10_10 =>
    simp only [Act.put, List.setIfInBounds_toArray, List.set_cons_zero, List.set_cons_succ]
    refine wpAnyH_take (i := 11) (oi := { dst := some 54, op := Go.Op.load 2 (Go.Operand.tmp 53), type := 2, pos := "laws.go:368", after := #[{ on := 10, ground := Go.Ground.data }, { on := 9, ground := Go.Ground.guard }], guard := some (9, true) }) (v := ?vf11_11) rfl (by kernel_rfl) (by kernel_rfl) (by kernel_rfl) (fun _ _ _ h => h) (Or.inl ⟨by rfl, ?hf11_11⟩) hHeld ?rf11_11
    case hf11_11 =>
      intro wS hSw
      obtain ⟨y0, y1, y2, y3, y4, y5⟩ := unhide KEEP _ hSw
      clear hSw
      (try dsimp only at hSw)
      go_simp
      try with_reducible rfl
    case rf11_11 =>
    simp only [Act.put, List.setIfInBounds_toArray, List.set_cons_zero, List.set_cons_succ]
    refine wpAnyH_take (i := 12) (oi := { dst := some 55, op := Go.Op.binOp Go.BinOp.eql 2 (Go.Operand.tmp 54) (Go.Operand.const (Go.Value.int Go.IntKind.i64 0)) 2, type := 4, pos := "laws.go:368", after := #[{ on := 11, ground := Go.Ground.data }, { on := 9, ground := Go.Ground.guard }], guard := some (9, true) }) (v := ?vf12_12) rfl (by kernel_rfl) (by kernel_rfl) (by kernel_rfl) (fun _ _ _ h => h) (Or.inl ⟨by rfl, ?hf12_12⟩) hHeld ?rf12_12
    case hf12_12 =>
      intro wS hSw
      (try dsimp only at hSw)
      go_simp
      try with_reducible rfl
    case rf12_12 =>
    simp only [Act.put, List.setIfInBounds_toArray, List.set_cons_zero, List.set_cons_succ]
    refine wpAnyH_take (i := 13) (oi := { dst := some 56, op := Go.Op.pick (Go.Operand.tmp 52) (Go.Operand.tmp 55) (Go.Operand.const (Go.Value.bool false)), type := 4, pos := "laws.go:368", after := #[{ on := 9, ground := Go.Ground.data }, { on := 12, ground := Go.Ground.data }], guard := none }) (v := ?vf13_13) rfl (by kernel_rfl) (by kernel_rfl) (by kernel_rfl) (fun _ _ _ h => h) (Or.inl ⟨by rfl, ?hf13_13⟩) hHeld ?rf13_13
    case hf13_13 =>
      intro wS hSw
      (try dsimp only at hSw)
      go_simp
      try with_reducible rfl
    case rf13_13 =>
    simp only [Act.put, List.setIfInBounds_toArray, List.set_cons_zero, List.set_cons_succ]
    refine wpAnyH_take (i := 14) (oi := { dst := some 57, op := Go.Op.move (Go.Operand.tmp 56), type := 4, pos := "laws.go:368", after := #[{ on := 13, ground := Go.Ground.data }, { on := 9, ground := Go.Ground.chain }], guard := none }) (v := ?vf14_14) rfl (by kernel_rfl) (by kernel_rfl) (by kernel_rfl) (fun _ _ _ h => h) (Or.inl ⟨by rfl, ?hf14_14⟩) hHeld ?rf14_14
    case hf14_14 =>
      intro wS hSw
      (try dsimp only at hSw)
      go_simp
      try with_reducible rfl
    case rf14_14 =>
    simp only [Act.put, List.setIfInBounds_toArray, List.set_cons_zero, List.set_cons_succ]
    refine wpAnyH_take (i := 15) (oi := { dst := some 58, op := Go.Op.fieldAddr 36 (Go.Operand.tmp 7) 1, type := 0, pos := "laws.go:368", after := #[{ on := 14, ground := Go.Ground.guard }], guard := some (14, true) }) (v := ?vf15_15) rfl (by kernel_rfl) (by kernel_rfl) (by kernel_rfl) (fun _ _ _ h => h) (Or.inl ⟨by rfl, ?hf15_15⟩) hHeld ?rf15_15
    case hf15_15 =>
      intro wS hSw
      (try dsimp only at hSw)
      go_simp
      try with_reducible rfl
    case rf15_15 =>
    simp only [Act.put, List.setIfInBounds_toArray, List.set_cons_zero, List.set_cons_succ]
    refine wpAnyH_take (i := 16) (oi := { dst := some 59, op := Go.Op.load 28 (Go.Operand.tmp 58), type := 28, pos := "laws.go:368", after := #[{ on := 15, ground := Go.Ground.data }, { on := 14, ground := Go.Ground.guard }], guard := some (14, true) }) (v := ?vf16_16) rfl (by kernel_rfl) (by kernel_rfl) (by kernel_rfl) (fun _ _ _ h => h) (Or.inl ⟨by rfl, ?hf16_16⟩) hHeld ?rf16_16
    case hf16_16 =>
      intro wS hSw
      obtain ⟨y0, y1, y2, y3, y4, y5⟩ := unhide KEEP _ hSw
      clear hSw
      (try dsimp only at hSw)
      go_simp
      try with_reducible rfl
    case rf16_16 =>
    simp only [Act.put, List.setIfInBounds_toArray, List.set_cons_zero, List.set_cons_succ]
    refine wpAnyH_take (i := 17) (oi := { dst := some 60, op := Go.Op.move (Go.Operand.tmp 3), type := 28, pos := "laws.go:368", after := #[{ on := 14, ground := Go.Ground.guard }], guard := some (14, true) }) (v := ?vf17_17) rfl (by kernel_rfl) (by kernel_rfl) (by kernel_rfl) (fun _ _ _ h => h) (Or.inl ⟨by rfl, ?hf17_17⟩) hHeld ?rf17_17
    case hf17_17 =>
      intro wS hSw
      (try dsimp only at hSw)
      go_simp
      try with_reducible rfl
    case rf17_17 =>
    simp only [Act.put, List.setIfInBounds_toArray, List.set_cons_zero, List.set_cons_succ]
    refine wpAnyH_take (i := 18) (oi := { dst := some 61, op := Go.Op.move (Go.Operand.tmp 5), type := 2, pos := "laws.go:368", after := #[{ on := 14, ground := Go.Ground.guard }], guard := some (14, true) }) (v := ?vf18_18) rfl (by kernel_rfl) (by kernel_rfl) (by kernel_rfl) (fun _ _ _ h => h) (Or.inl ⟨by rfl, ?hf18_18⟩) hHeld ?rf18_18
    case hf18_18 =>
      intro wS hSw
      (try dsimp only at hSw)
      go_simp
      try with_reducible rfl
    case rf18_18 =>
    simp only [Act.put, List.setIfInBounds_toArray, List.set_cons_zero, List.set_cons_succ]
    refine wpAnyH_take (i := 19) (oi := { dst := some 62, op := Go.Op.binOp Go.BinOp.quo 2 (Go.Operand.tmp 61) (Go.Operand.const (Go.Value.int Go.IntKind.i64 8)) 2, type := 2, pos := "laws.go:368", after := #[{ on := 18, ground := Go.Ground.data }, { on := 14, ground := Go.Ground.guard }], guard := some (14, true) }) (v := ?vf19_19) rfl (by kernel_rfl) (by kernel_rfl) (by kernel_rfl) (fun _ _ _ h => h) (Or.inl ⟨by rfl, ?hf19_19⟩) hHeld ?rf19_19
    case hf19_19 =>
      intro wS hSw
      clear hSw
      have hq2 := hq
      have hwr := hwk
      (try dsimp only at hSw)
      go_simp
      try with_reducible rfl
    case rf19_19 =>
    simp only [Act.put, List.setIfInBounds_toArray, List.set_cons_zero, List.set_cons_succ]
    refine wpAnyH_take (i := 20) (oi := { dst := some 63, op := Go.Op.slice 28 (Go.Operand.tmp 60) none (some (Go.Operand.tmp 62)) none, type := 28, pos := "laws.go:368", after := #[{ on := 17, ground := Go.Ground.data }, { on := 19, ground := Go.Ground.data }, { on := 14, ground := Go.Ground.guard }], guard := some (14, true) }) (v := ?vf20_20) rfl (by kernel_rfl) (by kernel_rfl) (by kernel_rfl) (fun _ _ _ h => h) (Or.inl ⟨by rfl, ?hf20_20⟩) hHeld ?rf20_20
    case hf20_20 =>
      intro wS hSw
      clear hSw
      have kd2 := kd
      have hwr := hwk
      have kd5 : (k8 : Int).toNat = k8 := by omega
      have kd3 : (0 : Int) ≤ (k8 : Int) := by omega
      have kd4 : (k8 : Int) ≤ (dv : Int) := by omega
      (try dsimp only at hSw)
      go_simp
      try with_reducible rfl
    case rf20_20 =>
    simp only [Act.put, List.setIfInBounds_toArray, List.set_cons_zero, List.set_cons_succ]
    refine wpAnyH_ready (rs := [21]) (by kernel_rfl) (by simp) ?_
    refine AllReadyH.cons (o := { dst := some 64, op := Go.Op.call { callee := Go.Callee.value (Go.Operand.func 51), args := #[Go.Operand.tmp 59, Go.Operand.tmp 63], argTypes := #[28, 28] }, type := 4, pos := "laws.go:368", after := #[{ on := 16, ground := Go.Ground.data }, { on := 20, ground := Go.Ground.data }, { on := 14, ground := Go.Ground.chain }, { on := 14, ground := Go.Ground.guard }], guard := some (14, true) }) rfl (fun K hK => ?_) AllReadyH.nil
    go_simp
    go_at_call 51
    refine (unhide LS2 _ hHeld).mono ?_
    rintro e v2 ⟨rfl, hbw⟩
    try go_wp2_with fail
    refine hK.out _ _ (hHeld.trans (hbw.mono hHeld.size)) (fun hHeld => ?_)
    clear hK K
    try simp only [Act.put, List.setIfInBounds_toArray, List.set_cons_zero, List.set_cons_succ]
    refine wpAnyH_take (i := 22) (oi := { dst := some 65, op := Go.Op.pick (Go.Operand.tmp 57) (Go.Operand.tmp 64) (Go.Operand.const (Go.Value.bool false)), type := 4, pos := "laws.go:368", after := #[{ on := 14, ground := Go.Ground.data }, { on := 21, ground := Go.Ground.data }], guard := none }) (v := ?vf22_21) rfl (by kernel_rfl) (by kernel_rfl) (by kernel_rfl) (fun _ _ _ h => h) (Or.inl ⟨by rfl, ?hf22_21⟩) hHeld ?rf22_21
    case hf22_21 =>
      intro wS hSw
      (try dsimp only at hSw)
      go_simp
      try with_reducible rfl
    case rf22_21 =>
    simp only [Act.put, List.setIfInBounds_toArray, List.set_cons_zero, List.set_cons_succ]
    refine wpAnyH_take (i := 23) (oi := { dst := some 66, op := Go.Op.move (Go.Operand.tmp 65), type := 4, pos := "laws.go:368", after := #[{ on := 22, ground := Go.Ground.data }, { on := 21, ground := Go.Ground.chain }], guard := none }) (v := ?vf23_22) rfl (by kernel_rfl) (by kernel_rfl) (by kernel_rfl) (fun _ _ _ h => h) (Or.inl ⟨by rfl, ?hf23_22⟩) hHeld ?rf23_22
    case hf23_22 =>
      intro wS hSw
      (try dsimp only at hSw)
      go_simp
      try with_reducible rfl
    case rf23_22 =>
    simp only [Act.put, List.setIfInBounds_toArray, List.set_cons_zero, List.set_cons_succ]
    refine wpAnyH_take (i := 24) (oi := { dst := some 67, op := Go.Op.fieldAddr 36 (Go.Operand.tmp 9) 0, type := 0, pos := "laws.go:368", after := #[{ on := 23, ground := Go.Ground.guard }], guard := some (23, true) }) (v := ?vf24_23) rfl (by kernel_rfl) (by kernel_rfl) (by kernel_rfl) (fun _ _ _ h => h) (Or.inl ⟨by rfl, ?hf24_23⟩) hHeld ?rf24_23
    case hf24_23 =>
      intro wS hSw
      (try dsimp only at hSw)
      go_simp
      try with_reducible rfl
    case rf24_23 =>
    simp only [Act.put, List.setIfInBounds_toArray, List.set_cons_zero, List.set_cons_succ]
    refine wpAnyH_take (i := 25) (oi := { dst := some 68, op := Go.Op.load 2 (Go.Operand.tmp 67), type := 2, pos := "laws.go:368", after := #[{ on := 24, ground := Go.Ground.data }, { on := 23, ground := Go.Ground.guard }], guard := some (23, true) }) (v := ?vf25_24) rfl (by kernel_rfl) (by kernel_rfl) (by kernel_rfl) (fun _ _ _ h => h) (Or.inl ⟨by rfl, ?hf25_24⟩) hHeld ?rf25_24
    case hf25_24 =>
      intro wS hSw
      obtain ⟨y0, y1, y2, y3, y4, y5⟩ := unhide KEEP _ hSw
      clear hSw
      (try dsimp only at hSw)
      go_simp
      try with_reducible rfl
    case rf25_24 =>
    simp only [Act.put, List.setIfInBounds_toArray, List.set_cons_zero, List.set_cons_succ]
    refine wpAnyH_take (i := 26) (oi := { dst := some 69, op := Go.Op.move (Go.Operand.tmp 8), type := 24, pos := "laws.go:368", after := #[{ on := 23, ground := Go.Ground.guard }], guard := some (23, true) }) (v := ?vf26_25) rfl (by kernel_rfl) (by kernel_rfl) (by kernel_rfl) (fun _ _ _ h => h) (Or.inl ⟨by rfl, ?hf26_25⟩) hHeld ?rf26_25
    case hf26_25 =>
      intro wS hSw
      (try dsimp only at hSw)
      go_simp
      try with_reducible rfl
    case rf26_25 =>
    simp only [Act.put, List.setIfInBounds_toArray, List.set_cons_zero, List.set_cons_succ]
    refine wpAnyH_ready (rs := [27]) (by kernel_rfl) (by simp) ?_
    refine AllReadyH.cons (o := { dst := some 70, op := Go.Op.call { callee := Go.Callee.value (Go.Operand.func 20), args := #[Go.Operand.tmp 69], argTypes := #[24] }, type := 36, pos := "laws.go:368", after := #[{ on := 26, ground := Go.Ground.data }, { on := 23, ground := Go.Ground.chain }, { on := 23, ground := Go.Ground.guard }], guard := some (23, true) }) rfl (fun K hK => ?_) AllReadyH.nil
    go_simp
    go_at_call 20
    refine (unhide LSP _ hHeld).mono ?_
    rintro e v3 ⟨a20, d20, rfl, R20, hbw⟩
    try go_wp2_with fail
    refine hK.out _ _ (hHeld.trans (hbw.mono hHeld.size)) (fun hHeld => ?_)
    clear hK K
    try simp only [Act.put, List.setIfInBounds_toArray, List.set_cons_zero, List.set_cons_succ]
    refine wpAnyH_take (i := 28) (oi := { dst := some 71, op := Go.Op.field 36 (Go.Operand.tmp 70) 0, type := 2, pos := "laws.go:368", after := #[{ on := 27, ground := Go.Ground.data }, { on := 23, ground := Go.Ground.guard }], guard := some (23, true) }) (v := ?vf28_26) rfl (by kernel_rfl) (by kernel_rfl) (by kernel_rfl) (fun _ _ _ h => h) (Or.inl ⟨by rfl, ?hf28_26⟩) hHeld ?rf28_26
    case hf28_26 =>
      intro wS hSw
      have yf := hf0 a20 RW.length d20
      clear hSw
      (try dsimp only at hSw)
      go_simp
      try with_reducible rfl
    case rf28_26 =>
    simp only [Act.put, List.setIfInBounds_toArray, List.set_cons_zero, List.set_cons_succ]
    refine wpAnyH_take (i := 29) (oi := { dst := some 72, op := Go.Op.binOp Go.BinOp.eql 2 (Go.Operand.tmp 68) (Go.Operand.tmp 71) 2, type := 4, pos := "laws.go:368", after := #[{ on := 25, ground := Go.Ground.data }, { on := 28, ground := Go.Ground.data }, { on := 23, ground := Go.Ground.guard }], guard := some (23, true) }) (v := ?vf29_27) rfl (by kernel_rfl) (by kernel_rfl) (by kernel_rfl) (fun _ _ _ h => h) (Or.inl ⟨by rfl, ?hf29_27⟩) hHeld ?rf29_27
    case hf29_27 =>
      intro wS hSw
      (try dsimp only at hSw)
      go_simp
      try with_reducible rfl
    case rf29_27 =>
    simp only [Act.put, List.setIfInBounds_toArray, List.set_cons_zero, List.set_cons_succ]
    refine wpAnyH_take (i := 30) (oi := { dst := some 73, op := Go.Op.pick (Go.Operand.tmp 66) (Go.Operand.tmp 72) (Go.Operand.const (Go.Value.bool false)), type := 4, pos := "laws.go:368", after := #[{ on := 23, ground := Go.Ground.data }, { on := 29, ground := Go.Ground.data }], guard := none }) (v := ?vf30_28) rfl (by kernel_rfl) (by kernel_rfl) (by kernel_rfl) (fun _ _ _ h => h) (Or.inl ⟨by rfl, ?hf30_28⟩) hHeld ?rf30_28
    case hf30_28 =>
      intro wS hSw
      (try dsimp only at hSw)
      go_simp
      try with_reducible rfl
    case rf30_28 =>
    simp only [Act.put, List.setIfInBounds_toArray, List.set_cons_zero, List.set_cons_succ]
    refine wpAnyH_take (i := 31) (oi := { dst := some 74, op := Go.Op.move (Go.Operand.tmp 73), type := 4, pos := "laws.go:368", after := #[{ on := 30, ground := Go.Ground.data }, { on := 27, ground := Go.Ground.chain }], guard := none }) (v := ?vf31_29) rfl (by kernel_rfl) (by kernel_rfl) (by kernel_rfl) (fun _ _ _ h => h) (Or.inl ⟨by rfl, ?hf31_29⟩) hHeld ?rf31_29
    case hf31_29 =>
      intro wS hSw
      (try dsimp only at hSw)
      go_simp
      try with_reducible rfl
    case rf31_29 =>
    simp only [Act.put, List.setIfInBounds_toArray, List.set_cons_zero, List.set_cons_succ]
    refine wpAnyH_take (i := 32) (oi := { dst := some 75, op := Go.Op.fieldAddr 36 (Go.Operand.tmp 9) 1, type := 0, pos := "laws.go:368", after := #[{ on := 31, ground := Go.Ground.guard }], guard := some (31, true) }) (v := ?vf32_30) rfl (by kernel_rfl) (by kernel_rfl) (by kernel_rfl) (fun _ _ _ h => h) (Or.inl ⟨by rfl, ?hf32_30⟩) hHeld ?rf32_30
    case hf32_30 =>
      intro wS hSw
      (try dsimp only at hSw)
      go_simp
      try with_reducible rfl
    case rf32_30 =>
    simp only [Act.put, List.setIfInBounds_toArray, List.set_cons_zero, List.set_cons_succ]
    refine wpAnyH_take (i := 33) (oi := { dst := some 76, op := Go.Op.load 28 (Go.Operand.tmp 75), type := 28, pos := "laws.go:368", after := #[{ on := 32, ground := Go.Ground.data }, { on := 31, ground := Go.Ground.guard }], guard := some (31, true) }) (v := ?vf33_31) rfl (by kernel_rfl) (by kernel_rfl) (by kernel_rfl) (fun _ _ _ h => h) (Or.inl ⟨by rfl, ?hf33_31⟩) hHeld ?rf33_31
    case hf33_31 =>
      intro wS hSw
      obtain ⟨y0, y1, y2, y3, y4, y5⟩ := unhide KEEP _ hSw
      clear hSw
      (try dsimp only at hSw)
      go_simp
      try with_reducible rfl
    case rf33_31 =>
    simp only [Act.put, List.setIfInBounds_toArray, List.set_cons_zero, List.set_cons_succ]
    refine wpAnyH_take (i := 34) (oi := { dst := some 77, op := Go.Op.move (Go.Operand.tmp 8), type := 24, pos := "laws.go:368", after := #[{ on := 31, ground := Go.Ground.guard }], guard := some (31, true) }) (v := ?vf34_32) rfl (by kernel_rfl) (by kernel_rfl) (by kernel_rfl) (fun _ _ _ h => h) (Or.inl ⟨by rfl, ?hf34_32⟩) hHeld ?rf34_32
    case hf34_32 =>
      intro wS hSw
      (try dsimp only at hSw)
      go_simp
      try with_reducible rfl
    case rf34_32 =>
    simp only [Act.put, List.setIfInBounds_toArray, List.set_cons_zero, List.set_cons_succ]
    refine wpAnyH_ready (rs := [35]) (by kernel_rfl) (by simp) ?_
    refine AllReadyH.cons (o := { dst := some 78, op := Go.Op.call { callee := Go.Callee.value (Go.Operand.func 20), args := #[Go.Operand.tmp 77], argTypes := #[24] }, type := 36, pos := "laws.go:368", after := #[{ on := 34, ground := Go.Ground.data }, { on := 31, ground := Go.Ground.chain }, { on := 31, ground := Go.Ground.guard }], guard := some (31, true) }) rfl (fun K hK => ?_) AllReadyH.nil
    go_simp
    go_at_call 20
    refine (unhide LSP _ hHeld).mono ?_
    rintro e v4 ⟨a21, d21, rfl, R21, hbw⟩
    try go_wp2_with fail
    refine hK.out _ _ (hHeld.trans (hbw.mono hHeld.size)) (fun hHeld => ?_)
    clear hK K
    try simp only [Act.put, List.setIfInBounds_toArray, List.set_cons_zero, List.set_cons_succ]
    refine wpAnyH_take (i := 36) (oi := { dst := some 79, op := Go.Op.field 36 (Go.Operand.tmp 78) 1, type := 28, pos := "laws.go:368", after := #[{ on := 35, ground := Go.Ground.data }, { on := 31, ground := Go.Ground.guard }], guard := some (31, true) }) (v := ?vf36_33) rfl (by kernel_rfl) (by kernel_rfl) (by kernel_rfl) (fun _ _ _ h => h) (Or.inl ⟨by rfl, ?hf36_33⟩) hHeld ?rf36_33
    case hf36_33 =>
      intro wS hSw
      have yf := hf1 a21 RW.length d21
      clear hSw
      (try dsimp only at hSw)
      go_simp
      try with_reducible rfl
    case rf36_33 =>
    simp only [Act.put, List.setIfInBounds_toArray, List.set_cons_zero, List.set_cons_succ]
    refine wpAnyH_ready (rs := [37]) (by kernel_rfl) (by simp) ?_
    refine AllReadyH.cons (o := { dst := some 80, op := Go.Op.call { callee := Go.Callee.value (Go.Operand.func 51), args := #[Go.Operand.tmp 76, Go.Operand.tmp 79], argTypes := #[28, 28] }, type := 4, pos := "laws.go:368", after := #[{ on := 33, ground := Go.Ground.data }, { on := 36, ground := Go.Ground.data }, { on := 35, ground := Go.Ground.chain }, { on := 31, ground := Go.Ground.guard }], guard := some (31, true) }) rfl (fun K hK => ?_) AllReadyH.nil
    go_simp
    go_at_call 51
    refine (unhide LS3 _ _ hHeld R21).mono ?_
    rintro e v5 ⟨rfl, hbw⟩
    try go_wp2_with fail
    refine hK.out _ _ (hHeld.trans (hbw.mono hHeld.size)) (fun hHeld => ?_)
    clear hK K
    try simp only [Act.put, List.setIfInBounds_toArray, List.set_cons_zero, List.set_cons_succ]
    refine wpAnyH_take (i := 38) (oi := { dst := some 81, op := Go.Op.pick (Go.Operand.tmp 74) (Go.Operand.tmp 80) (Go.Operand.const (Go.Value.bool false)), type := 4, pos := "laws.go:368", after := #[{ on := 31, ground := Go.Ground.data }, { on := 37, ground := Go.Ground.data }], guard := none }) (v := ?vf38_34) rfl (by kernel_rfl) (by kernel_rfl) (by kernel_rfl) (fun _ _ _ h => h) (Or.inl ⟨by rfl, ?hf38_34⟩) hHeld ?rf38_34
    case hf38_34 =>
      intro wS hSw
      (try dsimp only at hSw)
      go_simp
      try with_reducible rfl
    case rf38_34 =>
    simp only [Act.put, List.setIfInBounds_toArray, List.set_cons_zero, List.set_cons_succ]
    refine wpAnyH_take (i := 39) (oi := { dst := some 2, op := Go.Op.assign (Go.Operand.tmp 81), type := 4, pos := "laws.go:368", after := #[{ on := 38, ground := Go.Ground.data }, { on := 37, ground := Go.Ground.chain }, { on := 0, ground := Go.Ground.phase }, { on := 1, ground := Go.Ground.phase }, { on := 2, ground := Go.Ground.phase }, { on := 3, ground := Go.Ground.phase }, { on := 4, ground := Go.Ground.phase }, { on := 5, ground := Go.Ground.phase }, { on := 6, ground := Go.Ground.phase }, { on := 7, ground := Go.Ground.phase }, { on := 8, ground := Go.Ground.phase }, { on := 9, ground := Go.Ground.phase }, { on := 10, ground := Go.Ground.phase }, { on := 11, ground := Go.Ground.phase }, { on := 12, ground := Go.Ground.phase }, { on := 13, ground := Go.Ground.phase }, { on := 14, ground := Go.Ground.phase }, { on := 15, ground := Go.Ground.phase }, { on := 16, ground := Go.Ground.phase }, { on := 17, ground := Go.Ground.phase }, { on := 18, ground := Go.Ground.phase }, { on := 19, ground := Go.Ground.phase }, { on := 20, ground := Go.Ground.phase }, { on := 21, ground := Go.Ground.phase }, { on := 22, ground := Go.Ground.phase }, { on := 23, ground := Go.Ground.phase }, { on := 24, ground := Go.Ground.phase }, { on := 25, ground := Go.Ground.phase }, { on := 26, ground := Go.Ground.phase }, { on := 27, ground := Go.Ground.phase }, { on := 28, ground := Go.Ground.phase }, { on := 29, ground := Go.Ground.phase }, { on := 30, ground := Go.Ground.phase }, { on := 31, ground := Go.Ground.phase }, { on := 32, ground := Go.Ground.phase }, { on := 33, ground := Go.Ground.phase }, { on := 34, ground := Go.Ground.phase }, { on := 35, ground := Go.Ground.phase }, { on := 36, ground := Go.Ground.phase }, { on := 37, ground := Go.Ground.phase }, { on := 38, ground := Go.Ground.phase }], guard := none }) (v := ?vf39_35) rfl (by kernel_rfl) (by kernel_rfl) (by kernel_rfl) (fun _ _ _ h => h) (Or.inl ⟨by rfl, ?hf39_35⟩) hHeld ?rf39_35
    case hf39_35 =>
      intro wS hSw
      (try dsimp only at hSw)
      go_simp
      try with_reducible rfl
    case rf39_35 =>
    simp only [Act.put, List.setIfInBounds_toArray, List.set_cons_zero, List.set_cons_succ]
    refine wpAnyH_done (by kernel_rfl) ?_ _
    refine NoPanic.normal ?_
    have HB9 := hide ((unhide HB).trans (hHeld.mono (unhide HB).size))
    clear hHeld
    go_wp2_with fail
    go_ret
    exact ⟨rfl, unhide HB9⟩
  · have hne : ((packAllR ws).code != 0) = true := by rw [bne_iff_ne]; exact hf
    have heq : ((packAllR ws).code == (packAllR ws).code) = true := by simp
    clear hf R2
    generalize hfc : (packAllR ws).code = fc at *
    generalize (packAllR ws).list.length = m1 at *
    have HFC := hide hfc
    clear hfc
    have nb2 : Below w2.heap.size w2 (w2.alloc (.cells #[.int .i64 fc, .slice a1 m1 d1] 26)) := (Below.refl _ _).alloc (Nat.le_refl _) _
    have x6 : Box 0 #[.int .i64 fc, .slice a1 m1 d1] 26 (w2.alloc (.cells #[.int .i64 fc, .slice a1 m1 d1] 26)) w2.heap.size := newBox (Nat.zero_le _)
    have z0 : (w2.alloc (.cells #[.int .i64 fc, .slice a1 m1 d1] 26)).cell? ⟨w2.heap.size, 0, none⟩ = some (.int .i64 fc) := x6.at 0 _ rfl
    have HX6 := hide x6
    replace HRX := hide (((unhide HRX).later hb2).later nb2)
    replace HB := hide (((unhide HB).trans (hb2.mono (unhide HB).size)).trans (nb2.mono (Nat.le_trans (unhide HB).size hb2.size)))
    have LM : Hid (∀ W, Below (w2.alloc (.cells #[.int .i64 fc, .slice a1 m1 d1] 26)).heap.size (w2.alloc (.cells #[.int .i64 fc, .slice a1 m1 d1] 26)) W → Calls Try.prog 12 #[.slice av ws.length dv] W fun e w' => ∃ (b1 : Option Addr) (l1 k1 : Nat), e = .returned (.agg #[.int .i64 fc, .slice b1 l1 k1]) ∧ Below W.heap.size W w') := fun W hW => by
      refine (specPackAll _ ws W ((unhide HRX).later hW)).mono ?_
      rintro e w' ⟨cs, rfl, O, hb⟩
      obtain ⟨b1, k1, rfl, -⟩ := open_IntsResult O.reads
      rw [unhide HFC]
      exact ⟨b1, _, k1, rfl, hb⟩
    have hfl := fun a l k => fieldN0 fc a l k
    clear nb2 x6 hb2 L2 HRX
    go_wp2_with fail
    clear z0
    generalize w2.alloc (.cells #[.int .i64 fc, .slice a1 m1 d1] 26) = wz at *
    refine wp_region_noPanic ?_
    refine wp_region_held_drew (S := fun w' => Below wz.heap.size wz w') (by kernel_rfl) (Below.refl _ _).drew (fun hHeld => ?_)
    generalize wz.drew = wD at hHeld ⊢
    refine wpAnyH_take (i := 0) (oi := { dst := some 19, op := Go.Op.move (Go.Operand.tmp 3), type := 28, pos := "laws.go:361", after := #[], guard := none }) (v := ?vc0_1) rfl (by kernel_rfl) (by kernel_rfl) (by kernel_rfl) (fun _ _ _ h => h) (Or.inl ⟨by rfl, ?hc0_1⟩) hHeld ?rc0_1
    case hc0_1 =>
      intro wS hSw
      (try dsimp only at hSw)
      go_simp
      try with_reducible rfl
    case rc0_1 =>
    simp only [Act.put, List.setIfInBounds_toArray, List.set_cons_zero, List.set_cons_succ]
    refine wpAnyH_take (i := 3) (oi := { dst := some 22, op := Go.Op.fieldAddr 26 (Go.Operand.tmp 4) 0, type := 0, pos := "laws.go:361", after := #[], guard := none }) (v := ?vc3_2) rfl (by kernel_rfl) (by kernel_rfl) (by kernel_rfl) (fun _ _ _ h => h) (Or.inl ⟨by rfl, ?hc3_2⟩) hHeld ?rc3_2
    case hc3_2 =>
      intro wS hSw
      (try dsimp only at hSw)
      go_simp
      try with_reducible rfl
    case rc3_2 =>
    simp only [Act.put, List.setIfInBounds_toArray, List.set_cons_zero, List.set_cons_succ]
    refine wpAnyH_take (i := 4) (oi := { dst := some 23, op := Go.Op.load 2 (Go.Operand.tmp 22), type := 2, pos := "laws.go:361", after := #[{ on := 3, ground := Go.Ground.data }], guard := none }) (v := ?vc4_3) rfl (by kernel_rfl) (by kernel_rfl) (by kernel_rfl) (fun _ _ _ h => h) (Or.inl ⟨by rfl, ?hc4_3⟩) hHeld ?rc4_3
    case hc4_3 =>
      intro wS hSw
      have y6 := ((unhide HX6).keep hSw).at 0 _ rfl
      simp only [List.getElem_toArray, List.getElem_cons_zero] at y6
      clear hSw
      (try dsimp only at hSw)
      go_simp
      try with_reducible rfl
    case rc4_3 =>
    simp only [Act.put, List.setIfInBounds_toArray, List.set_cons_zero, List.set_cons_succ]
    refine wpAnyH_ready (rs := [1]) (by kernel_rfl) (by simp) ?_
    refine AllReadyH.cons (o := { dst := some 20, op := Go.Op.call { callee := Go.Callee.value (Go.Operand.func 12), args := #[Go.Operand.tmp 19], argTypes := #[28] }, type := 26, pos := "laws.go:361", after := #[{ on := 0, ground := Go.Ground.data }], guard := none }) rfl (fun K hK => ?_) AllReadyH.nil
    go_simp
    go_at_call 12
    refine (unhide LM _ hHeld).mono ?_
    rintro e v1 ⟨b1, l1, k1, rfl, hbw⟩
    try go_wp2_with fail
    refine hK.out _ _ (hHeld.trans (hbw.mono hHeld.size)) (fun hHeld => ?_)
    clear hK K
    try simp only [Act.put, List.setIfInBounds_toArray, List.set_cons_zero, List.set_cons_succ]
    refine wpAnyH_take (i := 2) (oi := { dst := some 21, op := Go.Op.field 26 (Go.Operand.tmp 20) 0, type := 2, pos := "laws.go:361", after := #[{ on := 1, ground := Go.Ground.data }], guard := none }) (v := ?vc2_4) rfl (by kernel_rfl) (by kernel_rfl) (by kernel_rfl) (fun _ _ _ h => h) (Or.inl ⟨by rfl, ?hc2_4⟩) hHeld ?rc2_4
    case hc2_4 =>
      intro wS hSw
      have yf := hfl b1 l1 k1
      clear hSw
      (try dsimp only at hSw)
      go_simp
      try with_reducible rfl
    case rc2_4 =>
    simp only [Act.put, List.setIfInBounds_toArray, List.set_cons_zero, List.set_cons_succ]
    refine wpAnyH_take (i := 5) (oi := { dst := some 24, op := Go.Op.binOp Go.BinOp.eql 2 (Go.Operand.tmp 21) (Go.Operand.tmp 23) 2, type := 4, pos := "laws.go:361", after := #[{ on := 2, ground := Go.Ground.data }, { on := 4, ground := Go.Ground.data }], guard := none }) (v := ?vc5_5) rfl (by kernel_rfl) (by kernel_rfl) (by kernel_rfl) (fun _ _ _ h => h) (Or.inl ⟨by rfl, ?hc5_5⟩) hHeld ?rc5_5
    case hc5_5 =>
      intro wS hSw
      (try dsimp only at hSw)
      go_simp
      try with_reducible rfl
    case rc5_5 =>
    simp only [Act.put, List.setIfInBounds_toArray, List.set_cons_zero, List.set_cons_succ]
    refine wpAnyH_take (i := 6) (oi := { dst := some 2, op := Go.Op.assign (Go.Operand.tmp 24), type := 4, pos := "laws.go:361", after := #[{ on := 5, ground := Go.Ground.data }, { on := 1, ground := Go.Ground.chain }, { on := 0, ground := Go.Ground.phase }, { on := 1, ground := Go.Ground.phase }, { on := 2, ground := Go.Ground.phase }, { on := 3, ground := Go.Ground.phase }, { on := 4, ground := Go.Ground.phase }, { on := 5, ground := Go.Ground.phase }], guard := none }) (v := ?vc6_6) rfl (by kernel_rfl) (by kernel_rfl) (by kernel_rfl) (fun _ _ _ h => h) (Or.inl ⟨by rfl, ?hc6_6⟩) hHeld ?rc6_6
    case hc6_6 =>
      intro wS hSw
      (try dsimp only at hSw)
      go_simp
      try with_reducible rfl
    case rc6_6 =>
    simp only [Act.put, List.setIfInBounds_toArray, List.set_cons_zero, List.set_cons_succ]
    refine wpAnyH_done (by kernel_rfl) ?_ _
    refine NoPanic.normal ?_
    have HB9 := hide ((unhide HB).trans (hHeld.mono (unhide HB).size))
    clear hHeld
    go_wp2_with fail
    go_ret
    exact ⟨rfl, unhide HB9⟩

theorem lawFnLogs (ao : Option Addr) (len cap : Nat) (zs : List Int) (w : World) (h : (ao = none ∧ len = 0 ∧ cap = 0 ∧ zs = []) ∨
    ∃ x, ao = some x ∧ len ≤ cap ∧ cap ≤ maxLen ∧ zs.length = cap ∧ (∀ i, i < zs.length → w.cell? (x.add i) = some (.int .u8 (zs.getD i 0))) ∧ ∀ n ∈ zs, (Lit.int .u8 n).wf = true) :
    Calls Try.prog 9 #[.slice ao len cap] w fun e w' => e = .returned (.bool true) ∧ Below w.heap.size w w' := by
  by_cases hn : len ≤ 1048576
  · exact lawLogs_few ao len cap w hn (isCode_of_row h hn)
  · exact lawLogs_many ao len cap w (by omega)

end Go.Proofs.Ytipomhpimmnchaa
