/-
  The law FnTorn answers true at every slice of bytes, and writes nothing that was there.
  No condition.
-/
import Derived.Test.YtipomhpimmnchaaTq03
import Derived.Test.YtipomhpimmnchaaTq05
import Derived.Test.YtipomhpimmnchaaTq06
import Derived.Deep.RegionHeld3

namespace Go.Proofs.Ytipomhpimmnchaa
open Go.RowKit

theorem fieldL0 (c n : Int) (a : Option Addr) (n1 c1 : Nat) (a2 : Option Addr) (n2 c2 : Nat) (w : World) : (Instr.field 56 (.agg #[.int .i64 c, .int .i64 n, .slice a n1 c1, .slice a2 n2 c2]) 0).run Try.prog w = .ok (.int .i64 c) w := by kernel_rfl
theorem sl_prefix8 {α : Type} {A : Lay α} {w : World} {xs : List α} {ao : Option Addr} {cap k : Nat} (h : (Lay.sl A).Reads w [.slice ao xs.length cap] xs) (hk : k ≤ xs.length) : (Lay.sl A).Reads w [.slice ao k cap] (xs.take k) := by
  obtain ⟨bl, ao', cp, e, ⟨h1, h2⟩, h⟩ := h
  simp only [List.cons.injEq, Value.slice.injEq, and_true] at e
  obtain ⟨rfl, -, rfl⟩ := e
  have hl : (xs.take k).length = k := by simp; omega
  rcases h with ⟨rfl, -⟩ | ⟨b, off, rows, bls, rfl, hb, -, hr, hbl, hj⟩
  · obtain rfl : k = 0 := by simpa using hk
    exact ⟨[], ao, cap, by simp, by simp, Or.inl ⟨by simp, rfl⟩⟩
  · refine ⟨_, _, cap, by rw [hl], ⟨by omega, by omega⟩, Or.inr ⟨b, off, rows.take k, bls.take k, rfl, hb, rfl, by simp [hr], by simp [hbl], fun j h1 h2 h3 => ?_⟩⟩
    have := hj j (by rw [hl] at h1; omega) (by simp at h2; omega) (by simp at h3; omega)
    simpa using this
theorem wsR_own {w : World} {y : DWritesResult} {lo hi : Nat} {c : Value} {v : Value} (h : Lay.tWritesResult.OwnIn w [c, v] y lo hi) : (Lay.sl Lay.tWrite).OwnIn w [v] y.writes lo hi := by
  obtain ⟨bl, ⟨⟨c1, c2, b1, b2, e, rfl, ⟨rfl, hc, rfl⟩, l⟩, hd, hf⟩, hr⟩ := h
  obtain rfl : c2 = [v] := by simpa using (List.cons.inj e).2.symm
  exact ⟨b2, ⟨l, hd, hf⟩, hr⟩
theorem crash_ok {x : DLog} {kept : Int} (h : (crashLogR x kept).code = 0) : logFault x = 0 ∧ (0 ≤ kept ∧ kept ≤ x.loose.length) := by
  unfold crashLogR at h
  split at h
  · rename_i h1
    split at h
    · rename_i h2
      exact ⟨h1, h2⟩
    · simp [badLog] at h
  · rename_i h1
    exact absurd h h1
theorem reads_drop (w : World) : Lay.tWrite.Reads w [.int .i64 2, .int .i64 1, .slice none 0 0, .int .i64 1, .int .i64 1] dropOne := ⟨[], lies_Write.2 ⟨none, 0, [], rfl, rfl, by decide, by decide, ⟨none, 0, rfl, by simp [dropOne], Or.inl ⟨rfl, rfl⟩⟩, by decide, by decide⟩⟩

theorem lawTorn_many (ao : Option Addr) (len cap : Nat) (w : World) (hn : 1048576 < len) :
    Calls Try.prog 10 #[.slice ao len cap] w fun e w' => e = .returned (.bool true) ∧ Below w.heap.size w w' := by
  go_enter Try.func10, Try.ntmps10
  go_wp2_with fail
  refine (big_yes ao len cap w hn).mono ?_
  rintro e w' ⟨rfl, rfl⟩
  go_wp2_with fail
  go_ret
  exact ⟨rfl, Below.refl _ _⟩

set_option maxRecDepth 100000 in
set_option maxHeartbeats 8000000 in
theorem lawTorn_few (ao : Option Addr) (len cap : Nat) (w : World) (hn : len ≤ 1048576) (hcode : IsCode w.heap.size w (.slice ao len cap)) :
    Calls Try.prog 10 #[.slice ao len cap] w fun e w' => e = .returned (.bool true) ∧ Below w.heap.size w w' := by
  have HC := hide hcode
  clear hcode
  go_enter Try.func10, Try.ntmps10
  go_wp2_with fail
  refine (big_no ao len cap w hn).mono ?_
  rintro e w ⟨rfl, rfl⟩
  go_wp2_with fail
  refine (drawCrash ao len cap w (unhide HC)).mono ?_
  rintro e w1 ⟨cs, x, kept, rfl, hX, n1, n2, hkw, hb1⟩
  obtain ⟨a8, c8, a9, c9, rfl, hS, hL⟩ := open_Log hX
  have nb1 : Below w1.heap.size w1 (w1.alloc (.cells #[.slice a8 x.sure.length c8, .slice a9 x.loose.length c9] 48)) := (Below.refl _ _).alloc (Nat.le_refl _) _
  have x3 : Box 0 #[.slice a8 x.sure.length c8, .slice a9 x.loose.length c9] 48 (w1.alloc (.cells #[.slice a8 x.sure.length c8, .slice a9 x.loose.length c9] 48)) w1.heap.size := newBox (Nat.zero_le _)
  have z0 : (w1.alloc (.cells #[.slice a8 x.sure.length c8, .slice a9 x.loose.length c9] 48)).cell? ⟨w1.heap.size, 0, none⟩ = some (.slice a8 x.sure.length c8) := x3.at 0 _ rfl
  have z1 : (w1.alloc (.cells #[.slice a8 x.sure.length c8, .slice a9 x.loose.length c9] 48)).cell? ⟨w1.heap.size, 1, none⟩ = some (.slice a9 x.loose.length c9) := x3.at 1 _ rfl
  have HX3 := hide x3
  have HRX := hide (hX.later nb1)
  have HRS := hide (hS.later nb1)
  have HRL := hide (hL.later nb1)
  have HB := hide (hb1.trans (nb1.mono hb1.size))
  have L2 := hide (implCrashLog _ x kept _ (unhide HRX) (by omega) (by omega))
  clear hX hS hL hb1 nb1 x3 HC hkw
  go_wp2_with fail
  generalize w1.alloc (.cells #[.slice a8 x.sure.length c8, .slice a9 x.loose.length c9] 48) = W1 at *
  clear z0 z1
  refine (unhide L2).mono ?_
  rintro e w2 ⟨cs, rfl, O, hb2⟩
  obtain ⟨a1, d1, a2, d2, rfl, R2⟩ := open_LogResult O.reads
  clear O
  by_cases hf : (crashLogR x kept).code = 0
  · have hfk : logFault x = 0 ∧ (0 ≤ kept ∧ kept ≤ x.loose.length) := crash_ok hf
    obtain ⟨SS, n, A, NW, AW, SW, c, ca, lo, e2, hSS, hLF, e3, hSW, e4, rfl, hNA, hA40, e5, rfl, hsame, e6, e7, hcc⟩ := torn_plain hfk.1 hfk.2
    rw [e2] at R2 ⊢
    simp only [List.length_nil] at R2 ⊢
    clear e2 hf hfk
    obtain ⟨lo2, hlo2⟩ : ∃ lo2, lo2 = (⟨x.sure ++ x.loose, []⟩ : DLog) := ⟨_, rfl⟩
    rw [← hlo2] at e6
    clear hlo2
    have HSM := hide hsame
    have HLF := hide hLF
    have HCC := hide hcc
    clear hsame hLF hcc
    have nb2 : Below w2.heap.size w2 (w2.alloc (.cells #[.int .i64 0, .int .i64 (NW.length : Int), .slice a1 SS.length d1, .slice a2 0 d2] 56)) := (Below.refl _ _).alloc (Nat.le_refl _) _
    have x2 : Box 0 #[.int .i64 0, .int .i64 (NW.length : Int), .slice a1 SS.length d1, .slice a2 0 d2] 56 (w2.alloc (.cells #[.int .i64 0, .int .i64 (NW.length : Int), .slice a1 SS.length d1, .slice a2 0 d2] 56)) w2.heap.size := newBox (Nat.zero_le _)
    replace HX3 := hide (((unhide HX3).keep hb2).keep nb2)
    replace HRX := hide (((unhide HRX).later hb2).later nb2)
    replace HRS := hide (((unhide HRS).later hb2).later nb2)
    replace HRL := hide (((unhide HRL).later hb2).later nb2)
    have HB2 := hide x2
    have HR2 := hide (R2.later nb2)
    replace HB := hide (((unhide HB).trans (hb2.mono (unhide HB).size)).trans (nb2.mono (Nat.le_trans (unhide HB).size hb2.size)))
    clear R2 nb2 x2 hb2 L2
    have z9 : (w2.alloc (.cells #[.int .i64 0, .int .i64 (NW.length : Int), .slice a1 SS.length d1, .slice a2 0 d2] 56)).cell? ⟨w2.heap.size, 0, none⟩ = some (.int .i64 0) := (unhide HB2).at 0 _ rfl
    have z0 : (w2.alloc (.cells #[.int .i64 0, .int .i64 (NW.length : Int), .slice a1 SS.length d1, .slice a2 0 d2] 56)).cell? ⟨w1.heap.size, 0, none⟩ = some (.slice a8 x.sure.length c8) := (unhide HX3).at 0 _ rfl
    have L3 := hide (implReadLog _ x.sure _ (unhide HRS))
    rw [e3] at L3
    go_wp2_with fail
    generalize w2.alloc (.cells #[.int .i64 0, .int .i64 (NW.length : Int), .slice a1 SS.length d1, .slice a2 0 d2] 56) = W2 at *
    clear z0
    refine (unhide L3).mono ?_
    rintro e w3 ⟨cs, rfl, O, hb3⟩
    obtain ⟨a3, d3, rfl, R3⟩ := open_WritesResult O.reads
    simp only at R3 ⊢
    clear O
    clear z9
    have nb3 : Below w3.heap.size w3 (w3.alloc (.cells #[.int .i64 0, .slice a3 SW.length d3] 36)) := (Below.refl _ _).alloc (Nat.le_refl _) _
    have x3 : Box 0 #[.int .i64 0, .slice a3 SW.length d3] 36 (w3.alloc (.cells #[.int .i64 0, .slice a3 SW.length d3] 36)) w3.heap.size := newBox (Nat.zero_le _)
    replace HX3 := hide (((unhide HX3).keep hb3).keep nb3)
    replace HB2 := hide (((unhide HB2).keep hb3).keep nb3)
    replace HRX := hide (((unhide HRX).later hb3).later nb3)
    replace HRS := hide (((unhide HRS).later hb3).later nb3)
    replace HRL := hide (((unhide HRL).later hb3).later nb3)
    replace HR2 := hide (((unhide HR2).later hb3).later nb3)
    have HB3 := hide x3
    have HR3 := hide (R3.later nb3)
    replace HB := hide (((unhide HB).trans (hb3.mono (unhide HB).size)).trans (nb3.mono (Nat.le_trans (unhide HB).size hb3.size)))
    clear R3 nb3 x3 hb3 L3
    go_upto_region 8 with fail
    generalize w3.alloc (.cells #[.int .i64 0, .slice a3 SW.length d3] 36) = Wk at *
    go_cut [7] from 35 to 42 (fun s7 wx => ∃ (B4 : Nat) (a4 : Option Addr) (d4 : Nat), s7 = .pointer (some ⟨B4, 0, none⟩) ∧ Box 0 #[.int .i64 0, .slice a4 AW.length d4] 36 wx B4 ∧ (Lay.sl Lay.tWrite).Reads wx [.slice a4 AW.length d4] AW ∧ Below Wk.heap.size Wk wx)
    case first =>
      have HWA : Hid (∀ z ∈ x.sure ++ x.loose, (Lit.int .i64 z).wf = true) := by
        intro z hz
        rcases List.mem_append.1 hz with hz | hz
        · exact (Lay.ints_reads (unhide HRS)).wf z hz
        · exact (Lay.ints_reads (unhide HRL)).wf z hz
      have HE4 := hide e4
      have hDZ : Wk.heap.size ≤ Wk.drew.heap.size := Nat.le_refl _
      refine wp_region_noPanic ?_
      refine wp_region_held_drew (S := fun w' => Below Wk.heap.size Wk w') (by kernel_rfl) (Below.refl _ _).drew (fun hHeld => ?_)
      generalize Wk.drew = wD at hHeld hDZ ⊢
      have HDZ := hide hDZ
      clear hDZ
      refine wpAnyH_take (i := 1) (oi := { dst := some 36, op := Go.Op.fieldAddr 48 (Go.Operand.tmp 3) 0, type := 0, pos := "laws.go:382", after := #[], guard := none }) (v := ?vh1_1) rfl (by kernel_rfl) (by kernel_rfl) (by kernel_rfl) (fun _ _ _ h => h) (Or.inl ⟨by rfl, ?hh1_1⟩) hHeld ?rh1_1
      case hh1_1 =>
        intro wS hSw
        (try dsimp only at hSw)
        go_simp
        try with_reducible rfl
      case rh1_1 =>
      simp only [Act.put, List.setIfInBounds_toArray, List.set_cons_zero, List.set_cons_succ]
      refine wpAnyH_take (i := 2) (oi := { dst := some 37, op := Go.Op.load 24 (Go.Operand.tmp 36), type := 24, pos := "laws.go:382", after := #[{ on := 1, ground := Go.Ground.data }], guard := none }) (v := ?vh2_2) rfl (by kernel_rfl) (by kernel_rfl) (by kernel_rfl) (fun _ _ _ h => h) (Or.inl ⟨by rfl, ?hh2_2⟩) hHeld ?rh2_2
      case hh2_2 =>
        intro wS hSw
        have y0 := ((unhide HX3).keep hSw).at 0 _ rfl
        simp only [List.getElem_toArray, List.getElem_cons_zero] at y0
        clear hSw
        (try dsimp only at hSw)
        go_simp
        try with_reducible rfl
      case rh2_2 =>
      simp only [Act.put, List.setIfInBounds_toArray, List.set_cons_zero, List.set_cons_succ]
      refine wpAnyH_take (i := 4) (oi := { dst := some 39, op := Go.Op.fieldAddr 48 (Go.Operand.tmp 3) 1, type := 0, pos := "laws.go:382", after := #[], guard := none }) (v := ?vh4_3) rfl (by kernel_rfl) (by kernel_rfl) (by kernel_rfl) (fun _ _ _ h => h) (Or.inl ⟨by rfl, ?hh4_3⟩) hHeld ?rh4_3
      case hh4_3 =>
        intro wS hSw
        (try dsimp only at hSw)
        go_simp
        try with_reducible rfl
      case rh4_3 =>
      simp only [Act.put, List.setIfInBounds_toArray, List.set_cons_zero, List.set_cons_succ]
      refine wpAnyH_take (i := 5) (oi := { dst := some 40, op := Go.Op.load 24 (Go.Operand.tmp 39), type := 24, pos := "laws.go:382", after := #[{ on := 4, ground := Go.Ground.data }], guard := none }) (v := ?vh5_4) rfl (by kernel_rfl) (by kernel_rfl) (by kernel_rfl) (fun _ _ _ h => h) (Or.inl ⟨by rfl, ?hh5_4⟩) hHeld ?rh5_4
      case hh5_4 =>
        intro wS hSw
        have y1 := ((unhide HX3).keep hSw).at 1 _ rfl
        simp only [List.getElem_toArray, List.getElem_cons_zero, List.getElem_cons_succ] at y1
        clear hSw
        (try dsimp only at hSw)
        go_simp
        try with_reducible rfl
      case rh5_4 =>
      simp only [Act.put, List.setIfInBounds_toArray, List.set_cons_zero, List.set_cons_succ]
      refine wpAnyH_ready (rs := [0, 8]) (by kernel_rfl) (by simp) ?_
      refine AllReadyH.cons (o := { dst := some 35, op := Go.Op.buildSlice 24 0 #[], type := 24, pos := "laws.go:382", after := #[], guard := none }) rfl (fun K hK => ?oh0_5) (AllReadyH.cons (o := { dst := some 7, op := Go.Op.alloc 36, type := 0, pos := "laws.go:382", after := #[], guard := none }) rfl (fun K hK => ?oh8_5) (AllReadyH.nil))
      case oh0_5 =>
        have O0 : ((wD).alloc (.cells #[] 2)).ownsRow wD.heap.size 2 1 (.slice (some ⟨wD.heap.size, 0, none⟩) 0 0) 0 [] := by
          have := World.ownsRow_lit (wD) #[] 0 (base := wD.heap.size) (e := 2) (size := 1) (by simp) (Nat.zero_le _) rfl
          simpa using this
        have hS0 := hHeld.trans (Below.mono ((Below.refl _ _).alloc (Nat.le_refl _) (.cells #[] 2)) hHeld.size)
        go_simp
        try go_wp2_with fail
        refine hK.out _ _ hS0 (fun hHeld => ?_)
        clear hK K
        try simp only [Act.put, List.setIfInBounds_toArray, List.set_cons_zero, List.set_cons_succ]
        refine wpAnyH_ready (rs := [3, 8]) (by kernel_rfl) (by simp) ?_
        refine AllReadyH.cons (o := { dst := some 38, op := Go.Op.call { callee := Go.Callee.builtin Go.Builtin.append, args := #[Go.Operand.tmp 35, Go.Operand.tmp 37], argTypes := #[24, 24] }, type := 24, pos := "laws.go:382", after := #[{ on := 0, ground := Go.Ground.data }, { on := 2, ground := Go.Ground.data }], guard := none }) rfl (fun K hK => ?oh3_6) (AllReadyH.cons (o := { dst := some 7, op := Go.Op.alloc 36, type := 0, pos := "laws.go:382", after := #[], guard := none }) rfl (fun K hK => ?oh8_6) (AllReadyH.nil))
        case oh3_6 =>
          refine step_append_ints O0 (Lay.ints_reads ((unhide HRS).later hHeld)) rfl _ _ rfl rfl rfl (by simp; omega) (by first | (simp; done) | (simp; omega)) ?_
          rintro v3 u3 O3 hg3 hb3
          have hS3 := hHeld.trans (hb3.mono (unhide HDZ))
          simp only [Nat.zero_add, List.nil_append] at O3
          have hz3 : wD.heap.size ≤ u3.heap.size := Nat.le_trans (by first | (simp; done) | (simp; omega)) hb3.size
          refine hK.out _ _ hS3 (fun hHeld => ?_)
          clear hK K
          try simp only [Act.put, List.setIfInBounds_toArray, List.set_cons_zero, List.set_cons_succ]
          refine wpAnyH_ready (rs := [6, 8]) (by kernel_rfl) (by simp) ?_
          refine AllReadyH.cons (o := { dst := some 41, op := Go.Op.call { callee := Go.Callee.builtin Go.Builtin.append, args := #[Go.Operand.tmp 38, Go.Operand.tmp 40], argTypes := #[24, 24] }, type := 24, pos := "laws.go:382", after := #[{ on := 3, ground := Go.Ground.data }, { on := 5, ground := Go.Ground.data }, { on := 3, ground := Go.Ground.chain }], guard := none }) rfl (fun K hK => ?oh6_7) (AllReadyH.cons (o := { dst := some 7, op := Go.Op.alloc 36, type := 0, pos := "laws.go:382", after := #[], guard := none }) rfl (fun K hK => ?oh8_7) (AllReadyH.nil))
          case oh6_7 =>
            refine step_append_ints O3 (Lay.ints_reads ((unhide HRL).later hHeld)) rfl _ _ rfl rfl rfl (by omega) (by first | omega | (simp; omega)) ?_
            rintro v6 u6 O6 hg6 hb6
            have hS6 := hHeld.trans (hb6.mono (unhide HDZ))
            have hz6 : wD.heap.size ≤ u6.heap.size := Nat.le_trans (by first | omega | (simp; omega)) hb6.size
            have R6 := (Lay.ownInts (zs := x.sure ++ x.loose) (unhide HWA) (by rw [List.length_append]; omega) (by rw [List.length_append, List.map_append]; exact O6)).reads
            clear O6 O3 O0
            refine hK.out _ _ hS6 (fun hHeld => ?_)
            clear hK K
            try simp only [Act.put, List.setIfInBounds_toArray, List.set_cons_zero, List.set_cons_succ]
            refine wpAnyH_ready (rs := [7, 8]) (by kernel_rfl) (by simp) ?_
            refine AllReadyH.cons (o := { dst := some 42, op := Go.Op.call { callee := Go.Callee.value (Go.Operand.func 22), args := #[Go.Operand.tmp 41], argTypes := #[24] }, type := 36, pos := "laws.go:382", after := #[{ on := 6, ground := Go.Ground.data }, { on := 6, ground := Go.Ground.chain }], guard := none }) rfl (fun K hK => ?oh7_8) (AllReadyH.cons (o := { dst := some 7, op := Go.Op.alloc 36, type := 0, pos := "laws.go:382", after := #[], guard := none }) rfl (fun K hK => ?oh8_8) (AllReadyH.nil))
            case oh7_8 =>
              go_simp
              go_at_call 22
              have LL := implReadLog _ (x.sure ++ x.loose) _ R6
              rw [unhide HE4] at LL
              refine LL.mono ?_
              clear LL
              rintro e u7 ⟨cs7, rfl, O7, hbw⟩
              obtain ⟨a4, d4, rfl, -⟩ := open_WritesResult O7.reads
              have R7 := wsR_own O7
              simp only at R7 ⊢
              clear O7 R6
              have hS7 := hHeld.trans (hbw.mono hHeld.size)
              have hz7 : wD.heap.size ≤ u7.heap.size := Nat.le_trans (by first | omega | (simp; omega)) hbw.size
              try go_wp2_with fail
              refine hK.out _ _ hS7 (fun hHeld => ?_)
              clear hK K
              try simp only [Act.put, List.setIfInBounds_toArray, List.set_cons_zero, List.set_cons_succ]
              refine wpAnyH_ready (rs := [8]) (by kernel_rfl) (by simp) ?_
              refine AllReadyH.cons (o := { dst := some 7, op := Go.Op.alloc 36, type := 0, pos := "laws.go:382", after := #[], guard := none }) rfl (fun K hK => ?_) AllReadyH.nil
              have X8 : Box 0 #[.int .i64 0, .slice none 0 0] 36 ((u7).alloc (.cells #[.int .i64 0, .slice none 0 0] 36)) (u7.heap.size) := newBoxAt (Nat.zero_le _) (by simp)
              have hS8 := hHeld.trans (Below.mono ((Below.refl _ _).alloc (Nat.le_refl _) (.cells #[.int .i64 0, .slice none 0 0] 36)) hHeld.size)
              go_simp
              try go_wp2_with fail
              refine hK.out _ _ hS8 (fun hHeld => ?_)
              clear hK K
              try simp only [Act.put, List.setIfInBounds_toArray, List.set_cons_zero, List.set_cons_succ]
              refine wpAnyH_ready (rs := [9]) (by kernel_rfl) (by simp) ?_
              refine AllReadyH.cons (o := { dst := none, op := Go.Op.store 36 (Go.Operand.tmp 7) (Go.Operand.tmp 42), type := 0, pos := "laws.go:382", after := #[{ on := 8, ground := Go.Ground.data }, { on := 7, ground := Go.Ground.data }, { on := 7, ground := Go.Ground.chain }, { on := 0, ground := Go.Ground.phase }, { on := 1, ground := Go.Ground.phase }, { on := 2, ground := Go.Ground.phase }, { on := 3, ground := Go.Ground.phase }, { on := 4, ground := Go.Ground.phase }, { on := 5, ground := Go.Ground.phase }, { on := 6, ground := Go.Ground.phase }, { on := 7, ground := Go.Ground.phase }, { on := 8, ground := Go.Ground.phase }], guard := none }) rfl (fun K hK => ?_) AllReadyH.nil
              have nb9 : Below u7.heap.size u7 (u7.alloc (.cells #[.int .i64 0, .slice a4 AW.length d4] 36)) := (Below.refl _ _).alloc (Nat.le_refl _) _
              have HX9 : Hid (Box 0 #[.int .i64 0, .slice a4 AW.length d4] 36 (u7.alloc (.cells #[.int .i64 0, .slice a4 AW.length d4] 36)) u7.heap.size) := newBox (Nat.zero_le _)
              have HR9 := hide (R7.later nb9).reads
              have hS9 := hS7.trans (nb9.mono hS7.size)
              go_simp
              try go_wp2_with fail
              refine hK.out _ _ hS9 (fun hHeld => ?_)
              clear hK K
              try simp only [Act.put, List.setIfInBounds_toArray, List.set_cons_zero, List.set_cons_succ]
              refine wpAnyH_done (by kernel_rfl) ?_ _
              refine NoPanic.normal ?_
              have HS9 := hide hHeld
              clear hHeld
              go_wp2_with fail
              go_meet
              exact ⟨_, a4, d4, rfl, unhide HX9, unhide HR9, unhide HS9⟩
            case oh8_8 =>
              have X8 : Box 0 #[.int .i64 0, .slice none 0 0] 36 ((u6).alloc (.cells #[.int .i64 0, .slice none 0 0] 36)) (u6.heap.size) := newBoxAt (Nat.zero_le _) (by simp)
              replace R6 := R6.later ((Below.refl _ _).alloc (Nat.le_refl _) (.cells #[.int .i64 0, .slice none 0 0] 36))
              have hS8 := hHeld.trans (Below.mono ((Below.refl _ _).alloc (Nat.le_refl _) (.cells #[.int .i64 0, .slice none 0 0] 36)) hHeld.size)
              go_simp
              try go_wp2_with fail
              refine hK.out _ _ hS8 (fun hHeld => ?_)
              clear hK K
              try simp only [Act.put, List.setIfInBounds_toArray, List.set_cons_zero, List.set_cons_succ]
              refine wpAnyH_ready (rs := [7]) (by kernel_rfl) (by simp) ?_
              refine AllReadyH.cons (o := { dst := some 42, op := Go.Op.call { callee := Go.Callee.value (Go.Operand.func 22), args := #[Go.Operand.tmp 41], argTypes := #[24] }, type := 36, pos := "laws.go:382", after := #[{ on := 6, ground := Go.Ground.data }, { on := 6, ground := Go.Ground.chain }], guard := none }) rfl (fun K hK => ?_) AllReadyH.nil
              go_simp
              go_at_call 22
              have LL := implReadLog _ (x.sure ++ x.loose) _ R6
              rw [unhide HE4] at LL
              refine LL.mono ?_
              clear LL
              rintro e u7 ⟨cs7, rfl, O7, hbw⟩
              obtain ⟨a4, d4, rfl, -⟩ := open_WritesResult O7.reads
              have R7 := wsR_own O7
              simp only at R7 ⊢
              clear O7 R6
              have h8lt := X8.lt
              replace X8 := X8.keep hbw
              have hS7 := hHeld.trans (hbw.mono hHeld.size)
              have hz7 : wD.heap.size ≤ u7.heap.size := Nat.le_trans (by first | omega | (simp; omega)) hbw.size
              try go_wp2_with fail
              refine hK.out _ _ hS7 (fun hHeld => ?_)
              clear hK K
              try simp only [Act.put, List.setIfInBounds_toArray, List.set_cons_zero, List.set_cons_succ]
              refine wpAnyH_ready (rs := [9]) (by kernel_rfl) (by simp) ?_
              refine AllReadyH.cons (o := { dst := none, op := Go.Op.store 36 (Go.Operand.tmp 7) (Go.Operand.tmp 42), type := 0, pos := "laws.go:382", after := #[{ on := 8, ground := Go.Ground.data }, { on := 7, ground := Go.Ground.data }, { on := 7, ground := Go.Ground.chain }, { on := 0, ground := Go.Ground.phase }, { on := 1, ground := Go.Ground.phase }, { on := 2, ground := Go.Ground.phase }, { on := 3, ground := Go.Ground.phase }, { on := 4, ground := Go.Ground.phase }, { on := 5, ground := Go.Ground.phase }, { on := 6, ground := Go.Ground.phase }, { on := 7, ground := Go.Ground.phase }, { on := 8, ground := Go.Ground.phase }], guard := none }) rfl (fun K hK => ?_) AllReadyH.nil
              have z0 := X8.at 0 _ rfl
              have z1 := X8.at 1 _ rfl
              have ff := X8.soft
              have l0 := X8.lt
              simp only [List.getElem_toArray, List.getElem_cons_zero, List.getElem_cons_succ] at z0 z1
              have HX9 := hide ((X8.set 0 (.int .i64 0)).set 1 (.slice a4 AW.length d4))
              have hbx : Wk.heap.size ≤ u6.heap.size := by have := unhide HDZ; omega
              have hE9 := ext_setAll (fun q => q = u6.heap.size) (Ext.refl _ (u7)) (u6.heap.size) 0 [.int .i64 0, .slice a4 AW.length d4] rfl
              have HR9 := hide (R7.ext hE9 (fun q h1 h2 e => by omega)).reads
              clear hE9
              go_simp
              try go_wp2_with fail
              refine hK.out _ _ (below_setAll hHeld (u6.heap.size) 0 [.int .i64 0, .slice a4 AW.length d4] hbx) (fun hHeld => ?_)
              clear hK K
              try simp only [Act.put, List.setIfInBounds_toArray, List.set_cons_zero, List.set_cons_succ]
              refine wpAnyH_done (by kernel_rfl) ?_ _
              refine NoPanic.normal ?_
              have HS9 := hide hHeld
              clear hHeld
              go_wp2_with fail
              go_meet
              exact ⟨_, a4, d4, rfl, unhide HX9, unhide HR9, unhide HS9⟩
          case oh8_7 =>
            have X8 : Box 0 #[.int .i64 0, .slice none 0 0] 36 ((u3).alloc (.cells #[.int .i64 0, .slice none 0 0] 36)) (u3.heap.size) := newBoxAt (Nat.zero_le _) (by simp)
            replace O3 := O3.alloc (.cells #[.int .i64 0, .slice none 0 0] 36)
            have hS8 := hHeld.trans (Below.mono ((Below.refl _ _).alloc (Nat.le_refl _) (.cells #[.int .i64 0, .slice none 0 0] 36)) hHeld.size)
            go_simp
            try go_wp2_with fail
            refine hK.out _ _ hS8 (fun hHeld => ?_)
            clear hK K
            try simp only [Act.put, List.setIfInBounds_toArray, List.set_cons_zero, List.set_cons_succ]
            refine wpAnyH_ready (rs := [6]) (by kernel_rfl) (by simp) ?_
            refine AllReadyH.cons (o := { dst := some 41, op := Go.Op.call { callee := Go.Callee.builtin Go.Builtin.append, args := #[Go.Operand.tmp 38, Go.Operand.tmp 40], argTypes := #[24, 24] }, type := 24, pos := "laws.go:382", after := #[{ on := 3, ground := Go.Ground.data }, { on := 5, ground := Go.Ground.data }, { on := 3, ground := Go.Ground.chain }], guard := none }) rfl (fun K hK => ?_) AllReadyH.nil
            refine step_append_ints O3 (Lay.ints_reads ((unhide HRL).later hHeld)) rfl _ _ rfl rfl rfl (by omega) (by first | omega | (simp; omega)) ?_
            rintro v6 u6 O6 hg6 hb6
            have hS6 := hHeld.trans (hb6.mono (unhide HDZ))
            replace X8 : Box 0 #[.int .i64 0, .slice none 0 0] 36 u6 (u3.heap.size) := ⟨X8.1, (hg6.block _ X8.lt (fun e => box_ne O3 X8 (by decide) _ e.symm rfl)).trans X8.2⟩
            have hz6 : wD.heap.size ≤ u6.heap.size := Nat.le_trans (by first | omega | (simp; omega)) hb6.size
            have R6 := (Lay.ownInts (zs := x.sure ++ x.loose) (unhide HWA) (by rw [List.length_append]; omega) (by rw [List.length_append, List.map_append]; exact O6)).reads
            clear O6 O3 O0
            refine hK.out _ _ hS6 (fun hHeld => ?_)
            clear hK K
            try simp only [Act.put, List.setIfInBounds_toArray, List.set_cons_zero, List.set_cons_succ]
            refine wpAnyH_ready (rs := [7]) (by kernel_rfl) (by simp) ?_
            refine AllReadyH.cons (o := { dst := some 42, op := Go.Op.call { callee := Go.Callee.value (Go.Operand.func 22), args := #[Go.Operand.tmp 41], argTypes := #[24] }, type := 36, pos := "laws.go:382", after := #[{ on := 6, ground := Go.Ground.data }, { on := 6, ground := Go.Ground.chain }], guard := none }) rfl (fun K hK => ?_) AllReadyH.nil
            go_simp
            go_at_call 22
            have LL := implReadLog _ (x.sure ++ x.loose) _ R6
            rw [unhide HE4] at LL
            refine LL.mono ?_
            clear LL
            rintro e u7 ⟨cs7, rfl, O7, hbw⟩
            obtain ⟨a4, d4, rfl, -⟩ := open_WritesResult O7.reads
            have R7 := wsR_own O7
            simp only at R7 ⊢
            clear O7 R6
            have h8lt := X8.lt
            replace X8 := X8.keep hbw
            have hS7 := hHeld.trans (hbw.mono hHeld.size)
            have hz7 : wD.heap.size ≤ u7.heap.size := Nat.le_trans (by first | omega | (simp; omega)) hbw.size
            try go_wp2_with fail
            refine hK.out _ _ hS7 (fun hHeld => ?_)
            clear hK K
            try simp only [Act.put, List.setIfInBounds_toArray, List.set_cons_zero, List.set_cons_succ]
            refine wpAnyH_ready (rs := [9]) (by kernel_rfl) (by simp) ?_
            refine AllReadyH.cons (o := { dst := none, op := Go.Op.store 36 (Go.Operand.tmp 7) (Go.Operand.tmp 42), type := 0, pos := "laws.go:382", after := #[{ on := 8, ground := Go.Ground.data }, { on := 7, ground := Go.Ground.data }, { on := 7, ground := Go.Ground.chain }, { on := 0, ground := Go.Ground.phase }, { on := 1, ground := Go.Ground.phase }, { on := 2, ground := Go.Ground.phase }, { on := 3, ground := Go.Ground.phase }, { on := 4, ground := Go.Ground.phase }, { on := 5, ground := Go.Ground.phase }, { on := 6, ground := Go.Ground.phase }, { on := 7, ground := Go.Ground.phase }, { on := 8, ground := Go.Ground.phase }], guard := none }) rfl (fun K hK => ?_) AllReadyH.nil
            have z0 := X8.at 0 _ rfl
            have z1 := X8.at 1 _ rfl
            have ff := X8.soft
            have l0 := X8.lt
            simp only [List.getElem_toArray, List.getElem_cons_zero, List.getElem_cons_succ] at z0 z1
            have HX9 := hide ((X8.set 0 (.int .i64 0)).set 1 (.slice a4 AW.length d4))
            have hbx : Wk.heap.size ≤ u3.heap.size := by have := unhide HDZ; omega
            have hE9 := ext_setAll (fun q => q = u3.heap.size) (Ext.refl _ (u7)) (u3.heap.size) 0 [.int .i64 0, .slice a4 AW.length d4] rfl
            have HR9 := hide (R7.ext hE9 (fun q h1 h2 e => by omega)).reads
            clear hE9
            go_simp
            try go_wp2_with fail
            refine hK.out _ _ (below_setAll hHeld (u3.heap.size) 0 [.int .i64 0, .slice a4 AW.length d4] hbx) (fun hHeld => ?_)
            clear hK K
            try simp only [Act.put, List.setIfInBounds_toArray, List.set_cons_zero, List.set_cons_succ]
            refine wpAnyH_done (by kernel_rfl) ?_ _
            refine NoPanic.normal ?_
            have HS9 := hide hHeld
            clear hHeld
            go_wp2_with fail
            go_meet
            exact ⟨_, a4, d4, rfl, unhide HX9, unhide HR9, unhide HS9⟩
        case oh8_6 =>
          have X8 : Box 0 #[.int .i64 0, .slice none 0 0] 36 (((wD).alloc (.cells #[] 2)).alloc (.cells #[.int .i64 0, .slice none 0 0] 36)) (wD.heap.size + 1) := newBoxAt (Nat.zero_le _) (by simp)
          replace O0 := O0.alloc (.cells #[.int .i64 0, .slice none 0 0] 36)
          have hS8 := hHeld.trans (Below.mono ((Below.refl _ _).alloc (Nat.le_refl _) (.cells #[.int .i64 0, .slice none 0 0] 36)) hHeld.size)
          go_simp
          try go_wp2_with fail
          refine hK.out _ _ hS8 (fun hHeld => ?_)
          clear hK K
          try simp only [Act.put, List.setIfInBounds_toArray, List.set_cons_zero, List.set_cons_succ]
          refine wpAnyH_ready (rs := [3]) (by kernel_rfl) (by simp) ?_
          refine AllReadyH.cons (o := { dst := some 38, op := Go.Op.call { callee := Go.Callee.builtin Go.Builtin.append, args := #[Go.Operand.tmp 35, Go.Operand.tmp 37], argTypes := #[24, 24] }, type := 24, pos := "laws.go:382", after := #[{ on := 0, ground := Go.Ground.data }, { on := 2, ground := Go.Ground.data }], guard := none }) rfl (fun K hK => ?_) AllReadyH.nil
          refine step_append_ints O0 (Lay.ints_reads ((unhide HRS).later hHeld)) rfl _ _ rfl rfl rfl (by simp; omega) (by first | (simp; done) | (simp; omega)) ?_
          rintro v3 u3 O3 hg3 hb3
          have hS3 := hHeld.trans (hb3.mono (unhide HDZ))
          replace X8 : Box 0 #[.int .i64 0, .slice none 0 0] 36 u3 (wD.heap.size + 1) := ⟨X8.1, (hg3.block _ X8.lt (by simp [Value.ownBlock])).trans X8.2⟩
          simp only [Nat.zero_add, List.nil_append] at O3
          have hz3 : wD.heap.size ≤ u3.heap.size := Nat.le_trans (by first | (simp; done) | (simp; omega)) hb3.size
          refine hK.out _ _ hS3 (fun hHeld => ?_)
          clear hK K
          try simp only [Act.put, List.setIfInBounds_toArray, List.set_cons_zero, List.set_cons_succ]
          refine wpAnyH_ready (rs := [6]) (by kernel_rfl) (by simp) ?_
          refine AllReadyH.cons (o := { dst := some 41, op := Go.Op.call { callee := Go.Callee.builtin Go.Builtin.append, args := #[Go.Operand.tmp 38, Go.Operand.tmp 40], argTypes := #[24, 24] }, type := 24, pos := "laws.go:382", after := #[{ on := 3, ground := Go.Ground.data }, { on := 5, ground := Go.Ground.data }, { on := 3, ground := Go.Ground.chain }], guard := none }) rfl (fun K hK => ?_) AllReadyH.nil
          refine step_append_ints O3 (Lay.ints_reads ((unhide HRL).later hHeld)) rfl _ _ rfl rfl rfl (by omega) (by first | omega | (simp; omega)) ?_
          rintro v6 u6 O6 hg6 hb6
          have hS6 := hHeld.trans (hb6.mono (unhide HDZ))
          replace X8 : Box 0 #[.int .i64 0, .slice none 0 0] 36 u6 (wD.heap.size + 1) := ⟨X8.1, (hg6.block _ X8.lt (fun e => box_ne O3 X8 (by decide) _ e.symm rfl)).trans X8.2⟩
          have hz6 : wD.heap.size ≤ u6.heap.size := Nat.le_trans (by first | omega | (simp; omega)) hb6.size
          have R6 := (Lay.ownInts (zs := x.sure ++ x.loose) (unhide HWA) (by rw [List.length_append]; omega) (by rw [List.length_append, List.map_append]; exact O6)).reads
          clear O6 O3 O0
          refine hK.out _ _ hS6 (fun hHeld => ?_)
          clear hK K
          try simp only [Act.put, List.setIfInBounds_toArray, List.set_cons_zero, List.set_cons_succ]
          refine wpAnyH_ready (rs := [7]) (by kernel_rfl) (by simp) ?_
          refine AllReadyH.cons (o := { dst := some 42, op := Go.Op.call { callee := Go.Callee.value (Go.Operand.func 22), args := #[Go.Operand.tmp 41], argTypes := #[24] }, type := 36, pos := "laws.go:382", after := #[{ on := 6, ground := Go.Ground.data }, { on := 6, ground := Go.Ground.chain }], guard := none }) rfl (fun K hK => ?_) AllReadyH.nil
          go_simp
          go_at_call 22
          have LL := implReadLog _ (x.sure ++ x.loose) _ R6
          rw [unhide HE4] at LL
          refine LL.mono ?_
          clear LL
          rintro e u7 ⟨cs7, rfl, O7, hbw⟩
          obtain ⟨a4, d4, rfl, -⟩ := open_WritesResult O7.reads
          have R7 := wsR_own O7
          simp only at R7 ⊢
          clear O7 R6
          have h8lt := X8.lt
          replace X8 := X8.keep hbw
          have hS7 := hHeld.trans (hbw.mono hHeld.size)
          have hz7 : wD.heap.size ≤ u7.heap.size := Nat.le_trans (by first | omega | (simp; omega)) hbw.size
          try go_wp2_with fail
          refine hK.out _ _ hS7 (fun hHeld => ?_)
          clear hK K
          try simp only [Act.put, List.setIfInBounds_toArray, List.set_cons_zero, List.set_cons_succ]
          refine wpAnyH_ready (rs := [9]) (by kernel_rfl) (by simp) ?_
          refine AllReadyH.cons (o := { dst := none, op := Go.Op.store 36 (Go.Operand.tmp 7) (Go.Operand.tmp 42), type := 0, pos := "laws.go:382", after := #[{ on := 8, ground := Go.Ground.data }, { on := 7, ground := Go.Ground.data }, { on := 7, ground := Go.Ground.chain }, { on := 0, ground := Go.Ground.phase }, { on := 1, ground := Go.Ground.phase }, { on := 2, ground := Go.Ground.phase }, { on := 3, ground := Go.Ground.phase }, { on := 4, ground := Go.Ground.phase }, { on := 5, ground := Go.Ground.phase }, { on := 6, ground := Go.Ground.phase }, { on := 7, ground := Go.Ground.phase }, { on := 8, ground := Go.Ground.phase }], guard := none }) rfl (fun K hK => ?_) AllReadyH.nil
          have z0 := X8.at 0 _ rfl
          have z1 := X8.at 1 _ rfl
          have ff := X8.soft
          have l0 := X8.lt
          simp only [List.getElem_toArray, List.getElem_cons_zero, List.getElem_cons_succ] at z0 z1
          have HX9 := hide ((X8.set 0 (.int .i64 0)).set 1 (.slice a4 AW.length d4))
          have hbx : Wk.heap.size ≤ wD.heap.size + 1 := by have := unhide HDZ; omega
          have hE9 := ext_setAll (fun q => q = wD.heap.size + 1) (Ext.refl _ (u7)) (wD.heap.size + 1) 0 [.int .i64 0, .slice a4 AW.length d4] rfl
          have HR9 := hide (R7.ext hE9 (fun q h1 h2 e => by omega)).reads
          clear hE9
          go_simp
          try go_wp2_with fail
          refine hK.out _ _ (below_setAll hHeld (wD.heap.size + 1) 0 [.int .i64 0, .slice a4 AW.length d4] hbx) (fun hHeld => ?_)
          clear hK K
          try simp only [Act.put, List.setIfInBounds_toArray, List.set_cons_zero, List.set_cons_succ]
          refine wpAnyH_done (by kernel_rfl) ?_ _
          refine NoPanic.normal ?_
          have HS9 := hide hHeld
          clear hHeld
          go_wp2_with fail
          go_meet
          exact ⟨_, a4, d4, rfl, unhide HX9, unhide HR9, unhide HS9⟩
      case oh8_5 =>
        have X8 : Box 0 #[.int .i64 0, .slice none 0 0] 36 ((wD).alloc (.cells #[.int .i64 0, .slice none 0 0] 36)) (wD.heap.size) := newBoxAt (Nat.zero_le _) (by simp)
        have hS8 := hHeld.trans (Below.mono ((Below.refl _ _).alloc (Nat.le_refl _) (.cells #[.int .i64 0, .slice none 0 0] 36)) hHeld.size)
        go_simp
        try go_wp2_with fail
        refine hK.out _ _ hS8 (fun hHeld => ?_)
        clear hK K
        try simp only [Act.put, List.setIfInBounds_toArray, List.set_cons_zero, List.set_cons_succ]
        refine wpAnyH_ready (rs := [0]) (by kernel_rfl) (by simp) ?_
        refine AllReadyH.cons (o := { dst := some 35, op := Go.Op.buildSlice 24 0 #[], type := 24, pos := "laws.go:382", after := #[], guard := none }) rfl (fun K hK => ?_) AllReadyH.nil
        have O0 : (((wD).alloc (.cells #[.int .i64 0, .slice none 0 0] 36)).alloc (.cells #[] 2)).ownsRow wD.heap.size 2 1 (.slice (some ⟨wD.heap.size + 1, 0, none⟩) 0 0) 0 [] := by
          have := World.ownsRow_lit ((wD).alloc (.cells #[.int .i64 0, .slice none 0 0] 36)) #[] 0 (base := wD.heap.size) (e := 2) (size := 1) (by simp) (Nat.zero_le _) rfl
          simpa using this
        replace X8 := X8.grow (.cells #[] 2)
        have hS0 := hHeld.trans (Below.mono ((Below.refl _ _).alloc (Nat.le_refl _) (.cells #[] 2)) hHeld.size)
        go_simp
        try go_wp2_with fail
        refine hK.out _ _ hS0 (fun hHeld => ?_)
        clear hK K
        try simp only [Act.put, List.setIfInBounds_toArray, List.set_cons_zero, List.set_cons_succ]
        refine wpAnyH_ready (rs := [3]) (by kernel_rfl) (by simp) ?_
        refine AllReadyH.cons (o := { dst := some 38, op := Go.Op.call { callee := Go.Callee.builtin Go.Builtin.append, args := #[Go.Operand.tmp 35, Go.Operand.tmp 37], argTypes := #[24, 24] }, type := 24, pos := "laws.go:382", after := #[{ on := 0, ground := Go.Ground.data }, { on := 2, ground := Go.Ground.data }], guard := none }) rfl (fun K hK => ?_) AllReadyH.nil
        refine step_append_ints O0 (Lay.ints_reads ((unhide HRS).later hHeld)) rfl _ _ rfl rfl rfl (by simp; omega) (by first | (simp; done) | (simp; omega)) ?_
        rintro v3 u3 O3 hg3 hb3
        have hS3 := hHeld.trans (hb3.mono (unhide HDZ))
        replace X8 : Box 0 #[.int .i64 0, .slice none 0 0] 36 u3 (wD.heap.size) := ⟨X8.1, (hg3.block _ X8.lt (by simp [Value.ownBlock])).trans X8.2⟩
        simp only [Nat.zero_add, List.nil_append] at O3
        have hz3 : wD.heap.size ≤ u3.heap.size := Nat.le_trans (by first | (simp; done) | (simp; omega)) hb3.size
        refine hK.out _ _ hS3 (fun hHeld => ?_)
        clear hK K
        try simp only [Act.put, List.setIfInBounds_toArray, List.set_cons_zero, List.set_cons_succ]
        refine wpAnyH_ready (rs := [6]) (by kernel_rfl) (by simp) ?_
        refine AllReadyH.cons (o := { dst := some 41, op := Go.Op.call { callee := Go.Callee.builtin Go.Builtin.append, args := #[Go.Operand.tmp 38, Go.Operand.tmp 40], argTypes := #[24, 24] }, type := 24, pos := "laws.go:382", after := #[{ on := 3, ground := Go.Ground.data }, { on := 5, ground := Go.Ground.data }, { on := 3, ground := Go.Ground.chain }], guard := none }) rfl (fun K hK => ?_) AllReadyH.nil
        refine step_append_ints O3 (Lay.ints_reads ((unhide HRL).later hHeld)) rfl _ _ rfl rfl rfl (by omega) (by first | omega | (simp; omega)) ?_
        rintro v6 u6 O6 hg6 hb6
        have hS6 := hHeld.trans (hb6.mono (unhide HDZ))
        replace X8 : Box 0 #[.int .i64 0, .slice none 0 0] 36 u6 (wD.heap.size) := ⟨X8.1, (hg6.block _ X8.lt (fun e => box_ne O3 X8 (by decide) _ e.symm rfl)).trans X8.2⟩
        have hz6 : wD.heap.size ≤ u6.heap.size := Nat.le_trans (by first | omega | (simp; omega)) hb6.size
        have R6 := (Lay.ownInts (zs := x.sure ++ x.loose) (unhide HWA) (by rw [List.length_append]; omega) (by rw [List.length_append, List.map_append]; exact O6)).reads
        clear O6 O3 O0
        refine hK.out _ _ hS6 (fun hHeld => ?_)
        clear hK K
        try simp only [Act.put, List.setIfInBounds_toArray, List.set_cons_zero, List.set_cons_succ]
        refine wpAnyH_ready (rs := [7]) (by kernel_rfl) (by simp) ?_
        refine AllReadyH.cons (o := { dst := some 42, op := Go.Op.call { callee := Go.Callee.value (Go.Operand.func 22), args := #[Go.Operand.tmp 41], argTypes := #[24] }, type := 36, pos := "laws.go:382", after := #[{ on := 6, ground := Go.Ground.data }, { on := 6, ground := Go.Ground.chain }], guard := none }) rfl (fun K hK => ?_) AllReadyH.nil
        go_simp
        go_at_call 22
        have LL := implReadLog _ (x.sure ++ x.loose) _ R6
        rw [unhide HE4] at LL
        refine LL.mono ?_
        clear LL
        rintro e u7 ⟨cs7, rfl, O7, hbw⟩
        obtain ⟨a4, d4, rfl, -⟩ := open_WritesResult O7.reads
        have R7 := wsR_own O7
        simp only at R7 ⊢
        clear O7 R6
        have h8lt := X8.lt
        replace X8 := X8.keep hbw
        have hS7 := hHeld.trans (hbw.mono hHeld.size)
        have hz7 : wD.heap.size ≤ u7.heap.size := Nat.le_trans (by first | omega | (simp; omega)) hbw.size
        try go_wp2_with fail
        refine hK.out _ _ hS7 (fun hHeld => ?_)
        clear hK K
        try simp only [Act.put, List.setIfInBounds_toArray, List.set_cons_zero, List.set_cons_succ]
        refine wpAnyH_ready (rs := [9]) (by kernel_rfl) (by simp) ?_
        refine AllReadyH.cons (o := { dst := none, op := Go.Op.store 36 (Go.Operand.tmp 7) (Go.Operand.tmp 42), type := 0, pos := "laws.go:382", after := #[{ on := 8, ground := Go.Ground.data }, { on := 7, ground := Go.Ground.data }, { on := 7, ground := Go.Ground.chain }, { on := 0, ground := Go.Ground.phase }, { on := 1, ground := Go.Ground.phase }, { on := 2, ground := Go.Ground.phase }, { on := 3, ground := Go.Ground.phase }, { on := 4, ground := Go.Ground.phase }, { on := 5, ground := Go.Ground.phase }, { on := 6, ground := Go.Ground.phase }, { on := 7, ground := Go.Ground.phase }, { on := 8, ground := Go.Ground.phase }], guard := none }) rfl (fun K hK => ?_) AllReadyH.nil
        have z0 := X8.at 0 _ rfl
        have z1 := X8.at 1 _ rfl
        have ff := X8.soft
        have l0 := X8.lt
        simp only [List.getElem_toArray, List.getElem_cons_zero, List.getElem_cons_succ] at z0 z1
        have HX9 := hide ((X8.set 0 (.int .i64 0)).set 1 (.slice a4 AW.length d4))
        have hbx : Wk.heap.size ≤ wD.heap.size := by have := unhide HDZ; omega
        have hE9 := ext_setAll (fun q => q = wD.heap.size) (Ext.refl _ (u7)) (wD.heap.size) 0 [.int .i64 0, .slice a4 AW.length d4] rfl
        have HR9 := hide (R7.ext hE9 (fun q h1 h2 e => by omega)).reads
        clear hE9
        go_simp
        try go_wp2_with fail
        refine hK.out _ _ (below_setAll hHeld (wD.heap.size) 0 [.int .i64 0, .slice a4 AW.length d4] hbx) (fun hHeld => ?_)
        clear hK K
        try simp only [Act.put, List.setIfInBounds_toArray, List.set_cons_zero, List.set_cons_succ]
        refine wpAnyH_done (by kernel_rfl) ?_ _
        refine NoPanic.normal ?_
        have HS9 := hide hHeld
        clear hHeld
        go_wp2_with fail
        go_meet
        exact ⟨_, a4, d4, rfl, unhide HX9, unhide HR9, unhide HS9⟩
    case rest =>
      obtain ⟨B4, a4, d4, rfl, hX4, hR4, hb4⟩ := hcut
      have HB4 := hide hX4
      have HR4 := hide hR4
      replace HX3 := hide ((unhide HX3).keep hb4)
      replace HB2 := hide ((unhide HB2).keep hb4)
      replace HB3 := hide ((unhide HB3).keep hb4)
      replace HRX := hide ((unhide HRX).later hb4)
      replace HRS := hide ((unhide HRS).later hb4)
      replace HRL := hide ((unhide HRL).later hb4)
      replace HR2 := hide ((unhide HR2).later hb4)
      replace HR3 := hide ((unhide HR3).later hb4)
      replace HB := hide ((unhide HB).trans (hb4.mono (unhide HB).size))
      clear hX4 hR4 hb4 e4
      have HRC := hide (open_Log (unhide HR2))
      obtain ⟨_, _, _, _, efC, RC, -⟩ := unhide HRC
      simp only [List.cons.injEq, Value.slice.injEq, true_and, and_true, List.length_nil] at efC
      obtain ⟨⟨rfl, rfl⟩, rfl, rfl⟩ := efC
      clear HRC
      have z0 : (wc).cell? ⟨w2.heap.size, 2, none⟩ = some (.slice a1 SS.length d1) := (unhide HB2).at 2 _ rfl
      have L5 := hide (implReadLog _ SS _ RC)
      rw [e5] at L5
      go_wp2_with fail
      clear z0
      refine (unhide L5).mono ?_
      rintro e w5 ⟨cs, rfl, O, hb5⟩
      obtain ⟨a5, d5, rfl, R5⟩ := open_WritesResult O.reads
      simp only at R5 ⊢
      clear O
      clear RC
      have nb5 : Below w5.heap.size w5 (w5.alloc (.cells #[.int .i64 0, .slice a5 NW.length d5] 36)) := (Below.refl _ _).alloc (Nat.le_refl _) _
      have x5 : Box 0 #[.int .i64 0, .slice a5 NW.length d5] 36 (w5.alloc (.cells #[.int .i64 0, .slice a5 NW.length d5] 36)) w5.heap.size := newBox (Nat.zero_le _)
      replace HX3 := hide (((unhide HX3).keep hb5).keep nb5)
      replace HB2 := hide (((unhide HB2).keep hb5).keep nb5)
      replace HB3 := hide (((unhide HB3).keep hb5).keep nb5)
      replace HB4 := hide (((unhide HB4).keep hb5).keep nb5)
      replace HRX := hide (((unhide HRX).later hb5).later nb5)
      replace HRS := hide (((unhide HRS).later hb5).later nb5)
      replace HRL := hide (((unhide HRL).later hb5).later nb5)
      replace HR2 := hide (((unhide HR2).later hb5).later nb5)
      replace HR3 := hide (((unhide HR3).later hb5).later nb5)
      replace HR4 := hide (((unhide HR4).later hb5).later nb5)
      have HB5 := hide x5
      have HR5 := hide (R5.later nb5)
      replace HB := hide (((unhide HB).trans (hb5.mono (unhide HB).size)).trans (nb5.mono (Nat.le_trans (unhide HB).size hb5.size)))
      clear R5 nb5 x5 hb5 L5
      have z0 : (w5.alloc (.cells #[.int .i64 0, .slice a5 NW.length d5] 36)).cell? ⟨w1.heap.size, 0, none⟩ = some (.slice a8 x.sure.length c8) := (unhide HX3).at 0 _ rfl
      have z1 : (w5.alloc (.cells #[.int .i64 0, .slice a5 NW.length d5] 36)).cell? ⟨w1.heap.size, 1, none⟩ = some (.slice a9 x.loose.length c9) := (unhide HX3).at 1 _ rfl
      have z5 : (w5.alloc (.cells #[.int .i64 0, .slice a5 NW.length d5] 36)).cell? ⟨w5.heap.size, 1, none⟩ = some (.slice a5 NW.length d5) := (unhide HB5).at 1 _ rfl
      have L6 := hide (implSyncLog _ x _ (unhide HRX) (by omega) (by omega))
      rw [e6] at L6
      go_wp2_with fail
      generalize w5.alloc (.cells #[.int .i64 0, .slice a5 NW.length d5] 36) = W5 at *
      clear z0 z1 z5
      refine (unhide L6).mono ?_
      rintro e w6 ⟨cs, rfl, O, hb6⟩
      obtain ⟨a6, d6, a7, d7, rfl, R6⟩ := open_LogResult O.reads
      simp only at R6 ⊢
      clear O
      have nb6 : Below w6.heap.size w6 (w6.alloc (.cells #[.int .i64 0, .int .i64 (AW.length : Int), .slice a6 lo2.sure.length d6, .slice a7 lo2.loose.length d7] 56)) := (Below.refl _ _).alloc (Nat.le_refl _) _
      have x6 : Box 0 #[.int .i64 0, .int .i64 (AW.length : Int), .slice a6 lo2.sure.length d6, .slice a7 lo2.loose.length d7] 56 (w6.alloc (.cells #[.int .i64 0, .int .i64 (AW.length : Int), .slice a6 lo2.sure.length d6, .slice a7 lo2.loose.length d7] 56)) w6.heap.size := newBox (Nat.zero_le _)
      replace HX3 := hide (((unhide HX3).keep hb6).keep nb6)
      replace HB2 := hide (((unhide HB2).keep hb6).keep nb6)
      replace HB3 := hide (((unhide HB3).keep hb6).keep nb6)
      replace HB4 := hide (((unhide HB4).keep hb6).keep nb6)
      replace HB5 := hide (((unhide HB5).keep hb6).keep nb6)
      replace HRX := hide (((unhide HRX).later hb6).later nb6)
      replace HRS := hide (((unhide HRS).later hb6).later nb6)
      replace HRL := hide (((unhide HRL).later hb6).later nb6)
      replace HR2 := hide (((unhide HR2).later hb6).later nb6)
      replace HR3 := hide (((unhide HR3).later hb6).later nb6)
      replace HR4 := hide (((unhide HR4).later hb6).later nb6)
      replace HR5 := hide (((unhide HR5).later hb6).later nb6)
      have HB6 := hide x6
      have HR6 := hide (R6.later nb6)
      replace HB := hide (((unhide HB).trans (hb6.mono (unhide HB).size)).trans (nb6.mono (Nat.le_trans (unhide HB).size hb6.size)))
      clear R6 nb6 x6 hb6 L6
      have hdrop := reads_drop (w6.alloc (.cells #[.int .i64 0, .int .i64 (AW.length : Int), .slice a6 lo2.sure.length d6, .slice a7 lo2.loose.length d7] 56))
      have z0 : (w6.alloc (.cells #[.int .i64 0, .int .i64 (AW.length : Int), .slice a6 lo2.sure.length d6, .slice a7 lo2.loose.length d7] 56)).cell? ⟨w1.heap.size, 0, none⟩ = some (.slice a8 x.sure.length c8) := (unhide HX3).at 0 _ rfl
      have z1 : (w6.alloc (.cells #[.int .i64 0, .int .i64 (AW.length : Int), .slice a6 lo2.sure.length d6, .slice a7 lo2.loose.length d7] 56)).cell? ⟨w1.heap.size, 1, none⟩ = some (.slice a9 x.loose.length c9) := (unhide HX3).at 1 _ rfl
      have L7 := hide (implAppendLog _ x _ dropOne _ (unhide HRX) hdrop (by omega) (by omega))
      rw [e7] at L7
      go_wp2_with fail
      generalize w6.alloc (.cells #[.int .i64 0, .int .i64 (AW.length : Int), .slice a6 lo2.sure.length d6, .slice a7 lo2.loose.length d7] 56) = W6 at *
      clear z0 z1
      refine (unhide L7).mono ?_
      rintro e w7 ⟨cs, rfl, O, hb7⟩
      obtain ⟨a10, d10, a11, d11, rfl, R7⟩ := open_LogResult O.reads
      simp only at R7 ⊢
      clear O
      clear hdrop
      have nb7 : Below w7.heap.size w7 (w7.alloc (.cells #[.int .i64 c, .int .i64 ca, .slice a10 lo.sure.length d10, .slice a11 lo.loose.length d11] 56)) := (Below.refl _ _).alloc (Nat.le_refl _) _
      have x7 : Box 0 #[.int .i64 c, .int .i64 ca, .slice a10 lo.sure.length d10, .slice a11 lo.loose.length d11] 56 (w7.alloc (.cells #[.int .i64 c, .int .i64 ca, .slice a10 lo.sure.length d10, .slice a11 lo.loose.length d11] 56)) w7.heap.size := newBox (Nat.zero_le _)
      replace HX3 := hide (((unhide HX3).keep hb7).keep nb7)
      replace HB2 := hide (((unhide HB2).keep hb7).keep nb7)
      replace HB3 := hide (((unhide HB3).keep hb7).keep nb7)
      replace HB4 := hide (((unhide HB4).keep hb7).keep nb7)
      replace HB5 := hide (((unhide HB5).keep hb7).keep nb7)
      replace HB6 := hide (((unhide HB6).keep hb7).keep nb7)
      replace HRX := hide (((unhide HRX).later hb7).later nb7)
      replace HRS := hide (((unhide HRS).later hb7).later nb7)
      replace HRL := hide (((unhide HRL).later hb7).later nb7)
      replace HR2 := hide (((unhide HR2).later hb7).later nb7)
      replace HR3 := hide (((unhide HR3).later hb7).later nb7)
      replace HR4 := hide (((unhide HR4).later hb7).later nb7)
      replace HR5 := hide (((unhide HR5).later hb7).later nb7)
      replace HR6 := hide (((unhide HR6).later hb7).later nb7)
      have HB7 := hide x7
      have HR7 := hide (R7.later nb7)
      replace HB := hide (((unhide HB).trans (hb7.mono (unhide HB).size)).trans (nb7.mono (Nat.le_trans (unhide HB).size hb7.size)))
      clear R7 nb7 x7 hb7 L7
      go_wp2_with fail
      generalize w7.alloc (.cells #[.int .i64 c, .int .i64 ca, .slice a10 lo.sure.length d10, .slice a11 lo.loose.length d11] 56) = wz at *
      have KEEP : Hid (∀ W, Below wz.heap.size wz W → W.cell? ⟨w3.heap.size, 1, none⟩ = some (.slice a3 SW.length d3) ∧ W.cell? ⟨B4, 1, none⟩ = some (.slice a4 AW.length d4) ∧ W.cell? ⟨w5.heap.size, 1, none⟩ = some (.slice a5 NW.length d5) ∧ W.cell? ⟨w2.heap.size, 1, none⟩ = some (.int .i64 (NW.length : Int)) ∧ W.cell? ⟨w2.heap.size, 2, none⟩ = some (.slice a1 SS.length d1) ∧ W.cell? ⟨w2.heap.size, 3, none⟩ = some (.slice a2 0 d2) ∧ W.cell? ⟨w6.heap.size, 1, none⟩ = some (.int .i64 (AW.length : Int)) ∧ W.cell? ⟨w7.heap.size, 0, none⟩ = some (.int .i64 c) ∧ W.cell? ⟨w7.heap.size, 1, none⟩ = some (.int .i64 ca)) := fun W hW =>
        ⟨((unhide HB3).keep hW).at 1 _ rfl, ((unhide HB4).keep hW).at 1 _ rfl, ((unhide HB5).keep hW).at 1 _ rfl, ((unhide HB2).keep hW).at 1 _ rfl, ((unhide HB2).keep hW).at 2 _ rfl, ((unhide HB2).keep hW).at 3 _ rfl, ((unhide HB6).keep hW).at 1 _ rfl, ((unhide HB7).keep hW).at 0 _ rfl, ((unhide HB7).keep hW).at 1 _ rfl⟩
      have LS : Hid (∀ W, Below wz.heap.size wz W → Calls Try.prog 51 #[.slice a5 NW.length d5, .slice a4 NW.length d4] W fun e w' => e = .returned (.bool true) ∧ Below W.heap.size W w') := fun W hW => by
        have h9 := implSame _ _ NW (AW.take NW.length) W ((unhide HR5).later hW) (sl_prefix8 ((unhide HR4).later hW) hNA)
        rwa [unhide HSM] at h9
      have LF : Hid (∀ W, Below wz.heap.size wz W → Calls Try.prog 31 #[.agg #[.slice a1 SS.length d1, .slice a2 0 d2]] W fun e w' => e = .returned (.int .i64 0) ∧ Below W.heap.size W w') := fun W hW => by
        have h9 := implLogFault _ ⟨SS, []⟩ W ((unhide HR2).later hW) (by show SS.length ≤ _; omega) (by simp)
        rwa [unhide HLF] at h9
      have hcap4 : AW.length ≤ d4 := (unhide HR4).cap.2
      have i0 : NW.length ≤ d4 := by omega
      have i1 : (SW.length : Int) ≤ (NW.length : Int) := by omega
      have i2 : (NW.length : Int) ≤ (AW.length : Int) := by omega
      have e0 : ((0 : Int) == 0) = true := by decide
      have e1 : ((NW.length : Int) == (NW.length : Int)) = true := by simp
      have e2 : ((AW.length : Int) == (AW.length : Int)) = true := by simp
      clear e3 e5 e6 e7 hcap4 HX3 HB2 HB3 HB4 HB5 HB6 HB7 HRX HRS HRL HR2 HR3 HR4 HR5 HR6 HR7
      rcases unhide HCC with rfl | ⟨rfl, rfl⟩
      · clear HCC
        have f0 : ((2 : Int) == 2) = true := by decide
        refine wp_region_noPanic ?_
        refine wp_region_held_drew (S := fun w' => Below wz.heap.size wz w') (by kernel_rfl) (Below.refl _ _).drew (fun hHeld => ?_)
        generalize wz.drew = wD at hHeld ⊢
        refine wpAnyH_take (i := 0) (oi := { dst := some 55, op := Go.Op.move (Go.Operand.tmp 9), type := 3, pos := "laws.go:387", after := #[], guard := none }) (v := ?vp0_1) rfl (by kernel_rfl) (by kernel_rfl) (by kernel_rfl) (fun _ _ _ h => h) (Or.inl ⟨by rfl, ?hp0_1⟩) hHeld ?rp0_1
        case hp0_1 =>
          intro wS hSw
          (try dsimp only at hSw)
          go_simp
          try with_reducible rfl
        case rp0_1 =>
        simp only [Act.put, List.setIfInBounds_toArray, List.set_cons_zero, List.set_cons_succ]
        refine wpAnyH_take (i := 1) (oi := { dst := some 56, op := Go.Op.fieldAddr 36 (Go.Operand.tmp 6) 1, type := 0, pos := "laws.go:387", after := #[], guard := none }) (v := ?vp1_2) rfl (by kernel_rfl) (by kernel_rfl) (by kernel_rfl) (fun _ _ _ h => h) (Or.inl ⟨by rfl, ?hp1_2⟩) hHeld ?rp1_2
        case hp1_2 =>
          intro wS hSw
          (try dsimp only at hSw)
          go_simp
          try with_reducible rfl
        case rp1_2 =>
        simp only [Act.put, List.setIfInBounds_toArray, List.set_cons_zero, List.set_cons_succ]
        refine wpAnyH_take (i := 2) (oi := { dst := some 57, op := Go.Op.load 28 (Go.Operand.tmp 56), type := 28, pos := "laws.go:387", after := #[{ on := 1, ground := Go.Ground.data }], guard := none }) (v := ?vp2_3) rfl (by kernel_rfl) (by kernel_rfl) (by kernel_rfl) (fun _ _ _ h => h) (Or.inl ⟨by rfl, ?hp2_3⟩) hHeld ?rp2_3
        case hp2_3 =>
          intro wS hSw
          obtain ⟨y0, y1, y2, y3, y4, y5, y6, y7, y8⟩ := unhide KEEP _ hSw
          clear hSw
          (try dsimp only at hSw)
          go_simp
          try with_reducible rfl
        case rp2_3 =>
        simp only [Act.put, List.setIfInBounds_toArray, List.set_cons_zero, List.set_cons_succ]
        refine wpAnyH_take (i := 3) (oi := { dst := some 58, op := Go.Op.call { callee := Go.Callee.builtin Go.Builtin.len, args := #[Go.Operand.tmp 57], argTypes := #[28] }, type := 3, pos := "laws.go:387", after := #[{ on := 2, ground := Go.Ground.data }], guard := none }) (v := ?vp3_4) rfl (by kernel_rfl) (by kernel_rfl) (by kernel_rfl) (fun _ _ _ h => h) (Or.inl ⟨by rfl, ?hp3_4⟩) hHeld ?rp3_4
        case hp3_4 =>
          intro wS hSw
          (try dsimp only at hSw)
          go_simp
          try with_reducible rfl
        case rp3_4 =>
        simp only [Act.put, List.setIfInBounds_toArray, List.set_cons_zero, List.set_cons_succ]
        refine wpAnyH_take (i := 4) (oi := { dst := some 59, op := Go.Op.binOp Go.BinOp.geq 3 (Go.Operand.tmp 55) (Go.Operand.tmp 58) 3, type := 4, pos := "laws.go:387", after := #[{ on := 0, ground := Go.Ground.data }, { on := 3, ground := Go.Ground.data }], guard := none }) (v := ?vp4_5) rfl (by kernel_rfl) (by kernel_rfl) (by kernel_rfl) (fun _ _ _ h => h) (Or.inl ⟨by rfl, ?hp4_5⟩) hHeld ?rp4_5
        case hp4_5 =>
          intro wS hSw
          (try dsimp only at hSw)
          go_simp
          try with_reducible rfl
        case rp4_5 =>
        simp only [Act.put, List.setIfInBounds_toArray, List.set_cons_zero, List.set_cons_succ]
        refine wpAnyH_take (i := 5) (oi := { dst := some 60, op := Go.Op.move (Go.Operand.tmp 59), type := 4, pos := "laws.go:387", after := #[{ on := 4, ground := Go.Ground.data }], guard := none }) (v := ?vp5_6) rfl (by kernel_rfl) (by kernel_rfl) (by kernel_rfl) (fun _ _ _ h => h) (Or.inl ⟨by rfl, ?hp5_6⟩) hHeld ?rp5_6
        case hp5_6 =>
          intro wS hSw
          (try dsimp only at hSw)
          go_simp
          try with_reducible rfl
        case rp5_6 =>
        simp only [Act.put, List.setIfInBounds_toArray, List.set_cons_zero, List.set_cons_succ]
        refine wpAnyH_take (i := 6) (oi := { dst := some 61, op := Go.Op.move (Go.Operand.tmp 9), type := 3, pos := "laws.go:387", after := #[{ on := 5, ground := Go.Ground.guard }], guard := some (5, true) }) (v := ?vp6_7) rfl (by kernel_rfl) (by kernel_rfl) (by kernel_rfl) (fun _ _ _ h => h) (Or.inl ⟨by rfl, ?hp6_7⟩) hHeld ?rp6_7
        case hp6_7 =>
          intro wS hSw
          (try dsimp only at hSw)
          go_simp
          try with_reducible rfl
        case rp6_7 =>
        simp only [Act.put, List.setIfInBounds_toArray, List.set_cons_zero, List.set_cons_succ]
        refine wpAnyH_take (i := 7) (oi := { dst := some 62, op := Go.Op.fieldAddr 36 (Go.Operand.tmp 7) 1, type := 0, pos := "laws.go:387", after := #[{ on := 5, ground := Go.Ground.guard }], guard := some (5, true) }) (v := ?vp7_8) rfl (by kernel_rfl) (by kernel_rfl) (by kernel_rfl) (fun _ _ _ h => h) (Or.inl ⟨by rfl, ?hp7_8⟩) hHeld ?rp7_8
        case hp7_8 =>
          intro wS hSw
          (try dsimp only at hSw)
          go_simp
          try with_reducible rfl
        case rp7_8 =>
        simp only [Act.put, List.setIfInBounds_toArray, List.set_cons_zero, List.set_cons_succ]
        refine wpAnyH_take (i := 8) (oi := { dst := some 63, op := Go.Op.load 28 (Go.Operand.tmp 62), type := 28, pos := "laws.go:387", after := #[{ on := 7, ground := Go.Ground.data }, { on := 5, ground := Go.Ground.guard }], guard := some (5, true) }) (v := ?vp8_9) rfl (by kernel_rfl) (by kernel_rfl) (by kernel_rfl) (fun _ _ _ h => h) (Or.inl ⟨by rfl, ?hp8_9⟩) hHeld ?rp8_9
        case hp8_9 =>
          intro wS hSw
          obtain ⟨y0, y1, y2, y3, y4, y5, y6, y7, y8⟩ := unhide KEEP _ hSw
          clear hSw
          (try dsimp only at hSw)
          go_simp
          try with_reducible rfl
        case rp8_9 =>
        simp only [Act.put, List.setIfInBounds_toArray, List.set_cons_zero, List.set_cons_succ]
        refine wpAnyH_take (i := 9) (oi := { dst := some 64, op := Go.Op.call { callee := Go.Callee.builtin Go.Builtin.len, args := #[Go.Operand.tmp 63], argTypes := #[28] }, type := 3, pos := "laws.go:387", after := #[{ on := 8, ground := Go.Ground.data }, { on := 5, ground := Go.Ground.guard }], guard := some (5, true) }) (v := ?vp9_10) rfl (by kernel_rfl) (by kernel_rfl) (by kernel_rfl) (fun _ _ _ h => h) (Or.inl ⟨by rfl, ?hp9_10⟩) hHeld ?rp9_10
        case hp9_10 =>
          intro wS hSw
          (try dsimp only at hSw)
          go_simp
          try with_reducible rfl
        case rp9_10 =>
        simp only [Act.put, List.setIfInBounds_toArray, List.set_cons_zero, List.set_cons_succ]
        refine wpAnyH_take (i := 10) (oi := { dst := some 65, op := Go.Op.binOp Go.BinOp.leq 3 (Go.Operand.tmp 61) (Go.Operand.tmp 64) 3, type := 4, pos := "laws.go:387", after := #[{ on := 6, ground := Go.Ground.data }, { on := 9, ground := Go.Ground.data }, { on := 5, ground := Go.Ground.guard }], guard := some (5, true) }) (v := ?vp10_11) rfl (by kernel_rfl) (by kernel_rfl) (by kernel_rfl) (fun _ _ _ h => h) (Or.inl ⟨by rfl, ?hp10_11⟩) hHeld ?rp10_11
        case hp10_11 =>
          intro wS hSw
          (try dsimp only at hSw)
          go_simp
          try with_reducible rfl
        case rp10_11 =>
        simp only [Act.put, List.setIfInBounds_toArray, List.set_cons_zero, List.set_cons_succ]
        refine wpAnyH_take (i := 11) (oi := { dst := some 66, op := Go.Op.pick (Go.Operand.tmp 60) (Go.Operand.tmp 65) (Go.Operand.const (Go.Value.bool false)), type := 4, pos := "laws.go:387", after := #[{ on := 5, ground := Go.Ground.data }, { on := 10, ground := Go.Ground.data }], guard := none }) (v := ?vp11_12) rfl (by kernel_rfl) (by kernel_rfl) (by kernel_rfl) (fun _ _ _ h => h) (Or.inl ⟨by rfl, ?hp11_12⟩) hHeld ?rp11_12
        case hp11_12 =>
          intro wS hSw
          (try dsimp only at hSw)
          go_simp
          try with_reducible rfl
        case rp11_12 =>
        simp only [Act.put, List.setIfInBounds_toArray, List.set_cons_zero, List.set_cons_succ]
        refine wpAnyH_take (i := 12) (oi := { dst := some 67, op := Go.Op.move (Go.Operand.tmp 66), type := 4, pos := "laws.go:387", after := #[{ on := 11, ground := Go.Ground.data }, { on := 5, ground := Go.Ground.chain }], guard := none }) (v := ?vp12_13) rfl (by kernel_rfl) (by kernel_rfl) (by kernel_rfl) (fun _ _ _ h => h) (Or.inl ⟨by rfl, ?hp12_13⟩) hHeld ?rp12_13
        case hp12_13 =>
          intro wS hSw
          (try dsimp only at hSw)
          go_simp
          try with_reducible rfl
        case rp12_13 =>
        simp only [Act.put, List.setIfInBounds_toArray, List.set_cons_zero, List.set_cons_succ]
        refine wpAnyH_take (i := 13) (oi := { dst := some 68, op := Go.Op.fieldAddr 36 (Go.Operand.tmp 8) 1, type := 0, pos := "laws.go:387", after := #[{ on := 12, ground := Go.Ground.guard }], guard := some (12, true) }) (v := ?vp13_14) rfl (by kernel_rfl) (by kernel_rfl) (by kernel_rfl) (fun _ _ _ h => h) (Or.inl ⟨by rfl, ?hp13_14⟩) hHeld ?rp13_14
        case hp13_14 =>
          intro wS hSw
          (try dsimp only at hSw)
          go_simp
          try with_reducible rfl
        case rp13_14 =>
        simp only [Act.put, List.setIfInBounds_toArray, List.set_cons_zero, List.set_cons_succ]
        refine wpAnyH_take (i := 14) (oi := { dst := some 69, op := Go.Op.load 28 (Go.Operand.tmp 68), type := 28, pos := "laws.go:387", after := #[{ on := 13, ground := Go.Ground.data }, { on := 12, ground := Go.Ground.guard }], guard := some (12, true) }) (v := ?vp14_15) rfl (by kernel_rfl) (by kernel_rfl) (by kernel_rfl) (fun _ _ _ h => h) (Or.inl ⟨by rfl, ?hp14_15⟩) hHeld ?rp14_15
        case hp14_15 =>
          intro wS hSw
          obtain ⟨y0, y1, y2, y3, y4, y5, y6, y7, y8⟩ := unhide KEEP _ hSw
          clear hSw
          (try dsimp only at hSw)
          go_simp
          try with_reducible rfl
        case rp14_15 =>
        simp only [Act.put, List.setIfInBounds_toArray, List.set_cons_zero, List.set_cons_succ]
        refine wpAnyH_take (i := 15) (oi := { dst := some 70, op := Go.Op.fieldAddr 36 (Go.Operand.tmp 7) 1, type := 0, pos := "laws.go:387", after := #[{ on := 12, ground := Go.Ground.guard }], guard := some (12, true) }) (v := ?vp15_16) rfl (by kernel_rfl) (by kernel_rfl) (by kernel_rfl) (fun _ _ _ h => h) (Or.inl ⟨by rfl, ?hp15_16⟩) hHeld ?rp15_16
        case hp15_16 =>
          intro wS hSw
          (try dsimp only at hSw)
          go_simp
          try with_reducible rfl
        case rp15_16 =>
        simp only [Act.put, List.setIfInBounds_toArray, List.set_cons_zero, List.set_cons_succ]
        refine wpAnyH_take (i := 16) (oi := { dst := some 71, op := Go.Op.load 28 (Go.Operand.tmp 70), type := 28, pos := "laws.go:387", after := #[{ on := 15, ground := Go.Ground.data }, { on := 12, ground := Go.Ground.guard }], guard := some (12, true) }) (v := ?vp16_17) rfl (by kernel_rfl) (by kernel_rfl) (by kernel_rfl) (fun _ _ _ h => h) (Or.inl ⟨by rfl, ?hp16_17⟩) hHeld ?rp16_17
        case hp16_17 =>
          intro wS hSw
          obtain ⟨y0, y1, y2, y3, y4, y5, y6, y7, y8⟩ := unhide KEEP _ hSw
          clear hSw
          (try dsimp only at hSw)
          go_simp
          try with_reducible rfl
        case rp16_17 =>
        simp only [Act.put, List.setIfInBounds_toArray, List.set_cons_zero, List.set_cons_succ]
        refine wpAnyH_take (i := 17) (oi := { dst := some 72, op := Go.Op.move (Go.Operand.tmp 9), type := 3, pos := "laws.go:387", after := #[{ on := 12, ground := Go.Ground.guard }], guard := some (12, true) }) (v := ?vp17_18) rfl (by kernel_rfl) (by kernel_rfl) (by kernel_rfl) (fun _ _ _ h => h) (Or.inl ⟨by rfl, ?hp17_18⟩) hHeld ?rp17_18
        case hp17_18 =>
          intro wS hSw
          (try dsimp only at hSw)
          go_simp
          try with_reducible rfl
        case rp17_18 =>
        simp only [Act.put, List.setIfInBounds_toArray, List.set_cons_zero, List.set_cons_succ]
        refine wpAnyH_take (i := 18) (oi := { dst := some 73, op := Go.Op.slice 28 (Go.Operand.tmp 71) none (some (Go.Operand.tmp 72)) none, type := 28, pos := "laws.go:387", after := #[{ on := 16, ground := Go.Ground.data }, { on := 17, ground := Go.Ground.data }, { on := 12, ground := Go.Ground.guard }], guard := some (12, true) }) (v := ?vp18_19) rfl (by kernel_rfl) (by kernel_rfl) (by kernel_rfl) (fun _ _ _ h => h) (Or.inl ⟨by rfl, ?hp18_19⟩) hHeld ?rp18_19
        case hp18_19 =>
          intro wS hSw
          clear hSw
          have j0 : NW.length ≤ d4 := i0
          (try dsimp only at hSw)
          go_simp
          try with_reducible rfl
        case rp18_19 =>
        simp only [Act.put, List.setIfInBounds_toArray, List.set_cons_zero, List.set_cons_succ]
        refine wpAnyH_ready (rs := [19]) (by kernel_rfl) (by simp) ?_
        refine AllReadyH.cons (o := { dst := some 74, op := Go.Op.call { callee := Go.Callee.value (Go.Operand.func 51), args := #[Go.Operand.tmp 69, Go.Operand.tmp 73], argTypes := #[28, 28] }, type := 4, pos := "laws.go:387", after := #[{ on := 14, ground := Go.Ground.data }, { on := 18, ground := Go.Ground.data }, { on := 12, ground := Go.Ground.chain }, { on := 12, ground := Go.Ground.guard }], guard := some (12, true) }) rfl (fun K hK => ?_) AllReadyH.nil
        go_simp
        go_at_call 51
        refine (unhide LS _ hHeld).mono ?_
        rintro e v1 ⟨rfl, hbw⟩
        try go_wp2_with fail
        refine hK.out _ _ (hHeld.trans (hbw.mono hHeld.size)) (fun hHeld => ?_)
        clear hK K
        try simp only [Act.put, List.setIfInBounds_toArray, List.set_cons_zero, List.set_cons_succ]
        refine wpAnyH_take (i := 20) (oi := { dst := some 75, op := Go.Op.pick (Go.Operand.tmp 67) (Go.Operand.tmp 74) (Go.Operand.const (Go.Value.bool false)), type := 4, pos := "laws.go:387", after := #[{ on := 12, ground := Go.Ground.data }, { on := 19, ground := Go.Ground.data }], guard := none }) (v := ?vp20_20) rfl (by kernel_rfl) (by kernel_rfl) (by kernel_rfl) (fun _ _ _ h => h) (Or.inl ⟨by rfl, ?hp20_20⟩) hHeld ?rp20_20
        case hp20_20 =>
          intro wS hSw
          (try dsimp only at hSw)
          go_simp
          try with_reducible rfl
        case rp20_20 =>
        simp only [Act.put, List.setIfInBounds_toArray, List.set_cons_zero, List.set_cons_succ]
        refine wpAnyH_take (i := 21) (oi := { dst := some 76, op := Go.Op.move (Go.Operand.tmp 75), type := 4, pos := "laws.go:387", after := #[{ on := 20, ground := Go.Ground.data }, { on := 19, ground := Go.Ground.chain }], guard := none }) (v := ?vp21_21) rfl (by kernel_rfl) (by kernel_rfl) (by kernel_rfl) (fun _ _ _ h => h) (Or.inl ⟨by rfl, ?hp21_21⟩) hHeld ?rp21_21
        case hp21_21 =>
          intro wS hSw
          (try dsimp only at hSw)
          go_simp
          try with_reducible rfl
        case rp21_21 =>
        simp only [Act.put, List.setIfInBounds_toArray, List.set_cons_zero, List.set_cons_succ]
        refine wpAnyH_take (i := 22) (oi := { dst := some 77, op := Go.Op.fieldAddr 56 (Go.Operand.tmp 5) 2, type := 0, pos := "laws.go:387", after := #[{ on := 21, ground := Go.Ground.guard }], guard := some (21, true) }) (v := ?vp22_22) rfl (by kernel_rfl) (by kernel_rfl) (by kernel_rfl) (fun _ _ _ h => h) (Or.inl ⟨by rfl, ?hp22_22⟩) hHeld ?rp22_22
        case hp22_22 =>
          intro wS hSw
          (try dsimp only at hSw)
          go_simp
          try with_reducible rfl
        case rp22_22 =>
        simp only [Act.put, List.setIfInBounds_toArray, List.set_cons_zero, List.set_cons_succ]
        refine wpAnyH_take (i := 23) (oi := { dst := some 78, op := Go.Op.fieldAddr 48 (Go.Operand.tmp 77) 1, type := 0, pos := "laws.go:387", after := #[{ on := 22, ground := Go.Ground.data }, { on := 21, ground := Go.Ground.guard }], guard := some (21, true) }) (v := ?vp23_23) rfl (by kernel_rfl) (by kernel_rfl) (by kernel_rfl) (fun _ _ _ h => h) (Or.inl ⟨by rfl, ?hp23_23⟩) hHeld ?rp23_23
        case hp23_23 =>
          intro wS hSw
          (try dsimp only at hSw)
          go_simp
          try with_reducible rfl
        case rp23_23 =>
        simp only [Act.put, List.setIfInBounds_toArray, List.set_cons_zero, List.set_cons_succ]
        refine wpAnyH_take (i := 24) (oi := { dst := some 79, op := Go.Op.load 24 (Go.Operand.tmp 78), type := 24, pos := "laws.go:387", after := #[{ on := 23, ground := Go.Ground.data }, { on := 21, ground := Go.Ground.guard }], guard := some (21, true) }) (v := ?vp24_24) rfl (by kernel_rfl) (by kernel_rfl) (by kernel_rfl) (fun _ _ _ h => h) (Or.inl ⟨by rfl, ?hp24_24⟩) hHeld ?rp24_24
        case hp24_24 =>
          intro wS hSw
          obtain ⟨y0, y1, y2, y3, y4, y5, y6, y7, y8⟩ := unhide KEEP _ hSw
          clear hSw
          (try dsimp only at hSw)
          go_simp
          try with_reducible rfl
        case rp24_24 =>
        simp only [Act.put, List.setIfInBounds_toArray, List.set_cons_zero, List.set_cons_succ]
        refine wpAnyH_take (i := 25) (oi := { dst := some 80, op := Go.Op.call { callee := Go.Callee.builtin Go.Builtin.len, args := #[Go.Operand.tmp 79], argTypes := #[24] }, type := 3, pos := "laws.go:387", after := #[{ on := 24, ground := Go.Ground.data }, { on := 21, ground := Go.Ground.guard }], guard := some (21, true) }) (v := ?vp25_25) rfl (by kernel_rfl) (by kernel_rfl) (by kernel_rfl) (fun _ _ _ h => h) (Or.inl ⟨by rfl, ?hp25_25⟩) hHeld ?rp25_25
        case hp25_25 =>
          intro wS hSw
          (try dsimp only at hSw)
          go_simp
          try with_reducible rfl
        case rp25_25 =>
        simp only [Act.put, List.setIfInBounds_toArray, List.set_cons_zero, List.set_cons_succ]
        refine wpAnyH_take (i := 26) (oi := { dst := some 81, op := Go.Op.binOp Go.BinOp.eql 3 (Go.Operand.tmp 80) (Go.Operand.const (Go.Value.int Go.IntKind.i64 0)) 3, type := 4, pos := "laws.go:387", after := #[{ on := 25, ground := Go.Ground.data }, { on := 21, ground := Go.Ground.guard }], guard := some (21, true) }) (v := ?vp26_26) rfl (by kernel_rfl) (by kernel_rfl) (by kernel_rfl) (fun _ _ _ h => h) (Or.inl ⟨by rfl, ?hp26_26⟩) hHeld ?rp26_26
        case hp26_26 =>
          intro wS hSw
          (try dsimp only at hSw)
          go_simp
          try with_reducible rfl
        case rp26_26 =>
        simp only [Act.put, List.setIfInBounds_toArray, List.set_cons_zero, List.set_cons_succ]
        refine wpAnyH_take (i := 27) (oi := { dst := some 82, op := Go.Op.pick (Go.Operand.tmp 76) (Go.Operand.tmp 81) (Go.Operand.const (Go.Value.bool false)), type := 4, pos := "laws.go:387", after := #[{ on := 21, ground := Go.Ground.data }, { on := 26, ground := Go.Ground.data }], guard := none }) (v := ?vp27_27) rfl (by kernel_rfl) (by kernel_rfl) (by kernel_rfl) (fun _ _ _ h => h) (Or.inl ⟨by rfl, ?hp27_27⟩) hHeld ?rp27_27
        case hp27_27 =>
          intro wS hSw
          (try dsimp only at hSw)
          go_simp
          try with_reducible rfl
        case rp27_27 =>
        simp only [Act.put, List.setIfInBounds_toArray, List.set_cons_zero, List.set_cons_succ]
        refine wpAnyH_take (i := 28) (oi := { dst := some 83, op := Go.Op.move (Go.Operand.tmp 82), type := 4, pos := "laws.go:387", after := #[{ on := 27, ground := Go.Ground.data }, { on := 21, ground := Go.Ground.chain }], guard := none }) (v := ?vp28_28) rfl (by kernel_rfl) (by kernel_rfl) (by kernel_rfl) (fun _ _ _ h => h) (Or.inl ⟨by rfl, ?hp28_28⟩) hHeld ?rp28_28
        case hp28_28 =>
          intro wS hSw
          (try dsimp only at hSw)
          go_simp
          try with_reducible rfl
        case rp28_28 =>
        simp only [Act.put, List.setIfInBounds_toArray, List.set_cons_zero, List.set_cons_succ]
        refine wpAnyH_take (i := 29) (oi := { dst := some 84, op := Go.Op.fieldAddr 56 (Go.Operand.tmp 5) 1, type := 0, pos := "laws.go:387", after := #[{ on := 28, ground := Go.Ground.guard }], guard := some (28, true) }) (v := ?vp29_29) rfl (by kernel_rfl) (by kernel_rfl) (by kernel_rfl) (fun _ _ _ h => h) (Or.inl ⟨by rfl, ?hp29_29⟩) hHeld ?rp29_29
        case hp29_29 =>
          intro wS hSw
          (try dsimp only at hSw)
          go_simp
          try with_reducible rfl
        case rp29_29 =>
        simp only [Act.put, List.setIfInBounds_toArray, List.set_cons_zero, List.set_cons_succ]
        refine wpAnyH_take (i := 30) (oi := { dst := some 85, op := Go.Op.load 2 (Go.Operand.tmp 84), type := 2, pos := "laws.go:387", after := #[{ on := 29, ground := Go.Ground.data }, { on := 28, ground := Go.Ground.guard }], guard := some (28, true) }) (v := ?vp30_30) rfl (by kernel_rfl) (by kernel_rfl) (by kernel_rfl) (fun _ _ _ h => h) (Or.inl ⟨by rfl, ?hp30_30⟩) hHeld ?rp30_30
        case hp30_30 =>
          intro wS hSw
          obtain ⟨y0, y1, y2, y3, y4, y5, y6, y7, y8⟩ := unhide KEEP _ hSw
          clear hSw
          (try dsimp only at hSw)
          go_simp
          try with_reducible rfl
        case rp30_30 =>
        simp only [Act.put, List.setIfInBounds_toArray, List.set_cons_zero, List.set_cons_succ]
        refine wpAnyH_take (i := 31) (oi := { dst := some 86, op := Go.Op.move (Go.Operand.tmp 9), type := 3, pos := "laws.go:387", after := #[{ on := 28, ground := Go.Ground.guard }], guard := some (28, true) }) (v := ?vp31_31) rfl (by kernel_rfl) (by kernel_rfl) (by kernel_rfl) (fun _ _ _ h => h) (Or.inl ⟨by rfl, ?hp31_31⟩) hHeld ?rp31_31
        case hp31_31 =>
          intro wS hSw
          (try dsimp only at hSw)
          go_simp
          try with_reducible rfl
        case rp31_31 =>
        simp only [Act.put, List.setIfInBounds_toArray, List.set_cons_zero, List.set_cons_succ]
        refine wpAnyH_take (i := 32) (oi := { dst := some 87, op := Go.Op.binOp Go.BinOp.eql 2 (Go.Operand.tmp 85) (Go.Operand.tmp 86) 2, type := 4, pos := "laws.go:387", after := #[{ on := 30, ground := Go.Ground.data }, { on := 31, ground := Go.Ground.data }, { on := 28, ground := Go.Ground.guard }], guard := some (28, true) }) (v := ?vp32_32) rfl (by kernel_rfl) (by kernel_rfl) (by kernel_rfl) (fun _ _ _ h => h) (Or.inl ⟨by rfl, ?hp32_32⟩) hHeld ?rp32_32
        case hp32_32 =>
          intro wS hSw
          (try dsimp only at hSw)
          go_simp
          try with_reducible rfl
        case rp32_32 =>
        simp only [Act.put, List.setIfInBounds_toArray, List.set_cons_zero, List.set_cons_succ]
        refine wpAnyH_take (i := 33) (oi := { dst := some 88, op := Go.Op.pick (Go.Operand.tmp 83) (Go.Operand.tmp 87) (Go.Operand.const (Go.Value.bool false)), type := 4, pos := "laws.go:387", after := #[{ on := 28, ground := Go.Ground.data }, { on := 32, ground := Go.Ground.data }], guard := none }) (v := ?vp33_33) rfl (by kernel_rfl) (by kernel_rfl) (by kernel_rfl) (fun _ _ _ h => h) (Or.inl ⟨by rfl, ?hp33_33⟩) hHeld ?rp33_33
        case hp33_33 =>
          intro wS hSw
          (try dsimp only at hSw)
          go_simp
          try with_reducible rfl
        case rp33_33 =>
        simp only [Act.put, List.setIfInBounds_toArray, List.set_cons_zero, List.set_cons_succ]
        refine wpAnyH_take (i := 34) (oi := { dst := some 89, op := Go.Op.move (Go.Operand.tmp 88), type := 4, pos := "laws.go:387", after := #[{ on := 33, ground := Go.Ground.data }, { on := 28, ground := Go.Ground.chain }], guard := none }) (v := ?vp34_34) rfl (by kernel_rfl) (by kernel_rfl) (by kernel_rfl) (fun _ _ _ h => h) (Or.inl ⟨by rfl, ?hp34_34⟩) hHeld ?rp34_34
        case hp34_34 =>
          intro wS hSw
          (try dsimp only at hSw)
          go_simp
          try with_reducible rfl
        case rp34_34 =>
        simp only [Act.put, List.setIfInBounds_toArray, List.set_cons_zero, List.set_cons_succ]
        refine wpAnyH_take (i := 35) (oi := { dst := some 90, op := Go.Op.fieldAddr 56 (Go.Operand.tmp 5) 2, type := 0, pos := "laws.go:387", after := #[{ on := 34, ground := Go.Ground.guard }], guard := some (34, true) }) (v := ?vp35_35) rfl (by kernel_rfl) (by kernel_rfl) (by kernel_rfl) (fun _ _ _ h => h) (Or.inl ⟨by rfl, ?hp35_35⟩) hHeld ?rp35_35
        case hp35_35 =>
          intro wS hSw
          (try dsimp only at hSw)
          go_simp
          try with_reducible rfl
        case rp35_35 =>
        simp only [Act.put, List.setIfInBounds_toArray, List.set_cons_zero, List.set_cons_succ]
        refine wpAnyH_take (i := 36) (oi := { dst := some 91, op := Go.Op.load 48 (Go.Operand.tmp 90), type := 48, pos := "laws.go:387", after := #[{ on := 35, ground := Go.Ground.data }, { on := 34, ground := Go.Ground.guard }], guard := some (34, true) }) (v := ?vp36_36) rfl (by kernel_rfl) (by kernel_rfl) (by kernel_rfl) (fun _ _ _ h => h) (Or.inl ⟨by rfl, ?hp36_36⟩) hHeld ?rp36_36
        case hp36_36 =>
          intro wS hSw
          obtain ⟨y0, y1, y2, y3, y4, y5, y6, y7, y8⟩ := unhide KEEP _ hSw
          clear hSw
          (try dsimp only at hSw)
          go_simp
          try with_reducible rfl
        case rp36_36 =>
        simp only [Act.put, List.setIfInBounds_toArray, List.set_cons_zero, List.set_cons_succ]
        refine wpAnyH_ready (rs := [37]) (by kernel_rfl) (by simp) ?_
        refine AllReadyH.cons (o := { dst := some 92, op := Go.Op.call { callee := Go.Callee.value (Go.Operand.func 31), args := #[Go.Operand.tmp 91], argTypes := #[48] }, type := 2, pos := "laws.go:387", after := #[{ on := 36, ground := Go.Ground.data }, { on := 34, ground := Go.Ground.chain }, { on := 34, ground := Go.Ground.guard }], guard := some (34, true) }) rfl (fun K hK => ?_) AllReadyH.nil
        go_simp
        go_at_call 31
        refine (unhide LF _ hHeld).mono ?_
        rintro e v2 ⟨rfl, hbw⟩
        try go_wp2_with fail
        refine hK.out _ _ (hHeld.trans (hbw.mono hHeld.size)) (fun hHeld => ?_)
        clear hK K
        try simp only [Act.put, List.setIfInBounds_toArray, List.set_cons_zero, List.set_cons_succ]
        refine wpAnyH_take (i := 38) (oi := { dst := some 93, op := Go.Op.binOp Go.BinOp.eql 2 (Go.Operand.tmp 92) (Go.Operand.const (Go.Value.int Go.IntKind.i64 0)) 2, type := 4, pos := "laws.go:387", after := #[{ on := 37, ground := Go.Ground.data }, { on := 34, ground := Go.Ground.guard }], guard := some (34, true) }) (v := ?vp38_37) rfl (by kernel_rfl) (by kernel_rfl) (by kernel_rfl) (fun _ _ _ h => h) (Or.inl ⟨by rfl, ?hp38_37⟩) hHeld ?rp38_37
        case hp38_37 =>
          intro wS hSw
          (try dsimp only at hSw)
          go_simp
          try with_reducible rfl
        case rp38_37 =>
        simp only [Act.put, List.setIfInBounds_toArray, List.set_cons_zero, List.set_cons_succ]
        refine wpAnyH_take (i := 39) (oi := { dst := some 94, op := Go.Op.pick (Go.Operand.tmp 89) (Go.Operand.tmp 93) (Go.Operand.const (Go.Value.bool false)), type := 4, pos := "laws.go:387", after := #[{ on := 34, ground := Go.Ground.data }, { on := 38, ground := Go.Ground.data }], guard := none }) (v := ?vp39_38) rfl (by kernel_rfl) (by kernel_rfl) (by kernel_rfl) (fun _ _ _ h => h) (Or.inl ⟨by rfl, ?hp39_38⟩) hHeld ?rp39_38
        case hp39_38 =>
          intro wS hSw
          (try dsimp only at hSw)
          go_simp
          try with_reducible rfl
        case rp39_38 =>
        simp only [Act.put, List.setIfInBounds_toArray, List.set_cons_zero, List.set_cons_succ]
        refine wpAnyH_take (i := 40) (oi := { dst := some 95, op := Go.Op.move (Go.Operand.tmp 94), type := 4, pos := "laws.go:387", after := #[{ on := 39, ground := Go.Ground.data }, { on := 37, ground := Go.Ground.chain }], guard := none }) (v := ?vp40_39) rfl (by kernel_rfl) (by kernel_rfl) (by kernel_rfl) (fun _ _ _ h => h) (Or.inl ⟨by rfl, ?hp40_39⟩) hHeld ?rp40_39
        case hp40_39 =>
          intro wS hSw
          (try dsimp only at hSw)
          go_simp
          try with_reducible rfl
        case rp40_39 =>
        simp only [Act.put, List.setIfInBounds_toArray, List.set_cons_zero, List.set_cons_succ]
        refine wpAnyH_take (i := 41) (oi := { dst := some 96, op := Go.Op.fieldAddr 56 (Go.Operand.tmp 10) 1, type := 0, pos := "laws.go:387", after := #[{ on := 40, ground := Go.Ground.guard }], guard := some (40, true) }) (v := ?vp41_40) rfl (by kernel_rfl) (by kernel_rfl) (by kernel_rfl) (fun _ _ _ h => h) (Or.inl ⟨by rfl, ?hp41_40⟩) hHeld ?rp41_40
        case hp41_40 =>
          intro wS hSw
          (try dsimp only at hSw)
          go_simp
          try with_reducible rfl
        case rp41_40 =>
        simp only [Act.put, List.setIfInBounds_toArray, List.set_cons_zero, List.set_cons_succ]
        refine wpAnyH_take (i := 42) (oi := { dst := some 97, op := Go.Op.load 2 (Go.Operand.tmp 96), type := 2, pos := "laws.go:387", after := #[{ on := 41, ground := Go.Ground.data }, { on := 40, ground := Go.Ground.guard }], guard := some (40, true) }) (v := ?vp42_41) rfl (by kernel_rfl) (by kernel_rfl) (by kernel_rfl) (fun _ _ _ h => h) (Or.inl ⟨by rfl, ?hp42_41⟩) hHeld ?rp42_41
        case hp42_41 =>
          intro wS hSw
          obtain ⟨y0, y1, y2, y3, y4, y5, y6, y7, y8⟩ := unhide KEEP _ hSw
          clear hSw
          (try dsimp only at hSw)
          go_simp
          try with_reducible rfl
        case rp42_41 =>
        simp only [Act.put, List.setIfInBounds_toArray, List.set_cons_zero, List.set_cons_succ]
        refine wpAnyH_take (i := 43) (oi := { dst := some 98, op := Go.Op.fieldAddr 36 (Go.Operand.tmp 7) 1, type := 0, pos := "laws.go:387", after := #[{ on := 40, ground := Go.Ground.guard }], guard := some (40, true) }) (v := ?vp43_42) rfl (by kernel_rfl) (by kernel_rfl) (by kernel_rfl) (fun _ _ _ h => h) (Or.inl ⟨by rfl, ?hp43_42⟩) hHeld ?rp43_42
        case hp43_42 =>
          intro wS hSw
          (try dsimp only at hSw)
          go_simp
          try with_reducible rfl
        case rp43_42 =>
        simp only [Act.put, List.setIfInBounds_toArray, List.set_cons_zero, List.set_cons_succ]
        refine wpAnyH_take (i := 44) (oi := { dst := some 99, op := Go.Op.load 28 (Go.Operand.tmp 98), type := 28, pos := "laws.go:387", after := #[{ on := 43, ground := Go.Ground.data }, { on := 40, ground := Go.Ground.guard }], guard := some (40, true) }) (v := ?vp44_43) rfl (by kernel_rfl) (by kernel_rfl) (by kernel_rfl) (fun _ _ _ h => h) (Or.inl ⟨by rfl, ?hp44_43⟩) hHeld ?rp44_43
        case hp44_43 =>
          intro wS hSw
          obtain ⟨y0, y1, y2, y3, y4, y5, y6, y7, y8⟩ := unhide KEEP _ hSw
          clear hSw
          (try dsimp only at hSw)
          go_simp
          try with_reducible rfl
        case rp44_43 =>
        simp only [Act.put, List.setIfInBounds_toArray, List.set_cons_zero, List.set_cons_succ]
        refine wpAnyH_take (i := 45) (oi := { dst := some 100, op := Go.Op.call { callee := Go.Callee.builtin Go.Builtin.len, args := #[Go.Operand.tmp 99], argTypes := #[28] }, type := 3, pos := "laws.go:387", after := #[{ on := 44, ground := Go.Ground.data }, { on := 40, ground := Go.Ground.guard }], guard := some (40, true) }) (v := ?vp45_44) rfl (by kernel_rfl) (by kernel_rfl) (by kernel_rfl) (fun _ _ _ h => h) (Or.inl ⟨by rfl, ?hp45_44⟩) hHeld ?rp45_44
        case hp45_44 =>
          intro wS hSw
          (try dsimp only at hSw)
          go_simp
          try with_reducible rfl
        case rp45_44 =>
        simp only [Act.put, List.setIfInBounds_toArray, List.set_cons_zero, List.set_cons_succ]
        refine wpAnyH_take (i := 46) (oi := { dst := some 101, op := Go.Op.binOp Go.BinOp.eql 2 (Go.Operand.tmp 97) (Go.Operand.tmp 100) 2, type := 4, pos := "laws.go:387", after := #[{ on := 42, ground := Go.Ground.data }, { on := 45, ground := Go.Ground.data }, { on := 40, ground := Go.Ground.guard }], guard := some (40, true) }) (v := ?vp46_45) rfl (by kernel_rfl) (by kernel_rfl) (by kernel_rfl) (fun _ _ _ h => h) (Or.inl ⟨by rfl, ?hp46_45⟩) hHeld ?rp46_45
        case hp46_45 =>
          intro wS hSw
          (try dsimp only at hSw)
          go_simp
          try with_reducible rfl
        case rp46_45 =>
        simp only [Act.put, List.setIfInBounds_toArray, List.set_cons_zero, List.set_cons_succ]
        refine wpAnyH_take (i := 47) (oi := { dst := some 102, op := Go.Op.pick (Go.Operand.tmp 95) (Go.Operand.tmp 101) (Go.Operand.const (Go.Value.bool false)), type := 4, pos := "laws.go:387", after := #[{ on := 40, ground := Go.Ground.data }, { on := 46, ground := Go.Ground.data }], guard := none }) (v := ?vp47_46) rfl (by kernel_rfl) (by kernel_rfl) (by kernel_rfl) (fun _ _ _ h => h) (Or.inl ⟨by rfl, ?hp47_46⟩) hHeld ?rp47_46
        case hp47_46 =>
          intro wS hSw
          (try dsimp only at hSw)
          go_simp
          try with_reducible rfl
        case rp47_46 =>
        simp only [Act.put, List.setIfInBounds_toArray, List.set_cons_zero, List.set_cons_succ]
        refine wpAnyH_take (i := 48) (oi := { dst := some 103, op := Go.Op.move (Go.Operand.tmp 102), type := 4, pos := "laws.go:387", after := #[{ on := 47, ground := Go.Ground.data }, { on := 40, ground := Go.Ground.chain }], guard := none }) (v := ?vp48_47) rfl (by kernel_rfl) (by kernel_rfl) (by kernel_rfl) (fun _ _ _ h => h) (Or.inl ⟨by rfl, ?hp48_47⟩) hHeld ?rp48_47
        case hp48_47 =>
          intro wS hSw
          (try dsimp only at hSw)
          go_simp
          try with_reducible rfl
        case rp48_47 =>
        simp only [Act.put, List.setIfInBounds_toArray, List.set_cons_zero, List.set_cons_succ]
        refine wpAnyH_take (i := 49) (oi := { dst := some 104, op := Go.Op.fieldAddr 56 (Go.Operand.tmp 11) 0, type := 0, pos := "laws.go:387", after := #[{ on := 48, ground := Go.Ground.guard }], guard := some (48, true) }) (v := ?vp49_48) rfl (by kernel_rfl) (by kernel_rfl) (by kernel_rfl) (fun _ _ _ h => h) (Or.inl ⟨by rfl, ?hp49_48⟩) hHeld ?rp49_48
        case hp49_48 =>
          intro wS hSw
          (try dsimp only at hSw)
          go_simp
          try with_reducible rfl
        case rp49_48 =>
        simp only [Act.put, List.setIfInBounds_toArray, List.set_cons_zero, List.set_cons_succ]
        refine wpAnyH_take (i := 50) (oi := { dst := some 105, op := Go.Op.load 2 (Go.Operand.tmp 104), type := 2, pos := "laws.go:387", after := #[{ on := 49, ground := Go.Ground.data }, { on := 48, ground := Go.Ground.guard }], guard := some (48, true) }) (v := ?vp50_49) rfl (by kernel_rfl) (by kernel_rfl) (by kernel_rfl) (fun _ _ _ h => h) (Or.inl ⟨by rfl, ?hp50_49⟩) hHeld ?rp50_49
        case hp50_49 =>
          intro wS hSw
          obtain ⟨y0, y1, y2, y3, y4, y5, y6, y7, y8⟩ := unhide KEEP _ hSw
          clear hSw
          (try dsimp only at hSw)
          go_simp
          try with_reducible rfl
        case rp50_49 =>
        simp only [Act.put, List.setIfInBounds_toArray, List.set_cons_zero, List.set_cons_succ]
        refine wpAnyH_take (i := 51) (oi := { dst := some 106, op := Go.Op.binOp Go.BinOp.eql 2 (Go.Operand.tmp 105) (Go.Operand.const (Go.Value.int Go.IntKind.i64 2)) 2, type := 4, pos := "laws.go:387", after := #[{ on := 50, ground := Go.Ground.data }, { on := 48, ground := Go.Ground.guard }], guard := some (48, true) }) (v := ?vp51_50) rfl (by kernel_rfl) (by kernel_rfl) (by kernel_rfl) (fun _ _ _ h => h) (Or.inl ⟨by rfl, ?hp51_50⟩) hHeld ?rp51_50
        case hp51_50 =>
          intro wS hSw
          (try dsimp only at hSw)
          go_simp
          try with_reducible rfl
        case rp51_50 =>
        simp only [Act.put, List.setIfInBounds_toArray, List.set_cons_zero, List.set_cons_succ]
        refine wpAnyH_take (i := 52) (oi := { dst := some 107, op := Go.Op.move (Go.Operand.tmp 106), type := 4, pos := "laws.go:387", after := #[{ on := 51, ground := Go.Ground.data }, { on := 48, ground := Go.Ground.chain }, { on := 48, ground := Go.Ground.guard }], guard := some (48, true) }) (v := ?vp52_51) rfl (by kernel_rfl) (by kernel_rfl) (by kernel_rfl) (fun _ _ _ h => h) (Or.inl ⟨by rfl, ?hp52_51⟩) hHeld ?rp52_51
        case hp52_51 =>
          intro wS hSw
          (try dsimp only at hSw)
          go_simp
          try with_reducible rfl
        case rp52_51 =>
        simp only [Act.put, List.setIfInBounds_toArray, List.set_cons_zero, List.set_cons_succ]
        refine wpAnyH_take (i := 53) (oi := { dst := some 108, op := Go.Op.fieldAddr 56 (Go.Operand.tmp 11) 1, type := 0, pos := "laws.go:387", after := #[{ on := 52, ground := Go.Ground.guard }], guard := some (52, false) }) (v := undef) rfl (by kernel_rfl) (by kernel_rfl) (by kernel_rfl) (fun _ _ _ h => h) (Or.inr ⟨by rfl, rfl⟩) hHeld ?_
        simp only [Act.put, List.setIfInBounds_toArray, List.set_cons_zero, List.set_cons_succ]
        refine wpAnyH_take (i := 54) (oi := { dst := some 109, op := Go.Op.load 2 (Go.Operand.tmp 108), type := 2, pos := "laws.go:387", after := #[{ on := 53, ground := Go.Ground.data }, { on := 52, ground := Go.Ground.guard }], guard := some (52, false) }) (v := undef) rfl (by kernel_rfl) (by kernel_rfl) (by kernel_rfl) (fun _ _ _ h => h) (Or.inr ⟨by rfl, rfl⟩) hHeld ?_
        simp only [Act.put, List.setIfInBounds_toArray, List.set_cons_zero, List.set_cons_succ]
        refine wpAnyH_take (i := 55) (oi := { dst := some 110, op := Go.Op.fieldAddr 56 (Go.Operand.tmp 10) 1, type := 0, pos := "laws.go:387", after := #[{ on := 52, ground := Go.Ground.guard }], guard := some (52, false) }) (v := undef) rfl (by kernel_rfl) (by kernel_rfl) (by kernel_rfl) (fun _ _ _ h => h) (Or.inr ⟨by rfl, rfl⟩) hHeld ?_
        simp only [Act.put, List.setIfInBounds_toArray, List.set_cons_zero, List.set_cons_succ]
        refine wpAnyH_take (i := 56) (oi := { dst := some 111, op := Go.Op.load 2 (Go.Operand.tmp 110), type := 2, pos := "laws.go:387", after := #[{ on := 55, ground := Go.Ground.data }, { on := 52, ground := Go.Ground.guard }], guard := some (52, false) }) (v := undef) rfl (by kernel_rfl) (by kernel_rfl) (by kernel_rfl) (fun _ _ _ h => h) (Or.inr ⟨by rfl, rfl⟩) hHeld ?_
        simp only [Act.put, List.setIfInBounds_toArray, List.set_cons_zero, List.set_cons_succ]
        refine wpAnyH_take (i := 57) (oi := { dst := some 112, op := Go.Op.binOp Go.BinOp.add 2 (Go.Operand.tmp 111) (Go.Operand.const (Go.Value.int Go.IntKind.i64 1)) 2, type := 2, pos := "laws.go:387", after := #[{ on := 56, ground := Go.Ground.data }, { on := 52, ground := Go.Ground.guard }], guard := some (52, false) }) (v := undef) rfl (by kernel_rfl) (by kernel_rfl) (by kernel_rfl) (fun _ _ _ h => h) (Or.inr ⟨by rfl, rfl⟩) hHeld ?_
        simp only [Act.put, List.setIfInBounds_toArray, List.set_cons_zero, List.set_cons_succ]
        refine wpAnyH_take (i := 58) (oi := { dst := some 113, op := Go.Op.binOp Go.BinOp.eql 2 (Go.Operand.tmp 109) (Go.Operand.tmp 112) 2, type := 4, pos := "laws.go:387", after := #[{ on := 54, ground := Go.Ground.data }, { on := 57, ground := Go.Ground.data }, { on := 52, ground := Go.Ground.guard }], guard := some (52, false) }) (v := undef) rfl (by kernel_rfl) (by kernel_rfl) (by kernel_rfl) (fun _ _ _ h => h) (Or.inr ⟨by rfl, rfl⟩) hHeld ?_
        simp only [Act.put, List.setIfInBounds_toArray, List.set_cons_zero, List.set_cons_succ]
        refine wpAnyH_take (i := 59) (oi := { dst := some 114, op := Go.Op.pick (Go.Operand.tmp 107) (Go.Operand.const (Go.Value.bool true)) (Go.Operand.tmp 113), type := 4, pos := "laws.go:387", after := #[{ on := 52, ground := Go.Ground.data }, { on := 58, ground := Go.Ground.data }, { on := 48, ground := Go.Ground.guard }], guard := some (48, true) }) (v := ?vp59_58) rfl (by kernel_rfl) (by kernel_rfl) (by kernel_rfl) (fun _ _ _ h => h) (Or.inl ⟨by rfl, ?hp59_58⟩) hHeld ?rp59_58
        case hp59_58 =>
          intro wS hSw
          (try dsimp only at hSw)
          go_simp
          try with_reducible rfl
        case rp59_58 =>
        simp only [Act.put, List.setIfInBounds_toArray, List.set_cons_zero, List.set_cons_succ]
        refine wpAnyH_take (i := 60) (oi := { dst := some 115, op := Go.Op.pick (Go.Operand.tmp 103) (Go.Operand.tmp 114) (Go.Operand.const (Go.Value.bool false)), type := 4, pos := "laws.go:387", after := #[{ on := 48, ground := Go.Ground.data }, { on := 59, ground := Go.Ground.data }], guard := none }) (v := ?vp60_59) rfl (by kernel_rfl) (by kernel_rfl) (by kernel_rfl) (fun _ _ _ h => h) (Or.inl ⟨by rfl, ?hp60_59⟩) hHeld ?rp60_59
        case hp60_59 =>
          intro wS hSw
          (try dsimp only at hSw)
          go_simp
          try with_reducible rfl
        case rp60_59 =>
        simp only [Act.put, List.setIfInBounds_toArray, List.set_cons_zero, List.set_cons_succ]
        refine wpAnyH_take (i := 61) (oi := { dst := some 2, op := Go.Op.assign (Go.Operand.tmp 115), type := 4, pos := "laws.go:387", after := #[{ on := 60, ground := Go.Ground.data }, { on := 52, ground := Go.Ground.chain }, { on := 0, ground := Go.Ground.phase }, { on := 1, ground := Go.Ground.phase }, { on := 2, ground := Go.Ground.phase }, { on := 3, ground := Go.Ground.phase }, { on := 4, ground := Go.Ground.phase }, { on := 5, ground := Go.Ground.phase }, { on := 6, ground := Go.Ground.phase }, { on := 7, ground := Go.Ground.phase }, { on := 8, ground := Go.Ground.phase }, { on := 9, ground := Go.Ground.phase }, { on := 10, ground := Go.Ground.phase }, { on := 11, ground := Go.Ground.phase }, { on := 12, ground := Go.Ground.phase }, { on := 13, ground := Go.Ground.phase }, { on := 14, ground := Go.Ground.phase }, { on := 15, ground := Go.Ground.phase }, { on := 16, ground := Go.Ground.phase }, { on := 17, ground := Go.Ground.phase }, { on := 18, ground := Go.Ground.phase }, { on := 19, ground := Go.Ground.phase }, { on := 20, ground := Go.Ground.phase }, { on := 21, ground := Go.Ground.phase }, { on := 22, ground := Go.Ground.phase }, { on := 23, ground := Go.Ground.phase }, { on := 24, ground := Go.Ground.phase }, { on := 25, ground := Go.Ground.phase }, { on := 26, ground := Go.Ground.phase }, { on := 27, ground := Go.Ground.phase }, { on := 28, ground := Go.Ground.phase }, { on := 29, ground := Go.Ground.phase }, { on := 30, ground := Go.Ground.phase }, { on := 31, ground := Go.Ground.phase }, { on := 32, ground := Go.Ground.phase }, { on := 33, ground := Go.Ground.phase }, { on := 34, ground := Go.Ground.phase }, { on := 35, ground := Go.Ground.phase }, { on := 36, ground := Go.Ground.phase }, { on := 37, ground := Go.Ground.phase }, { on := 38, ground := Go.Ground.phase }, { on := 39, ground := Go.Ground.phase }, { on := 40, ground := Go.Ground.phase }, { on := 41, ground := Go.Ground.phase }, { on := 42, ground := Go.Ground.phase }, { on := 43, ground := Go.Ground.phase }, { on := 44, ground := Go.Ground.phase }, { on := 45, ground := Go.Ground.phase }, { on := 46, ground := Go.Ground.phase }, { on := 47, ground := Go.Ground.phase }, { on := 48, ground := Go.Ground.phase }, { on := 49, ground := Go.Ground.phase }, { on := 50, ground := Go.Ground.phase }, { on := 51, ground := Go.Ground.phase }, { on := 52, ground := Go.Ground.phase }, { on := 53, ground := Go.Ground.phase }, { on := 54, ground := Go.Ground.phase }, { on := 55, ground := Go.Ground.phase }, { on := 56, ground := Go.Ground.phase }, { on := 57, ground := Go.Ground.phase }, { on := 58, ground := Go.Ground.phase }, { on := 59, ground := Go.Ground.phase }, { on := 60, ground := Go.Ground.phase }], guard := none }) (v := ?vp61_60) rfl (by kernel_rfl) (by kernel_rfl) (by kernel_rfl) (fun _ _ _ h => h) (Or.inl ⟨by rfl, ?hp61_60⟩) hHeld ?rp61_60
        case hp61_60 =>
          intro wS hSw
          (try dsimp only at hSw)
          go_simp
          try with_reducible rfl
        case rp61_60 =>
        simp only [Act.put, List.setIfInBounds_toArray, List.set_cons_zero, List.set_cons_succ]
        refine wpAnyH_done (by kernel_rfl) ?_ _
        refine NoPanic.normal ?_
        have HB9 := hide ((unhide HB).trans (hHeld.mono (unhide HB).size))
        clear hHeld
        go_wp2_with fail
        go_ret
        exact ⟨rfl, unhide HB9⟩
      · clear HCC
        have f0 : ((0 : Int) == 2) = false := by decide
        have f1 : ((AW.length : Int) + 1 == (AW.length : Int) + 1) = true := by simp
        refine wp_region_noPanic ?_
        refine wp_region_held_drew (S := fun w' => Below wz.heap.size wz w') (by kernel_rfl) (Below.refl _ _).drew (fun hHeld => ?_)
        generalize wz.drew = wD at hHeld ⊢
        refine wpAnyH_take (i := 0) (oi := { dst := some 55, op := Go.Op.move (Go.Operand.tmp 9), type := 3, pos := "laws.go:387", after := #[], guard := none }) (v := ?vq0_1) rfl (by kernel_rfl) (by kernel_rfl) (by kernel_rfl) (fun _ _ _ h => h) (Or.inl ⟨by rfl, ?hq0_1⟩) hHeld ?rq0_1
        case hq0_1 =>
          intro wS hSw
          (try dsimp only at hSw)
          go_simp
          try with_reducible rfl
        case rq0_1 =>
        simp only [Act.put, List.setIfInBounds_toArray, List.set_cons_zero, List.set_cons_succ]
        refine wpAnyH_take (i := 1) (oi := { dst := some 56, op := Go.Op.fieldAddr 36 (Go.Operand.tmp 6) 1, type := 0, pos := "laws.go:387", after := #[], guard := none }) (v := ?vq1_2) rfl (by kernel_rfl) (by kernel_rfl) (by kernel_rfl) (fun _ _ _ h => h) (Or.inl ⟨by rfl, ?hq1_2⟩) hHeld ?rq1_2
        case hq1_2 =>
          intro wS hSw
          (try dsimp only at hSw)
          go_simp
          try with_reducible rfl
        case rq1_2 =>
        simp only [Act.put, List.setIfInBounds_toArray, List.set_cons_zero, List.set_cons_succ]
        refine wpAnyH_take (i := 2) (oi := { dst := some 57, op := Go.Op.load 28 (Go.Operand.tmp 56), type := 28, pos := "laws.go:387", after := #[{ on := 1, ground := Go.Ground.data }], guard := none }) (v := ?vq2_3) rfl (by kernel_rfl) (by kernel_rfl) (by kernel_rfl) (fun _ _ _ h => h) (Or.inl ⟨by rfl, ?hq2_3⟩) hHeld ?rq2_3
        case hq2_3 =>
          intro wS hSw
          obtain ⟨y0, y1, y2, y3, y4, y5, y6, y7, y8⟩ := unhide KEEP _ hSw
          clear hSw
          (try dsimp only at hSw)
          go_simp
          try with_reducible rfl
        case rq2_3 =>
        simp only [Act.put, List.setIfInBounds_toArray, List.set_cons_zero, List.set_cons_succ]
        refine wpAnyH_take (i := 3) (oi := { dst := some 58, op := Go.Op.call { callee := Go.Callee.builtin Go.Builtin.len, args := #[Go.Operand.tmp 57], argTypes := #[28] }, type := 3, pos := "laws.go:387", after := #[{ on := 2, ground := Go.Ground.data }], guard := none }) (v := ?vq3_4) rfl (by kernel_rfl) (by kernel_rfl) (by kernel_rfl) (fun _ _ _ h => h) (Or.inl ⟨by rfl, ?hq3_4⟩) hHeld ?rq3_4
        case hq3_4 =>
          intro wS hSw
          (try dsimp only at hSw)
          go_simp
          try with_reducible rfl
        case rq3_4 =>
        simp only [Act.put, List.setIfInBounds_toArray, List.set_cons_zero, List.set_cons_succ]
        refine wpAnyH_take (i := 4) (oi := { dst := some 59, op := Go.Op.binOp Go.BinOp.geq 3 (Go.Operand.tmp 55) (Go.Operand.tmp 58) 3, type := 4, pos := "laws.go:387", after := #[{ on := 0, ground := Go.Ground.data }, { on := 3, ground := Go.Ground.data }], guard := none }) (v := ?vq4_5) rfl (by kernel_rfl) (by kernel_rfl) (by kernel_rfl) (fun _ _ _ h => h) (Or.inl ⟨by rfl, ?hq4_5⟩) hHeld ?rq4_5
        case hq4_5 =>
          intro wS hSw
          (try dsimp only at hSw)
          go_simp
          try with_reducible rfl
        case rq4_5 =>
        simp only [Act.put, List.setIfInBounds_toArray, List.set_cons_zero, List.set_cons_succ]
        refine wpAnyH_take (i := 5) (oi := { dst := some 60, op := Go.Op.move (Go.Operand.tmp 59), type := 4, pos := "laws.go:387", after := #[{ on := 4, ground := Go.Ground.data }], guard := none }) (v := ?vq5_6) rfl (by kernel_rfl) (by kernel_rfl) (by kernel_rfl) (fun _ _ _ h => h) (Or.inl ⟨by rfl, ?hq5_6⟩) hHeld ?rq5_6
        case hq5_6 =>
          intro wS hSw
          (try dsimp only at hSw)
          go_simp
          try with_reducible rfl
        case rq5_6 =>
        simp only [Act.put, List.setIfInBounds_toArray, List.set_cons_zero, List.set_cons_succ]
        refine wpAnyH_take (i := 6) (oi := { dst := some 61, op := Go.Op.move (Go.Operand.tmp 9), type := 3, pos := "laws.go:387", after := #[{ on := 5, ground := Go.Ground.guard }], guard := some (5, true) }) (v := ?vq6_7) rfl (by kernel_rfl) (by kernel_rfl) (by kernel_rfl) (fun _ _ _ h => h) (Or.inl ⟨by rfl, ?hq6_7⟩) hHeld ?rq6_7
        case hq6_7 =>
          intro wS hSw
          (try dsimp only at hSw)
          go_simp
          try with_reducible rfl
        case rq6_7 =>
        simp only [Act.put, List.setIfInBounds_toArray, List.set_cons_zero, List.set_cons_succ]
        refine wpAnyH_take (i := 7) (oi := { dst := some 62, op := Go.Op.fieldAddr 36 (Go.Operand.tmp 7) 1, type := 0, pos := "laws.go:387", after := #[{ on := 5, ground := Go.Ground.guard }], guard := some (5, true) }) (v := ?vq7_8) rfl (by kernel_rfl) (by kernel_rfl) (by kernel_rfl) (fun _ _ _ h => h) (Or.inl ⟨by rfl, ?hq7_8⟩) hHeld ?rq7_8
        case hq7_8 =>
          intro wS hSw
          (try dsimp only at hSw)
          go_simp
          try with_reducible rfl
        case rq7_8 =>
        simp only [Act.put, List.setIfInBounds_toArray, List.set_cons_zero, List.set_cons_succ]
        refine wpAnyH_take (i := 8) (oi := { dst := some 63, op := Go.Op.load 28 (Go.Operand.tmp 62), type := 28, pos := "laws.go:387", after := #[{ on := 7, ground := Go.Ground.data }, { on := 5, ground := Go.Ground.guard }], guard := some (5, true) }) (v := ?vq8_9) rfl (by kernel_rfl) (by kernel_rfl) (by kernel_rfl) (fun _ _ _ h => h) (Or.inl ⟨by rfl, ?hq8_9⟩) hHeld ?rq8_9
        case hq8_9 =>
          intro wS hSw
          obtain ⟨y0, y1, y2, y3, y4, y5, y6, y7, y8⟩ := unhide KEEP _ hSw
          clear hSw
          (try dsimp only at hSw)
          go_simp
          try with_reducible rfl
        case rq8_9 =>
        simp only [Act.put, List.setIfInBounds_toArray, List.set_cons_zero, List.set_cons_succ]
        refine wpAnyH_take (i := 9) (oi := { dst := some 64, op := Go.Op.call { callee := Go.Callee.builtin Go.Builtin.len, args := #[Go.Operand.tmp 63], argTypes := #[28] }, type := 3, pos := "laws.go:387", after := #[{ on := 8, ground := Go.Ground.data }, { on := 5, ground := Go.Ground.guard }], guard := some (5, true) }) (v := ?vq9_10) rfl (by kernel_rfl) (by kernel_rfl) (by kernel_rfl) (fun _ _ _ h => h) (Or.inl ⟨by rfl, ?hq9_10⟩) hHeld ?rq9_10
        case hq9_10 =>
          intro wS hSw
          (try dsimp only at hSw)
          go_simp
          try with_reducible rfl
        case rq9_10 =>
        simp only [Act.put, List.setIfInBounds_toArray, List.set_cons_zero, List.set_cons_succ]
        refine wpAnyH_take (i := 10) (oi := { dst := some 65, op := Go.Op.binOp Go.BinOp.leq 3 (Go.Operand.tmp 61) (Go.Operand.tmp 64) 3, type := 4, pos := "laws.go:387", after := #[{ on := 6, ground := Go.Ground.data }, { on := 9, ground := Go.Ground.data }, { on := 5, ground := Go.Ground.guard }], guard := some (5, true) }) (v := ?vq10_11) rfl (by kernel_rfl) (by kernel_rfl) (by kernel_rfl) (fun _ _ _ h => h) (Or.inl ⟨by rfl, ?hq10_11⟩) hHeld ?rq10_11
        case hq10_11 =>
          intro wS hSw
          (try dsimp only at hSw)
          go_simp
          try with_reducible rfl
        case rq10_11 =>
        simp only [Act.put, List.setIfInBounds_toArray, List.set_cons_zero, List.set_cons_succ]
        refine wpAnyH_take (i := 11) (oi := { dst := some 66, op := Go.Op.pick (Go.Operand.tmp 60) (Go.Operand.tmp 65) (Go.Operand.const (Go.Value.bool false)), type := 4, pos := "laws.go:387", after := #[{ on := 5, ground := Go.Ground.data }, { on := 10, ground := Go.Ground.data }], guard := none }) (v := ?vq11_12) rfl (by kernel_rfl) (by kernel_rfl) (by kernel_rfl) (fun _ _ _ h => h) (Or.inl ⟨by rfl, ?hq11_12⟩) hHeld ?rq11_12
        case hq11_12 =>
          intro wS hSw
          (try dsimp only at hSw)
          go_simp
          try with_reducible rfl
        case rq11_12 =>
        simp only [Act.put, List.setIfInBounds_toArray, List.set_cons_zero, List.set_cons_succ]
        refine wpAnyH_take (i := 12) (oi := { dst := some 67, op := Go.Op.move (Go.Operand.tmp 66), type := 4, pos := "laws.go:387", after := #[{ on := 11, ground := Go.Ground.data }, { on := 5, ground := Go.Ground.chain }], guard := none }) (v := ?vq12_13) rfl (by kernel_rfl) (by kernel_rfl) (by kernel_rfl) (fun _ _ _ h => h) (Or.inl ⟨by rfl, ?hq12_13⟩) hHeld ?rq12_13
        case hq12_13 =>
          intro wS hSw
          (try dsimp only at hSw)
          go_simp
          try with_reducible rfl
        case rq12_13 =>
        simp only [Act.put, List.setIfInBounds_toArray, List.set_cons_zero, List.set_cons_succ]
        refine wpAnyH_take (i := 13) (oi := { dst := some 68, op := Go.Op.fieldAddr 36 (Go.Operand.tmp 8) 1, type := 0, pos := "laws.go:387", after := #[{ on := 12, ground := Go.Ground.guard }], guard := some (12, true) }) (v := ?vq13_14) rfl (by kernel_rfl) (by kernel_rfl) (by kernel_rfl) (fun _ _ _ h => h) (Or.inl ⟨by rfl, ?hq13_14⟩) hHeld ?rq13_14
        case hq13_14 =>
          intro wS hSw
          (try dsimp only at hSw)
          go_simp
          try with_reducible rfl
        case rq13_14 =>
        simp only [Act.put, List.setIfInBounds_toArray, List.set_cons_zero, List.set_cons_succ]
        refine wpAnyH_take (i := 14) (oi := { dst := some 69, op := Go.Op.load 28 (Go.Operand.tmp 68), type := 28, pos := "laws.go:387", after := #[{ on := 13, ground := Go.Ground.data }, { on := 12, ground := Go.Ground.guard }], guard := some (12, true) }) (v := ?vq14_15) rfl (by kernel_rfl) (by kernel_rfl) (by kernel_rfl) (fun _ _ _ h => h) (Or.inl ⟨by rfl, ?hq14_15⟩) hHeld ?rq14_15
        case hq14_15 =>
          intro wS hSw
          obtain ⟨y0, y1, y2, y3, y4, y5, y6, y7, y8⟩ := unhide KEEP _ hSw
          clear hSw
          (try dsimp only at hSw)
          go_simp
          try with_reducible rfl
        case rq14_15 =>
        simp only [Act.put, List.setIfInBounds_toArray, List.set_cons_zero, List.set_cons_succ]
        refine wpAnyH_take (i := 15) (oi := { dst := some 70, op := Go.Op.fieldAddr 36 (Go.Operand.tmp 7) 1, type := 0, pos := "laws.go:387", after := #[{ on := 12, ground := Go.Ground.guard }], guard := some (12, true) }) (v := ?vq15_16) rfl (by kernel_rfl) (by kernel_rfl) (by kernel_rfl) (fun _ _ _ h => h) (Or.inl ⟨by rfl, ?hq15_16⟩) hHeld ?rq15_16
        case hq15_16 =>
          intro wS hSw
          (try dsimp only at hSw)
          go_simp
          try with_reducible rfl
        case rq15_16 =>
        simp only [Act.put, List.setIfInBounds_toArray, List.set_cons_zero, List.set_cons_succ]
        refine wpAnyH_take (i := 16) (oi := { dst := some 71, op := Go.Op.load 28 (Go.Operand.tmp 70), type := 28, pos := "laws.go:387", after := #[{ on := 15, ground := Go.Ground.data }, { on := 12, ground := Go.Ground.guard }], guard := some (12, true) }) (v := ?vq16_17) rfl (by kernel_rfl) (by kernel_rfl) (by kernel_rfl) (fun _ _ _ h => h) (Or.inl ⟨by rfl, ?hq16_17⟩) hHeld ?rq16_17
        case hq16_17 =>
          intro wS hSw
          obtain ⟨y0, y1, y2, y3, y4, y5, y6, y7, y8⟩ := unhide KEEP _ hSw
          clear hSw
          (try dsimp only at hSw)
          go_simp
          try with_reducible rfl
        case rq16_17 =>
        simp only [Act.put, List.setIfInBounds_toArray, List.set_cons_zero, List.set_cons_succ]
        refine wpAnyH_take (i := 17) (oi := { dst := some 72, op := Go.Op.move (Go.Operand.tmp 9), type := 3, pos := "laws.go:387", after := #[{ on := 12, ground := Go.Ground.guard }], guard := some (12, true) }) (v := ?vq17_18) rfl (by kernel_rfl) (by kernel_rfl) (by kernel_rfl) (fun _ _ _ h => h) (Or.inl ⟨by rfl, ?hq17_18⟩) hHeld ?rq17_18
        case hq17_18 =>
          intro wS hSw
          (try dsimp only at hSw)
          go_simp
          try with_reducible rfl
        case rq17_18 =>
        simp only [Act.put, List.setIfInBounds_toArray, List.set_cons_zero, List.set_cons_succ]
        refine wpAnyH_take (i := 18) (oi := { dst := some 73, op := Go.Op.slice 28 (Go.Operand.tmp 71) none (some (Go.Operand.tmp 72)) none, type := 28, pos := "laws.go:387", after := #[{ on := 16, ground := Go.Ground.data }, { on := 17, ground := Go.Ground.data }, { on := 12, ground := Go.Ground.guard }], guard := some (12, true) }) (v := ?vq18_19) rfl (by kernel_rfl) (by kernel_rfl) (by kernel_rfl) (fun _ _ _ h => h) (Or.inl ⟨by rfl, ?hq18_19⟩) hHeld ?rq18_19
        case hq18_19 =>
          intro wS hSw
          clear hSw
          have j0 : NW.length ≤ d4 := i0
          (try dsimp only at hSw)
          go_simp
          try with_reducible rfl
        case rq18_19 =>
        simp only [Act.put, List.setIfInBounds_toArray, List.set_cons_zero, List.set_cons_succ]
        refine wpAnyH_ready (rs := [19]) (by kernel_rfl) (by simp) ?_
        refine AllReadyH.cons (o := { dst := some 74, op := Go.Op.call { callee := Go.Callee.value (Go.Operand.func 51), args := #[Go.Operand.tmp 69, Go.Operand.tmp 73], argTypes := #[28, 28] }, type := 4, pos := "laws.go:387", after := #[{ on := 14, ground := Go.Ground.data }, { on := 18, ground := Go.Ground.data }, { on := 12, ground := Go.Ground.chain }, { on := 12, ground := Go.Ground.guard }], guard := some (12, true) }) rfl (fun K hK => ?_) AllReadyH.nil
        go_simp
        go_at_call 51
        refine (unhide LS _ hHeld).mono ?_
        rintro e v1 ⟨rfl, hbw⟩
        try go_wp2_with fail
        refine hK.out _ _ (hHeld.trans (hbw.mono hHeld.size)) (fun hHeld => ?_)
        clear hK K
        try simp only [Act.put, List.setIfInBounds_toArray, List.set_cons_zero, List.set_cons_succ]
        refine wpAnyH_take (i := 20) (oi := { dst := some 75, op := Go.Op.pick (Go.Operand.tmp 67) (Go.Operand.tmp 74) (Go.Operand.const (Go.Value.bool false)), type := 4, pos := "laws.go:387", after := #[{ on := 12, ground := Go.Ground.data }, { on := 19, ground := Go.Ground.data }], guard := none }) (v := ?vq20_20) rfl (by kernel_rfl) (by kernel_rfl) (by kernel_rfl) (fun _ _ _ h => h) (Or.inl ⟨by rfl, ?hq20_20⟩) hHeld ?rq20_20
        case hq20_20 =>
          intro wS hSw
          (try dsimp only at hSw)
          go_simp
          try with_reducible rfl
        case rq20_20 =>
        simp only [Act.put, List.setIfInBounds_toArray, List.set_cons_zero, List.set_cons_succ]
        refine wpAnyH_take (i := 21) (oi := { dst := some 76, op := Go.Op.move (Go.Operand.tmp 75), type := 4, pos := "laws.go:387", after := #[{ on := 20, ground := Go.Ground.data }, { on := 19, ground := Go.Ground.chain }], guard := none }) (v := ?vq21_21) rfl (by kernel_rfl) (by kernel_rfl) (by kernel_rfl) (fun _ _ _ h => h) (Or.inl ⟨by rfl, ?hq21_21⟩) hHeld ?rq21_21
        case hq21_21 =>
          intro wS hSw
          (try dsimp only at hSw)
          go_simp
          try with_reducible rfl
        case rq21_21 =>
        simp only [Act.put, List.setIfInBounds_toArray, List.set_cons_zero, List.set_cons_succ]
        refine wpAnyH_take (i := 22) (oi := { dst := some 77, op := Go.Op.fieldAddr 56 (Go.Operand.tmp 5) 2, type := 0, pos := "laws.go:387", after := #[{ on := 21, ground := Go.Ground.guard }], guard := some (21, true) }) (v := ?vq22_22) rfl (by kernel_rfl) (by kernel_rfl) (by kernel_rfl) (fun _ _ _ h => h) (Or.inl ⟨by rfl, ?hq22_22⟩) hHeld ?rq22_22
        case hq22_22 =>
          intro wS hSw
          (try dsimp only at hSw)
          go_simp
          try with_reducible rfl
        case rq22_22 =>
        simp only [Act.put, List.setIfInBounds_toArray, List.set_cons_zero, List.set_cons_succ]
        refine wpAnyH_take (i := 23) (oi := { dst := some 78, op := Go.Op.fieldAddr 48 (Go.Operand.tmp 77) 1, type := 0, pos := "laws.go:387", after := #[{ on := 22, ground := Go.Ground.data }, { on := 21, ground := Go.Ground.guard }], guard := some (21, true) }) (v := ?vq23_23) rfl (by kernel_rfl) (by kernel_rfl) (by kernel_rfl) (fun _ _ _ h => h) (Or.inl ⟨by rfl, ?hq23_23⟩) hHeld ?rq23_23
        case hq23_23 =>
          intro wS hSw
          (try dsimp only at hSw)
          go_simp
          try with_reducible rfl
        case rq23_23 =>
        simp only [Act.put, List.setIfInBounds_toArray, List.set_cons_zero, List.set_cons_succ]
        refine wpAnyH_take (i := 24) (oi := { dst := some 79, op := Go.Op.load 24 (Go.Operand.tmp 78), type := 24, pos := "laws.go:387", after := #[{ on := 23, ground := Go.Ground.data }, { on := 21, ground := Go.Ground.guard }], guard := some (21, true) }) (v := ?vq24_24) rfl (by kernel_rfl) (by kernel_rfl) (by kernel_rfl) (fun _ _ _ h => h) (Or.inl ⟨by rfl, ?hq24_24⟩) hHeld ?rq24_24
        case hq24_24 =>
          intro wS hSw
          obtain ⟨y0, y1, y2, y3, y4, y5, y6, y7, y8⟩ := unhide KEEP _ hSw
          clear hSw
          (try dsimp only at hSw)
          go_simp
          try with_reducible rfl
        case rq24_24 =>
        simp only [Act.put, List.setIfInBounds_toArray, List.set_cons_zero, List.set_cons_succ]
        refine wpAnyH_take (i := 25) (oi := { dst := some 80, op := Go.Op.call { callee := Go.Callee.builtin Go.Builtin.len, args := #[Go.Operand.tmp 79], argTypes := #[24] }, type := 3, pos := "laws.go:387", after := #[{ on := 24, ground := Go.Ground.data }, { on := 21, ground := Go.Ground.guard }], guard := some (21, true) }) (v := ?vq25_25) rfl (by kernel_rfl) (by kernel_rfl) (by kernel_rfl) (fun _ _ _ h => h) (Or.inl ⟨by rfl, ?hq25_25⟩) hHeld ?rq25_25
        case hq25_25 =>
          intro wS hSw
          (try dsimp only at hSw)
          go_simp
          try with_reducible rfl
        case rq25_25 =>
        simp only [Act.put, List.setIfInBounds_toArray, List.set_cons_zero, List.set_cons_succ]
        refine wpAnyH_take (i := 26) (oi := { dst := some 81, op := Go.Op.binOp Go.BinOp.eql 3 (Go.Operand.tmp 80) (Go.Operand.const (Go.Value.int Go.IntKind.i64 0)) 3, type := 4, pos := "laws.go:387", after := #[{ on := 25, ground := Go.Ground.data }, { on := 21, ground := Go.Ground.guard }], guard := some (21, true) }) (v := ?vq26_26) rfl (by kernel_rfl) (by kernel_rfl) (by kernel_rfl) (fun _ _ _ h => h) (Or.inl ⟨by rfl, ?hq26_26⟩) hHeld ?rq26_26
        case hq26_26 =>
          intro wS hSw
          (try dsimp only at hSw)
          go_simp
          try with_reducible rfl
        case rq26_26 =>
        simp only [Act.put, List.setIfInBounds_toArray, List.set_cons_zero, List.set_cons_succ]
        refine wpAnyH_take (i := 27) (oi := { dst := some 82, op := Go.Op.pick (Go.Operand.tmp 76) (Go.Operand.tmp 81) (Go.Operand.const (Go.Value.bool false)), type := 4, pos := "laws.go:387", after := #[{ on := 21, ground := Go.Ground.data }, { on := 26, ground := Go.Ground.data }], guard := none }) (v := ?vq27_27) rfl (by kernel_rfl) (by kernel_rfl) (by kernel_rfl) (fun _ _ _ h => h) (Or.inl ⟨by rfl, ?hq27_27⟩) hHeld ?rq27_27
        case hq27_27 =>
          intro wS hSw
          (try dsimp only at hSw)
          go_simp
          try with_reducible rfl
        case rq27_27 =>
        simp only [Act.put, List.setIfInBounds_toArray, List.set_cons_zero, List.set_cons_succ]
        refine wpAnyH_take (i := 28) (oi := { dst := some 83, op := Go.Op.move (Go.Operand.tmp 82), type := 4, pos := "laws.go:387", after := #[{ on := 27, ground := Go.Ground.data }, { on := 21, ground := Go.Ground.chain }], guard := none }) (v := ?vq28_28) rfl (by kernel_rfl) (by kernel_rfl) (by kernel_rfl) (fun _ _ _ h => h) (Or.inl ⟨by rfl, ?hq28_28⟩) hHeld ?rq28_28
        case hq28_28 =>
          intro wS hSw
          (try dsimp only at hSw)
          go_simp
          try with_reducible rfl
        case rq28_28 =>
        simp only [Act.put, List.setIfInBounds_toArray, List.set_cons_zero, List.set_cons_succ]
        refine wpAnyH_take (i := 29) (oi := { dst := some 84, op := Go.Op.fieldAddr 56 (Go.Operand.tmp 5) 1, type := 0, pos := "laws.go:387", after := #[{ on := 28, ground := Go.Ground.guard }], guard := some (28, true) }) (v := ?vq29_29) rfl (by kernel_rfl) (by kernel_rfl) (by kernel_rfl) (fun _ _ _ h => h) (Or.inl ⟨by rfl, ?hq29_29⟩) hHeld ?rq29_29
        case hq29_29 =>
          intro wS hSw
          (try dsimp only at hSw)
          go_simp
          try with_reducible rfl
        case rq29_29 =>
        simp only [Act.put, List.setIfInBounds_toArray, List.set_cons_zero, List.set_cons_succ]
        refine wpAnyH_take (i := 30) (oi := { dst := some 85, op := Go.Op.load 2 (Go.Operand.tmp 84), type := 2, pos := "laws.go:387", after := #[{ on := 29, ground := Go.Ground.data }, { on := 28, ground := Go.Ground.guard }], guard := some (28, true) }) (v := ?vq30_30) rfl (by kernel_rfl) (by kernel_rfl) (by kernel_rfl) (fun _ _ _ h => h) (Or.inl ⟨by rfl, ?hq30_30⟩) hHeld ?rq30_30
        case hq30_30 =>
          intro wS hSw
          obtain ⟨y0, y1, y2, y3, y4, y5, y6, y7, y8⟩ := unhide KEEP _ hSw
          clear hSw
          (try dsimp only at hSw)
          go_simp
          try with_reducible rfl
        case rq30_30 =>
        simp only [Act.put, List.setIfInBounds_toArray, List.set_cons_zero, List.set_cons_succ]
        refine wpAnyH_take (i := 31) (oi := { dst := some 86, op := Go.Op.move (Go.Operand.tmp 9), type := 3, pos := "laws.go:387", after := #[{ on := 28, ground := Go.Ground.guard }], guard := some (28, true) }) (v := ?vq31_31) rfl (by kernel_rfl) (by kernel_rfl) (by kernel_rfl) (fun _ _ _ h => h) (Or.inl ⟨by rfl, ?hq31_31⟩) hHeld ?rq31_31
        case hq31_31 =>
          intro wS hSw
          (try dsimp only at hSw)
          go_simp
          try with_reducible rfl
        case rq31_31 =>
        simp only [Act.put, List.setIfInBounds_toArray, List.set_cons_zero, List.set_cons_succ]
        refine wpAnyH_take (i := 32) (oi := { dst := some 87, op := Go.Op.binOp Go.BinOp.eql 2 (Go.Operand.tmp 85) (Go.Operand.tmp 86) 2, type := 4, pos := "laws.go:387", after := #[{ on := 30, ground := Go.Ground.data }, { on := 31, ground := Go.Ground.data }, { on := 28, ground := Go.Ground.guard }], guard := some (28, true) }) (v := ?vq32_32) rfl (by kernel_rfl) (by kernel_rfl) (by kernel_rfl) (fun _ _ _ h => h) (Or.inl ⟨by rfl, ?hq32_32⟩) hHeld ?rq32_32
        case hq32_32 =>
          intro wS hSw
          (try dsimp only at hSw)
          go_simp
          try with_reducible rfl
        case rq32_32 =>
        simp only [Act.put, List.setIfInBounds_toArray, List.set_cons_zero, List.set_cons_succ]
        refine wpAnyH_take (i := 33) (oi := { dst := some 88, op := Go.Op.pick (Go.Operand.tmp 83) (Go.Operand.tmp 87) (Go.Operand.const (Go.Value.bool false)), type := 4, pos := "laws.go:387", after := #[{ on := 28, ground := Go.Ground.data }, { on := 32, ground := Go.Ground.data }], guard := none }) (v := ?vq33_33) rfl (by kernel_rfl) (by kernel_rfl) (by kernel_rfl) (fun _ _ _ h => h) (Or.inl ⟨by rfl, ?hq33_33⟩) hHeld ?rq33_33
        case hq33_33 =>
          intro wS hSw
          (try dsimp only at hSw)
          go_simp
          try with_reducible rfl
        case rq33_33 =>
        simp only [Act.put, List.setIfInBounds_toArray, List.set_cons_zero, List.set_cons_succ]
        refine wpAnyH_take (i := 34) (oi := { dst := some 89, op := Go.Op.move (Go.Operand.tmp 88), type := 4, pos := "laws.go:387", after := #[{ on := 33, ground := Go.Ground.data }, { on := 28, ground := Go.Ground.chain }], guard := none }) (v := ?vq34_34) rfl (by kernel_rfl) (by kernel_rfl) (by kernel_rfl) (fun _ _ _ h => h) (Or.inl ⟨by rfl, ?hq34_34⟩) hHeld ?rq34_34
        case hq34_34 =>
          intro wS hSw
          (try dsimp only at hSw)
          go_simp
          try with_reducible rfl
        case rq34_34 =>
        simp only [Act.put, List.setIfInBounds_toArray, List.set_cons_zero, List.set_cons_succ]
        refine wpAnyH_take (i := 35) (oi := { dst := some 90, op := Go.Op.fieldAddr 56 (Go.Operand.tmp 5) 2, type := 0, pos := "laws.go:387", after := #[{ on := 34, ground := Go.Ground.guard }], guard := some (34, true) }) (v := ?vq35_35) rfl (by kernel_rfl) (by kernel_rfl) (by kernel_rfl) (fun _ _ _ h => h) (Or.inl ⟨by rfl, ?hq35_35⟩) hHeld ?rq35_35
        case hq35_35 =>
          intro wS hSw
          (try dsimp only at hSw)
          go_simp
          try with_reducible rfl
        case rq35_35 =>
        simp only [Act.put, List.setIfInBounds_toArray, List.set_cons_zero, List.set_cons_succ]
        refine wpAnyH_take (i := 36) (oi := { dst := some 91, op := Go.Op.load 48 (Go.Operand.tmp 90), type := 48, pos := "laws.go:387", after := #[{ on := 35, ground := Go.Ground.data }, { on := 34, ground := Go.Ground.guard }], guard := some (34, true) }) (v := ?vq36_36) rfl (by kernel_rfl) (by kernel_rfl) (by kernel_rfl) (fun _ _ _ h => h) (Or.inl ⟨by rfl, ?hq36_36⟩) hHeld ?rq36_36
        case hq36_36 =>
          intro wS hSw
          obtain ⟨y0, y1, y2, y3, y4, y5, y6, y7, y8⟩ := unhide KEEP _ hSw
          clear hSw
          (try dsimp only at hSw)
          go_simp
          try with_reducible rfl
        case rq36_36 =>
        simp only [Act.put, List.setIfInBounds_toArray, List.set_cons_zero, List.set_cons_succ]
        refine wpAnyH_ready (rs := [37]) (by kernel_rfl) (by simp) ?_
        refine AllReadyH.cons (o := { dst := some 92, op := Go.Op.call { callee := Go.Callee.value (Go.Operand.func 31), args := #[Go.Operand.tmp 91], argTypes := #[48] }, type := 2, pos := "laws.go:387", after := #[{ on := 36, ground := Go.Ground.data }, { on := 34, ground := Go.Ground.chain }, { on := 34, ground := Go.Ground.guard }], guard := some (34, true) }) rfl (fun K hK => ?_) AllReadyH.nil
        go_simp
        go_at_call 31
        refine (unhide LF _ hHeld).mono ?_
        rintro e v2 ⟨rfl, hbw⟩
        try go_wp2_with fail
        refine hK.out _ _ (hHeld.trans (hbw.mono hHeld.size)) (fun hHeld => ?_)
        clear hK K
        try simp only [Act.put, List.setIfInBounds_toArray, List.set_cons_zero, List.set_cons_succ]
        refine wpAnyH_take (i := 38) (oi := { dst := some 93, op := Go.Op.binOp Go.BinOp.eql 2 (Go.Operand.tmp 92) (Go.Operand.const (Go.Value.int Go.IntKind.i64 0)) 2, type := 4, pos := "laws.go:387", after := #[{ on := 37, ground := Go.Ground.data }, { on := 34, ground := Go.Ground.guard }], guard := some (34, true) }) (v := ?vq38_37) rfl (by kernel_rfl) (by kernel_rfl) (by kernel_rfl) (fun _ _ _ h => h) (Or.inl ⟨by rfl, ?hq38_37⟩) hHeld ?rq38_37
        case hq38_37 =>
          intro wS hSw
          (try dsimp only at hSw)
          go_simp
          try with_reducible rfl
        case rq38_37 =>
        simp only [Act.put, List.setIfInBounds_toArray, List.set_cons_zero, List.set_cons_succ]
        refine wpAnyH_take (i := 39) (oi := { dst := some 94, op := Go.Op.pick (Go.Operand.tmp 89) (Go.Operand.tmp 93) (Go.Operand.const (Go.Value.bool false)), type := 4, pos := "laws.go:387", after := #[{ on := 34, ground := Go.Ground.data }, { on := 38, ground := Go.Ground.data }], guard := none }) (v := ?vq39_38) rfl (by kernel_rfl) (by kernel_rfl) (by kernel_rfl) (fun _ _ _ h => h) (Or.inl ⟨by rfl, ?hq39_38⟩) hHeld ?rq39_38
        case hq39_38 =>
          intro wS hSw
          (try dsimp only at hSw)
          go_simp
          try with_reducible rfl
        case rq39_38 =>
        simp only [Act.put, List.setIfInBounds_toArray, List.set_cons_zero, List.set_cons_succ]
        refine wpAnyH_take (i := 40) (oi := { dst := some 95, op := Go.Op.move (Go.Operand.tmp 94), type := 4, pos := "laws.go:387", after := #[{ on := 39, ground := Go.Ground.data }, { on := 37, ground := Go.Ground.chain }], guard := none }) (v := ?vq40_39) rfl (by kernel_rfl) (by kernel_rfl) (by kernel_rfl) (fun _ _ _ h => h) (Or.inl ⟨by rfl, ?hq40_39⟩) hHeld ?rq40_39
        case hq40_39 =>
          intro wS hSw
          (try dsimp only at hSw)
          go_simp
          try with_reducible rfl
        case rq40_39 =>
        simp only [Act.put, List.setIfInBounds_toArray, List.set_cons_zero, List.set_cons_succ]
        refine wpAnyH_take (i := 41) (oi := { dst := some 96, op := Go.Op.fieldAddr 56 (Go.Operand.tmp 10) 1, type := 0, pos := "laws.go:387", after := #[{ on := 40, ground := Go.Ground.guard }], guard := some (40, true) }) (v := ?vq41_40) rfl (by kernel_rfl) (by kernel_rfl) (by kernel_rfl) (fun _ _ _ h => h) (Or.inl ⟨by rfl, ?hq41_40⟩) hHeld ?rq41_40
        case hq41_40 =>
          intro wS hSw
          (try dsimp only at hSw)
          go_simp
          try with_reducible rfl
        case rq41_40 =>
        simp only [Act.put, List.setIfInBounds_toArray, List.set_cons_zero, List.set_cons_succ]
        refine wpAnyH_take (i := 42) (oi := { dst := some 97, op := Go.Op.load 2 (Go.Operand.tmp 96), type := 2, pos := "laws.go:387", after := #[{ on := 41, ground := Go.Ground.data }, { on := 40, ground := Go.Ground.guard }], guard := some (40, true) }) (v := ?vq42_41) rfl (by kernel_rfl) (by kernel_rfl) (by kernel_rfl) (fun _ _ _ h => h) (Or.inl ⟨by rfl, ?hq42_41⟩) hHeld ?rq42_41
        case hq42_41 =>
          intro wS hSw
          obtain ⟨y0, y1, y2, y3, y4, y5, y6, y7, y8⟩ := unhide KEEP _ hSw
          clear hSw
          (try dsimp only at hSw)
          go_simp
          try with_reducible rfl
        case rq42_41 =>
        simp only [Act.put, List.setIfInBounds_toArray, List.set_cons_zero, List.set_cons_succ]
        refine wpAnyH_take (i := 43) (oi := { dst := some 98, op := Go.Op.fieldAddr 36 (Go.Operand.tmp 7) 1, type := 0, pos := "laws.go:387", after := #[{ on := 40, ground := Go.Ground.guard }], guard := some (40, true) }) (v := ?vq43_42) rfl (by kernel_rfl) (by kernel_rfl) (by kernel_rfl) (fun _ _ _ h => h) (Or.inl ⟨by rfl, ?hq43_42⟩) hHeld ?rq43_42
        case hq43_42 =>
          intro wS hSw
          (try dsimp only at hSw)
          go_simp
          try with_reducible rfl
        case rq43_42 =>
        simp only [Act.put, List.setIfInBounds_toArray, List.set_cons_zero, List.set_cons_succ]
        refine wpAnyH_take (i := 44) (oi := { dst := some 99, op := Go.Op.load 28 (Go.Operand.tmp 98), type := 28, pos := "laws.go:387", after := #[{ on := 43, ground := Go.Ground.data }, { on := 40, ground := Go.Ground.guard }], guard := some (40, true) }) (v := ?vq44_43) rfl (by kernel_rfl) (by kernel_rfl) (by kernel_rfl) (fun _ _ _ h => h) (Or.inl ⟨by rfl, ?hq44_43⟩) hHeld ?rq44_43
        case hq44_43 =>
          intro wS hSw
          obtain ⟨y0, y1, y2, y3, y4, y5, y6, y7, y8⟩ := unhide KEEP _ hSw
          clear hSw
          (try dsimp only at hSw)
          go_simp
          try with_reducible rfl
        case rq44_43 =>
        simp only [Act.put, List.setIfInBounds_toArray, List.set_cons_zero, List.set_cons_succ]
        refine wpAnyH_take (i := 45) (oi := { dst := some 100, op := Go.Op.call { callee := Go.Callee.builtin Go.Builtin.len, args := #[Go.Operand.tmp 99], argTypes := #[28] }, type := 3, pos := "laws.go:387", after := #[{ on := 44, ground := Go.Ground.data }, { on := 40, ground := Go.Ground.guard }], guard := some (40, true) }) (v := ?vq45_44) rfl (by kernel_rfl) (by kernel_rfl) (by kernel_rfl) (fun _ _ _ h => h) (Or.inl ⟨by rfl, ?hq45_44⟩) hHeld ?rq45_44
        case hq45_44 =>
          intro wS hSw
          (try dsimp only at hSw)
          go_simp
          try with_reducible rfl
        case rq45_44 =>
        simp only [Act.put, List.setIfInBounds_toArray, List.set_cons_zero, List.set_cons_succ]
        refine wpAnyH_take (i := 46) (oi := { dst := some 101, op := Go.Op.binOp Go.BinOp.eql 2 (Go.Operand.tmp 97) (Go.Operand.tmp 100) 2, type := 4, pos := "laws.go:387", after := #[{ on := 42, ground := Go.Ground.data }, { on := 45, ground := Go.Ground.data }, { on := 40, ground := Go.Ground.guard }], guard := some (40, true) }) (v := ?vq46_45) rfl (by kernel_rfl) (by kernel_rfl) (by kernel_rfl) (fun _ _ _ h => h) (Or.inl ⟨by rfl, ?hq46_45⟩) hHeld ?rq46_45
        case hq46_45 =>
          intro wS hSw
          (try dsimp only at hSw)
          go_simp
          try with_reducible rfl
        case rq46_45 =>
        simp only [Act.put, List.setIfInBounds_toArray, List.set_cons_zero, List.set_cons_succ]
        refine wpAnyH_take (i := 47) (oi := { dst := some 102, op := Go.Op.pick (Go.Operand.tmp 95) (Go.Operand.tmp 101) (Go.Operand.const (Go.Value.bool false)), type := 4, pos := "laws.go:387", after := #[{ on := 40, ground := Go.Ground.data }, { on := 46, ground := Go.Ground.data }], guard := none }) (v := ?vq47_46) rfl (by kernel_rfl) (by kernel_rfl) (by kernel_rfl) (fun _ _ _ h => h) (Or.inl ⟨by rfl, ?hq47_46⟩) hHeld ?rq47_46
        case hq47_46 =>
          intro wS hSw
          (try dsimp only at hSw)
          go_simp
          try with_reducible rfl
        case rq47_46 =>
        simp only [Act.put, List.setIfInBounds_toArray, List.set_cons_zero, List.set_cons_succ]
        refine wpAnyH_take (i := 48) (oi := { dst := some 103, op := Go.Op.move (Go.Operand.tmp 102), type := 4, pos := "laws.go:387", after := #[{ on := 47, ground := Go.Ground.data }, { on := 40, ground := Go.Ground.chain }], guard := none }) (v := ?vq48_47) rfl (by kernel_rfl) (by kernel_rfl) (by kernel_rfl) (fun _ _ _ h => h) (Or.inl ⟨by rfl, ?hq48_47⟩) hHeld ?rq48_47
        case hq48_47 =>
          intro wS hSw
          (try dsimp only at hSw)
          go_simp
          try with_reducible rfl
        case rq48_47 =>
        simp only [Act.put, List.setIfInBounds_toArray, List.set_cons_zero, List.set_cons_succ]
        refine wpAnyH_take (i := 49) (oi := { dst := some 104, op := Go.Op.fieldAddr 56 (Go.Operand.tmp 11) 0, type := 0, pos := "laws.go:387", after := #[{ on := 48, ground := Go.Ground.guard }], guard := some (48, true) }) (v := ?vq49_48) rfl (by kernel_rfl) (by kernel_rfl) (by kernel_rfl) (fun _ _ _ h => h) (Or.inl ⟨by rfl, ?hq49_48⟩) hHeld ?rq49_48
        case hq49_48 =>
          intro wS hSw
          (try dsimp only at hSw)
          go_simp
          try with_reducible rfl
        case rq49_48 =>
        simp only [Act.put, List.setIfInBounds_toArray, List.set_cons_zero, List.set_cons_succ]
        refine wpAnyH_take (i := 50) (oi := { dst := some 105, op := Go.Op.load 2 (Go.Operand.tmp 104), type := 2, pos := "laws.go:387", after := #[{ on := 49, ground := Go.Ground.data }, { on := 48, ground := Go.Ground.guard }], guard := some (48, true) }) (v := ?vq50_49) rfl (by kernel_rfl) (by kernel_rfl) (by kernel_rfl) (fun _ _ _ h => h) (Or.inl ⟨by rfl, ?hq50_49⟩) hHeld ?rq50_49
        case hq50_49 =>
          intro wS hSw
          obtain ⟨y0, y1, y2, y3, y4, y5, y6, y7, y8⟩ := unhide KEEP _ hSw
          clear hSw
          (try dsimp only at hSw)
          go_simp
          try with_reducible rfl
        case rq50_49 =>
        simp only [Act.put, List.setIfInBounds_toArray, List.set_cons_zero, List.set_cons_succ]
        refine wpAnyH_take (i := 51) (oi := { dst := some 106, op := Go.Op.binOp Go.BinOp.eql 2 (Go.Operand.tmp 105) (Go.Operand.const (Go.Value.int Go.IntKind.i64 2)) 2, type := 4, pos := "laws.go:387", after := #[{ on := 50, ground := Go.Ground.data }, { on := 48, ground := Go.Ground.guard }], guard := some (48, true) }) (v := ?vq51_50) rfl (by kernel_rfl) (by kernel_rfl) (by kernel_rfl) (fun _ _ _ h => h) (Or.inl ⟨by rfl, ?hq51_50⟩) hHeld ?rq51_50
        case hq51_50 =>
          intro wS hSw
          (try dsimp only at hSw)
          go_simp
          try with_reducible rfl
        case rq51_50 =>
        simp only [Act.put, List.setIfInBounds_toArray, List.set_cons_zero, List.set_cons_succ]
        refine wpAnyH_take (i := 52) (oi := { dst := some 107, op := Go.Op.move (Go.Operand.tmp 106), type := 4, pos := "laws.go:387", after := #[{ on := 51, ground := Go.Ground.data }, { on := 48, ground := Go.Ground.chain }, { on := 48, ground := Go.Ground.guard }], guard := some (48, true) }) (v := ?vq52_51) rfl (by kernel_rfl) (by kernel_rfl) (by kernel_rfl) (fun _ _ _ h => h) (Or.inl ⟨by rfl, ?hq52_51⟩) hHeld ?rq52_51
        case hq52_51 =>
          intro wS hSw
          (try dsimp only at hSw)
          go_simp
          try with_reducible rfl
        case rq52_51 =>
        simp only [Act.put, List.setIfInBounds_toArray, List.set_cons_zero, List.set_cons_succ]
        refine wpAnyH_take (i := 53) (oi := { dst := some 108, op := Go.Op.fieldAddr 56 (Go.Operand.tmp 11) 1, type := 0, pos := "laws.go:387", after := #[{ on := 52, ground := Go.Ground.guard }], guard := some (52, false) }) (v := ?vq53_52) rfl (by kernel_rfl) (by kernel_rfl) (by kernel_rfl) (fun _ _ _ h => h) (Or.inl ⟨by rfl, ?hq53_52⟩) hHeld ?rq53_52
        case hq53_52 =>
          intro wS hSw
          (try dsimp only at hSw)
          go_simp
          try with_reducible rfl
        case rq53_52 =>
        simp only [Act.put, List.setIfInBounds_toArray, List.set_cons_zero, List.set_cons_succ]
        refine wpAnyH_take (i := 54) (oi := { dst := some 109, op := Go.Op.load 2 (Go.Operand.tmp 108), type := 2, pos := "laws.go:387", after := #[{ on := 53, ground := Go.Ground.data }, { on := 52, ground := Go.Ground.guard }], guard := some (52, false) }) (v := ?vq54_53) rfl (by kernel_rfl) (by kernel_rfl) (by kernel_rfl) (fun _ _ _ h => h) (Or.inl ⟨by rfl, ?hq54_53⟩) hHeld ?rq54_53
        case hq54_53 =>
          intro wS hSw
          obtain ⟨y0, y1, y2, y3, y4, y5, y6, y7, y8⟩ := unhide KEEP _ hSw
          clear hSw
          (try dsimp only at hSw)
          go_simp
          try with_reducible rfl
        case rq54_53 =>
        simp only [Act.put, List.setIfInBounds_toArray, List.set_cons_zero, List.set_cons_succ]
        refine wpAnyH_take (i := 55) (oi := { dst := some 110, op := Go.Op.fieldAddr 56 (Go.Operand.tmp 10) 1, type := 0, pos := "laws.go:387", after := #[{ on := 52, ground := Go.Ground.guard }], guard := some (52, false) }) (v := ?vq55_54) rfl (by kernel_rfl) (by kernel_rfl) (by kernel_rfl) (fun _ _ _ h => h) (Or.inl ⟨by rfl, ?hq55_54⟩) hHeld ?rq55_54
        case hq55_54 =>
          intro wS hSw
          (try dsimp only at hSw)
          go_simp
          try with_reducible rfl
        case rq55_54 =>
        simp only [Act.put, List.setIfInBounds_toArray, List.set_cons_zero, List.set_cons_succ]
        refine wpAnyH_take (i := 56) (oi := { dst := some 111, op := Go.Op.load 2 (Go.Operand.tmp 110), type := 2, pos := "laws.go:387", after := #[{ on := 55, ground := Go.Ground.data }, { on := 52, ground := Go.Ground.guard }], guard := some (52, false) }) (v := ?vq56_55) rfl (by kernel_rfl) (by kernel_rfl) (by kernel_rfl) (fun _ _ _ h => h) (Or.inl ⟨by rfl, ?hq56_55⟩) hHeld ?rq56_55
        case hq56_55 =>
          intro wS hSw
          obtain ⟨y0, y1, y2, y3, y4, y5, y6, y7, y8⟩ := unhide KEEP _ hSw
          clear hSw
          (try dsimp only at hSw)
          go_simp
          try with_reducible rfl
        case rq56_55 =>
        simp only [Act.put, List.setIfInBounds_toArray, List.set_cons_zero, List.set_cons_succ]
        refine wpAnyH_take (i := 57) (oi := { dst := some 112, op := Go.Op.binOp Go.BinOp.add 2 (Go.Operand.tmp 111) (Go.Operand.const (Go.Value.int Go.IntKind.i64 1)) 2, type := 2, pos := "laws.go:387", after := #[{ on := 56, ground := Go.Ground.data }, { on := 52, ground := Go.Ground.guard }], guard := some (52, false) }) (v := ?vq57_56) rfl (by kernel_rfl) (by kernel_rfl) (by kernel_rfl) (fun _ _ _ h => h) (Or.inl ⟨by rfl, ?hq57_56⟩) hHeld ?rq57_56
        case hq57_56 =>
          intro wS hSw
          clear hSw
          have hwr : IntKind.i64.wrap ((AW.length : Int) + 1) = (AW.length : Int) + 1 := by rw [IntKind.wrap_i64]; omega
          (try dsimp only at hSw)
          go_simp
          try with_reducible rfl
        case rq57_56 =>
        simp only [Act.put, List.setIfInBounds_toArray, List.set_cons_zero, List.set_cons_succ]
        refine wpAnyH_take (i := 58) (oi := { dst := some 113, op := Go.Op.binOp Go.BinOp.eql 2 (Go.Operand.tmp 109) (Go.Operand.tmp 112) 2, type := 4, pos := "laws.go:387", after := #[{ on := 54, ground := Go.Ground.data }, { on := 57, ground := Go.Ground.data }, { on := 52, ground := Go.Ground.guard }], guard := some (52, false) }) (v := ?vq58_57) rfl (by kernel_rfl) (by kernel_rfl) (by kernel_rfl) (fun _ _ _ h => h) (Or.inl ⟨by rfl, ?hq58_57⟩) hHeld ?rq58_57
        case hq58_57 =>
          intro wS hSw
          (try dsimp only at hSw)
          go_simp
          try with_reducible rfl
        case rq58_57 =>
        simp only [Act.put, List.setIfInBounds_toArray, List.set_cons_zero, List.set_cons_succ]
        refine wpAnyH_take (i := 59) (oi := { dst := some 114, op := Go.Op.pick (Go.Operand.tmp 107) (Go.Operand.const (Go.Value.bool true)) (Go.Operand.tmp 113), type := 4, pos := "laws.go:387", after := #[{ on := 52, ground := Go.Ground.data }, { on := 58, ground := Go.Ground.data }, { on := 48, ground := Go.Ground.guard }], guard := some (48, true) }) (v := ?vq59_58) rfl (by kernel_rfl) (by kernel_rfl) (by kernel_rfl) (fun _ _ _ h => h) (Or.inl ⟨by rfl, ?hq59_58⟩) hHeld ?rq59_58
        case hq59_58 =>
          intro wS hSw
          (try dsimp only at hSw)
          go_simp
          try with_reducible rfl
        case rq59_58 =>
        simp only [Act.put, List.setIfInBounds_toArray, List.set_cons_zero, List.set_cons_succ]
        refine wpAnyH_take (i := 60) (oi := { dst := some 115, op := Go.Op.pick (Go.Operand.tmp 103) (Go.Operand.tmp 114) (Go.Operand.const (Go.Value.bool false)), type := 4, pos := "laws.go:387", after := #[{ on := 48, ground := Go.Ground.data }, { on := 59, ground := Go.Ground.data }], guard := none }) (v := ?vq60_59) rfl (by kernel_rfl) (by kernel_rfl) (by kernel_rfl) (fun _ _ _ h => h) (Or.inl ⟨by rfl, ?hq60_59⟩) hHeld ?rq60_59
        case hq60_59 =>
          intro wS hSw
          (try dsimp only at hSw)
          go_simp
          try with_reducible rfl
        case rq60_59 =>
        simp only [Act.put, List.setIfInBounds_toArray, List.set_cons_zero, List.set_cons_succ]
        refine wpAnyH_take (i := 61) (oi := { dst := some 2, op := Go.Op.assign (Go.Operand.tmp 115), type := 4, pos := "laws.go:387", after := #[{ on := 60, ground := Go.Ground.data }, { on := 52, ground := Go.Ground.chain }, { on := 0, ground := Go.Ground.phase }, { on := 1, ground := Go.Ground.phase }, { on := 2, ground := Go.Ground.phase }, { on := 3, ground := Go.Ground.phase }, { on := 4, ground := Go.Ground.phase }, { on := 5, ground := Go.Ground.phase }, { on := 6, ground := Go.Ground.phase }, { on := 7, ground := Go.Ground.phase }, { on := 8, ground := Go.Ground.phase }, { on := 9, ground := Go.Ground.phase }, { on := 10, ground := Go.Ground.phase }, { on := 11, ground := Go.Ground.phase }, { on := 12, ground := Go.Ground.phase }, { on := 13, ground := Go.Ground.phase }, { on := 14, ground := Go.Ground.phase }, { on := 15, ground := Go.Ground.phase }, { on := 16, ground := Go.Ground.phase }, { on := 17, ground := Go.Ground.phase }, { on := 18, ground := Go.Ground.phase }, { on := 19, ground := Go.Ground.phase }, { on := 20, ground := Go.Ground.phase }, { on := 21, ground := Go.Ground.phase }, { on := 22, ground := Go.Ground.phase }, { on := 23, ground := Go.Ground.phase }, { on := 24, ground := Go.Ground.phase }, { on := 25, ground := Go.Ground.phase }, { on := 26, ground := Go.Ground.phase }, { on := 27, ground := Go.Ground.phase }, { on := 28, ground := Go.Ground.phase }, { on := 29, ground := Go.Ground.phase }, { on := 30, ground := Go.Ground.phase }, { on := 31, ground := Go.Ground.phase }, { on := 32, ground := Go.Ground.phase }, { on := 33, ground := Go.Ground.phase }, { on := 34, ground := Go.Ground.phase }, { on := 35, ground := Go.Ground.phase }, { on := 36, ground := Go.Ground.phase }, { on := 37, ground := Go.Ground.phase }, { on := 38, ground := Go.Ground.phase }, { on := 39, ground := Go.Ground.phase }, { on := 40, ground := Go.Ground.phase }, { on := 41, ground := Go.Ground.phase }, { on := 42, ground := Go.Ground.phase }, { on := 43, ground := Go.Ground.phase }, { on := 44, ground := Go.Ground.phase }, { on := 45, ground := Go.Ground.phase }, { on := 46, ground := Go.Ground.phase }, { on := 47, ground := Go.Ground.phase }, { on := 48, ground := Go.Ground.phase }, { on := 49, ground := Go.Ground.phase }, { on := 50, ground := Go.Ground.phase }, { on := 51, ground := Go.Ground.phase }, { on := 52, ground := Go.Ground.phase }, { on := 53, ground := Go.Ground.phase }, { on := 54, ground := Go.Ground.phase }, { on := 55, ground := Go.Ground.phase }, { on := 56, ground := Go.Ground.phase }, { on := 57, ground := Go.Ground.phase }, { on := 58, ground := Go.Ground.phase }, { on := 59, ground := Go.Ground.phase }, { on := 60, ground := Go.Ground.phase }], guard := none }) (v := ?vq61_60) rfl (by kernel_rfl) (by kernel_rfl) (by kernel_rfl) (fun _ _ _ h => h) (Or.inl ⟨by rfl, ?hq61_60⟩) hHeld ?rq61_60
        case hq61_60 =>
          intro wS hSw
          (try dsimp only at hSw)
          go_simp
          try with_reducible rfl
        case rq61_60 =>
        simp only [Act.put, List.setIfInBounds_toArray, List.set_cons_zero, List.set_cons_succ]
        refine wpAnyH_done (by kernel_rfl) ?_ _
        refine NoPanic.normal ?_
        have HB9 := hide ((unhide HB).trans (hHeld.mono (unhide HB).size))
        clear hHeld
        go_wp2_with fail
        go_ret
        exact ⟨rfl, unhide HB9⟩
  · have hne : ((crashLogR x kept).code != 0) = true := by rw [bne_iff_ne]; exact hf
    have heq : ((crashLogR x kept).code == (crashLogR x kept).code) = true := by simp
    clear hf R2
    generalize hfc : (crashLogR x kept).code = fc at *
    generalize (crashLogR x kept).count = fn at *
    generalize (crashLogR x kept).log.sure.length = m1 at *
    generalize (crashLogR x kept).log.loose.length = m2 at *
    have HFC := hide hfc
    clear hfc
    have nb2 : Below w2.heap.size w2 (w2.alloc (.cells #[.int .i64 fc, .int .i64 fn, .slice a1 m1 d1, .slice a2 m2 d2] 56)) := (Below.refl _ _).alloc (Nat.le_refl _) _
    have x6 : Box 0 #[.int .i64 fc, .int .i64 fn, .slice a1 m1 d1, .slice a2 m2 d2] 56 (w2.alloc (.cells #[.int .i64 fc, .int .i64 fn, .slice a1 m1 d1, .slice a2 m2 d2] 56)) w2.heap.size := newBox (Nat.zero_le _)
    have z0 : (w2.alloc (.cells #[.int .i64 fc, .int .i64 fn, .slice a1 m1 d1, .slice a2 m2 d2] 56)).cell? ⟨w2.heap.size, 0, none⟩ = some (.int .i64 fc) := x6.at 0 _ rfl
    have HX6 := hide x6
    replace HX3 := hide (((unhide HX3).keep hb2).keep nb2)
    replace HRX := hide (((unhide HRX).later hb2).later nb2)
    replace HB := hide (((unhide HB).trans (hb2.mono (unhide HB).size)).trans (nb2.mono (Nat.le_trans (unhide HB).size hb2.size)))
    have LM : Hid (∀ W, Below (w2.alloc (.cells #[.int .i64 fc, .int .i64 fn, .slice a1 m1 d1, .slice a2 m2 d2] 56)).heap.size (w2.alloc (.cells #[.int .i64 fc, .int .i64 fn, .slice a1 m1 d1, .slice a2 m2 d2] 56)) W → Calls Try.prog 45 #[.agg #[.slice a8 x.sure.length c8, .slice a9 x.loose.length c9], .int .i64 kept] W fun e w' => ∃ (n9 : Int) (b1 : Option Addr) (l1 k1 : Nat) (b2 : Option Addr) (l2 k2 : Nat), e = .returned (.agg #[.int .i64 fc, .int .i64 n9, .slice b1 l1 k1, .slice b2 l2 k2]) ∧ Below W.heap.size W w') := fun W hW => by
      refine (specCrashLog _ x kept W ((unhide HRX).later hW) (by omega) (by omega)).mono ?_
      rintro e w' ⟨cs, rfl, O, hb⟩
      obtain ⟨b1, k1, b2, k2, rfl, -⟩ := open_LogResult O.reads
      rw [unhide HFC]
      exact ⟨_, b1, _, k1, b2, _, k2, rfl, hb⟩
    have hfl := fun n a l k b m q => fieldL0 fc n a l k b m q
    clear nb2 x6 hb2 L2 HRS HRL HRX
    go_wp2_with fail
    clear z0
    generalize w2.alloc (.cells #[.int .i64 fc, .int .i64 fn, .slice a1 m1 d1, .slice a2 m2 d2] 56) = wz at *
    refine wp_region_noPanic ?_
    refine wp_region_held_drew (S := fun w' => Below wz.heap.size wz w') (by kernel_rfl) (Below.refl _ _).drew (fun hHeld => ?_)
    generalize wz.drew = wD at hHeld ⊢
    refine wpAnyH_take (i := 0) (oi := { dst := some 25, op := Go.Op.load 48 (Go.Operand.tmp 3), type := 48, pos := "laws.go:379", after := #[], guard := none }) (v := ?vc0_1) rfl (by kernel_rfl) (by kernel_rfl) (by kernel_rfl) (fun _ _ _ h => h) (Or.inl ⟨by rfl, ?hc0_1⟩) hHeld ?rc0_1
    case hc0_1 =>
      intro wS hSw
      have y0 := ((unhide HX3).keep hSw).at 0 _ rfl
      have y1 := ((unhide HX3).keep hSw).at 1 _ rfl
      simp only [List.getElem_toArray, List.getElem_cons_zero, List.getElem_cons_succ] at y0 y1
      clear hSw
      (try dsimp only at hSw)
      go_simp
      try with_reducible rfl
    case rc0_1 =>
    simp only [Act.put, List.setIfInBounds_toArray, List.set_cons_zero, List.set_cons_succ]
    refine wpAnyH_take (i := 1) (oi := { dst := some 26, op := Go.Op.move (Go.Operand.tmp 4), type := 2, pos := "laws.go:379", after := #[], guard := none }) (v := ?vc1_2) rfl (by kernel_rfl) (by kernel_rfl) (by kernel_rfl) (fun _ _ _ h => h) (Or.inl ⟨by rfl, ?hc1_2⟩) hHeld ?rc1_2
    case hc1_2 =>
      intro wS hSw
      (try dsimp only at hSw)
      go_simp
      try with_reducible rfl
    case rc1_2 =>
    simp only [Act.put, List.setIfInBounds_toArray, List.set_cons_zero, List.set_cons_succ]
    refine wpAnyH_take (i := 4) (oi := { dst := some 29, op := Go.Op.fieldAddr 56 (Go.Operand.tmp 5) 0, type := 0, pos := "laws.go:379", after := #[], guard := none }) (v := ?vc4_3) rfl (by kernel_rfl) (by kernel_rfl) (by kernel_rfl) (fun _ _ _ h => h) (Or.inl ⟨by rfl, ?hc4_3⟩) hHeld ?rc4_3
    case hc4_3 =>
      intro wS hSw
      (try dsimp only at hSw)
      go_simp
      try with_reducible rfl
    case rc4_3 =>
    simp only [Act.put, List.setIfInBounds_toArray, List.set_cons_zero, List.set_cons_succ]
    refine wpAnyH_take (i := 5) (oi := { dst := some 30, op := Go.Op.load 2 (Go.Operand.tmp 29), type := 2, pos := "laws.go:379", after := #[{ on := 4, ground := Go.Ground.data }], guard := none }) (v := ?vc5_4) rfl (by kernel_rfl) (by kernel_rfl) (by kernel_rfl) (fun _ _ _ h => h) (Or.inl ⟨by rfl, ?hc5_4⟩) hHeld ?rc5_4
    case hc5_4 =>
      intro wS hSw
      have y6 := ((unhide HX6).keep hSw).at 0 _ rfl
      simp only [List.getElem_toArray, List.getElem_cons_zero] at y6
      clear hSw
      (try dsimp only at hSw)
      go_simp
      try with_reducible rfl
    case rc5_4 =>
    simp only [Act.put, List.setIfInBounds_toArray, List.set_cons_zero, List.set_cons_succ]
    refine wpAnyH_ready (rs := [2]) (by kernel_rfl) (by simp) ?_
    refine AllReadyH.cons (o := { dst := some 27, op := Go.Op.call { callee := Go.Callee.value (Go.Operand.func 45), args := #[Go.Operand.tmp 25, Go.Operand.tmp 26], argTypes := #[48, 2] }, type := 56, pos := "laws.go:379", after := #[{ on := 0, ground := Go.Ground.data }, { on := 1, ground := Go.Ground.data }], guard := none }) rfl (fun K hK => ?_) AllReadyH.nil
    go_simp
    go_at_call 45
    refine (unhide LM _ hHeld).mono ?_
    rintro e v1 ⟨n9, b1, l1, k1, b2, l2, k2, rfl, hbw⟩
    try go_wp2_with fail
    refine hK.out _ _ (hHeld.trans (hbw.mono hHeld.size)) (fun hHeld => ?_)
    clear hK K
    try simp only [Act.put, List.setIfInBounds_toArray, List.set_cons_zero, List.set_cons_succ]
    refine wpAnyH_take (i := 3) (oi := { dst := some 28, op := Go.Op.field 56 (Go.Operand.tmp 27) 0, type := 2, pos := "laws.go:379", after := #[{ on := 2, ground := Go.Ground.data }], guard := none }) (v := ?vc3_5) rfl (by kernel_rfl) (by kernel_rfl) (by kernel_rfl) (fun _ _ _ h => h) (Or.inl ⟨by rfl, ?hc3_5⟩) hHeld ?rc3_5
    case hc3_5 =>
      intro wS hSw
      have yf := hfl n9 b1 l1 k1 b2 l2 k2
      clear hSw
      (try dsimp only at hSw)
      go_simp
      try with_reducible rfl
    case rc3_5 =>
    simp only [Act.put, List.setIfInBounds_toArray, List.set_cons_zero, List.set_cons_succ]
    refine wpAnyH_take (i := 6) (oi := { dst := some 31, op := Go.Op.binOp Go.BinOp.eql 2 (Go.Operand.tmp 28) (Go.Operand.tmp 30) 2, type := 4, pos := "laws.go:379", after := #[{ on := 3, ground := Go.Ground.data }, { on := 5, ground := Go.Ground.data }], guard := none }) (v := ?vc6_6) rfl (by kernel_rfl) (by kernel_rfl) (by kernel_rfl) (fun _ _ _ h => h) (Or.inl ⟨by rfl, ?hc6_6⟩) hHeld ?rc6_6
    case hc6_6 =>
      intro wS hSw
      (try dsimp only at hSw)
      go_simp
      try with_reducible rfl
    case rc6_6 =>
    simp only [Act.put, List.setIfInBounds_toArray, List.set_cons_zero, List.set_cons_succ]
    refine wpAnyH_take (i := 7) (oi := { dst := some 2, op := Go.Op.assign (Go.Operand.tmp 31), type := 4, pos := "laws.go:379", after := #[{ on := 6, ground := Go.Ground.data }, { on := 2, ground := Go.Ground.chain }, { on := 0, ground := Go.Ground.phase }, { on := 1, ground := Go.Ground.phase }, { on := 2, ground := Go.Ground.phase }, { on := 3, ground := Go.Ground.phase }, { on := 4, ground := Go.Ground.phase }, { on := 5, ground := Go.Ground.phase }, { on := 6, ground := Go.Ground.phase }], guard := none }) (v := ?vc7_7) rfl (by kernel_rfl) (by kernel_rfl) (by kernel_rfl) (fun _ _ _ h => h) (Or.inl ⟨by rfl, ?hc7_7⟩) hHeld ?rc7_7
    case hc7_7 =>
      intro wS hSw
      (try dsimp only at hSw)
      go_simp
      try with_reducible rfl
    case rc7_7 =>
    simp only [Act.put, List.setIfInBounds_toArray, List.set_cons_zero, List.set_cons_succ]
    refine wpAnyH_done (by kernel_rfl) ?_ _
    refine NoPanic.normal ?_
    have HB9 := hide ((unhide HB).trans (hHeld.mono (unhide HB).size))
    clear hHeld
    go_wp2_with fail
    go_ret
    exact ⟨rfl, unhide HB9⟩

theorem lawFnTorn (ao : Option Addr) (len cap : Nat) (zs : List Int) (w : World) (h : (ao = none ∧ len = 0 ∧ cap = 0 ∧ zs = []) ∨
    ∃ x, ao = some x ∧ len ≤ cap ∧ cap ≤ maxLen ∧ zs.length = cap ∧ (∀ i, i < zs.length → w.cell? (x.add i) = some (.int .u8 (zs.getD i 0))) ∧ ∀ n ∈ zs, (Lit.int .u8 n).wf = true) :
    Calls Try.prog 10 #[.slice ao len cap] w fun e w' => e = .returned (.bool true) ∧ Below w.heap.size w w' := by
  by_cases hn : len ≤ 1048576
  · exact lawTorn_few ao len cap w hn (isCode_of_row h hn)
  · exact lawTorn_many ao len cap w (by omega)

end Go.Proofs.Ytipomhpimmnchaa
