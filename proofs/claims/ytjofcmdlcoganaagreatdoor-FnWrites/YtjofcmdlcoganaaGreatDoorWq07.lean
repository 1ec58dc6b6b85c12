/-
  The law FnWrites answers true at every slice of bytes, and writes nothing that was there.
  Condition: the library's own table and variables are as the text lays them (premises).
-/
import Derived.Test.YtjofcmdlcoganaaGreatDoorWq02
import Derived.Test.YtjofcmdlcoganaaGreatDoorWq05
import Derived.Test.YtjofcmdlcoganaaGreatDoorWq04
import Derived.Test.YtjofcmdlcoganaaGreatDoorWq06
import Derived.Deep.RegionHeld3
import Derived.Deep.CutRange

namespace Go.Proofs.YtjofcmdlcoganaaGreatDoor
open Go.RowKit

theorem wrField1 (c k i : Int) (a : Option Addr) (n d : Nat) (s q : Int) (w : World) : (Instr.field 29 (.agg #[.int .i64 c, .int .i64 k, .int .i64 i, .slice a n d, .int .i64 s, .int .i64 q]) 1).run Tryz.prog w = .ok (.agg #[.int .i64 k, .int .i64 i, .slice a n d, .int .i64 s, .int .i64 q]) w := by kernel_rfl
theorem wrField0 (c k i : Int) (a : Option Addr) (n d : Nat) (s q : Int) (w : World) : (Instr.field 29 (.agg #[.int .i64 c, .int .i64 k, .int .i64 i, .slice a n d, .int .i64 s, .int .i64 q]) 0).run Tryz.prog w = .ok (.int .i64 c) w := by kernel_rfl
theorem txField1 (c : Int) (s : ByteArray) (w : World) : (Instr.field 32 (.agg #[.int .i64 c, .string s]) 1).run Tryz.prog w = .ok (.string s) w := by kernel_rfl
theorem nsField1 (c : Int) (a : Option Addr) (n d : Nat) (w : World) : (Instr.field 38 (.agg #[.int .i64 c, .slice a n d]) 1).run Tryz.prog w = .ok (.slice a n d) w := by kernel_rfl
theorem codeWider {B B' : Nat} {w : World} {cv : Value} (h : IsCode B w cv) (hB : B ≤ B') : IsCode B' w cv := by
  obtain ⟨ao, len, cap, rfl, hl, hc⟩ := h
  refine ⟨ao, len, cap, rfl, hl, fun hp => ?_⟩
  obtain ⟨b, off, hao, hb, hc1⟩ := hc hp
  exact ⟨b, off, hao, by omega, hc1⟩
theorem parse_ok {l : Bytes} (h : (parseM l).code = 0) : writeFault (parseM l).write.kind (parseM l).write.id (parseM l).write.vec (parseM l).write.session (parseM l).write.seq = 0 ∧ writeText (parseM l).write.kind (parseM l).write.id (parseM l).write.vec (parseM l).write.session (parseM l).write.seq = l := by
  unfold parseM at h ⊢
  split
  · next hn => rw [hn] at h; cases h
  · next x hn =>
    rw [hn] at h
    simp only at h
    split
    · next ht => exact ⟨readM_fault hn, ht⟩
    · next ht => rw [if_neg ht] at h; cases h
theorem pack_fault {k i s q : Int} {zs ws : List Int} (h : packList k i zs s q = ws) (hn : ws.length ≠ 0) : writeFault k i zs s q = 0 := by
  by_cases hf : writeFault k i zs s q = 0
  · exact hf
  · rw [packList, if_neg hf] at h
    subst h
    exact absurd rfl hn
theorem bytes_list (s : ByteArray) : (⟨s.data.toList.toArray⟩ : ByteArray) = s := by cases s; simp
theorem read_one {W : World} {g : Nat} {T : TypeId} {row : List Value} {x : DWrite} (hb : Box 0 row.toArray T W g) (h : Lay.tWrite.Reads W row x) : (Lay.sl Lay.tWrite).Reads W [.slice (some ⟨g, 0, none⟩) 1 1] [x] := by
  obtain ⟨bl, hl⟩ := h
  refine ⟨g :: [bl].flatten, _, 1, rfl, by simp, Or.inr ⟨g, 0, [row], [bl], rfl, hb.lt, rfl, rfl, rfl, fun j h1 h2 h3 => ?_⟩⟩
  obtain rfl : j = 0 := by simp at h1; omega
  refine ⟨fun m hm => ?_, by simpa using hl⟩
  have hr := Lay.tWrite.len hl
  have hm2 : m < row.length := by omega
  have := hb.at m row[m] (by simp [hm2])
  rw [Nat.zero_mul, Nat.zero_add, this]
  simp [hm2]
theorem same_one (x : DWrite) : sameWs [x] [x] = true := sameWs_all rfl fun k h1 _ => by
  obtain rfl : k = 0 := by simp at h1; omega
  exact sameWs_refl_self x

theorem lawWrites_many (ao : Option Addr) (len cap : Nat) (w : World) (hn : 1048576 < len) :
    Calls Tryz.prog 3 #[.slice ao len cap] w fun e w' => e = .returned (.bool true) ∧ Below w.heap.size w w' := by
  go_enter Tryz.func3, Tryz.ntmps3
  go_wp2_with fail
  refine (big_yes ao len cap w hn).mono ?_
  rintro e w' ⟨rfl, rfl⟩
  go_wp2_with fail
  go_ret
  exact ⟨rfl, Below.refl _ _⟩

set_option maxRecDepth 100000 in
set_option maxHeartbeats 16000000 in
theorem lawWrites_few (ao : Option Addr) (len cap : Nat) (w : World) (hn : len ≤ 1048576) (hcode : IsCode w.heap.size w (.slice ao len cap)) (ht : Tab w) (hsh : Shp w) :
    Calls Tryz.prog 3 #[.slice ao len cap] w fun e w' => e = .returned (.bool true) ∧ Below w.heap.size w w' := by
  have HC := hide hcode
  have HT := hide ht
  have HSH := hide hsh
  clear hcode ht hsh
  go_enter Tryz.func3, Tryz.ntmps3
  go_wp2_with fail
  refine (big_no ao len cap w hn).mono ?_
  rintro e w ⟨rfl, rfl⟩
  go_wp2_with fail
  refine (drawPWrite ao len cap w (unhide HC)).mono ?_
  rintro e w1 ⟨s, rfl, hs, hb1⟩
  have L1 := hide (implPW s w1 (by omega) ((unhide HSH).later hb1))
  have HB1 := hide hb1
  clear hb1
  go_wp2_with fail
  refine (unhide L1).mono ?_
  rintro e w2 ⟨cs, rfl, O, hb2⟩
  obtain ⟨a3, d3, rfl, R3⟩ := open_WriteResult O.reads
  have HPO := hide (fun h => parse_ok (l := s.data.toList) h)
  have HPM : Hid (parseM s.data.toList = ⟨(parseM s.data.toList).code, (parseM s.data.toList).write⟩) := rfl
  generalize hux : (parseM s.data.toList).write = x at *
  generalize huc : (parseM s.data.toList).code = uc at *
  have nb2 : Below w2.heap.size w2 (w2.alloc (.cells #[.int .i64 uc, .int .i64 x.kind, .int .i64 x.id, .slice a3 x.vec.length d3, .int .i64 x.session, .int .i64 x.seq] 29)) := (Below.refl _ _).alloc (Nat.le_refl _) _
  have xU : Box 0 #[.int .i64 uc, .int .i64 x.kind, .int .i64 x.id, .slice a3 x.vec.length d3, .int .i64 x.session, .int .i64 x.seq] 29 (w2.alloc (.cells #[.int .i64 uc, .int .i64 x.kind, .int .i64 x.id, .slice a3 x.vec.length d3, .int .i64 x.session, .int .i64 x.seq] 29)) w2.heap.size := newBox (Nat.zero_le _)
  have KU : Hid (∀ W, Below (w2.alloc (.cells #[.int .i64 uc, .int .i64 x.kind, .int .i64 x.id, .slice a3 x.vec.length d3, .int .i64 x.session, .int .i64 x.seq] 29)).heap.size (w2.alloc (.cells #[.int .i64 uc, .int .i64 x.kind, .int .i64 x.id, .slice a3 x.vec.length d3, .int .i64 x.session, .int .i64 x.seq] 29)) W → W.cell? ⟨w2.heap.size, 0, none⟩ = some (.int .i64 uc) ∧ W.cell? ⟨w2.heap.size, 1, none⟩ = some (.int .i64 x.kind) ∧ W.cell? ⟨w2.heap.size, 2, none⟩ = some (.int .i64 x.id) ∧ W.cell? ⟨w2.heap.size, 3, none⟩ = some (.slice a3 x.vec.length d3) ∧ W.cell? ⟨w2.heap.size, 4, none⟩ = some (.int .i64 x.session) ∧ W.cell? ⟨w2.heap.size, 5, none⟩ = some (.int .i64 x.seq)) := fun W hW =>
    ⟨(xU.keep hW).at 0 _ rfl, (xU.keep hW).at 1 _ rfl, (xU.keep hW).at 2 _ rfl, (xU.keep hW).at 3 _ rfl, (xU.keep hW).at 4 _ rfl, (xU.keep hW).at 5 _ rfl⟩
  have HRU := hide (R3.later nb2)
  have HBA := hide (((unhide HB1).trans (hb2.mono (unhide HB1).size)).trans (nb2.mono (Nat.le_trans (unhide HB1).size hb2.size)))
  clear O R3 hb2 nb2 xU L1 HB1 hux huc
  go_upto_region 5 with fail
  generalize w2.alloc (.cells #[.int .i64 uc, .int .i64 x.kind, .int .i64 x.id, .slice a3 x.vec.length d3, .int .i64 x.session, .int .i64 x.seq] 29) = W2 at *
  go_cut [39] from 16 to 38 (fun s39 wx => s39 = .bool false ∧ Below W2.heap.size W2 wx)
  case first =>
    by_cases hu0 : uc = 0
    · subst hu0
      obtain ⟨hwf, hwt⟩ := unhide HPO rfl
      have L2 : Hid (∀ W, Below W2.heap.size W2 W → Calls Tryz.prog 7 #[.agg #[.int .i64 x.kind, .int .i64 x.id, .slice a3 x.vec.length d3, .int .i64 x.session, .int .i64 x.seq]] W fun e w' => e = .returned (.agg #[.int .i64 0, .string s]) ∧ Below W.heap.size W w') := fun W hW => by
        refine (implWText [.int .i64 x.kind, .int .i64 x.id, .slice a3 x.vec.length d3, .int .i64 x.session, .int .i64 x.seq] x W ((unhide HRU).later hW) ((unhide HT).later ((unhide HBA).trans (hW.mono (unhide HBA).size)))).mono ?_
        rintro e w' ⟨cs, rfl, O, hb⟩
        obtain ⟨bl, hl⟩ := O.reads
        obtain ⟨rfl, -⟩ := lies_TextResult.1 hl
        rw [show wtextR x = ⟨0, s⟩ by rw [wtextR, hwf, hwt, bytes_list]]
        exact ⟨rfl, hb⟩
      have hss : ∀ W : World, (Op.stringOp .neq s s).run Tryz.prog W = .ok (.bool false) W := fun W => by simp [Op.stringOp]
      have hfT := fun c t => txField1 c t
      have e0 : ((0 : Int) == 0) = true := by decide
      have e1 : ((0 : Int) != 0) = false := by decide
      clear hwf hwt HPO HPM HRU
      refine wp_region_noPanic ?_
      refine wp_region_held_drew (S := fun w' => Below W2.heap.size W2 w') (by kernel_rfl) (Below.refl _ _).drew (fun hHeld => ?_)
      generalize W2.drew = wD at hHeld ⊢
      refine wpAnyH_take (i := 0) (oi := { dst := some 16, op := Go.Op.fieldAddr 29 (Go.Operand.tmp 4) 0, type := 0, pos := "laws.go:165", after := #[], guard := none }) (v := ?va0_1) rfl (by kernel_rfl) (by kernel_rfl) (by kernel_rfl) (fun _ _ _ h => h) (Or.inl ⟨by rfl, ?ha0_1⟩) hHeld ?ra0_1
      case ha0_1 =>
        intro wS hSw
        (try dsimp only at hSw)
        go_simp
        try with_reducible rfl
      case ra0_1 =>
      simp only [Act.put, List.setIfInBounds_toArray, List.set_cons_zero, List.set_cons_succ]
      refine wpAnyH_take (i := 1) (oi := { dst := some 17, op := Go.Op.load 2 (Go.Operand.tmp 16), type := 2, pos := "laws.go:165", after := #[{ on := 0, ground := Go.Ground.data }], guard := none }) (v := ?va1_2) rfl (by kernel_rfl) (by kernel_rfl) (by kernel_rfl) (fun _ _ _ h => h) (Or.inl ⟨by rfl, ?ha1_2⟩) hHeld ?ra1_2
      case ha1_2 =>
        intro wS hSw
        obtain ⟨y0, y1, y2, y3, y4, y5⟩ := unhide KU _ hSw
        clear hSw
        (try dsimp only at hSw)
        go_simp
        try with_reducible rfl
      case ra1_2 =>
      simp only [Act.put, List.setIfInBounds_toArray, List.set_cons_zero, List.set_cons_succ]
      refine wpAnyH_take (i := 2) (oi := { dst := some 18, op := Go.Op.binOp Go.BinOp.eql 2 (Go.Operand.tmp 17) (Go.Operand.const (Go.Value.int Go.IntKind.i64 0)) 2, type := 4, pos := "laws.go:165", after := #[{ on := 1, ground := Go.Ground.data }], guard := none }) (v := ?va2_3) rfl (by kernel_rfl) (by kernel_rfl) (by kernel_rfl) (fun _ _ _ h => h) (Or.inl ⟨by rfl, ?ha2_3⟩) hHeld ?ra2_3
      case ha2_3 =>
        intro wS hSw
        (try dsimp only at hSw)
        go_simp
        try with_reducible rfl
      case ra2_3 =>
      simp only [Act.put, List.setIfInBounds_toArray, List.set_cons_zero, List.set_cons_succ]
      refine wpAnyH_take (i := 3) (oi := { dst := some 19, op := Go.Op.move (Go.Operand.tmp 18), type := 4, pos := "laws.go:165", after := #[{ on := 2, ground := Go.Ground.data }], guard := none }) (v := ?va3_4) rfl (by kernel_rfl) (by kernel_rfl) (by kernel_rfl) (fun _ _ _ h => h) (Or.inl ⟨by rfl, ?ha3_4⟩) hHeld ?ra3_4
      case ha3_4 =>
        intro wS hSw
        (try dsimp only at hSw)
        go_simp
        try with_reducible rfl
      case ra3_4 =>
      simp only [Act.put, List.setIfInBounds_toArray, List.set_cons_zero, List.set_cons_succ]
      refine wpAnyH_take (i := 4) (oi := { dst := some 20, op := Go.Op.fieldAddr 29 (Go.Operand.tmp 4) 1, type := 0, pos := "laws.go:165", after := #[{ on := 3, ground := Go.Ground.guard }], guard := some (3, true) }) (v := ?va4_5) rfl (by kernel_rfl) (by kernel_rfl) (by kernel_rfl) (fun _ _ _ h => h) (Or.inl ⟨by rfl, ?ha4_5⟩) hHeld ?ra4_5
      case ha4_5 =>
        intro wS hSw
        (try dsimp only at hSw)
        go_simp
        try with_reducible rfl
      case ra4_5 =>
      simp only [Act.put, List.setIfInBounds_toArray, List.set_cons_zero, List.set_cons_succ]
      refine wpAnyH_take (i := 5) (oi := { dst := some 21, op := Go.Op.load 27 (Go.Operand.tmp 20), type := 27, pos := "laws.go:165", after := #[{ on := 4, ground := Go.Ground.data }, { on := 3, ground := Go.Ground.guard }], guard := some (3, true) }) (v := ?va5_6) rfl (by kernel_rfl) (by kernel_rfl) (by kernel_rfl) (fun _ _ _ h => h) (Or.inl ⟨by rfl, ?ha5_6⟩) hHeld ?ra5_6
      case ha5_6 =>
        intro wS hSw
        obtain ⟨y0, y1, y2, y3, y4, y5⟩ := unhide KU _ hSw
        clear hSw
        (try dsimp only at hSw)
        go_simp
        try with_reducible rfl
      case ra5_6 =>
      simp only [Act.put, List.setIfInBounds_toArray, List.set_cons_zero, List.set_cons_succ]
      refine wpAnyH_take (i := 8) (oi := { dst := some 24, op := Go.Op.move (Go.Operand.tmp 3), type := 9, pos := "laws.go:165", after := #[{ on := 3, ground := Go.Ground.guard }], guard := some (3, true) }) (v := ?va8_7) rfl (by kernel_rfl) (by kernel_rfl) (by kernel_rfl) (fun _ _ _ h => h) (Or.inl ⟨by rfl, ?ha8_7⟩) hHeld ?ra8_7
      case ha8_7 =>
        intro wS hSw
        (try dsimp only at hSw)
        go_simp
        try with_reducible rfl
      case ra8_7 =>
      simp only [Act.put, List.setIfInBounds_toArray, List.set_cons_zero, List.set_cons_succ]
      refine wpAnyH_ready (rs := [6]) (by kernel_rfl) (by simp) ?_
      refine AllReadyH.cons (o := { dst := some 22, op := Go.Op.call { callee := Go.Callee.value (Go.Operand.func 7), args := #[Go.Operand.tmp 21], argTypes := #[27] }, type := 32, pos := "laws.go:165", after := #[{ on := 5, ground := Go.Ground.data }, { on := 3, ground := Go.Ground.chain }, { on := 3, ground := Go.Ground.guard }], guard := some (3, true) }) rfl (fun K hK => ?_) AllReadyH.nil
      go_simp
      go_at_call 7
      refine (unhide L2 _ hHeld).mono ?_
      rintro e w3 ⟨rfl, hbw⟩
      try go_wp2_with fail
      refine hK.out _ _ (hHeld.trans (hbw.mono hHeld.size)) (fun hHeld => ?_)
      clear hK K
      try simp only [Act.put, List.setIfInBounds_toArray, List.set_cons_zero, List.set_cons_succ]
      refine wpAnyH_take (i := 7) (oi := { dst := some 23, op := Go.Op.field 32 (Go.Operand.tmp 22) 1, type := 9, pos := "laws.go:165", after := #[{ on := 6, ground := Go.Ground.data }, { on := 3, ground := Go.Ground.guard }], guard := some (3, true) }) (v := ?va7_8) rfl (by kernel_rfl) (by kernel_rfl) (by kernel_rfl) (fun _ _ _ h => h) (Or.inl ⟨by rfl, ?ha7_8⟩) hHeld ?ra7_8
      case ha7_8 =>
        intro wS hSw
        have yf := hfT 0 s
        clear hSw
        (try dsimp only at hSw)
        go_simp
        try with_reducible rfl
      case ra7_8 =>
      simp only [Act.put, List.setIfInBounds_toArray, List.set_cons_zero, List.set_cons_succ]
      refine wpAnyH_take (i := 9) (oi := { dst := some 25, op := Go.Op.binOp Go.BinOp.neq 9 (Go.Operand.tmp 23) (Go.Operand.tmp 24) 9, type := 4, pos := "laws.go:165", after := #[{ on := 7, ground := Go.Ground.data }, { on := 8, ground := Go.Ground.data }, { on := 3, ground := Go.Ground.guard }], guard := some (3, true) }) (v := ?va9_9) rfl (by kernel_rfl) (by kernel_rfl) (by kernel_rfl) (fun _ _ _ h => h) (Or.inl ⟨by rfl, ?ha9_9⟩) hHeld ?ra9_9
      case ha9_9 =>
        intro wS hSw
        have ye := hss
        clear hSw
        (try dsimp only at hSw)
        go_simp
        try with_reducible rfl
      case ra9_9 =>
      simp only [Act.put, List.setIfInBounds_toArray, List.set_cons_zero, List.set_cons_succ]
      refine wpAnyH_take (i := 10) (oi := { dst := some 26, op := Go.Op.pick (Go.Operand.tmp 19) (Go.Operand.tmp 25) (Go.Operand.const (Go.Value.bool false)), type := 4, pos := "laws.go:165", after := #[{ on := 3, ground := Go.Ground.data }, { on := 9, ground := Go.Ground.data }], guard := none }) (v := ?va10_10) rfl (by kernel_rfl) (by kernel_rfl) (by kernel_rfl) (fun _ _ _ h => h) (Or.inl ⟨by rfl, ?ha10_10⟩) hHeld ?ra10_10
      case ha10_10 =>
        intro wS hSw
        (try dsimp only at hSw)
        go_simp
        try with_reducible rfl
      case ra10_10 =>
      simp only [Act.put, List.setIfInBounds_toArray, List.set_cons_zero, List.set_cons_succ]
      refine wpAnyH_take (i := 11) (oi := { dst := some 27, op := Go.Op.move (Go.Operand.tmp 26), type := 4, pos := "laws.go:165", after := #[{ on := 10, ground := Go.Ground.data }, { on := 6, ground := Go.Ground.chain }], guard := none }) (v := ?va11_11) rfl (by kernel_rfl) (by kernel_rfl) (by kernel_rfl) (fun _ _ _ h => h) (Or.inl ⟨by rfl, ?ha11_11⟩) hHeld ?ra11_11
      case ha11_11 =>
        intro wS hSw
        (try dsimp only at hSw)
        go_simp
        try with_reducible rfl
      case ra11_11 =>
      simp only [Act.put, List.setIfInBounds_toArray, List.set_cons_zero, List.set_cons_succ]
      refine wpAnyH_take (i := 12) (oi := { dst := some 28, op := Go.Op.fieldAddr 29 (Go.Operand.tmp 4) 0, type := 0, pos := "laws.go:165", after := #[{ on := 11, ground := Go.Ground.guard }], guard := some (11, false) }) (v := ?va12_12) rfl (by kernel_rfl) (by kernel_rfl) (by kernel_rfl) (fun _ _ _ h => h) (Or.inl ⟨by rfl, ?ha12_12⟩) hHeld ?ra12_12
      case ha12_12 =>
        intro wS hSw
        (try dsimp only at hSw)
        go_simp
        try with_reducible rfl
      case ra12_12 =>
      simp only [Act.put, List.setIfInBounds_toArray, List.set_cons_zero, List.set_cons_succ]
      refine wpAnyH_take (i := 13) (oi := { dst := some 29, op := Go.Op.load 2 (Go.Operand.tmp 28), type := 2, pos := "laws.go:165", after := #[{ on := 12, ground := Go.Ground.data }, { on := 11, ground := Go.Ground.guard }], guard := some (11, false) }) (v := ?va13_13) rfl (by kernel_rfl) (by kernel_rfl) (by kernel_rfl) (fun _ _ _ h => h) (Or.inl ⟨by rfl, ?ha13_13⟩) hHeld ?ra13_13
      case ha13_13 =>
        intro wS hSw
        obtain ⟨y0, y1, y2, y3, y4, y5⟩ := unhide KU _ hSw
        clear hSw
        (try dsimp only at hSw)
        go_simp
        try with_reducible rfl
      case ra13_13 =>
      simp only [Act.put, List.setIfInBounds_toArray, List.set_cons_zero, List.set_cons_succ]
      refine wpAnyH_take (i := 14) (oi := { dst := some 30, op := Go.Op.binOp Go.BinOp.neq 2 (Go.Operand.tmp 29) (Go.Operand.const (Go.Value.int Go.IntKind.i64 0)) 2, type := 4, pos := "laws.go:165", after := #[{ on := 13, ground := Go.Ground.data }, { on := 11, ground := Go.Ground.guard }], guard := some (11, false) }) (v := ?va14_14) rfl (by kernel_rfl) (by kernel_rfl) (by kernel_rfl) (fun _ _ _ h => h) (Or.inl ⟨by rfl, ?ha14_14⟩) hHeld ?ra14_14
      case ha14_14 =>
        intro wS hSw
        (try dsimp only at hSw)
        go_simp
        try with_reducible rfl
      case ra14_14 =>
      simp only [Act.put, List.setIfInBounds_toArray, List.set_cons_zero, List.set_cons_succ]
      refine wpAnyH_take (i := 15) (oi := { dst := some 31, op := Go.Op.move (Go.Operand.tmp 30), type := 4, pos := "laws.go:165", after := #[{ on := 14, ground := Go.Ground.data }, { on := 11, ground := Go.Ground.chain }, { on := 11, ground := Go.Ground.guard }], guard := some (11, false) }) (v := ?va15_15) rfl (by kernel_rfl) (by kernel_rfl) (by kernel_rfl) (fun _ _ _ h => h) (Or.inl ⟨by rfl, ?ha15_15⟩) hHeld ?ra15_15
      case ha15_15 =>
        intro wS hSw
        (try dsimp only at hSw)
        go_simp
        try with_reducible rfl
      case ra15_15 =>
      simp only [Act.put, List.setIfInBounds_toArray, List.set_cons_zero, List.set_cons_succ]
      refine wpAnyH_take (i := 16) (oi := { dst := some 32, op := Go.Op.move (Go.Operand.tmp 3), type := 9, pos := "laws.go:165", after := #[{ on := 15, ground := Go.Ground.guard }], guard := some (15, true) }) (v := undef) rfl (by kernel_rfl) (by kernel_rfl) (by kernel_rfl) (fun _ _ _ h => h) (Or.inr ⟨by rfl, rfl⟩) hHeld ?_
      simp only [Act.put, List.setIfInBounds_toArray, List.set_cons_zero, List.set_cons_succ]
      refine wpAnyH_take (i := 17) (oi := { dst := some 33, op := Go.Op.call { callee := Go.Callee.value (Go.Operand.func 8), args := #[Go.Operand.tmp 32], argTypes := #[9] }, type := 29, pos := "laws.go:165", after := #[{ on := 16, ground := Go.Ground.data }, { on := 15, ground := Go.Ground.chain }, { on := 15, ground := Go.Ground.guard }], guard := some (15, true) }) (v := undef) rfl (by kernel_rfl) (by kernel_rfl) (by kernel_rfl) (fun _ _ _ h => h) (Or.inr ⟨by rfl, rfl⟩) hHeld ?_
      simp only [Act.put, List.setIfInBounds_toArray, List.set_cons_zero, List.set_cons_succ]
      refine wpAnyH_take (i := 18) (oi := { dst := some 34, op := Go.Op.field 29 (Go.Operand.tmp 33) 0, type := 2, pos := "laws.go:165", after := #[{ on := 17, ground := Go.Ground.data }, { on := 15, ground := Go.Ground.guard }], guard := some (15, true) }) (v := undef) rfl (by kernel_rfl) (by kernel_rfl) (by kernel_rfl) (fun _ _ _ h => h) (Or.inr ⟨by rfl, rfl⟩) hHeld ?_
      simp only [Act.put, List.setIfInBounds_toArray, List.set_cons_zero, List.set_cons_succ]
      refine wpAnyH_take (i := 19) (oi := { dst := some 35, op := Go.Op.fieldAddr 29 (Go.Operand.tmp 4) 0, type := 0, pos := "laws.go:165", after := #[{ on := 15, ground := Go.Ground.guard }], guard := some (15, true) }) (v := undef) rfl (by kernel_rfl) (by kernel_rfl) (by kernel_rfl) (fun _ _ _ h => h) (Or.inr ⟨by rfl, rfl⟩) hHeld ?_
      simp only [Act.put, List.setIfInBounds_toArray, List.set_cons_zero, List.set_cons_succ]
      refine wpAnyH_take (i := 20) (oi := { dst := some 36, op := Go.Op.load 2 (Go.Operand.tmp 35), type := 2, pos := "laws.go:165", after := #[{ on := 19, ground := Go.Ground.data }, { on := 15, ground := Go.Ground.guard }], guard := some (15, true) }) (v := undef) rfl (by kernel_rfl) (by kernel_rfl) (by kernel_rfl) (fun _ _ _ h => h) (Or.inr ⟨by rfl, rfl⟩) hHeld ?_
      simp only [Act.put, List.setIfInBounds_toArray, List.set_cons_zero, List.set_cons_succ]
      refine wpAnyH_take (i := 21) (oi := { dst := some 37, op := Go.Op.binOp Go.BinOp.neq 2 (Go.Operand.tmp 34) (Go.Operand.tmp 36) 2, type := 4, pos := "laws.go:165", after := #[{ on := 18, ground := Go.Ground.data }, { on := 20, ground := Go.Ground.data }, { on := 15, ground := Go.Ground.guard }], guard := some (15, true) }) (v := undef) rfl (by kernel_rfl) (by kernel_rfl) (by kernel_rfl) (fun _ _ _ h => h) (Or.inr ⟨by rfl, rfl⟩) hHeld ?_
      simp only [Act.put, List.setIfInBounds_toArray, List.set_cons_zero, List.set_cons_succ]
      refine wpAnyH_take (i := 22) (oi := { dst := some 38, op := Go.Op.pick (Go.Operand.tmp 31) (Go.Operand.tmp 37) (Go.Operand.const (Go.Value.bool false)), type := 4, pos := "laws.go:165", after := #[{ on := 15, ground := Go.Ground.data }, { on := 21, ground := Go.Ground.data }, { on := 11, ground := Go.Ground.guard }], guard := some (11, false) }) (v := ?va22_22) rfl (by kernel_rfl) (by kernel_rfl) (by kernel_rfl) (fun _ _ _ h => h) (Or.inl ⟨by rfl, ?ha22_22⟩) hHeld ?ra22_22
      case ha22_22 =>
        intro wS hSw
        (try dsimp only at hSw)
        go_simp
        try with_reducible rfl
      case ra22_22 =>
      simp only [Act.put, List.setIfInBounds_toArray, List.set_cons_zero, List.set_cons_succ]
      refine wpAnyH_take (i := 23) (oi := { dst := some 39, op := Go.Op.pick (Go.Operand.tmp 27) (Go.Operand.const (Go.Value.bool true)) (Go.Operand.tmp 38), type := 4, pos := "laws.go:165", after := #[{ on := 11, ground := Go.Ground.data }, { on := 22, ground := Go.Ground.data }], guard := none }) (v := ?va23_23) rfl (by kernel_rfl) (by kernel_rfl) (by kernel_rfl) (fun _ _ _ h => h) (Or.inl ⟨by rfl, ?ha23_23⟩) hHeld ?ra23_23
      case ha23_23 =>
        intro wS hSw
        (try dsimp only at hSw)
        go_simp
        try with_reducible rfl
      case ra23_23 =>
      simp only [Act.put, List.setIfInBounds_toArray, List.set_cons_zero, List.set_cons_succ]
      refine wpAnyH_done (by kernel_rfl) ?_ _
      refine NoPanic.normal ?_
      have HB3 := hide hHeld
      clear hHeld
      go_wp2_with fail
      go_meet
      exact ⟨rfl, unhide HB3⟩
    · have hne : (uc != 0) = true := by rw [bne_iff_ne]; exact hu0
      have hnb : (uc == 0) = false := by rw [beq_eq_false_iff_ne]; exact hu0
      have hnn : (uc != uc) = false := by simp
      have L2 : Hid (∀ W, Below W2.heap.size W2 W → Calls Tryz.prog 8 #[.string s] W fun e w' => ∃ a d, e = .returned (.agg #[.int .i64 uc, .int .i64 x.kind, .int .i64 x.id, .slice a x.vec.length d, .int .i64 x.session, .int .i64 x.seq]) ∧ Below W.heap.size W w') := fun W hW => by
        refine (specPW s W (by omega)).mono ?_
        rintro e w' ⟨cs, rfl, O, hb⟩
        rw [unhide HPM] at O
        obtain ⟨a, d, rfl, -⟩ := open_WriteResult O
        exact ⟨a, d, rfl, hb⟩
      have hf0 := fun c k i a n d s q => wrField0 c k i a n d s q
      clear hu0 HPO HRU
      refine wp_region_noPanic ?_
      refine wp_region_held_drew (S := fun w' => Below W2.heap.size W2 w') (by kernel_rfl) (Below.refl _ _).drew (fun hHeld => ?_)
      generalize W2.drew = wD at hHeld ⊢
      refine wpAnyH_take (i := 0) (oi := { dst := some 16, op := Go.Op.fieldAddr 29 (Go.Operand.tmp 4) 0, type := 0, pos := "laws.go:165", after := #[], guard := none }) (v := ?vb0_1) rfl (by kernel_rfl) (by kernel_rfl) (by kernel_rfl) (fun _ _ _ h => h) (Or.inl ⟨by rfl, ?hb0_1⟩) hHeld ?rb0_1
      case hb0_1 =>
        intro wS hSw
        (try dsimp only at hSw)
        go_simp
        try with_reducible rfl
      case rb0_1 =>
      simp only [Act.put, List.setIfInBounds_toArray, List.set_cons_zero, List.set_cons_succ]
      refine wpAnyH_take (i := 1) (oi := { dst := some 17, op := Go.Op.load 2 (Go.Operand.tmp 16), type := 2, pos := "laws.go:165", after := #[{ on := 0, ground := Go.Ground.data }], guard := none }) (v := ?vb1_2) rfl (by kernel_rfl) (by kernel_rfl) (by kernel_rfl) (fun _ _ _ h => h) (Or.inl ⟨by rfl, ?hb1_2⟩) hHeld ?rb1_2
      case hb1_2 =>
        intro wS hSw
        obtain ⟨y0, y1, y2, y3, y4, y5⟩ := unhide KU _ hSw
        clear hSw
        (try dsimp only at hSw)
        go_simp
        try with_reducible rfl
      case rb1_2 =>
      simp only [Act.put, List.setIfInBounds_toArray, List.set_cons_zero, List.set_cons_succ]
      refine wpAnyH_take (i := 2) (oi := { dst := some 18, op := Go.Op.binOp Go.BinOp.eql 2 (Go.Operand.tmp 17) (Go.Operand.const (Go.Value.int Go.IntKind.i64 0)) 2, type := 4, pos := "laws.go:165", after := #[{ on := 1, ground := Go.Ground.data }], guard := none }) (v := ?vb2_3) rfl (by kernel_rfl) (by kernel_rfl) (by kernel_rfl) (fun _ _ _ h => h) (Or.inl ⟨by rfl, ?hb2_3⟩) hHeld ?rb2_3
      case hb2_3 =>
        intro wS hSw
        (try dsimp only at hSw)
        go_simp
        try with_reducible rfl
      case rb2_3 =>
      simp only [Act.put, List.setIfInBounds_toArray, List.set_cons_zero, List.set_cons_succ]
      refine wpAnyH_take (i := 3) (oi := { dst := some 19, op := Go.Op.move (Go.Operand.tmp 18), type := 4, pos := "laws.go:165", after := #[{ on := 2, ground := Go.Ground.data }], guard := none }) (v := ?vb3_4) rfl (by kernel_rfl) (by kernel_rfl) (by kernel_rfl) (fun _ _ _ h => h) (Or.inl ⟨by rfl, ?hb3_4⟩) hHeld ?rb3_4
      case hb3_4 =>
        intro wS hSw
        (try dsimp only at hSw)
        go_simp
        try with_reducible rfl
      case rb3_4 =>
      simp only [Act.put, List.setIfInBounds_toArray, List.set_cons_zero, List.set_cons_succ]
      refine wpAnyH_take (i := 4) (oi := { dst := some 20, op := Go.Op.fieldAddr 29 (Go.Operand.tmp 4) 1, type := 0, pos := "laws.go:165", after := #[{ on := 3, ground := Go.Ground.guard }], guard := some (3, true) }) (v := undef) rfl (by kernel_rfl) (by kernel_rfl) (by kernel_rfl) (fun _ _ _ h => h) (Or.inr ⟨by rfl, rfl⟩) hHeld ?_
      simp only [Act.put, List.setIfInBounds_toArray, List.set_cons_zero, List.set_cons_succ]
      refine wpAnyH_take (i := 5) (oi := { dst := some 21, op := Go.Op.load 27 (Go.Operand.tmp 20), type := 27, pos := "laws.go:165", after := #[{ on := 4, ground := Go.Ground.data }, { on := 3, ground := Go.Ground.guard }], guard := some (3, true) }) (v := undef) rfl (by kernel_rfl) (by kernel_rfl) (by kernel_rfl) (fun _ _ _ h => h) (Or.inr ⟨by rfl, rfl⟩) hHeld ?_
      simp only [Act.put, List.setIfInBounds_toArray, List.set_cons_zero, List.set_cons_succ]
      refine wpAnyH_take (i := 6) (oi := { dst := some 22, op := Go.Op.call { callee := Go.Callee.value (Go.Operand.func 7), args := #[Go.Operand.tmp 21], argTypes := #[27] }, type := 32, pos := "laws.go:165", after := #[{ on := 5, ground := Go.Ground.data }, { on := 3, ground := Go.Ground.chain }, { on := 3, ground := Go.Ground.guard }], guard := some (3, true) }) (v := undef) rfl (by kernel_rfl) (by kernel_rfl) (by kernel_rfl) (fun _ _ _ h => h) (Or.inr ⟨by rfl, rfl⟩) hHeld ?_
      simp only [Act.put, List.setIfInBounds_toArray, List.set_cons_zero, List.set_cons_succ]
      refine wpAnyH_take (i := 7) (oi := { dst := some 23, op := Go.Op.field 32 (Go.Operand.tmp 22) 1, type := 9, pos := "laws.go:165", after := #[{ on := 6, ground := Go.Ground.data }, { on := 3, ground := Go.Ground.guard }], guard := some (3, true) }) (v := undef) rfl (by kernel_rfl) (by kernel_rfl) (by kernel_rfl) (fun _ _ _ h => h) (Or.inr ⟨by rfl, rfl⟩) hHeld ?_
      simp only [Act.put, List.setIfInBounds_toArray, List.set_cons_zero, List.set_cons_succ]
      refine wpAnyH_take (i := 8) (oi := { dst := some 24, op := Go.Op.move (Go.Operand.tmp 3), type := 9, pos := "laws.go:165", after := #[{ on := 3, ground := Go.Ground.guard }], guard := some (3, true) }) (v := undef) rfl (by kernel_rfl) (by kernel_rfl) (by kernel_rfl) (fun _ _ _ h => h) (Or.inr ⟨by rfl, rfl⟩) hHeld ?_
      simp only [Act.put, List.setIfInBounds_toArray, List.set_cons_zero, List.set_cons_succ]
      refine wpAnyH_take (i := 9) (oi := { dst := some 25, op := Go.Op.binOp Go.BinOp.neq 9 (Go.Operand.tmp 23) (Go.Operand.tmp 24) 9, type := 4, pos := "laws.go:165", after := #[{ on := 7, ground := Go.Ground.data }, { on := 8, ground := Go.Ground.data }, { on := 3, ground := Go.Ground.guard }], guard := some (3, true) }) (v := undef) rfl (by kernel_rfl) (by kernel_rfl) (by kernel_rfl) (fun _ _ _ h => h) (Or.inr ⟨by rfl, rfl⟩) hHeld ?_
      simp only [Act.put, List.setIfInBounds_toArray, List.set_cons_zero, List.set_cons_succ]
      refine wpAnyH_take (i := 10) (oi := { dst := some 26, op := Go.Op.pick (Go.Operand.tmp 19) (Go.Operand.tmp 25) (Go.Operand.const (Go.Value.bool false)), type := 4, pos := "laws.go:165", after := #[{ on := 3, ground := Go.Ground.data }, { on := 9, ground := Go.Ground.data }], guard := none }) (v := ?vb10_11) rfl (by kernel_rfl) (by kernel_rfl) (by kernel_rfl) (fun _ _ _ h => h) (Or.inl ⟨by rfl, ?hb10_11⟩) hHeld ?rb10_11
      case hb10_11 =>
        intro wS hSw
        (try dsimp only at hSw)
        go_simp
        try with_reducible rfl
      case rb10_11 =>
      simp only [Act.put, List.setIfInBounds_toArray, List.set_cons_zero, List.set_cons_succ]
      refine wpAnyH_take (i := 11) (oi := { dst := some 27, op := Go.Op.move (Go.Operand.tmp 26), type := 4, pos := "laws.go:165", after := #[{ on := 10, ground := Go.Ground.data }, { on := 6, ground := Go.Ground.chain }], guard := none }) (v := ?vb11_12) rfl (by kernel_rfl) (by kernel_rfl) (by kernel_rfl) (fun _ _ _ h => h) (Or.inl ⟨by rfl, ?hb11_12⟩) hHeld ?rb11_12
      case hb11_12 =>
        intro wS hSw
        (try dsimp only at hSw)
        go_simp
        try with_reducible rfl
      case rb11_12 =>
      simp only [Act.put, List.setIfInBounds_toArray, List.set_cons_zero, List.set_cons_succ]
      refine wpAnyH_take (i := 12) (oi := { dst := some 28, op := Go.Op.fieldAddr 29 (Go.Operand.tmp 4) 0, type := 0, pos := "laws.go:165", after := #[{ on := 11, ground := Go.Ground.guard }], guard := some (11, false) }) (v := ?vb12_13) rfl (by kernel_rfl) (by kernel_rfl) (by kernel_rfl) (fun _ _ _ h => h) (Or.inl ⟨by rfl, ?hb12_13⟩) hHeld ?rb12_13
      case hb12_13 =>
        intro wS hSw
        (try dsimp only at hSw)
        go_simp
        try with_reducible rfl
      case rb12_13 =>
      simp only [Act.put, List.setIfInBounds_toArray, List.set_cons_zero, List.set_cons_succ]
      refine wpAnyH_take (i := 13) (oi := { dst := some 29, op := Go.Op.load 2 (Go.Operand.tmp 28), type := 2, pos := "laws.go:165", after := #[{ on := 12, ground := Go.Ground.data }, { on := 11, ground := Go.Ground.guard }], guard := some (11, false) }) (v := ?vb13_14) rfl (by kernel_rfl) (by kernel_rfl) (by kernel_rfl) (fun _ _ _ h => h) (Or.inl ⟨by rfl, ?hb13_14⟩) hHeld ?rb13_14
      case hb13_14 =>
        intro wS hSw
        obtain ⟨y0, y1, y2, y3, y4, y5⟩ := unhide KU _ hSw
        clear hSw
        (try dsimp only at hSw)
        go_simp
        try with_reducible rfl
      case rb13_14 =>
      simp only [Act.put, List.setIfInBounds_toArray, List.set_cons_zero, List.set_cons_succ]
      refine wpAnyH_take (i := 14) (oi := { dst := some 30, op := Go.Op.binOp Go.BinOp.neq 2 (Go.Operand.tmp 29) (Go.Operand.const (Go.Value.int Go.IntKind.i64 0)) 2, type := 4, pos := "laws.go:165", after := #[{ on := 13, ground := Go.Ground.data }, { on := 11, ground := Go.Ground.guard }], guard := some (11, false) }) (v := ?vb14_15) rfl (by kernel_rfl) (by kernel_rfl) (by kernel_rfl) (fun _ _ _ h => h) (Or.inl ⟨by rfl, ?hb14_15⟩) hHeld ?rb14_15
      case hb14_15 =>
        intro wS hSw
        (try dsimp only at hSw)
        go_simp
        try with_reducible rfl
      case rb14_15 =>
      simp only [Act.put, List.setIfInBounds_toArray, List.set_cons_zero, List.set_cons_succ]
      refine wpAnyH_take (i := 15) (oi := { dst := some 31, op := Go.Op.move (Go.Operand.tmp 30), type := 4, pos := "laws.go:165", after := #[{ on := 14, ground := Go.Ground.data }, { on := 11, ground := Go.Ground.chain }, { on := 11, ground := Go.Ground.guard }], guard := some (11, false) }) (v := ?vb15_16) rfl (by kernel_rfl) (by kernel_rfl) (by kernel_rfl) (fun _ _ _ h => h) (Or.inl ⟨by rfl, ?hb15_16⟩) hHeld ?rb15_16
      case hb15_16 =>
        intro wS hSw
        (try dsimp only at hSw)
        go_simp
        try with_reducible rfl
      case rb15_16 =>
      simp only [Act.put, List.setIfInBounds_toArray, List.set_cons_zero, List.set_cons_succ]
      refine wpAnyH_take (i := 16) (oi := { dst := some 32, op := Go.Op.move (Go.Operand.tmp 3), type := 9, pos := "laws.go:165", after := #[{ on := 15, ground := Go.Ground.guard }], guard := some (15, true) }) (v := ?vb16_17) rfl (by kernel_rfl) (by kernel_rfl) (by kernel_rfl) (fun _ _ _ h => h) (Or.inl ⟨by rfl, ?hb16_17⟩) hHeld ?rb16_17
      case hb16_17 =>
        intro wS hSw
        (try dsimp only at hSw)
        go_simp
        try with_reducible rfl
      case rb16_17 =>
      simp only [Act.put, List.setIfInBounds_toArray, List.set_cons_zero, List.set_cons_succ]
      refine wpAnyH_take (i := 19) (oi := { dst := some 35, op := Go.Op.fieldAddr 29 (Go.Operand.tmp 4) 0, type := 0, pos := "laws.go:165", after := #[{ on := 15, ground := Go.Ground.guard }], guard := some (15, true) }) (v := ?vb19_18) rfl (by kernel_rfl) (by kernel_rfl) (by kernel_rfl) (fun _ _ _ h => h) (Or.inl ⟨by rfl, ?hb19_18⟩) hHeld ?rb19_18
      case hb19_18 =>
        intro wS hSw
        (try dsimp only at hSw)
        go_simp
        try with_reducible rfl
      case rb19_18 =>
      simp only [Act.put, List.setIfInBounds_toArray, List.set_cons_zero, List.set_cons_succ]
      refine wpAnyH_take (i := 20) (oi := { dst := some 36, op := Go.Op.load 2 (Go.Operand.tmp 35), type := 2, pos := "laws.go:165", after := #[{ on := 19, ground := Go.Ground.data }, { on := 15, ground := Go.Ground.guard }], guard := some (15, true) }) (v := ?vb20_19) rfl (by kernel_rfl) (by kernel_rfl) (by kernel_rfl) (fun _ _ _ h => h) (Or.inl ⟨by rfl, ?hb20_19⟩) hHeld ?rb20_19
      case hb20_19 =>
        intro wS hSw
        obtain ⟨y0, y1, y2, y3, y4, y5⟩ := unhide KU _ hSw
        clear hSw
        (try dsimp only at hSw)
        go_simp
        try with_reducible rfl
      case rb20_19 =>
      simp only [Act.put, List.setIfInBounds_toArray, List.set_cons_zero, List.set_cons_succ]
      refine wpAnyH_ready (rs := [17]) (by kernel_rfl) (by simp) ?_
      refine AllReadyH.cons (o := { dst := some 33, op := Go.Op.call { callee := Go.Callee.value (Go.Operand.func 8), args := #[Go.Operand.tmp 32], argTypes := #[9] }, type := 29, pos := "laws.go:165", after := #[{ on := 16, ground := Go.Ground.data }, { on := 15, ground := Go.Ground.chain }, { on := 15, ground := Go.Ground.guard }], guard := some (15, true) }) rfl (fun K hK => ?_) AllReadyH.nil
      go_simp
      go_at_call 8
      refine (unhide L2 _ hHeld).mono ?_
      rintro e w3 ⟨a9, d9, rfl, hbw⟩
      try go_wp2_with fail
      refine hK.out _ _ (hHeld.trans (hbw.mono hHeld.size)) (fun hHeld => ?_)
      clear hK K
      try simp only [Act.put, List.setIfInBounds_toArray, List.set_cons_zero, List.set_cons_succ]
      refine wpAnyH_take (i := 18) (oi := { dst := some 34, op := Go.Op.field 29 (Go.Operand.tmp 33) 0, type := 2, pos := "laws.go:165", after := #[{ on := 17, ground := Go.Ground.data }, { on := 15, ground := Go.Ground.guard }], guard := some (15, true) }) (v := ?vb18_20) rfl (by kernel_rfl) (by kernel_rfl) (by kernel_rfl) (fun _ _ _ h => h) (Or.inl ⟨by rfl, ?hb18_20⟩) hHeld ?rb18_20
      case hb18_20 =>
        intro wS hSw
        have yf := hf0 uc x.kind x.id a9 x.vec.length d9 x.session x.seq
        clear hSw
        (try dsimp only at hSw)
        go_simp
        try with_reducible rfl
      case rb18_20 =>
      simp only [Act.put, List.setIfInBounds_toArray, List.set_cons_zero, List.set_cons_succ]
      refine wpAnyH_take (i := 21) (oi := { dst := some 37, op := Go.Op.binOp Go.BinOp.neq 2 (Go.Operand.tmp 34) (Go.Operand.tmp 36) 2, type := 4, pos := "laws.go:165", after := #[{ on := 18, ground := Go.Ground.data }, { on := 20, ground := Go.Ground.data }, { on := 15, ground := Go.Ground.guard }], guard := some (15, true) }) (v := ?vb21_21) rfl (by kernel_rfl) (by kernel_rfl) (by kernel_rfl) (fun _ _ _ h => h) (Or.inl ⟨by rfl, ?hb21_21⟩) hHeld ?rb21_21
      case hb21_21 =>
        intro wS hSw
        (try dsimp only at hSw)
        go_simp
        try with_reducible rfl
      case rb21_21 =>
      simp only [Act.put, List.setIfInBounds_toArray, List.set_cons_zero, List.set_cons_succ]
      refine wpAnyH_take (i := 22) (oi := { dst := some 38, op := Go.Op.pick (Go.Operand.tmp 31) (Go.Operand.tmp 37) (Go.Operand.const (Go.Value.bool false)), type := 4, pos := "laws.go:165", after := #[{ on := 15, ground := Go.Ground.data }, { on := 21, ground := Go.Ground.data }, { on := 11, ground := Go.Ground.guard }], guard := some (11, false) }) (v := ?vb22_22) rfl (by kernel_rfl) (by kernel_rfl) (by kernel_rfl) (fun _ _ _ h => h) (Or.inl ⟨by rfl, ?hb22_22⟩) hHeld ?rb22_22
      case hb22_22 =>
        intro wS hSw
        (try dsimp only at hSw)
        go_simp
        try with_reducible rfl
      case rb22_22 =>
      simp only [Act.put, List.setIfInBounds_toArray, List.set_cons_zero, List.set_cons_succ]
      refine wpAnyH_take (i := 23) (oi := { dst := some 39, op := Go.Op.pick (Go.Operand.tmp 27) (Go.Operand.const (Go.Value.bool true)) (Go.Operand.tmp 38), type := 4, pos := "laws.go:165", after := #[{ on := 11, ground := Go.Ground.data }, { on := 22, ground := Go.Ground.data }], guard := none }) (v := ?vb23_23) rfl (by kernel_rfl) (by kernel_rfl) (by kernel_rfl) (fun _ _ _ h => h) (Or.inl ⟨by rfl, ?hb23_23⟩) hHeld ?rb23_23
      case hb23_23 =>
        intro wS hSw
        (try dsimp only at hSw)
        go_simp
        try with_reducible rfl
      case rb23_23 =>
      simp only [Act.put, List.setIfInBounds_toArray, List.set_cons_zero, List.set_cons_succ]
      refine wpAnyH_done (by kernel_rfl) ?_ _
      refine NoPanic.normal ?_
      have HB3 := hide hHeld
      clear hHeld
      go_wp2_with fail
      go_meet
      exact ⟨rfl, unhide HB3⟩
  case rest =>
    obtain ⟨rfl, hbc⟩ := hcut
    replace HBA := hide ((unhide HBA).trans (hbc.mono (unhide HBA).size))
    have HC2 : Hid (IsCode wc.heap.size wc (.slice ao len cap)) := codeWider ((unhide HC).later (unhide HBA)) (unhide HBA).size
    clear hbc KU HRU HPO HPM hs
    go_wp2_with fail
    refine (drawUnpack ao len cap wc (unhide HC2)).mono ?_
    rintro e w3 ⟨az, nz, zs, rfl, hi, hn8, hb3⟩
    obtain rfl : nz = zs.length := by
      obtain ⟨_, _, e, -⟩ := hi
      simp only [Value.slice.injEq] at e
      exact e.2.1
    have hZ := Lay.reads_ints hi (fun ao' cap' e => by simp only [Value.slice.injEq] at e; omega) (by omega)
    have HZ := hide hZ
    have L3 := hide (implUnpack _ zs w3 hZ)
    replace HBA := hide ((unhide HBA).trans (hb3.mono (unhide HBA).size))
    clear hi hb3 HC2 hZ
    go_wp2_with fail
    refine (unhide L3).mono ?_
    rintro e w4 ⟨cs, rfl, O, hb4⟩
    obtain ⟨a3, d3, rfl, R3⟩ := open_WriteResult O.reads
    have HPU := hide (fun h => pack_unpack (zs := zs) h)
    have HPM : Hid (unpackR zs = ⟨(unpackR zs).code, (unpackR zs).write⟩) := rfl
    generalize hux : (unpackR zs).write = y at *
    generalize huc : (unpackR zs).code = vc at *
    have nb4 : Below w4.heap.size w4 (w4.alloc (.cells #[.int .i64 vc, .int .i64 y.kind, .int .i64 y.id, .slice a3 y.vec.length d3, .int .i64 y.session, .int .i64 y.seq] 29)) := (Below.refl _ _).alloc (Nat.le_refl _) _
    have xV : Box 0 #[.int .i64 vc, .int .i64 y.kind, .int .i64 y.id, .slice a3 y.vec.length d3, .int .i64 y.session, .int .i64 y.seq] 29 (w4.alloc (.cells #[.int .i64 vc, .int .i64 y.kind, .int .i64 y.id, .slice a3 y.vec.length d3, .int .i64 y.session, .int .i64 y.seq] 29)) w4.heap.size := newBox (Nat.zero_le _)
    have KV : Hid (∀ W, Below (w4.alloc (.cells #[.int .i64 vc, .int .i64 y.kind, .int .i64 y.id, .slice a3 y.vec.length d3, .int .i64 y.session, .int .i64 y.seq] 29)).heap.size (w4.alloc (.cells #[.int .i64 vc, .int .i64 y.kind, .int .i64 y.id, .slice a3 y.vec.length d3, .int .i64 y.session, .int .i64 y.seq] 29)) W → W.cell? ⟨w4.heap.size, 0, none⟩ = some (.int .i64 vc) ∧ W.cell? ⟨w4.heap.size, 1, none⟩ = some (.int .i64 y.kind) ∧ W.cell? ⟨w4.heap.size, 2, none⟩ = some (.int .i64 y.id) ∧ W.cell? ⟨w4.heap.size, 3, none⟩ = some (.slice a3 y.vec.length d3) ∧ W.cell? ⟨w4.heap.size, 4, none⟩ = some (.int .i64 y.session) ∧ W.cell? ⟨w4.heap.size, 5, none⟩ = some (.int .i64 y.seq)) := fun W hW =>
      ⟨(xV.keep hW).at 0 _ rfl, (xV.keep hW).at 1 _ rfl, (xV.keep hW).at 2 _ rfl, (xV.keep hW).at 3 _ rfl, (xV.keep hW).at 4 _ rfl, (xV.keep hW).at 5 _ rfl⟩
    have HRV := hide (R3.later nb4)
    have HZ4 := hide (((unhide HZ).later hb4).later nb4)
    replace HBA := hide (((unhide HBA).trans (hb4.mono (unhide HBA).size)).trans (nb4.mono (Nat.le_trans (unhide HBA).size hb4.size)))
    clear O R3 hb4 nb4 xV L3 HZ hux huc
    go_upto_region 9 with fail
    generalize w4.alloc (.cells #[.int .i64 vc, .int .i64 y.kind, .int .i64 y.id, .slice a3 y.vec.length d3, .int .i64 y.session, .int .i64 y.seq] 29) = W4 at *
    go_cut [68] from 44 to 67 (fun s68 wx => s68 = .bool false ∧ Below W4.heap.size W4 wx)
    case first =>
      by_cases hu0 : vc = 0
      · subst hu0
        have hpk := unhide HPU rfl
        have h8 : zs.length ≠ 0 := fun h => by
          have h2 := unhide HPM
          rw [unpackR_len (by omega)] at h2
          simp only [DWriteResult.mk.injEq] at h2
          exact absurd h2.1 (by decide)
        have hwf := pack_fault hpk h8
        have L4 : Hid (∀ W, Below W4.heap.size W4 W → Calls Tryz.prog 12 #[.agg #[.int .i64 y.kind, .int .i64 y.id, .slice a3 y.vec.length d3, .int .i64 y.session, .int .i64 y.seq]] W fun e w' => ∃ ap cp, e = .returned (.agg #[.int .i64 0, .slice ap zs.length cp]) ∧ (Lay.sl Lay.int).Reads w' [.slice ap zs.length cp] zs ∧ Below W.heap.size W w') := fun W hW => by
          obtain ⟨a3', d3', e3, R3⟩ := open_Write ((unhide HRV).later hW)
          simp only [List.cons.injEq, Value.slice.injEq, and_true, true_and] at e3
          obtain ⟨rfl, rfl⟩ := e3
          refine (implPack y.kind y.id _ y.session y.seq y.vec W (Lay.ints_reads R3)).mono ?_
          rintro e w' ⟨r, rfl, ho, hb⟩
          rw [hpk] at ho
          rw [hwf]
          have hO := Lay.ownInts (zs := zs) (by
            rw [← hpk]
            exact packList_wf) (by omega) ho
          obtain ⟨ap, cp, rfl⟩ := open_sl hO.reads
          exact ⟨ap, cp, rfl, hO.reads, hb⟩
        have hfN := fun c a n d => nsField1 c a n d
        have e0 : ((0 : Int) == 0) = true := by decide
        have e1 : ((0 : Int) != 0) = false := by decide
        clear hwf h8 hpk HPU HPM HRV
        refine wp_region_noPanic ?_
        refine wp_region_held_drew (S := fun w' => Below W4.heap.size W4 w') (by kernel_rfl) (Below.refl _ _).drew (fun hHeld => ?_)
        generalize W4.drew = wD at hHeld ⊢
        refine wpAnyH_take (i := 0) (oi := { dst := some 44, op := Go.Op.fieldAddr 29 (Go.Operand.tmp 6) 0, type := 0, pos := "laws.go:170", after := #[], guard := none }) (v := ?vc0_1) rfl (by kernel_rfl) (by kernel_rfl) (by kernel_rfl) (fun _ _ _ h => h) (Or.inl ⟨by rfl, ?hc0_1⟩) hHeld ?rc0_1
        case hc0_1 =>
          intro wS hSw
          (try dsimp only at hSw)
          go_simp
          try with_reducible rfl
        case rc0_1 =>
        simp only [Act.put, List.setIfInBounds_toArray, List.set_cons_zero, List.set_cons_succ]
        refine wpAnyH_take (i := 1) (oi := { dst := some 45, op := Go.Op.load 2 (Go.Operand.tmp 44), type := 2, pos := "laws.go:170", after := #[{ on := 0, ground := Go.Ground.data }], guard := none }) (v := ?vc1_2) rfl (by kernel_rfl) (by kernel_rfl) (by kernel_rfl) (fun _ _ _ h => h) (Or.inl ⟨by rfl, ?hc1_2⟩) hHeld ?rc1_2
        case hc1_2 =>
          intro wS hSw
          obtain ⟨y0, y1, y2, y3, y4, y5⟩ := unhide KV _ hSw
          clear hSw
          (try dsimp only at hSw)
          go_simp
          try with_reducible rfl
        case rc1_2 =>
        simp only [Act.put, List.setIfInBounds_toArray, List.set_cons_zero, List.set_cons_succ]
        refine wpAnyH_take (i := 2) (oi := { dst := some 46, op := Go.Op.binOp Go.BinOp.eql 2 (Go.Operand.tmp 45) (Go.Operand.const (Go.Value.int Go.IntKind.i64 0)) 2, type := 4, pos := "laws.go:170", after := #[{ on := 1, ground := Go.Ground.data }], guard := none }) (v := ?vc2_3) rfl (by kernel_rfl) (by kernel_rfl) (by kernel_rfl) (fun _ _ _ h => h) (Or.inl ⟨by rfl, ?hc2_3⟩) hHeld ?rc2_3
        case hc2_3 =>
          intro wS hSw
          (try dsimp only at hSw)
          go_simp
          try with_reducible rfl
        case rc2_3 =>
        simp only [Act.put, List.setIfInBounds_toArray, List.set_cons_zero, List.set_cons_succ]
        refine wpAnyH_take (i := 3) (oi := { dst := some 47, op := Go.Op.move (Go.Operand.tmp 46), type := 4, pos := "laws.go:170", after := #[{ on := 2, ground := Go.Ground.data }], guard := none }) (v := ?vc3_4) rfl (by kernel_rfl) (by kernel_rfl) (by kernel_rfl) (fun _ _ _ h => h) (Or.inl ⟨by rfl, ?hc3_4⟩) hHeld ?rc3_4
        case hc3_4 =>
          intro wS hSw
          (try dsimp only at hSw)
          go_simp
          try with_reducible rfl
        case rc3_4 =>
        simp only [Act.put, List.setIfInBounds_toArray, List.set_cons_zero, List.set_cons_succ]
        refine wpAnyH_take (i := 4) (oi := { dst := some 48, op := Go.Op.fieldAddr 29 (Go.Operand.tmp 6) 1, type := 0, pos := "laws.go:170", after := #[{ on := 3, ground := Go.Ground.guard }], guard := some (3, true) }) (v := ?vc4_5) rfl (by kernel_rfl) (by kernel_rfl) (by kernel_rfl) (fun _ _ _ h => h) (Or.inl ⟨by rfl, ?hc4_5⟩) hHeld ?rc4_5
        case hc4_5 =>
          intro wS hSw
          (try dsimp only at hSw)
          go_simp
          try with_reducible rfl
        case rc4_5 =>
        simp only [Act.put, List.setIfInBounds_toArray, List.set_cons_zero, List.set_cons_succ]
        refine wpAnyH_take (i := 5) (oi := { dst := some 49, op := Go.Op.load 27 (Go.Operand.tmp 48), type := 27, pos := "laws.go:170", after := #[{ on := 4, ground := Go.Ground.data }, { on := 3, ground := Go.Ground.guard }], guard := some (3, true) }) (v := ?vc5_6) rfl (by kernel_rfl) (by kernel_rfl) (by kernel_rfl) (fun _ _ _ h => h) (Or.inl ⟨by rfl, ?hc5_6⟩) hHeld ?rc5_6
        case hc5_6 =>
          intro wS hSw
          obtain ⟨y0, y1, y2, y3, y4, y5⟩ := unhide KV _ hSw
          clear hSw
          (try dsimp only at hSw)
          go_simp
          try with_reducible rfl
        case rc5_6 =>
        simp only [Act.put, List.setIfInBounds_toArray, List.set_cons_zero, List.set_cons_succ]
        refine wpAnyH_take (i := 8) (oi := { dst := some 52, op := Go.Op.move (Go.Operand.tmp 5), type := 25, pos := "laws.go:170", after := #[{ on := 3, ground := Go.Ground.guard }], guard := some (3, true) }) (v := ?vc8_7) rfl (by kernel_rfl) (by kernel_rfl) (by kernel_rfl) (fun _ _ _ h => h) (Or.inl ⟨by rfl, ?hc8_7⟩) hHeld ?rc8_7
        case hc8_7 =>
          intro wS hSw
          (try dsimp only at hSw)
          go_simp
          try with_reducible rfl
        case rc8_7 =>
        simp only [Act.put, List.setIfInBounds_toArray, List.set_cons_zero, List.set_cons_succ]
        refine wpAnyH_ready (rs := [6]) (by kernel_rfl) (by simp) ?_
        refine AllReadyH.cons (o := { dst := some 50, op := Go.Op.call { callee := Go.Callee.value (Go.Operand.func 12), args := #[Go.Operand.tmp 49], argTypes := #[27] }, type := 38, pos := "laws.go:170", after := #[{ on := 5, ground := Go.Ground.data }, { on := 3, ground := Go.Ground.chain }, { on := 3, ground := Go.Ground.guard }], guard := some (3, true) }) rfl (fun K hK => ?_) AllReadyH.nil
        go_simp
        go_at_call 12
        refine (unhide L4 _ hHeld).mono ?_
        rintro e w3 ⟨ap, cp, rfl, hRp, hbw⟩
        try go_wp2_with fail
        refine hK.out _ _ (hHeld.trans (hbw.mono hHeld.size)) (fun hHeld => ?_)
        clear hK K
        try simp only [Act.put, List.setIfInBounds_toArray, List.set_cons_zero, List.set_cons_succ]
        refine wpAnyH_take (i := 7) (oi := { dst := some 51, op := Go.Op.field 38 (Go.Operand.tmp 50) 1, type := 25, pos := "laws.go:170", after := #[{ on := 6, ground := Go.Ground.data }, { on := 3, ground := Go.Ground.guard }], guard := some (3, true) }) (v := ?vc7_8) rfl (by kernel_rfl) (by kernel_rfl) (by kernel_rfl) (fun _ _ _ h => h) (Or.inl ⟨by rfl, ?hc7_8⟩) hHeld ?rc7_8
        case hc7_8 =>
          intro wS hSw
          have yf := hfN 0 ap zs.length cp
          clear hSw
          (try dsimp only at hSw)
          go_simp
          try with_reducible rfl
        case rc7_8 =>
        simp only [Act.put, List.setIfInBounds_toArray, List.set_cons_zero, List.set_cons_succ]
        refine wpAnyH_ready (rs := [9]) (by kernel_rfl) (by simp) ?_
        refine AllReadyH.cons (o := { dst := some 53, op := Go.Op.call { callee := Go.Callee.value (Go.Operand.func 11), args := #[Go.Operand.tmp 51, Go.Operand.tmp 52], argTypes := #[25, 25] }, type := 4, pos := "laws.go:170", after := #[{ on := 7, ground := Go.Ground.data }, { on := 8, ground := Go.Ground.data }, { on := 6, ground := Go.Ground.chain }, { on := 3, ground := Go.Ground.guard }], guard := some (3, true) }) rfl (fun K hK => ?_) AllReadyH.nil
        go_simp
        go_at_call 11
        refine (lwSame _ _ zs _ hRp ((unhide HZ4).later hHeld) (by omega)).mono ?_
        rintro e w4 ⟨rfl, hbx⟩
        try go_wp2_with fail
        refine hK.out _ _ (hHeld.trans (hbx.mono hHeld.size)) (fun hHeld => ?_)
        clear hK K
        try simp only [Act.put, List.setIfInBounds_toArray, List.set_cons_zero, List.set_cons_succ]
        refine wpAnyH_take (i := 10) (oi := { dst := some 54, op := Go.Op.unOp Go.UnOp.not 4 (Go.Operand.tmp 53), type := 4, pos := "laws.go:170", after := #[{ on := 9, ground := Go.Ground.data }, { on := 3, ground := Go.Ground.guard }], guard := some (3, true) }) (v := ?vc10_9) rfl (by kernel_rfl) (by kernel_rfl) (by kernel_rfl) (fun _ _ _ h => h) (Or.inl ⟨by rfl, ?hc10_9⟩) hHeld ?rc10_9
        case hc10_9 =>
          intro wS hSw
          (try dsimp only at hSw)
          go_simp
          try with_reducible rfl
        case rc10_9 =>
        simp only [Act.put, List.setIfInBounds_toArray, List.set_cons_zero, List.set_cons_succ]
        refine wpAnyH_take (i := 11) (oi := { dst := some 55, op := Go.Op.pick (Go.Operand.tmp 47) (Go.Operand.tmp 54) (Go.Operand.const (Go.Value.bool false)), type := 4, pos := "laws.go:170", after := #[{ on := 3, ground := Go.Ground.data }, { on := 10, ground := Go.Ground.data }], guard := none }) (v := ?vc11_10) rfl (by kernel_rfl) (by kernel_rfl) (by kernel_rfl) (fun _ _ _ h => h) (Or.inl ⟨by rfl, ?hc11_10⟩) hHeld ?rc11_10
        case hc11_10 =>
          intro wS hSw
          (try dsimp only at hSw)
          go_simp
          try with_reducible rfl
        case rc11_10 =>
        simp only [Act.put, List.setIfInBounds_toArray, List.set_cons_zero, List.set_cons_succ]
        refine wpAnyH_take (i := 12) (oi := { dst := some 56, op := Go.Op.move (Go.Operand.tmp 55), type := 4, pos := "laws.go:170", after := #[{ on := 11, ground := Go.Ground.data }, { on := 9, ground := Go.Ground.chain }], guard := none }) (v := ?vc12_11) rfl (by kernel_rfl) (by kernel_rfl) (by kernel_rfl) (fun _ _ _ h => h) (Or.inl ⟨by rfl, ?hc12_11⟩) hHeld ?rc12_11
        case hc12_11 =>
          intro wS hSw
          (try dsimp only at hSw)
          go_simp
          try with_reducible rfl
        case rc12_11 =>
        simp only [Act.put, List.setIfInBounds_toArray, List.set_cons_zero, List.set_cons_succ]
        refine wpAnyH_take (i := 13) (oi := { dst := some 57, op := Go.Op.fieldAddr 29 (Go.Operand.tmp 6) 0, type := 0, pos := "laws.go:170", after := #[{ on := 12, ground := Go.Ground.guard }], guard := some (12, false) }) (v := ?vc13_12) rfl (by kernel_rfl) (by kernel_rfl) (by kernel_rfl) (fun _ _ _ h => h) (Or.inl ⟨by rfl, ?hc13_12⟩) hHeld ?rc13_12
        case hc13_12 =>
          intro wS hSw
          (try dsimp only at hSw)
          go_simp
          try with_reducible rfl
        case rc13_12 =>
        simp only [Act.put, List.setIfInBounds_toArray, List.set_cons_zero, List.set_cons_succ]
        refine wpAnyH_take (i := 14) (oi := { dst := some 58, op := Go.Op.load 2 (Go.Operand.tmp 57), type := 2, pos := "laws.go:170", after := #[{ on := 13, ground := Go.Ground.data }, { on := 12, ground := Go.Ground.guard }], guard := some (12, false) }) (v := ?vc14_13) rfl (by kernel_rfl) (by kernel_rfl) (by kernel_rfl) (fun _ _ _ h => h) (Or.inl ⟨by rfl, ?hc14_13⟩) hHeld ?rc14_13
        case hc14_13 =>
          intro wS hSw
          obtain ⟨y0, y1, y2, y3, y4, y5⟩ := unhide KV _ hSw
          clear hSw
          (try dsimp only at hSw)
          go_simp
          try with_reducible rfl
        case rc14_13 =>
        simp only [Act.put, List.setIfInBounds_toArray, List.set_cons_zero, List.set_cons_succ]
        refine wpAnyH_take (i := 15) (oi := { dst := some 59, op := Go.Op.binOp Go.BinOp.neq 2 (Go.Operand.tmp 58) (Go.Operand.const (Go.Value.int Go.IntKind.i64 0)) 2, type := 4, pos := "laws.go:170", after := #[{ on := 14, ground := Go.Ground.data }, { on := 12, ground := Go.Ground.guard }], guard := some (12, false) }) (v := ?vc15_14) rfl (by kernel_rfl) (by kernel_rfl) (by kernel_rfl) (fun _ _ _ h => h) (Or.inl ⟨by rfl, ?hc15_14⟩) hHeld ?rc15_14
        case hc15_14 =>
          intro wS hSw
          (try dsimp only at hSw)
          go_simp
          try with_reducible rfl
        case rc15_14 =>
        simp only [Act.put, List.setIfInBounds_toArray, List.set_cons_zero, List.set_cons_succ]
        refine wpAnyH_take (i := 16) (oi := { dst := some 60, op := Go.Op.move (Go.Operand.tmp 59), type := 4, pos := "laws.go:170", after := #[{ on := 15, ground := Go.Ground.data }, { on := 12, ground := Go.Ground.chain }, { on := 12, ground := Go.Ground.guard }], guard := some (12, false) }) (v := ?vc16_15) rfl (by kernel_rfl) (by kernel_rfl) (by kernel_rfl) (fun _ _ _ h => h) (Or.inl ⟨by rfl, ?hc16_15⟩) hHeld ?rc16_15
        case hc16_15 =>
          intro wS hSw
          (try dsimp only at hSw)
          go_simp
          try with_reducible rfl
        case rc16_15 =>
        simp only [Act.put, List.setIfInBounds_toArray, List.set_cons_zero, List.set_cons_succ]
        refine wpAnyH_take (i := 17) (oi := { dst := some 61, op := Go.Op.move (Go.Operand.tmp 5), type := 25, pos := "laws.go:170", after := #[{ on := 16, ground := Go.Ground.guard }], guard := some (16, true) }) (v := undef) rfl (by kernel_rfl) (by kernel_rfl) (by kernel_rfl) (fun _ _ _ h => h) (Or.inr ⟨by rfl, rfl⟩) hHeld ?_
        simp only [Act.put, List.setIfInBounds_toArray, List.set_cons_zero, List.set_cons_succ]
        refine wpAnyH_take (i := 18) (oi := { dst := some 62, op := Go.Op.call { callee := Go.Callee.value (Go.Operand.func 13), args := #[Go.Operand.tmp 61], argTypes := #[25] }, type := 29, pos := "laws.go:170", after := #[{ on := 17, ground := Go.Ground.data }, { on := 16, ground := Go.Ground.chain }, { on := 16, ground := Go.Ground.guard }], guard := some (16, true) }) (v := undef) rfl (by kernel_rfl) (by kernel_rfl) (by kernel_rfl) (fun _ _ _ h => h) (Or.inr ⟨by rfl, rfl⟩) hHeld ?_
        simp only [Act.put, List.setIfInBounds_toArray, List.set_cons_zero, List.set_cons_succ]
        refine wpAnyH_take (i := 19) (oi := { dst := some 63, op := Go.Op.field 29 (Go.Operand.tmp 62) 0, type := 2, pos := "laws.go:170", after := #[{ on := 18, ground := Go.Ground.data }, { on := 16, ground := Go.Ground.guard }], guard := some (16, true) }) (v := undef) rfl (by kernel_rfl) (by kernel_rfl) (by kernel_rfl) (fun _ _ _ h => h) (Or.inr ⟨by rfl, rfl⟩) hHeld ?_
        simp only [Act.put, List.setIfInBounds_toArray, List.set_cons_zero, List.set_cons_succ]
        refine wpAnyH_take (i := 20) (oi := { dst := some 64, op := Go.Op.fieldAddr 29 (Go.Operand.tmp 6) 0, type := 0, pos := "laws.go:170", after := #[{ on := 16, ground := Go.Ground.guard }], guard := some (16, true) }) (v := undef) rfl (by kernel_rfl) (by kernel_rfl) (by kernel_rfl) (fun _ _ _ h => h) (Or.inr ⟨by rfl, rfl⟩) hHeld ?_
        simp only [Act.put, List.setIfInBounds_toArray, List.set_cons_zero, List.set_cons_succ]
        refine wpAnyH_take (i := 21) (oi := { dst := some 65, op := Go.Op.load 2 (Go.Operand.tmp 64), type := 2, pos := "laws.go:170", after := #[{ on := 20, ground := Go.Ground.data }, { on := 16, ground := Go.Ground.guard }], guard := some (16, true) }) (v := undef) rfl (by kernel_rfl) (by kernel_rfl) (by kernel_rfl) (fun _ _ _ h => h) (Or.inr ⟨by rfl, rfl⟩) hHeld ?_
        simp only [Act.put, List.setIfInBounds_toArray, List.set_cons_zero, List.set_cons_succ]
        refine wpAnyH_take (i := 22) (oi := { dst := some 66, op := Go.Op.binOp Go.BinOp.neq 2 (Go.Operand.tmp 63) (Go.Operand.tmp 65) 2, type := 4, pos := "laws.go:170", after := #[{ on := 19, ground := Go.Ground.data }, { on := 21, ground := Go.Ground.data }, { on := 16, ground := Go.Ground.guard }], guard := some (16, true) }) (v := undef) rfl (by kernel_rfl) (by kernel_rfl) (by kernel_rfl) (fun _ _ _ h => h) (Or.inr ⟨by rfl, rfl⟩) hHeld ?_
        simp only [Act.put, List.setIfInBounds_toArray, List.set_cons_zero, List.set_cons_succ]
        refine wpAnyH_take (i := 23) (oi := { dst := some 67, op := Go.Op.pick (Go.Operand.tmp 60) (Go.Operand.tmp 66) (Go.Operand.const (Go.Value.bool false)), type := 4, pos := "laws.go:170", after := #[{ on := 16, ground := Go.Ground.data }, { on := 22, ground := Go.Ground.data }, { on := 12, ground := Go.Ground.guard }], guard := some (12, false) }) (v := ?vc23_22) rfl (by kernel_rfl) (by kernel_rfl) (by kernel_rfl) (fun _ _ _ h => h) (Or.inl ⟨by rfl, ?hc23_22⟩) hHeld ?rc23_22
        case hc23_22 =>
          intro wS hSw
          (try dsimp only at hSw)
          go_simp
          try with_reducible rfl
        case rc23_22 =>
        simp only [Act.put, List.setIfInBounds_toArray, List.set_cons_zero, List.set_cons_succ]
        refine wpAnyH_take (i := 24) (oi := { dst := some 68, op := Go.Op.pick (Go.Operand.tmp 56) (Go.Operand.const (Go.Value.bool true)) (Go.Operand.tmp 67), type := 4, pos := "laws.go:170", after := #[{ on := 12, ground := Go.Ground.data }, { on := 23, ground := Go.Ground.data }], guard := none }) (v := ?vc24_23) rfl (by kernel_rfl) (by kernel_rfl) (by kernel_rfl) (fun _ _ _ h => h) (Or.inl ⟨by rfl, ?hc24_23⟩) hHeld ?rc24_23
        case hc24_23 =>
          intro wS hSw
          (try dsimp only at hSw)
          go_simp
          try with_reducible rfl
        case rc24_23 =>
        simp only [Act.put, List.setIfInBounds_toArray, List.set_cons_zero, List.set_cons_succ]
        refine wpAnyH_done (by kernel_rfl) ?_ _
        refine NoPanic.normal ?_
        have HB3 := hide hHeld
        clear hHeld
        go_wp2_with fail
        go_meet
        exact ⟨rfl, unhide HB3⟩
      · have hne : (vc != 0) = true := by rw [bne_iff_ne]; exact hu0
        have hnb : (vc == 0) = false := by rw [beq_eq_false_iff_ne]; exact hu0
        have hnn : (vc != vc) = false := by simp
        have L4 : Hid (∀ W, Below W4.heap.size W4 W → Calls Tryz.prog 13 #[.slice az zs.length 8] W fun e w' => ∃ a d, e = .returned (.agg #[.int .i64 vc, .int .i64 y.kind, .int .i64 y.id, .slice a y.vec.length d, .int .i64 y.session, .int .i64 y.seq]) ∧ Below W.heap.size W w') := fun W hW => by
          refine (specUnpack _ zs W ((unhide HZ4).later hW)).mono ?_
          rintro e w' ⟨cs, rfl, O, hb⟩
          rw [unhide HPM] at O
          obtain ⟨a, d, rfl, -⟩ := open_WriteResult O
          exact ⟨a, d, rfl, hb⟩
        have hf0 := fun c k i a n d s q => wrField0 c k i a n d s q
        clear hu0 HPU HRV
        refine wp_region_noPanic ?_
        refine wp_region_held_drew (S := fun w' => Below W4.heap.size W4 w') (by kernel_rfl) (Below.refl _ _).drew (fun hHeld => ?_)
        generalize W4.drew = wD at hHeld ⊢
        refine wpAnyH_take (i := 0) (oi := { dst := some 44, op := Go.Op.fieldAddr 29 (Go.Operand.tmp 6) 0, type := 0, pos := "laws.go:170", after := #[], guard := none }) (v := ?vd0_1) rfl (by kernel_rfl) (by kernel_rfl) (by kernel_rfl) (fun _ _ _ h => h) (Or.inl ⟨by rfl, ?hd0_1⟩) hHeld ?rd0_1
        case hd0_1 =>
          intro wS hSw
          (try dsimp only at hSw)
          go_simp
          try with_reducible rfl
        case rd0_1 =>
        simp only [Act.put, List.setIfInBounds_toArray, List.set_cons_zero, List.set_cons_succ]
        refine wpAnyH_take (i := 1) (oi := { dst := some 45, op := Go.Op.load 2 (Go.Operand.tmp 44), type := 2, pos := "laws.go:170", after := #[{ on := 0, ground := Go.Ground.data }], guard := none }) (v := ?vd1_2) rfl (by kernel_rfl) (by kernel_rfl) (by kernel_rfl) (fun _ _ _ h => h) (Or.inl ⟨by rfl, ?hd1_2⟩) hHeld ?rd1_2
        case hd1_2 =>
          intro wS hSw
          obtain ⟨y0, y1, y2, y3, y4, y5⟩ := unhide KV _ hSw
          clear hSw
          (try dsimp only at hSw)
          go_simp
          try with_reducible rfl
        case rd1_2 =>
        simp only [Act.put, List.setIfInBounds_toArray, List.set_cons_zero, List.set_cons_succ]
        refine wpAnyH_take (i := 2) (oi := { dst := some 46, op := Go.Op.binOp Go.BinOp.eql 2 (Go.Operand.tmp 45) (Go.Operand.const (Go.Value.int Go.IntKind.i64 0)) 2, type := 4, pos := "laws.go:170", after := #[{ on := 1, ground := Go.Ground.data }], guard := none }) (v := ?vd2_3) rfl (by kernel_rfl) (by kernel_rfl) (by kernel_rfl) (fun _ _ _ h => h) (Or.inl ⟨by rfl, ?hd2_3⟩) hHeld ?rd2_3
        case hd2_3 =>
          intro wS hSw
          (try dsimp only at hSw)
          go_simp
          try with_reducible rfl
        case rd2_3 =>
        simp only [Act.put, List.setIfInBounds_toArray, List.set_cons_zero, List.set_cons_succ]
        refine wpAnyH_take (i := 3) (oi := { dst := some 47, op := Go.Op.move (Go.Operand.tmp 46), type := 4, pos := "laws.go:170", after := #[{ on := 2, ground := Go.Ground.data }], guard := none }) (v := ?vd3_4) rfl (by kernel_rfl) (by kernel_rfl) (by kernel_rfl) (fun _ _ _ h => h) (Or.inl ⟨by rfl, ?hd3_4⟩) hHeld ?rd3_4
        case hd3_4 =>
          intro wS hSw
          (try dsimp only at hSw)
          go_simp
          try with_reducible rfl
        case rd3_4 =>
        simp only [Act.put, List.setIfInBounds_toArray, List.set_cons_zero, List.set_cons_succ]
        refine wpAnyH_take (i := 4) (oi := { dst := some 48, op := Go.Op.fieldAddr 29 (Go.Operand.tmp 6) 1, type := 0, pos := "laws.go:170", after := #[{ on := 3, ground := Go.Ground.guard }], guard := some (3, true) }) (v := undef) rfl (by kernel_rfl) (by kernel_rfl) (by kernel_rfl) (fun _ _ _ h => h) (Or.inr ⟨by rfl, rfl⟩) hHeld ?_
        simp only [Act.put, List.setIfInBounds_toArray, List.set_cons_zero, List.set_cons_succ]
        refine wpAnyH_take (i := 5) (oi := { dst := some 49, op := Go.Op.load 27 (Go.Operand.tmp 48), type := 27, pos := "laws.go:170", after := #[{ on := 4, ground := Go.Ground.data }, { on := 3, ground := Go.Ground.guard }], guard := some (3, true) }) (v := undef) rfl (by kernel_rfl) (by kernel_rfl) (by kernel_rfl) (fun _ _ _ h => h) (Or.inr ⟨by rfl, rfl⟩) hHeld ?_
        simp only [Act.put, List.setIfInBounds_toArray, List.set_cons_zero, List.set_cons_succ]
        refine wpAnyH_take (i := 6) (oi := { dst := some 50, op := Go.Op.call { callee := Go.Callee.value (Go.Operand.func 12), args := #[Go.Operand.tmp 49], argTypes := #[27] }, type := 38, pos := "laws.go:170", after := #[{ on := 5, ground := Go.Ground.data }, { on := 3, ground := Go.Ground.chain }, { on := 3, ground := Go.Ground.guard }], guard := some (3, true) }) (v := undef) rfl (by kernel_rfl) (by kernel_rfl) (by kernel_rfl) (fun _ _ _ h => h) (Or.inr ⟨by rfl, rfl⟩) hHeld ?_
        simp only [Act.put, List.setIfInBounds_toArray, List.set_cons_zero, List.set_cons_succ]
        refine wpAnyH_take (i := 7) (oi := { dst := some 51, op := Go.Op.field 38 (Go.Operand.tmp 50) 1, type := 25, pos := "laws.go:170", after := #[{ on := 6, ground := Go.Ground.data }, { on := 3, ground := Go.Ground.guard }], guard := some (3, true) }) (v := undef) rfl (by kernel_rfl) (by kernel_rfl) (by kernel_rfl) (fun _ _ _ h => h) (Or.inr ⟨by rfl, rfl⟩) hHeld ?_
        simp only [Act.put, List.setIfInBounds_toArray, List.set_cons_zero, List.set_cons_succ]
        refine wpAnyH_take (i := 8) (oi := { dst := some 52, op := Go.Op.move (Go.Operand.tmp 5), type := 25, pos := "laws.go:170", after := #[{ on := 3, ground := Go.Ground.guard }], guard := some (3, true) }) (v := undef) rfl (by kernel_rfl) (by kernel_rfl) (by kernel_rfl) (fun _ _ _ h => h) (Or.inr ⟨by rfl, rfl⟩) hHeld ?_
        simp only [Act.put, List.setIfInBounds_toArray, List.set_cons_zero, List.set_cons_succ]
        refine wpAnyH_take (i := 9) (oi := { dst := some 53, op := Go.Op.call { callee := Go.Callee.value (Go.Operand.func 11), args := #[Go.Operand.tmp 51, Go.Operand.tmp 52], argTypes := #[25, 25] }, type := 4, pos := "laws.go:170", after := #[{ on := 7, ground := Go.Ground.data }, { on := 8, ground := Go.Ground.data }, { on := 6, ground := Go.Ground.chain }, { on := 3, ground := Go.Ground.guard }], guard := some (3, true) }) (v := undef) rfl (by kernel_rfl) (by kernel_rfl) (by kernel_rfl) (fun _ _ _ h => h) (Or.inr ⟨by rfl, rfl⟩) hHeld ?_
        simp only [Act.put, List.setIfInBounds_toArray, List.set_cons_zero, List.set_cons_succ]
        refine wpAnyH_take (i := 10) (oi := { dst := some 54, op := Go.Op.unOp Go.UnOp.not 4 (Go.Operand.tmp 53), type := 4, pos := "laws.go:170", after := #[{ on := 9, ground := Go.Ground.data }, { on := 3, ground := Go.Ground.guard }], guard := some (3, true) }) (v := undef) rfl (by kernel_rfl) (by kernel_rfl) (by kernel_rfl) (fun _ _ _ h => h) (Or.inr ⟨by rfl, rfl⟩) hHeld ?_
        simp only [Act.put, List.setIfInBounds_toArray, List.set_cons_zero, List.set_cons_succ]
        refine wpAnyH_take (i := 11) (oi := { dst := some 55, op := Go.Op.pick (Go.Operand.tmp 47) (Go.Operand.tmp 54) (Go.Operand.const (Go.Value.bool false)), type := 4, pos := "laws.go:170", after := #[{ on := 3, ground := Go.Ground.data }, { on := 10, ground := Go.Ground.data }], guard := none }) (v := ?vd11_12) rfl (by kernel_rfl) (by kernel_rfl) (by kernel_rfl) (fun _ _ _ h => h) (Or.inl ⟨by rfl, ?hd11_12⟩) hHeld ?rd11_12
        case hd11_12 =>
          intro wS hSw
          (try dsimp only at hSw)
          go_simp
          try with_reducible rfl
        case rd11_12 =>
        simp only [Act.put, List.setIfInBounds_toArray, List.set_cons_zero, List.set_cons_succ]
        refine wpAnyH_take (i := 12) (oi := { dst := some 56, op := Go.Op.move (Go.Operand.tmp 55), type := 4, pos := "laws.go:170", after := #[{ on := 11, ground := Go.Ground.data }, { on := 9, ground := Go.Ground.chain }], guard := none }) (v := ?vd12_13) rfl (by kernel_rfl) (by kernel_rfl) (by kernel_rfl) (fun _ _ _ h => h) (Or.inl ⟨by rfl, ?hd12_13⟩) hHeld ?rd12_13
        case hd12_13 =>
          intro wS hSw
          (try dsimp only at hSw)
          go_simp
          try with_reducible rfl
        case rd12_13 =>
        simp only [Act.put, List.setIfInBounds_toArray, List.set_cons_zero, List.set_cons_succ]
        refine wpAnyH_take (i := 13) (oi := { dst := some 57, op := Go.Op.fieldAddr 29 (Go.Operand.tmp 6) 0, type := 0, pos := "laws.go:170", after := #[{ on := 12, ground := Go.Ground.guard }], guard := some (12, false) }) (v := ?vd13_14) rfl (by kernel_rfl) (by kernel_rfl) (by kernel_rfl) (fun _ _ _ h => h) (Or.inl ⟨by rfl, ?hd13_14⟩) hHeld ?rd13_14
        case hd13_14 =>
          intro wS hSw
          (try dsimp only at hSw)
          go_simp
          try with_reducible rfl
        case rd13_14 =>
        simp only [Act.put, List.setIfInBounds_toArray, List.set_cons_zero, List.set_cons_succ]
        refine wpAnyH_take (i := 14) (oi := { dst := some 58, op := Go.Op.load 2 (Go.Operand.tmp 57), type := 2, pos := "laws.go:170", after := #[{ on := 13, ground := Go.Ground.data }, { on := 12, ground := Go.Ground.guard }], guard := some (12, false) }) (v := ?vd14_15) rfl (by kernel_rfl) (by kernel_rfl) (by kernel_rfl) (fun _ _ _ h => h) (Or.inl ⟨by rfl, ?hd14_15⟩) hHeld ?rd14_15
        case hd14_15 =>
          intro wS hSw
          obtain ⟨y0, y1, y2, y3, y4, y5⟩ := unhide KV _ hSw
          clear hSw
          (try dsimp only at hSw)
          go_simp
          try with_reducible rfl
        case rd14_15 =>
        simp only [Act.put, List.setIfInBounds_toArray, List.set_cons_zero, List.set_cons_succ]
        refine wpAnyH_take (i := 15) (oi := { dst := some 59, op := Go.Op.binOp Go.BinOp.neq 2 (Go.Operand.tmp 58) (Go.Operand.const (Go.Value.int Go.IntKind.i64 0)) 2, type := 4, pos := "laws.go:170", after := #[{ on := 14, ground := Go.Ground.data }, { on := 12, ground := Go.Ground.guard }], guard := some (12, false) }) (v := ?vd15_16) rfl (by kernel_rfl) (by kernel_rfl) (by kernel_rfl) (fun _ _ _ h => h) (Or.inl ⟨by rfl, ?hd15_16⟩) hHeld ?rd15_16
        case hd15_16 =>
          intro wS hSw
          (try dsimp only at hSw)
          go_simp
          try with_reducible rfl
        case rd15_16 =>
        simp only [Act.put, List.setIfInBounds_toArray, List.set_cons_zero, List.set_cons_succ]
        refine wpAnyH_take (i := 16) (oi := { dst := some 60, op := Go.Op.move (Go.Operand.tmp 59), type := 4, pos := "laws.go:170", after := #[{ on := 15, ground := Go.Ground.data }, { on := 12, ground := Go.Ground.chain }, { on := 12, ground := Go.Ground.guard }], guard := some (12, false) }) (v := ?vd16_17) rfl (by kernel_rfl) (by kernel_rfl) (by kernel_rfl) (fun _ _ _ h => h) (Or.inl ⟨by rfl, ?hd16_17⟩) hHeld ?rd16_17
        case hd16_17 =>
          intro wS hSw
          (try dsimp only at hSw)
          go_simp
          try with_reducible rfl
        case rd16_17 =>
        simp only [Act.put, List.setIfInBounds_toArray, List.set_cons_zero, List.set_cons_succ]
        refine wpAnyH_take (i := 17) (oi := { dst := some 61, op := Go.Op.move (Go.Operand.tmp 5), type := 25, pos := "laws.go:170", after := #[{ on := 16, ground := Go.Ground.guard }], guard := some (16, true) }) (v := ?vd17_18) rfl (by kernel_rfl) (by kernel_rfl) (by kernel_rfl) (fun _ _ _ h => h) (Or.inl ⟨by rfl, ?hd17_18⟩) hHeld ?rd17_18
        case hd17_18 =>
          intro wS hSw
          (try dsimp only at hSw)
          go_simp
          try with_reducible rfl
        case rd17_18 =>
        simp only [Act.put, List.setIfInBounds_toArray, List.set_cons_zero, List.set_cons_succ]
        refine wpAnyH_take (i := 20) (oi := { dst := some 64, op := Go.Op.fieldAddr 29 (Go.Operand.tmp 6) 0, type := 0, pos := "laws.go:170", after := #[{ on := 16, ground := Go.Ground.guard }], guard := some (16, true) }) (v := ?vd20_19) rfl (by kernel_rfl) (by kernel_rfl) (by kernel_rfl) (fun _ _ _ h => h) (Or.inl ⟨by rfl, ?hd20_19⟩) hHeld ?rd20_19
        case hd20_19 =>
          intro wS hSw
          (try dsimp only at hSw)
          go_simp
          try with_reducible rfl
        case rd20_19 =>
        simp only [Act.put, List.setIfInBounds_toArray, List.set_cons_zero, List.set_cons_succ]
        refine wpAnyH_take (i := 21) (oi := { dst := some 65, op := Go.Op.load 2 (Go.Operand.tmp 64), type := 2, pos := "laws.go:170", after := #[{ on := 20, ground := Go.Ground.data }, { on := 16, ground := Go.Ground.guard }], guard := some (16, true) }) (v := ?vd21_20) rfl (by kernel_rfl) (by kernel_rfl) (by kernel_rfl) (fun _ _ _ h => h) (Or.inl ⟨by rfl, ?hd21_20⟩) hHeld ?rd21_20
        case hd21_20 =>
          intro wS hSw
          obtain ⟨y0, y1, y2, y3, y4, y5⟩ := unhide KV _ hSw
          clear hSw
          (try dsimp only at hSw)
          go_simp
          try with_reducible rfl
        case rd21_20 =>
        simp only [Act.put, List.setIfInBounds_toArray, List.set_cons_zero, List.set_cons_succ]
        refine wpAnyH_ready (rs := [18]) (by kernel_rfl) (by simp) ?_
        refine AllReadyH.cons (o := { dst := some 62, op := Go.Op.call { callee := Go.Callee.value (Go.Operand.func 13), args := #[Go.Operand.tmp 61], argTypes := #[25] }, type := 29, pos := "laws.go:170", after := #[{ on := 17, ground := Go.Ground.data }, { on := 16, ground := Go.Ground.chain }, { on := 16, ground := Go.Ground.guard }], guard := some (16, true) }) rfl (fun K hK => ?_) AllReadyH.nil
        go_simp
        go_at_call 13
        refine (unhide L4 _ hHeld).mono ?_
        rintro e w3 ⟨a9, d9, rfl, hbw⟩
        try go_wp2_with fail
        refine hK.out _ _ (hHeld.trans (hbw.mono hHeld.size)) (fun hHeld => ?_)
        clear hK K
        try simp only [Act.put, List.setIfInBounds_toArray, List.set_cons_zero, List.set_cons_succ]
        refine wpAnyH_take (i := 19) (oi := { dst := some 63, op := Go.Op.field 29 (Go.Operand.tmp 62) 0, type := 2, pos := "laws.go:170", after := #[{ on := 18, ground := Go.Ground.data }, { on := 16, ground := Go.Ground.guard }], guard := some (16, true) }) (v := ?vd19_21) rfl (by kernel_rfl) (by kernel_rfl) (by kernel_rfl) (fun _ _ _ h => h) (Or.inl ⟨by rfl, ?hd19_21⟩) hHeld ?rd19_21
        case hd19_21 =>
          intro wS hSw
          have yf := hf0 vc y.kind y.id a9 y.vec.length d9 y.session y.seq
          clear hSw
          (try dsimp only at hSw)
          go_simp
          try with_reducible rfl
        case rd19_21 =>
        simp only [Act.put, List.setIfInBounds_toArray, List.set_cons_zero, List.set_cons_succ]
        refine wpAnyH_take (i := 22) (oi := { dst := some 66, op := Go.Op.binOp Go.BinOp.neq 2 (Go.Operand.tmp 63) (Go.Operand.tmp 65) 2, type := 4, pos := "laws.go:170", after := #[{ on := 19, ground := Go.Ground.data }, { on := 21, ground := Go.Ground.data }, { on := 16, ground := Go.Ground.guard }], guard := some (16, true) }) (v := ?vd22_22) rfl (by kernel_rfl) (by kernel_rfl) (by kernel_rfl) (fun _ _ _ h => h) (Or.inl ⟨by rfl, ?hd22_22⟩) hHeld ?rd22_22
        case hd22_22 =>
          intro wS hSw
          (try dsimp only at hSw)
          go_simp
          try with_reducible rfl
        case rd22_22 =>
        simp only [Act.put, List.setIfInBounds_toArray, List.set_cons_zero, List.set_cons_succ]
        refine wpAnyH_take (i := 23) (oi := { dst := some 67, op := Go.Op.pick (Go.Operand.tmp 60) (Go.Operand.tmp 66) (Go.Operand.const (Go.Value.bool false)), type := 4, pos := "laws.go:170", after := #[{ on := 16, ground := Go.Ground.data }, { on := 22, ground := Go.Ground.data }, { on := 12, ground := Go.Ground.guard }], guard := some (12, false) }) (v := ?vd23_23) rfl (by kernel_rfl) (by kernel_rfl) (by kernel_rfl) (fun _ _ _ h => h) (Or.inl ⟨by rfl, ?hd23_23⟩) hHeld ?rd23_23
        case hd23_23 =>
          intro wS hSw
          (try dsimp only at hSw)
          go_simp
          try with_reducible rfl
        case rd23_23 =>
        simp only [Act.put, List.setIfInBounds_toArray, List.set_cons_zero, List.set_cons_succ]
        refine wpAnyH_take (i := 24) (oi := { dst := some 68, op := Go.Op.pick (Go.Operand.tmp 56) (Go.Operand.const (Go.Value.bool true)) (Go.Operand.tmp 67), type := 4, pos := "laws.go:170", after := #[{ on := 12, ground := Go.Ground.data }, { on := 23, ground := Go.Ground.data }], guard := none }) (v := ?vd24_24) rfl (by kernel_rfl) (by kernel_rfl) (by kernel_rfl) (fun _ _ _ h => h) (Or.inl ⟨by rfl, ?hd24_24⟩) hHeld ?rd24_24
        case hd24_24 =>
          intro wS hSw
          (try dsimp only at hSw)
          go_simp
          try with_reducible rfl
        case rd24_24 =>
        simp only [Act.put, List.setIfInBounds_toArray, List.set_cons_zero, List.set_cons_succ]
        refine wpAnyH_done (by kernel_rfl) ?_ _
        refine NoPanic.normal ?_
        have HB3 := hide hHeld
        clear hHeld
        go_wp2_with fail
        go_meet
        exact ⟨rfl, unhide HB3⟩
    case rest =>
      obtain ⟨rfl, hbc⟩ := hcut
      replace HBA := hide ((unhide HBA).trans (hbc.mono (unhide HBA).size))
      have HC2 : Hid (IsCode wc.heap.size wc (.slice ao len cap)) := codeWider ((unhide HC).later (unhide HBA)) (unhide HBA).size
      clear hbc KV HRV HPU HPM HZ4 hn8
      go_wp2_with fail
      refine (drawPack ao len cap wc (unhide HC2)).mono ?_
      rintro e w5 ⟨cs, x, rfl, R5, hb5⟩
      obtain ⟨aw, dw, rfl, R5v⟩ := open_Write R5
      have nb5 : Below w5.heap.size w5 (w5.alloc (.cells #[.int .i64 x.kind, .int .i64 x.id, .slice aw x.vec.length dw, .int .i64 x.session, .int .i64 x.seq] 27)) := (Below.refl _ _).alloc (Nat.le_refl _) _
      have xW : Box 0 #[.int .i64 x.kind, .int .i64 x.id, .slice aw x.vec.length dw, .int .i64 x.session, .int .i64 x.seq] 27 (w5.alloc (.cells #[.int .i64 x.kind, .int .i64 x.id, .slice aw x.vec.length dw, .int .i64 x.session, .int .i64 x.seq] 27)) w5.heap.size := newBox (Nat.zero_le _)
      have HXW := hide xW
      have HW := hide (R5.later nb5)
      have HWV := hide (R5v.later nb5)
      replace HBA := hide (((unhide HBA).trans (hb5.mono (unhide HBA).size)).trans (nb5.mono (Nat.le_trans (unhide HBA).size hb5.size)))
      have L6 := hide (implPack x.kind x.id (.slice aw x.vec.length dw) x.session x.seq x.vec _ (Lay.ints_reads (unhide HWV)))
      clear R5 R5v hb5 nb5 xW HC2 HC
      go_wp2_with fail
      generalize w5.alloc (.cells #[.int .i64 x.kind, .int .i64 x.id, .slice aw x.vec.length dw, .int .i64 x.session, .int .i64 x.seq] 27) = W5 at *
      refine (unhide L6).mono ?_
      rintro e w6 ⟨rp, rfl, hop, hb6⟩
      have hOp := Lay.ownInts packList_wf (Nat.le_trans packList_len (by omega)) hop
      obtain ⟨ap, cp, rfl⟩ := open_sl hOp.reads
      simp only [intsRes]
      generalize hpl : packList x.kind x.id x.vec x.session x.seq = ps at *
      have HPL := hide hpl
      have HOP := hide hOp.reads
      clear hop hOp hpl L6
      by_cases hf : writeFault x.kind x.id x.vec x.session x.seq = 0
      · have hps : ps.length = 8 := by rw [← unhide HPL, packList, if_pos hf]; rfl
        rw [hf, hps]
        rw [hps] at HOP
        have HF := hide hf
        have HPS := hide hps
        have nb6 : Below w6.heap.size w6 (w6.alloc (.cells #[.int .i64 0, .slice ap 8 cp] 38)) := (Below.refl _ _).alloc (Nat.le_refl _) _
        have xP : Box 0 #[.int .i64 0, .slice ap 8 cp] 38 (w6.alloc (.cells #[.int .i64 0, .slice ap 8 cp] 38)) w6.heap.size := newBox (Nat.zero_le _)
        have HXP := hide xP
        replace HXW := hide (((unhide HXW).keep hb6).keep nb6)
        replace HW := hide (((unhide HW).later hb6).later nb6)
        replace HOP := hide ((unhide HOP).later nb6)
        replace HBA := hide (((unhide HBA).trans (hb6.mono (unhide HBA).size)).trans (nb6.mono (Nat.le_trans (unhide HBA).size hb6.size)))
        have q0 : (w6.alloc (.cells #[.int .i64 0, .slice ap 8 cp] 38)).cell? ⟨w5.heap.size, 0, none⟩ = some (.int .i64 x.kind) := (unhide HXW).at 0 _ rfl
        have q1 : (w6.alloc (.cells #[.int .i64 0, .slice ap 8 cp] 38)).cell? ⟨w5.heap.size, 1, none⟩ = some (.int .i64 x.id) := (unhide HXW).at 1 _ rfl
        have q2 : (w6.alloc (.cells #[.int .i64 0, .slice ap 8 cp] 38)).cell? ⟨w5.heap.size, 2, none⟩ = some (.slice aw x.vec.length dw) := (unhide HXW).at 2 _ rfl
        have q3 : (w6.alloc (.cells #[.int .i64 0, .slice ap 8 cp] 38)).cell? ⟨w5.heap.size, 3, none⟩ = some (.int .i64 x.session) := (unhide HXW).at 3 _ rfl
        have q4 : (w6.alloc (.cells #[.int .i64 0, .slice ap 8 cp] 38)).cell? ⟨w5.heap.size, 4, none⟩ = some (.int .i64 x.seq) := (unhide HXW).at 4 _ rfl
        have p0 : (w6.alloc (.cells #[.int .i64 0, .slice ap 8 cp] 38)).cell? ⟨w6.heap.size, 0, none⟩ = some (.int .i64 0) := xP.at 0 _ rfl
        have L7 := hide (implWText [.int .i64 x.kind, .int .i64 x.id, .slice aw x.vec.length dw, .int .i64 x.session, .int .i64 x.seq] x _ (unhide HW) ((unhide HT).later (unhide HBA)))
        clear hb6 nb6 xP hf hps
        go_upto_region 13 with fail
        generalize w6.alloc (.cells #[.int .i64 0, .slice ap 8 cp] 38) = W7 at *
        go_wp2_with fail
        clear q0 q1 q2 q3 q4 p0
        refine (unhide L7).mono ?_
        rintro e w7 ⟨cs, rfl, O, hb7⟩
        obtain ⟨bl7, hl7⟩ := O.reads
        obtain ⟨rfl, -⟩ := lies_TextResult.1 hl7
        rw [show (wtextR x).code = 0 from unhide HF]
        have HTX : Hid ((wtextR x).text.data.toList = writeText x.kind x.id x.vec x.session x.seq) := by
          show (writeText x.kind x.id x.vec x.session x.seq).toArray.toList = _
          simp
        have HTS : Hid ((wtextR x).text.size ≤ 60) := by
          show (writeText x.kind x.id x.vec x.session x.seq).toArray.size ≤ 60
          have := writeText_len x.kind x.id x.vec x.session x.seq
          simpa using this
        generalize (wtextR x).text = tx at *
        have nb7 : Below w7.heap.size w7 (w7.alloc (.cells #[.int .i64 0, .string tx] 32)) := (Below.refl _ _).alloc (Nat.le_refl _) _
        have xT : Box 0 #[.int .i64 0, .string tx] 32 (w7.alloc (.cells #[.int .i64 0, .string tx] 32)) w7.heap.size := newBox (Nat.zero_le _)
        have HXT := hide xT
        replace HXW := hide (((unhide HXW).keep hb7).keep nb7)
        replace HXP := hide (((unhide HXP).keep hb7).keep nb7)
        replace HW := hide (((unhide HW).later hb7).later nb7)
        replace HOP := hide (((unhide HOP).later hb7).later nb7)
        replace HBA := hide (((unhide HBA).trans (hb7.mono (unhide HBA).size)).trans (nb7.mono (Nat.le_trans (unhide HBA).size hb7.size)))
        clear O hl7 L7 hb7 nb7 xT
        go_upto_region 16 with fail
        generalize w7.alloc (.cells #[.int .i64 0, .string tx] 32) = W8 at *
        have KT : Hid (∀ W, Below W8.heap.size W8 W → W.cell? ⟨w5.heap.size, 0, none⟩ = some (.int .i64 x.kind) ∧ W.cell? ⟨w5.heap.size, 1, none⟩ = some (.int .i64 x.id) ∧ W.cell? ⟨w5.heap.size, 2, none⟩ = some (.slice aw x.vec.length dw) ∧ W.cell? ⟨w5.heap.size, 3, none⟩ = some (.int .i64 x.session) ∧ W.cell? ⟨w5.heap.size, 4, none⟩ = some (.int .i64 x.seq) ∧ W.cell? ⟨w6.heap.size, 1, none⟩ = some (.slice ap 8 cp) ∧ W.cell? ⟨w7.heap.size, 0, none⟩ = some (.int .i64 0) ∧ W.cell? ⟨w7.heap.size, 1, none⟩ = some (.string tx)) := fun W hW =>
          ⟨((unhide HXW).keep hW).at 0 _ rfl, ((unhide HXW).keep hW).at 1 _ rfl, ((unhide HXW).keep hW).at 2 _ rfl, ((unhide HXW).keep hW).at 3 _ rfl, ((unhide HXW).keep hW).at 4 _ rfl, ((unhide HXP).keep hW).at 1 _ rfl, ((unhide HXT).keep hW).at 0 _ rfl, ((unhide HXT).keep hW).at 1 _ rfl⟩
        have LU : Hid (∀ W, Below W8.heap.size W8 W → Calls Tryz.prog 10 #[.slice ap 8 cp] W fun e w' => ∃ a d, e = .returned (.agg #[.int .i64 0, .int .i64 x.kind, .int .i64 x.id, .slice a x.vec.length d, .int .i64 x.session, .int .i64 x.seq]) ∧ Lay.tWrite.Reads w' [.int .i64 x.kind, .int .i64 x.id, .slice a x.vec.length d, .int .i64 x.session, .int .i64 x.seq] x ∧ Below W.heap.size W w') := fun W hW => by
          refine (implUnpack _ ps W ((unhide HOP).later hW)).mono ?_
          rintro e w' ⟨cs, rfl, O, hb⟩
          have e9 : unpackR ps = ⟨0, x⟩ := by rw [← unhide HPL]; exact unpack_pack (unhide HF)
          rw [e9] at O
          obtain ⟨a, d, rfl, R⟩ := open_WriteResult O.reads
          exact ⟨a, d, rfl, R, hb⟩
        have LP : Hid (∀ W, Below W8.heap.size W8 W → Calls Tryz.prog 6 #[.string tx] W fun e w' => ∃ a d, e = .returned (.agg #[.int .i64 0, .int .i64 x.kind, .int .i64 x.id, .slice a x.vec.length d, .int .i64 x.session, .int .i64 x.seq]) ∧ Lay.tWrite.Reads w' [.int .i64 x.kind, .int .i64 x.id, .slice a x.vec.length d, .int .i64 x.session, .int .i64 x.seq] x ∧ Below W.heap.size W w') := fun W hW => by
          refine (implPW tx W (by have := unhide HTS; omega) ((unhide HSH).later ((unhide HBA).trans (hW.mono (unhide HBA).size)))).mono ?_
          rintro e w' ⟨cs, rfl, O, hb⟩
          rw [unhide HTX, read_back (unhide HF)] at O
          obtain ⟨a, d, rfl, R⟩ := open_WriteResult O.reads
          exact ⟨a, d, rfl, R, hb⟩
        have LW : Hid (∀ W u v, (Lay.sl Lay.tWrite).Reads W [u] [x] → (Lay.sl Lay.tWrite).Reads W [v] [x] → Calls Tryz.prog 17 #[u, v] W fun e w' => e = .returned (.bool true) ∧ Below W.heap.size W w') := fun W u v h1 h2 => by
          have := implSame u v [x] [x] W h1 h2
          rwa [same_one] at this
        have hfW := fun k i a n d s q => wrField1 0 k i a n d s q
        have e0 : ((0 : Int) == 0) = true := by decide
        have e8 : ((8 : Int) == 8) = true := by decide
        clear HXW HXP HXT HOP HTX HTS HPL HPS HF
        refine wp_region_noPanic ?_
        refine wp_region_held_drew (S := fun w' => Below W8.heap.size W8 w') (by kernel_rfl) (Below.refl _ _).drew (fun hHeld => ?_)
        generalize W8.drew = wD at hHeld ⊢
        refine wpAnyH_take (i := 0) (oi := { dst := some 90, op := Go.Op.fieldAddr 38 (Go.Operand.tmp 8) 1, type := 0, pos := "laws.go:179", after := #[], guard := none }) (v := ?vf0_1) rfl (by kernel_rfl) (by kernel_rfl) (by kernel_rfl) (fun _ _ _ h => h) (Or.inl ⟨by rfl, ?hf0_1⟩) hHeld ?rf0_1
        case hf0_1 =>
          intro wS hSw
          (try dsimp only at hSw)
          go_simp
          try with_reducible rfl
        case rf0_1 =>
        simp only [Act.put, List.setIfInBounds_toArray, List.set_cons_zero, List.set_cons_succ]
        refine wpAnyH_take (i := 1) (oi := { dst := some 91, op := Go.Op.load 25 (Go.Operand.tmp 90), type := 25, pos := "laws.go:179", after := #[{ on := 0, ground := Go.Ground.data }], guard := none }) (v := ?vf1_2) rfl (by kernel_rfl) (by kernel_rfl) (by kernel_rfl) (fun _ _ _ h => h) (Or.inl ⟨by rfl, ?hf1_2⟩) hHeld ?rf1_2
        case hf1_2 =>
          intro wS hSw
          obtain ⟨q0, q1, q2, q3, q4, p1, t0, t1⟩ := unhide KT _ hSw
          clear hSw
          (try dsimp only at hSw)
          go_simp
          try with_reducible rfl
        case rf1_2 =>
        simp only [Act.put, List.setIfInBounds_toArray, List.set_cons_zero, List.set_cons_succ]
        refine wpAnyH_take (i := 2) (oi := { dst := some 92, op := Go.Op.call { callee := Go.Callee.builtin Go.Builtin.len, args := #[Go.Operand.tmp 91], argTypes := #[25] }, type := 3, pos := "laws.go:179", after := #[{ on := 1, ground := Go.Ground.data }], guard := none }) (v := ?vf2_3) rfl (by kernel_rfl) (by kernel_rfl) (by kernel_rfl) (fun _ _ _ h => h) (Or.inl ⟨by rfl, ?hf2_3⟩) hHeld ?rf2_3
        case hf2_3 =>
          intro wS hSw
          (try dsimp only at hSw)
          go_simp
          try with_reducible rfl
        case rf2_3 =>
        simp only [Act.put, List.setIfInBounds_toArray, List.set_cons_zero, List.set_cons_succ]
        refine wpAnyH_take (i := 3) (oi := { dst := some 93, op := Go.Op.binOp Go.BinOp.eql 3 (Go.Operand.tmp 92) (Go.Operand.const (Go.Value.int Go.IntKind.i64 8)) 3, type := 4, pos := "laws.go:179", after := #[{ on := 2, ground := Go.Ground.data }], guard := none }) (v := ?vf3_4) rfl (by kernel_rfl) (by kernel_rfl) (by kernel_rfl) (fun _ _ _ h => h) (Or.inl ⟨by rfl, ?hf3_4⟩) hHeld ?rf3_4
        case hf3_4 =>
          intro wS hSw
          (try dsimp only at hSw)
          go_simp
          try with_reducible rfl
        case rf3_4 =>
        simp only [Act.put, List.setIfInBounds_toArray, List.set_cons_zero, List.set_cons_succ]
        refine wpAnyH_take (i := 4) (oi := { dst := some 94, op := Go.Op.move (Go.Operand.tmp 93), type := 4, pos := "laws.go:179", after := #[{ on := 3, ground := Go.Ground.data }], guard := none }) (v := ?vf4_5) rfl (by kernel_rfl) (by kernel_rfl) (by kernel_rfl) (fun _ _ _ h => h) (Or.inl ⟨by rfl, ?hf4_5⟩) hHeld ?rf4_5
        case hf4_5 =>
          intro wS hSw
          (try dsimp only at hSw)
          go_simp
          try with_reducible rfl
        case rf4_5 =>
        simp only [Act.put, List.setIfInBounds_toArray, List.set_cons_zero, List.set_cons_succ]
        refine wpAnyH_take (i := 5) (oi := { dst := some 95, op := Go.Op.fieldAddr 38 (Go.Operand.tmp 8) 1, type := 0, pos := "laws.go:179", after := #[{ on := 4, ground := Go.Ground.guard }], guard := some (4, true) }) (v := ?vf5_6) rfl (by kernel_rfl) (by kernel_rfl) (by kernel_rfl) (fun _ _ _ h => h) (Or.inl ⟨by rfl, ?hf5_6⟩) hHeld ?rf5_6
        case hf5_6 =>
          intro wS hSw
          (try dsimp only at hSw)
          go_simp
          try with_reducible rfl
        case rf5_6 =>
        simp only [Act.put, List.setIfInBounds_toArray, List.set_cons_zero, List.set_cons_succ]
        refine wpAnyH_take (i := 6) (oi := { dst := some 96, op := Go.Op.load 25 (Go.Operand.tmp 95), type := 25, pos := "laws.go:179", after := #[{ on := 5, ground := Go.Ground.data }, { on := 4, ground := Go.Ground.guard }], guard := some (4, true) }) (v := ?vf6_7) rfl (by kernel_rfl) (by kernel_rfl) (by kernel_rfl) (fun _ _ _ h => h) (Or.inl ⟨by rfl, ?hf6_7⟩) hHeld ?rf6_7
        case hf6_7 =>
          intro wS hSw
          obtain ⟨q0, q1, q2, q3, q4, p1, t0, t1⟩ := unhide KT _ hSw
          clear hSw
          (try dsimp only at hSw)
          go_simp
          try with_reducible rfl
        case rf6_7 =>
        simp only [Act.put, List.setIfInBounds_toArray, List.set_cons_zero, List.set_cons_succ]
        refine wpAnyH_take (i := 10) (oi := { dst := some 100, op := Go.Op.load 27 (Go.Operand.tmp 7), type := 27, pos := "laws.go:179", after := #[{ on := 4, ground := Go.Ground.guard }], guard := some (4, true) }) (v := ?vf10_8) rfl (by kernel_rfl) (by kernel_rfl) (by kernel_rfl) (fun _ _ _ h => h) (Or.inl ⟨by rfl, ?hf10_8⟩) hHeld ?rf10_8
        case hf10_8 =>
          intro wS hSw
          obtain ⟨q0, q1, q2, q3, q4, p1, t0, t1⟩ := unhide KT _ hSw
          clear hSw
          (try dsimp only at hSw)
          go_simp
          try with_reducible rfl
        case rf10_8 =>
        simp only [Act.put, List.setIfInBounds_toArray, List.set_cons_zero, List.set_cons_succ]
        refine wpAnyH_ready (rs := [7, 11]) (by kernel_rfl) (by simp) ?_
        refine AllReadyH.cons (o := { dst := some 97, op := Go.Op.call { callee := Go.Callee.value (Go.Operand.func 10), args := #[Go.Operand.tmp 96], argTypes := #[25] }, type := 29, pos := "laws.go:179", after := #[{ on := 6, ground := Go.Ground.data }, { on := 4, ground := Go.Ground.chain }, { on := 4, ground := Go.Ground.guard }], guard := some (4, true) }) rfl (fun K hK => ?of7_9) (AllReadyH.cons (o := { dst := some 101, op := Go.Op.buildSlice 43 1 #[(0, Go.Operand.tmp 100)], type := 43, pos := "laws.go:179", after := #[{ on := 10, ground := Go.Ground.data }, { on := 4, ground := Go.Ground.guard }], guard := some (4, true) }) rfl (fun K hK => ?of11_9) (AllReadyH.nil))
        case of7_9 =>
          go_simp
          go_at_call 10
          refine (unhide LU _ hHeld).mono ?_
          rintro e w3 ⟨a9, d9, rfl, hR7, hb7⟩
          try go_wp2_with fail
          refine hK.out _ _ (hHeld.trans (hb7.mono hHeld.size)) (fun hHeld => ?_)
          clear hK K
          try simp only [Act.put, List.setIfInBounds_toArray, List.set_cons_zero, List.set_cons_succ]
          refine wpAnyH_take (i := 8) (oi := { dst := some 98, op := Go.Op.field 29 (Go.Operand.tmp 97) 1, type := 27, pos := "laws.go:179", after := #[{ on := 7, ground := Go.Ground.data }, { on := 4, ground := Go.Ground.guard }], guard := some (4, true) }) (v := ?vf8_10) rfl (by kernel_rfl) (by kernel_rfl) (by kernel_rfl) (fun _ _ _ h => h) (Or.inl ⟨by rfl, ?hf8_10⟩) hHeld ?rf8_10
          case hf8_10 =>
            intro wS hSw
            have yf := hfW x.kind x.id a9 x.vec.length d9 x.session x.seq
            clear hSw
            (try dsimp only at hSw)
            go_simp
            try with_reducible rfl
          case rf8_10 =>
          simp only [Act.put, List.setIfInBounds_toArray, List.set_cons_zero, List.set_cons_succ]
          refine wpAnyH_ready (rs := [9, 11]) (by kernel_rfl) (by simp) ?_
          refine AllReadyH.cons (o := { dst := some 99, op := Go.Op.buildSlice 43 1 #[(0, Go.Operand.tmp 98)], type := 43, pos := "laws.go:179", after := #[{ on := 8, ground := Go.Ground.data }, { on := 4, ground := Go.Ground.guard }], guard := some (4, true) }) rfl (fun K hK => ?of9_11) (AllReadyH.cons (o := { dst := some 101, op := Go.Op.buildSlice 43 1 #[(0, Go.Operand.tmp 100)], type := 43, pos := "laws.go:179", after := #[{ on := 10, ground := Go.Ground.data }, { on := 4, ground := Go.Ground.guard }], guard := some (4, true) }) rfl (fun K hK => ?of11_11) (AllReadyH.nil))
          case of9_11 =>
            replace hR7 := hR7.later ((Below.refl _ _).alloc (Nat.le_refl _) (.cells #[.int .i64 x.kind, .int .i64 x.id, .slice a9 x.vec.length d9, .int .i64 x.session, .int .i64 x.seq] 27))
            have hG9 : Box 0 #[.int .i64 x.kind, .int .i64 x.id, .slice a9 x.vec.length d9, .int .i64 x.session, .int .i64 x.seq] 27 (w3.alloc (.cells #[.int .i64 x.kind, .int .i64 x.id, .slice a9 x.vec.length d9, .int .i64 x.session, .int .i64 x.seq] 27)) (w3.heap.size) := newBoxAt (Nat.zero_le _) (by simp)
            go_simp
            refine hK.out _ _ (hHeld.alloc hHeld.size _) (fun hHeld => ?_)
            clear hK K
            try simp only [Act.put, List.setIfInBounds_toArray, List.set_cons_zero, List.set_cons_succ]
            refine wpAnyH_ready (rs := [11]) (by kernel_rfl) (by simp) ?_
            refine AllReadyH.cons (o := { dst := some 101, op := Go.Op.buildSlice 43 1 #[(0, Go.Operand.tmp 100)], type := 43, pos := "laws.go:179", after := #[{ on := 10, ground := Go.Ground.data }, { on := 4, ground := Go.Ground.guard }], guard := some (4, true) }) rfl (fun K hK => ?_) AllReadyH.nil
            replace hR7 := hR7.later ((Below.refl _ _).alloc (Nat.le_refl _) (.cells #[.int .i64 x.kind, .int .i64 x.id, .slice aw x.vec.length dw, .int .i64 x.session, .int .i64 x.seq] 27))
            replace hG9 := hG9.grow (.cells #[.int .i64 x.kind, .int .i64 x.id, .slice aw x.vec.length dw, .int .i64 x.session, .int .i64 x.seq] 27)
            have hG11 : Box 0 #[.int .i64 x.kind, .int .i64 x.id, .slice aw x.vec.length dw, .int .i64 x.session, .int .i64 x.seq] 27 ((w3.alloc (.cells #[.int .i64 x.kind, .int .i64 x.id, .slice a9 x.vec.length d9, .int .i64 x.session, .int .i64 x.seq] 27)).alloc (.cells #[.int .i64 x.kind, .int .i64 x.id, .slice aw x.vec.length dw, .int .i64 x.session, .int .i64 x.seq] 27)) (w3.heap.size + 1) := newBoxAt (Nat.zero_le _) (by simp)
            go_simp
            refine hK.out _ _ (hHeld.alloc hHeld.size _) (fun hHeld => ?_)
            clear hK K
            try simp only [Act.put, List.setIfInBounds_toArray, List.set_cons_zero, List.set_cons_succ]
            refine wpAnyH_ready (rs := [12]) (by kernel_rfl) (by simp) ?_
            refine AllReadyH.cons (o := { dst := some 102, op := Go.Op.call { callee := Go.Callee.value (Go.Operand.func 17), args := #[Go.Operand.tmp 99, Go.Operand.tmp 101], argTypes := #[43, 43] }, type := 4, pos := "laws.go:179", after := #[{ on := 9, ground := Go.Ground.data }, { on := 11, ground := Go.Ground.data }, { on := 7, ground := Go.Ground.chain }, { on := 4, ground := Go.Ground.guard }], guard := some (4, true) }) rfl (fun K hK => ?_) AllReadyH.nil
            go_simp
            go_at_call 17
            refine (unhide LW _ _ _ (read_one hG9 hR7) (read_one hG11 ((unhide HW).later hHeld))).mono ?_
            rintro e w5 ⟨rfl, hb12⟩
            clear hG9 hG11 hR7
            try go_wp2_with fail
            refine hK.out _ _ (hHeld.trans (hb12.mono hHeld.size)) (fun hHeld => ?_)
            clear hK K
            try simp only [Act.put, List.setIfInBounds_toArray, List.set_cons_zero, List.set_cons_succ]
            refine wpAnyH_take (i := 13) (oi := { dst := some 103, op := Go.Op.pick (Go.Operand.tmp 94) (Go.Operand.tmp 102) (Go.Operand.const (Go.Value.bool false)), type := 4, pos := "laws.go:179", after := #[{ on := 4, ground := Go.Ground.data }, { on := 12, ground := Go.Ground.data }], guard := none }) (v := ?vf13_12) rfl (by kernel_rfl) (by kernel_rfl) (by kernel_rfl) (fun _ _ _ h => h) (Or.inl ⟨by rfl, ?hf13_12⟩) hHeld ?rf13_12
            case hf13_12 =>
              intro wS hSw
              (try dsimp only at hSw)
              go_simp
              try with_reducible rfl
            case rf13_12 =>
            simp only [Act.put, List.setIfInBounds_toArray, List.set_cons_zero, List.set_cons_succ]
            refine wpAnyH_take (i := 14) (oi := { dst := some 104, op := Go.Op.move (Go.Operand.tmp 103), type := 4, pos := "laws.go:179", after := #[{ on := 13, ground := Go.Ground.data }, { on := 12, ground := Go.Ground.chain }], guard := none }) (v := ?vf14_13) rfl (by kernel_rfl) (by kernel_rfl) (by kernel_rfl) (fun _ _ _ h => h) (Or.inl ⟨by rfl, ?hf14_13⟩) hHeld ?rf14_13
            case hf14_13 =>
              intro wS hSw
              (try dsimp only at hSw)
              go_simp
              try with_reducible rfl
            case rf14_13 =>
            simp only [Act.put, List.setIfInBounds_toArray, List.set_cons_zero, List.set_cons_succ]
            refine wpAnyH_take (i := 15) (oi := { dst := some 105, op := Go.Op.fieldAddr 32 (Go.Operand.tmp 9) 0, type := 0, pos := "laws.go:179", after := #[{ on := 14, ground := Go.Ground.guard }], guard := some (14, true) }) (v := ?vf15_14) rfl (by kernel_rfl) (by kernel_rfl) (by kernel_rfl) (fun _ _ _ h => h) (Or.inl ⟨by rfl, ?hf15_14⟩) hHeld ?rf15_14
            case hf15_14 =>
              intro wS hSw
              (try dsimp only at hSw)
              go_simp
              try with_reducible rfl
            case rf15_14 =>
            simp only [Act.put, List.setIfInBounds_toArray, List.set_cons_zero, List.set_cons_succ]
            refine wpAnyH_take (i := 16) (oi := { dst := some 106, op := Go.Op.load 2 (Go.Operand.tmp 105), type := 2, pos := "laws.go:179", after := #[{ on := 15, ground := Go.Ground.data }, { on := 14, ground := Go.Ground.guard }], guard := some (14, true) }) (v := ?vf16_15) rfl (by kernel_rfl) (by kernel_rfl) (by kernel_rfl) (fun _ _ _ h => h) (Or.inl ⟨by rfl, ?hf16_15⟩) hHeld ?rf16_15
            case hf16_15 =>
              intro wS hSw
              obtain ⟨q0, q1, q2, q3, q4, p1, t0, t1⟩ := unhide KT _ hSw
              clear hSw
              (try dsimp only at hSw)
              go_simp
              try with_reducible rfl
            case rf16_15 =>
            simp only [Act.put, List.setIfInBounds_toArray, List.set_cons_zero, List.set_cons_succ]
            refine wpAnyH_take (i := 17) (oi := { dst := some 107, op := Go.Op.binOp Go.BinOp.eql 2 (Go.Operand.tmp 106) (Go.Operand.const (Go.Value.int Go.IntKind.i64 0)) 2, type := 4, pos := "laws.go:179", after := #[{ on := 16, ground := Go.Ground.data }, { on := 14, ground := Go.Ground.guard }], guard := some (14, true) }) (v := ?vf17_16) rfl (by kernel_rfl) (by kernel_rfl) (by kernel_rfl) (fun _ _ _ h => h) (Or.inl ⟨by rfl, ?hf17_16⟩) hHeld ?rf17_16
            case hf17_16 =>
              intro wS hSw
              (try dsimp only at hSw)
              go_simp
              try with_reducible rfl
            case rf17_16 =>
            simp only [Act.put, List.setIfInBounds_toArray, List.set_cons_zero, List.set_cons_succ]
            refine wpAnyH_take (i := 18) (oi := { dst := some 108, op := Go.Op.pick (Go.Operand.tmp 104) (Go.Operand.tmp 107) (Go.Operand.const (Go.Value.bool false)), type := 4, pos := "laws.go:179", after := #[{ on := 14, ground := Go.Ground.data }, { on := 17, ground := Go.Ground.data }], guard := none }) (v := ?vf18_17) rfl (by kernel_rfl) (by kernel_rfl) (by kernel_rfl) (fun _ _ _ h => h) (Or.inl ⟨by rfl, ?hf18_17⟩) hHeld ?rf18_17
            case hf18_17 =>
              intro wS hSw
              (try dsimp only at hSw)
              go_simp
              try with_reducible rfl
            case rf18_17 =>
            simp only [Act.put, List.setIfInBounds_toArray, List.set_cons_zero, List.set_cons_succ]
            refine wpAnyH_take (i := 19) (oi := { dst := some 109, op := Go.Op.move (Go.Operand.tmp 108), type := 4, pos := "laws.go:179", after := #[{ on := 18, ground := Go.Ground.data }, { on := 14, ground := Go.Ground.chain }], guard := none }) (v := ?vf19_18) rfl (by kernel_rfl) (by kernel_rfl) (by kernel_rfl) (fun _ _ _ h => h) (Or.inl ⟨by rfl, ?hf19_18⟩) hHeld ?rf19_18
            case hf19_18 =>
              intro wS hSw
              (try dsimp only at hSw)
              go_simp
              try with_reducible rfl
            case rf19_18 =>
            simp only [Act.put, List.setIfInBounds_toArray, List.set_cons_zero, List.set_cons_succ]
            refine wpAnyH_take (i := 20) (oi := { dst := some 110, op := Go.Op.fieldAddr 32 (Go.Operand.tmp 9) 1, type := 0, pos := "laws.go:179", after := #[{ on := 19, ground := Go.Ground.guard }], guard := some (19, true) }) (v := ?vf20_19) rfl (by kernel_rfl) (by kernel_rfl) (by kernel_rfl) (fun _ _ _ h => h) (Or.inl ⟨by rfl, ?hf20_19⟩) hHeld ?rf20_19
            case hf20_19 =>
              intro wS hSw
              (try dsimp only at hSw)
              go_simp
              try with_reducible rfl
            case rf20_19 =>
            simp only [Act.put, List.setIfInBounds_toArray, List.set_cons_zero, List.set_cons_succ]
            refine wpAnyH_take (i := 21) (oi := { dst := some 111, op := Go.Op.load 9 (Go.Operand.tmp 110), type := 9, pos := "laws.go:179", after := #[{ on := 20, ground := Go.Ground.data }, { on := 19, ground := Go.Ground.guard }], guard := some (19, true) }) (v := ?vf21_20) rfl (by kernel_rfl) (by kernel_rfl) (by kernel_rfl) (fun _ _ _ h => h) (Or.inl ⟨by rfl, ?hf21_20⟩) hHeld ?rf21_20
            case hf21_20 =>
              intro wS hSw
              obtain ⟨q0, q1, q2, q3, q4, p1, t0, t1⟩ := unhide KT _ hSw
              clear hSw
              (try dsimp only at hSw)
              go_simp
              try with_reducible rfl
            case rf21_20 =>
            simp only [Act.put, List.setIfInBounds_toArray, List.set_cons_zero, List.set_cons_succ]
            refine wpAnyH_take (i := 25) (oi := { dst := some 115, op := Go.Op.load 27 (Go.Operand.tmp 7), type := 27, pos := "laws.go:179", after := #[{ on := 19, ground := Go.Ground.guard }], guard := some (19, true) }) (v := ?vf25_21) rfl (by kernel_rfl) (by kernel_rfl) (by kernel_rfl) (fun _ _ _ h => h) (Or.inl ⟨by rfl, ?hf25_21⟩) hHeld ?rf25_21
            case hf25_21 =>
              intro wS hSw
              obtain ⟨q0, q1, q2, q3, q4, p1, t0, t1⟩ := unhide KT _ hSw
              clear hSw
              (try dsimp only at hSw)
              go_simp
              try with_reducible rfl
            case rf25_21 =>
            simp only [Act.put, List.setIfInBounds_toArray, List.set_cons_zero, List.set_cons_succ]
            refine wpAnyH_ready (rs := [22, 26]) (by kernel_rfl) (by simp) ?_
            refine AllReadyH.cons (o := { dst := some 112, op := Go.Op.call { callee := Go.Callee.value (Go.Operand.func 6), args := #[Go.Operand.tmp 111], argTypes := #[9] }, type := 29, pos := "laws.go:179", after := #[{ on := 21, ground := Go.Ground.data }, { on := 19, ground := Go.Ground.chain }, { on := 19, ground := Go.Ground.guard }], guard := some (19, true) }) rfl (fun K hK => ?of22_22) (AllReadyH.cons (o := { dst := some 116, op := Go.Op.buildSlice 43 1 #[(0, Go.Operand.tmp 115)], type := 43, pos := "laws.go:179", after := #[{ on := 25, ground := Go.Ground.data }, { on := 19, ground := Go.Ground.guard }], guard := some (19, true) }) rfl (fun K hK => ?of26_22) (AllReadyH.nil))
            case of22_22 =>
              go_simp
              go_at_call 6
              refine (unhide LP _ hHeld).mono ?_
              rintro e w6 ⟨a24, d24, rfl, hR22, hb22⟩
              try go_wp2_with fail
              refine hK.out _ _ (hHeld.trans (hb22.mono hHeld.size)) (fun hHeld => ?_)
              clear hK K
              try simp only [Act.put, List.setIfInBounds_toArray, List.set_cons_zero, List.set_cons_succ]
              refine wpAnyH_take (i := 23) (oi := { dst := some 113, op := Go.Op.field 29 (Go.Operand.tmp 112) 1, type := 27, pos := "laws.go:179", after := #[{ on := 22, ground := Go.Ground.data }, { on := 19, ground := Go.Ground.guard }], guard := some (19, true) }) (v := ?vf23_23) rfl (by kernel_rfl) (by kernel_rfl) (by kernel_rfl) (fun _ _ _ h => h) (Or.inl ⟨by rfl, ?hf23_23⟩) hHeld ?rf23_23
              case hf23_23 =>
                intro wS hSw
                have yf := hfW x.kind x.id a24 x.vec.length d24 x.session x.seq
                clear hSw
                (try dsimp only at hSw)
                go_simp
                try with_reducible rfl
              case rf23_23 =>
              simp only [Act.put, List.setIfInBounds_toArray, List.set_cons_zero, List.set_cons_succ]
              refine wpAnyH_ready (rs := [24, 26]) (by kernel_rfl) (by simp) ?_
              refine AllReadyH.cons (o := { dst := some 114, op := Go.Op.buildSlice 43 1 #[(0, Go.Operand.tmp 113)], type := 43, pos := "laws.go:179", after := #[{ on := 23, ground := Go.Ground.data }, { on := 19, ground := Go.Ground.guard }], guard := some (19, true) }) rfl (fun K hK => ?of24_24) (AllReadyH.cons (o := { dst := some 116, op := Go.Op.buildSlice 43 1 #[(0, Go.Operand.tmp 115)], type := 43, pos := "laws.go:179", after := #[{ on := 25, ground := Go.Ground.data }, { on := 19, ground := Go.Ground.guard }], guard := some (19, true) }) rfl (fun K hK => ?of26_24) (AllReadyH.nil))
              case of24_24 =>
                replace hR22 := hR22.later ((Below.refl _ _).alloc (Nat.le_refl _) (.cells #[.int .i64 x.kind, .int .i64 x.id, .slice a24 x.vec.length d24, .int .i64 x.session, .int .i64 x.seq] 27))
                have hG24 : Box 0 #[.int .i64 x.kind, .int .i64 x.id, .slice a24 x.vec.length d24, .int .i64 x.session, .int .i64 x.seq] 27 (w6.alloc (.cells #[.int .i64 x.kind, .int .i64 x.id, .slice a24 x.vec.length d24, .int .i64 x.session, .int .i64 x.seq] 27)) (w6.heap.size) := newBoxAt (Nat.zero_le _) (by simp)
                go_simp
                refine hK.out _ _ (hHeld.alloc hHeld.size _) (fun hHeld => ?_)
                clear hK K
                try simp only [Act.put, List.setIfInBounds_toArray, List.set_cons_zero, List.set_cons_succ]
                refine wpAnyH_ready (rs := [26]) (by kernel_rfl) (by simp) ?_
                refine AllReadyH.cons (o := { dst := some 116, op := Go.Op.buildSlice 43 1 #[(0, Go.Operand.tmp 115)], type := 43, pos := "laws.go:179", after := #[{ on := 25, ground := Go.Ground.data }, { on := 19, ground := Go.Ground.guard }], guard := some (19, true) }) rfl (fun K hK => ?_) AllReadyH.nil
                replace hR22 := hR22.later ((Below.refl _ _).alloc (Nat.le_refl _) (.cells #[.int .i64 x.kind, .int .i64 x.id, .slice aw x.vec.length dw, .int .i64 x.session, .int .i64 x.seq] 27))
                replace hG24 := hG24.grow (.cells #[.int .i64 x.kind, .int .i64 x.id, .slice aw x.vec.length dw, .int .i64 x.session, .int .i64 x.seq] 27)
                have hG26 : Box 0 #[.int .i64 x.kind, .int .i64 x.id, .slice aw x.vec.length dw, .int .i64 x.session, .int .i64 x.seq] 27 ((w6.alloc (.cells #[.int .i64 x.kind, .int .i64 x.id, .slice a24 x.vec.length d24, .int .i64 x.session, .int .i64 x.seq] 27)).alloc (.cells #[.int .i64 x.kind, .int .i64 x.id, .slice aw x.vec.length dw, .int .i64 x.session, .int .i64 x.seq] 27)) (w6.heap.size + 1) := newBoxAt (Nat.zero_le _) (by simp)
                go_simp
                refine hK.out _ _ (hHeld.alloc hHeld.size _) (fun hHeld => ?_)
                clear hK K
                try simp only [Act.put, List.setIfInBounds_toArray, List.set_cons_zero, List.set_cons_succ]
                refine wpAnyH_ready (rs := [27]) (by kernel_rfl) (by simp) ?_
                refine AllReadyH.cons (o := { dst := some 117, op := Go.Op.call { callee := Go.Callee.value (Go.Operand.func 17), args := #[Go.Operand.tmp 114, Go.Operand.tmp 116], argTypes := #[43, 43] }, type := 4, pos := "laws.go:179", after := #[{ on := 24, ground := Go.Ground.data }, { on := 26, ground := Go.Ground.data }, { on := 22, ground := Go.Ground.chain }, { on := 19, ground := Go.Ground.guard }], guard := some (19, true) }) rfl (fun K hK => ?_) AllReadyH.nil
                go_simp
                go_at_call 17
                refine (unhide LW _ _ _ (read_one hG24 hR22) (read_one hG26 ((unhide HW).later hHeld))).mono ?_
                rintro e w8 ⟨rfl, hb27⟩
                clear hG24 hG26 hR22
                try go_wp2_with fail
                refine hK.out _ _ (hHeld.trans (hb27.mono hHeld.size)) (fun hHeld => ?_)
                clear hK K
                try simp only [Act.put, List.setIfInBounds_toArray, List.set_cons_zero, List.set_cons_succ]
                refine wpAnyH_take (i := 28) (oi := { dst := some 118, op := Go.Op.pick (Go.Operand.tmp 109) (Go.Operand.tmp 117) (Go.Operand.const (Go.Value.bool false)), type := 4, pos := "laws.go:179", after := #[{ on := 19, ground := Go.Ground.data }, { on := 27, ground := Go.Ground.data }], guard := none }) (v := ?vf28_25) rfl (by kernel_rfl) (by kernel_rfl) (by kernel_rfl) (fun _ _ _ h => h) (Or.inl ⟨by rfl, ?hf28_25⟩) hHeld ?rf28_25
                case hf28_25 =>
                  intro wS hSw
                  (try dsimp only at hSw)
                  go_simp
                  try with_reducible rfl
                case rf28_25 =>
                simp only [Act.put, List.setIfInBounds_toArray, List.set_cons_zero, List.set_cons_succ]
                refine wpAnyH_take (i := 29) (oi := { dst := some 2, op := Go.Op.assign (Go.Operand.tmp 118), type := 4, pos := "laws.go:179", after := #[{ on := 28, ground := Go.Ground.data }, { on := 27, ground := Go.Ground.chain }, { on := 0, ground := Go.Ground.phase }, { on := 1, ground := Go.Ground.phase }, { on := 2, ground := Go.Ground.phase }, { on := 3, ground := Go.Ground.phase }, { on := 4, ground := Go.Ground.phase }, { on := 5, ground := Go.Ground.phase }, { on := 6, ground := Go.Ground.phase }, { on := 7, ground := Go.Ground.phase }, { on := 8, ground := Go.Ground.phase }, { on := 9, ground := Go.Ground.phase }, { on := 10, ground := Go.Ground.phase }, { on := 11, ground := Go.Ground.phase }, { on := 12, ground := Go.Ground.phase }, { on := 13, ground := Go.Ground.phase }, { on := 14, ground := Go.Ground.phase }, { on := 15, ground := Go.Ground.phase }, { on := 16, ground := Go.Ground.phase }, { on := 17, ground := Go.Ground.phase }, { on := 18, ground := Go.Ground.phase }, { on := 19, ground := Go.Ground.phase }, { on := 20, ground := Go.Ground.phase }, { on := 21, ground := Go.Ground.phase }, { on := 22, ground := Go.Ground.phase }, { on := 23, ground := Go.Ground.phase }, { on := 24, ground := Go.Ground.phase }, { on := 25, ground := Go.Ground.phase }, { on := 26, ground := Go.Ground.phase }, { on := 27, ground := Go.Ground.phase }, { on := 28, ground := Go.Ground.phase }], guard := none }) (v := ?vf29_26) rfl (by kernel_rfl) (by kernel_rfl) (by kernel_rfl) (fun _ _ _ h => h) (Or.inl ⟨by rfl, ?hf29_26⟩) hHeld ?rf29_26
                case hf29_26 =>
                  intro wS hSw
                  (try dsimp only at hSw)
                  go_simp
                  try with_reducible rfl
                case rf29_26 =>
                simp only [Act.put, List.setIfInBounds_toArray, List.set_cons_zero, List.set_cons_succ]
                refine wpAnyH_done (by kernel_rfl) ?_ _
                refine NoPanic.normal ?_
                have HB9 := hide ((unhide HBA).trans (hHeld.mono (unhide HBA).size))
                clear hHeld
                go_wp2_with fail
                go_ret
                exact ⟨rfl, unhide HB9⟩
              case of26_24 =>
                replace hR22 := hR22.later ((Below.refl _ _).alloc (Nat.le_refl _) (.cells #[.int .i64 x.kind, .int .i64 x.id, .slice aw x.vec.length dw, .int .i64 x.session, .int .i64 x.seq] 27))
                have hG26 : Box 0 #[.int .i64 x.kind, .int .i64 x.id, .slice aw x.vec.length dw, .int .i64 x.session, .int .i64 x.seq] 27 (w6.alloc (.cells #[.int .i64 x.kind, .int .i64 x.id, .slice aw x.vec.length dw, .int .i64 x.session, .int .i64 x.seq] 27)) (w6.heap.size) := newBoxAt (Nat.zero_le _) (by simp)
                go_simp
                refine hK.out _ _ (hHeld.alloc hHeld.size _) (fun hHeld => ?_)
                clear hK K
                try simp only [Act.put, List.setIfInBounds_toArray, List.set_cons_zero, List.set_cons_succ]
                refine wpAnyH_ready (rs := [24]) (by kernel_rfl) (by simp) ?_
                refine AllReadyH.cons (o := { dst := some 114, op := Go.Op.buildSlice 43 1 #[(0, Go.Operand.tmp 113)], type := 43, pos := "laws.go:179", after := #[{ on := 23, ground := Go.Ground.data }, { on := 19, ground := Go.Ground.guard }], guard := some (19, true) }) rfl (fun K hK => ?_) AllReadyH.nil
                replace hR22 := hR22.later ((Below.refl _ _).alloc (Nat.le_refl _) (.cells #[.int .i64 x.kind, .int .i64 x.id, .slice a24 x.vec.length d24, .int .i64 x.session, .int .i64 x.seq] 27))
                replace hG26 := hG26.grow (.cells #[.int .i64 x.kind, .int .i64 x.id, .slice a24 x.vec.length d24, .int .i64 x.session, .int .i64 x.seq] 27)
                have hG24 : Box 0 #[.int .i64 x.kind, .int .i64 x.id, .slice a24 x.vec.length d24, .int .i64 x.session, .int .i64 x.seq] 27 ((w6.alloc (.cells #[.int .i64 x.kind, .int .i64 x.id, .slice aw x.vec.length dw, .int .i64 x.session, .int .i64 x.seq] 27)).alloc (.cells #[.int .i64 x.kind, .int .i64 x.id, .slice a24 x.vec.length d24, .int .i64 x.session, .int .i64 x.seq] 27)) (w6.heap.size + 1) := newBoxAt (Nat.zero_le _) (by simp)
                go_simp
                refine hK.out _ _ (hHeld.alloc hHeld.size _) (fun hHeld => ?_)
                clear hK K
                try simp only [Act.put, List.setIfInBounds_toArray, List.set_cons_zero, List.set_cons_succ]
                refine wpAnyH_ready (rs := [27]) (by kernel_rfl) (by simp) ?_
                refine AllReadyH.cons (o := { dst := some 117, op := Go.Op.call { callee := Go.Callee.value (Go.Operand.func 17), args := #[Go.Operand.tmp 114, Go.Operand.tmp 116], argTypes := #[43, 43] }, type := 4, pos := "laws.go:179", after := #[{ on := 24, ground := Go.Ground.data }, { on := 26, ground := Go.Ground.data }, { on := 22, ground := Go.Ground.chain }, { on := 19, ground := Go.Ground.guard }], guard := some (19, true) }) rfl (fun K hK => ?_) AllReadyH.nil
                go_simp
                go_at_call 17
                refine (unhide LW _ _ _ (read_one hG24 hR22) (read_one hG26 ((unhide HW).later hHeld))).mono ?_
                rintro e w8 ⟨rfl, hb27⟩
                clear hG24 hG26 hR22
                try go_wp2_with fail
                refine hK.out _ _ (hHeld.trans (hb27.mono hHeld.size)) (fun hHeld => ?_)
                clear hK K
                try simp only [Act.put, List.setIfInBounds_toArray, List.set_cons_zero, List.set_cons_succ]
                refine wpAnyH_take (i := 28) (oi := { dst := some 118, op := Go.Op.pick (Go.Operand.tmp 109) (Go.Operand.tmp 117) (Go.Operand.const (Go.Value.bool false)), type := 4, pos := "laws.go:179", after := #[{ on := 19, ground := Go.Ground.data }, { on := 27, ground := Go.Ground.data }], guard := none }) (v := ?vf28_27) rfl (by kernel_rfl) (by kernel_rfl) (by kernel_rfl) (fun _ _ _ h => h) (Or.inl ⟨by rfl, ?hf28_27⟩) hHeld ?rf28_27
                case hf28_27 =>
                  intro wS hSw
                  (try dsimp only at hSw)
                  go_simp
                  try with_reducible rfl
                case rf28_27 =>
                simp only [Act.put, List.setIfInBounds_toArray, List.set_cons_zero, List.set_cons_succ]
                refine wpAnyH_take (i := 29) (oi := { dst := some 2, op := Go.Op.assign (Go.Operand.tmp 118), type := 4, pos := "laws.go:179", after := #[{ on := 28, ground := Go.Ground.data }, { on := 27, ground := Go.Ground.chain }, { on := 0, ground := Go.Ground.phase }, { on := 1, ground := Go.Ground.phase }, { on := 2, ground := Go.Ground.phase }, { on := 3, ground := Go.Ground.phase }, { on := 4, ground := Go.Ground.phase }, { on := 5, ground := Go.Ground.phase }, { on := 6, ground := Go.Ground.phase }, { on := 7, ground := Go.Ground.phase }, { on := 8, ground := Go.Ground.phase }, { on := 9, ground := Go.Ground.phase }, { on := 10, ground := Go.Ground.phase }, { on := 11, ground := Go.Ground.phase }, { on := 12, ground := Go.Ground.phase }, { on := 13, ground := Go.Ground.phase }, { on := 14, ground := Go.Ground.phase }, { on := 15, ground := Go.Ground.phase }, { on := 16, ground := Go.Ground.phase }, { on := 17, ground := Go.Ground.phase }, { on := 18, ground := Go.Ground.phase }, { on := 19, ground := Go.Ground.phase }, { on := 20, ground := Go.Ground.phase }, { on := 21, ground := Go.Ground.phase }, { on := 22, ground := Go.Ground.phase }, { on := 23, ground := Go.Ground.phase }, { on := 24, ground := Go.Ground.phase }, { on := 25, ground := Go.Ground.phase }, { on := 26, ground := Go.Ground.phase }, { on := 27, ground := Go.Ground.phase }, { on := 28, ground := Go.Ground.phase }], guard := none }) (v := ?vf29_28) rfl (by kernel_rfl) (by kernel_rfl) (by kernel_rfl) (fun _ _ _ h => h) (Or.inl ⟨by rfl, ?hf29_28⟩) hHeld ?rf29_28
                case hf29_28 =>
                  intro wS hSw
                  (try dsimp only at hSw)
                  go_simp
                  try with_reducible rfl
                case rf29_28 =>
                simp only [Act.put, List.setIfInBounds_toArray, List.set_cons_zero, List.set_cons_succ]
                refine wpAnyH_done (by kernel_rfl) ?_ _
                refine NoPanic.normal ?_
                have HB9 := hide ((unhide HBA).trans (hHeld.mono (unhide HBA).size))
                clear hHeld
                go_wp2_with fail
                go_ret
                exact ⟨rfl, unhide HB9⟩
            case of26_22 =>
              have hG26 : Box 0 #[.int .i64 x.kind, .int .i64 x.id, .slice aw x.vec.length dw, .int .i64 x.session, .int .i64 x.seq] 27 (w5.alloc (.cells #[.int .i64 x.kind, .int .i64 x.id, .slice aw x.vec.length dw, .int .i64 x.session, .int .i64 x.seq] 27)) (w5.heap.size) := newBoxAt (Nat.zero_le _) (by simp)
              go_simp
              refine hK.out _ _ (hHeld.alloc hHeld.size _) (fun hHeld => ?_)
              clear hK K
              try simp only [Act.put, List.setIfInBounds_toArray, List.set_cons_zero, List.set_cons_succ]
              refine wpAnyH_ready (rs := [22]) (by kernel_rfl) (by simp) ?_
              refine AllReadyH.cons (o := { dst := some 112, op := Go.Op.call { callee := Go.Callee.value (Go.Operand.func 6), args := #[Go.Operand.tmp 111], argTypes := #[9] }, type := 29, pos := "laws.go:179", after := #[{ on := 21, ground := Go.Ground.data }, { on := 19, ground := Go.Ground.chain }, { on := 19, ground := Go.Ground.guard }], guard := some (19, true) }) rfl (fun K hK => ?_) AllReadyH.nil
              go_simp
              go_at_call 6
              refine (unhide LP _ hHeld).mono ?_
              rintro e w6 ⟨a24, d24, rfl, hR22, hb22⟩
              replace hG26 := hG26.keep hb22
              try go_wp2_with fail
              refine hK.out _ _ (hHeld.trans (hb22.mono hHeld.size)) (fun hHeld => ?_)
              clear hK K
              try simp only [Act.put, List.setIfInBounds_toArray, List.set_cons_zero, List.set_cons_succ]
              refine wpAnyH_take (i := 23) (oi := { dst := some 113, op := Go.Op.field 29 (Go.Operand.tmp 112) 1, type := 27, pos := "laws.go:179", after := #[{ on := 22, ground := Go.Ground.data }, { on := 19, ground := Go.Ground.guard }], guard := some (19, true) }) (v := ?vf23_29) rfl (by kernel_rfl) (by kernel_rfl) (by kernel_rfl) (fun _ _ _ h => h) (Or.inl ⟨by rfl, ?hf23_29⟩) hHeld ?rf23_29
              case hf23_29 =>
                intro wS hSw
                have yf := hfW x.kind x.id a24 x.vec.length d24 x.session x.seq
                clear hSw
                (try dsimp only at hSw)
                go_simp
                try with_reducible rfl
              case rf23_29 =>
              simp only [Act.put, List.setIfInBounds_toArray, List.set_cons_zero, List.set_cons_succ]
              refine wpAnyH_ready (rs := [24]) (by kernel_rfl) (by simp) ?_
              refine AllReadyH.cons (o := { dst := some 114, op := Go.Op.buildSlice 43 1 #[(0, Go.Operand.tmp 113)], type := 43, pos := "laws.go:179", after := #[{ on := 23, ground := Go.Ground.data }, { on := 19, ground := Go.Ground.guard }], guard := some (19, true) }) rfl (fun K hK => ?_) AllReadyH.nil
              replace hG26 := hG26.grow (.cells #[.int .i64 x.kind, .int .i64 x.id, .slice a24 x.vec.length d24, .int .i64 x.session, .int .i64 x.seq] 27)
              replace hR22 := hR22.later ((Below.refl _ _).alloc (Nat.le_refl _) (.cells #[.int .i64 x.kind, .int .i64 x.id, .slice a24 x.vec.length d24, .int .i64 x.session, .int .i64 x.seq] 27))
              have hG24 : Box 0 #[.int .i64 x.kind, .int .i64 x.id, .slice a24 x.vec.length d24, .int .i64 x.session, .int .i64 x.seq] 27 (w6.alloc (.cells #[.int .i64 x.kind, .int .i64 x.id, .slice a24 x.vec.length d24, .int .i64 x.session, .int .i64 x.seq] 27)) (w6.heap.size) := newBoxAt (Nat.zero_le _) (by simp)
              go_simp
              refine hK.out _ _ (hHeld.alloc hHeld.size _) (fun hHeld => ?_)
              clear hK K
              try simp only [Act.put, List.setIfInBounds_toArray, List.set_cons_zero, List.set_cons_succ]
              refine wpAnyH_ready (rs := [27]) (by kernel_rfl) (by simp) ?_
              refine AllReadyH.cons (o := { dst := some 117, op := Go.Op.call { callee := Go.Callee.value (Go.Operand.func 17), args := #[Go.Operand.tmp 114, Go.Operand.tmp 116], argTypes := #[43, 43] }, type := 4, pos := "laws.go:179", after := #[{ on := 24, ground := Go.Ground.data }, { on := 26, ground := Go.Ground.data }, { on := 22, ground := Go.Ground.chain }, { on := 19, ground := Go.Ground.guard }], guard := some (19, true) }) rfl (fun K hK => ?_) AllReadyH.nil
              go_simp
              go_at_call 17
              refine (unhide LW _ _ _ (read_one hG24 hR22) (read_one hG26 ((unhide HW).later hHeld))).mono ?_
              rintro e w8 ⟨rfl, hb27⟩
              clear hG24 hG26 hR22
              try go_wp2_with fail
              refine hK.out _ _ (hHeld.trans (hb27.mono hHeld.size)) (fun hHeld => ?_)
              clear hK K
              try simp only [Act.put, List.setIfInBounds_toArray, List.set_cons_zero, List.set_cons_succ]
              refine wpAnyH_take (i := 28) (oi := { dst := some 118, op := Go.Op.pick (Go.Operand.tmp 109) (Go.Operand.tmp 117) (Go.Operand.const (Go.Value.bool false)), type := 4, pos := "laws.go:179", after := #[{ on := 19, ground := Go.Ground.data }, { on := 27, ground := Go.Ground.data }], guard := none }) (v := ?vf28_30) rfl (by kernel_rfl) (by kernel_rfl) (by kernel_rfl) (fun _ _ _ h => h) (Or.inl ⟨by rfl, ?hf28_30⟩) hHeld ?rf28_30
              case hf28_30 =>
                intro wS hSw
                (try dsimp only at hSw)
                go_simp
                try with_reducible rfl
              case rf28_30 =>
              simp only [Act.put, List.setIfInBounds_toArray, List.set_cons_zero, List.set_cons_succ]
              refine wpAnyH_take (i := 29) (oi := { dst := some 2, op := Go.Op.assign (Go.Operand.tmp 118), type := 4, pos := "laws.go:179", after := #[{ on := 28, ground := Go.Ground.data }, { on := 27, ground := Go.Ground.chain }, { on := 0, ground := Go.Ground.phase }, { on := 1, ground := Go.Ground.phase }, { on := 2, ground := Go.Ground.phase }, { on := 3, ground := Go.Ground.phase }, { on := 4, ground := Go.Ground.phase }, { on := 5, ground := Go.Ground.phase }, { on := 6, ground := Go.Ground.phase }, { on := 7, ground := Go.Ground.phase }, { on := 8, ground := Go.Ground.phase }, { on := 9, ground := Go.Ground.phase }, { on := 10, ground := Go.Ground.phase }, { on := 11, ground := Go.Ground.phase }, { on := 12, ground := Go.Ground.phase }, { on := 13, ground := Go.Ground.phase }, { on := 14, ground := Go.Ground.phase }, { on := 15, ground := Go.Ground.phase }, { on := 16, ground := Go.Ground.phase }, { on := 17, ground := Go.Ground.phase }, { on := 18, ground := Go.Ground.phase }, { on := 19, ground := Go.Ground.phase }, { on := 20, ground := Go.Ground.phase }, { on := 21, ground := Go.Ground.phase }, { on := 22, ground := Go.Ground.phase }, { on := 23, ground := Go.Ground.phase }, { on := 24, ground := Go.Ground.phase }, { on := 25, ground := Go.Ground.phase }, { on := 26, ground := Go.Ground.phase }, { on := 27, ground := Go.Ground.phase }, { on := 28, ground := Go.Ground.phase }], guard := none }) (v := ?vf29_31) rfl (by kernel_rfl) (by kernel_rfl) (by kernel_rfl) (fun _ _ _ h => h) (Or.inl ⟨by rfl, ?hf29_31⟩) hHeld ?rf29_31
              case hf29_31 =>
                intro wS hSw
                (try dsimp only at hSw)
                go_simp
                try with_reducible rfl
              case rf29_31 =>
              simp only [Act.put, List.setIfInBounds_toArray, List.set_cons_zero, List.set_cons_succ]
              refine wpAnyH_done (by kernel_rfl) ?_ _
              refine NoPanic.normal ?_
              have HB9 := hide ((unhide HBA).trans (hHeld.mono (unhide HBA).size))
              clear hHeld
              go_wp2_with fail
              go_ret
              exact ⟨rfl, unhide HB9⟩
          case of11_11 =>
            replace hR7 := hR7.later ((Below.refl _ _).alloc (Nat.le_refl _) (.cells #[.int .i64 x.kind, .int .i64 x.id, .slice aw x.vec.length dw, .int .i64 x.session, .int .i64 x.seq] 27))
            have hG11 : Box 0 #[.int .i64 x.kind, .int .i64 x.id, .slice aw x.vec.length dw, .int .i64 x.session, .int .i64 x.seq] 27 (w3.alloc (.cells #[.int .i64 x.kind, .int .i64 x.id, .slice aw x.vec.length dw, .int .i64 x.session, .int .i64 x.seq] 27)) (w3.heap.size) := newBoxAt (Nat.zero_le _) (by simp)
            go_simp
            refine hK.out _ _ (hHeld.alloc hHeld.size _) (fun hHeld => ?_)
            clear hK K
            try simp only [Act.put, List.setIfInBounds_toArray, List.set_cons_zero, List.set_cons_succ]
            refine wpAnyH_ready (rs := [9]) (by kernel_rfl) (by simp) ?_
            refine AllReadyH.cons (o := { dst := some 99, op := Go.Op.buildSlice 43 1 #[(0, Go.Operand.tmp 98)], type := 43, pos := "laws.go:179", after := #[{ on := 8, ground := Go.Ground.data }, { on := 4, ground := Go.Ground.guard }], guard := some (4, true) }) rfl (fun K hK => ?_) AllReadyH.nil
            replace hR7 := hR7.later ((Below.refl _ _).alloc (Nat.le_refl _) (.cells #[.int .i64 x.kind, .int .i64 x.id, .slice a9 x.vec.length d9, .int .i64 x.session, .int .i64 x.seq] 27))
            replace hG11 := hG11.grow (.cells #[.int .i64 x.kind, .int .i64 x.id, .slice a9 x.vec.length d9, .int .i64 x.session, .int .i64 x.seq] 27)
            have hG9 : Box 0 #[.int .i64 x.kind, .int .i64 x.id, .slice a9 x.vec.length d9, .int .i64 x.session, .int .i64 x.seq] 27 ((w3.alloc (.cells #[.int .i64 x.kind, .int .i64 x.id, .slice aw x.vec.length dw, .int .i64 x.session, .int .i64 x.seq] 27)).alloc (.cells #[.int .i64 x.kind, .int .i64 x.id, .slice a9 x.vec.length d9, .int .i64 x.session, .int .i64 x.seq] 27)) (w3.heap.size + 1) := newBoxAt (Nat.zero_le _) (by simp)
            go_simp
            refine hK.out _ _ (hHeld.alloc hHeld.size _) (fun hHeld => ?_)
            clear hK K
            try simp only [Act.put, List.setIfInBounds_toArray, List.set_cons_zero, List.set_cons_succ]
            refine wpAnyH_ready (rs := [12]) (by kernel_rfl) (by simp) ?_
            refine AllReadyH.cons (o := { dst := some 102, op := Go.Op.call { callee := Go.Callee.value (Go.Operand.func 17), args := #[Go.Operand.tmp 99, Go.Operand.tmp 101], argTypes := #[43, 43] }, type := 4, pos := "laws.go:179", after := #[{ on := 9, ground := Go.Ground.data }, { on := 11, ground := Go.Ground.data }, { on := 7, ground := Go.Ground.chain }, { on := 4, ground := Go.Ground.guard }], guard := some (4, true) }) rfl (fun K hK => ?_) AllReadyH.nil
            go_simp
            go_at_call 17
            refine (unhide LW _ _ _ (read_one hG9 hR7) (read_one hG11 ((unhide HW).later hHeld))).mono ?_
            rintro e w5 ⟨rfl, hb12⟩
            clear hG9 hG11 hR7
            try go_wp2_with fail
            refine hK.out _ _ (hHeld.trans (hb12.mono hHeld.size)) (fun hHeld => ?_)
            clear hK K
            try simp only [Act.put, List.setIfInBounds_toArray, List.set_cons_zero, List.set_cons_succ]
            refine wpAnyH_take (i := 13) (oi := { dst := some 103, op := Go.Op.pick (Go.Operand.tmp 94) (Go.Operand.tmp 102) (Go.Operand.const (Go.Value.bool false)), type := 4, pos := "laws.go:179", after := #[{ on := 4, ground := Go.Ground.data }, { on := 12, ground := Go.Ground.data }], guard := none }) (v := ?vf13_32) rfl (by kernel_rfl) (by kernel_rfl) (by kernel_rfl) (fun _ _ _ h => h) (Or.inl ⟨by rfl, ?hf13_32⟩) hHeld ?rf13_32
            case hf13_32 =>
              intro wS hSw
              (try dsimp only at hSw)
              go_simp
              try with_reducible rfl
            case rf13_32 =>
            simp only [Act.put, List.setIfInBounds_toArray, List.set_cons_zero, List.set_cons_succ]
            refine wpAnyH_take (i := 14) (oi := { dst := some 104, op := Go.Op.move (Go.Operand.tmp 103), type := 4, pos := "laws.go:179", after := #[{ on := 13, ground := Go.Ground.data }, { on := 12, ground := Go.Ground.chain }], guard := none }) (v := ?vf14_33) rfl (by kernel_rfl) (by kernel_rfl) (by kernel_rfl) (fun _ _ _ h => h) (Or.inl ⟨by rfl, ?hf14_33⟩) hHeld ?rf14_33
            case hf14_33 =>
              intro wS hSw
              (try dsimp only at hSw)
              go_simp
              try with_reducible rfl
            case rf14_33 =>
            simp only [Act.put, List.setIfInBounds_toArray, List.set_cons_zero, List.set_cons_succ]
            refine wpAnyH_take (i := 15) (oi := { dst := some 105, op := Go.Op.fieldAddr 32 (Go.Operand.tmp 9) 0, type := 0, pos := "laws.go:179", after := #[{ on := 14, ground := Go.Ground.guard }], guard := some (14, true) }) (v := ?vf15_34) rfl (by kernel_rfl) (by kernel_rfl) (by kernel_rfl) (fun _ _ _ h => h) (Or.inl ⟨by rfl, ?hf15_34⟩) hHeld ?rf15_34
            case hf15_34 =>
              intro wS hSw
              (try dsimp only at hSw)
              go_simp
              try with_reducible rfl
            case rf15_34 =>
            simp only [Act.put, List.setIfInBounds_toArray, List.set_cons_zero, List.set_cons_succ]
            refine wpAnyH_take (i := 16) (oi := { dst := some 106, op := Go.Op.load 2 (Go.Operand.tmp 105), type := 2, pos := "laws.go:179", after := #[{ on := 15, ground := Go.Ground.data }, { on := 14, ground := Go.Ground.guard }], guard := some (14, true) }) (v := ?vf16_35) rfl (by kernel_rfl) (by kernel_rfl) (by kernel_rfl) (fun _ _ _ h => h) (Or.inl ⟨by rfl, ?hf16_35⟩) hHeld ?rf16_35
            case hf16_35 =>
              intro wS hSw
              obtain ⟨q0, q1, q2, q3, q4, p1, t0, t1⟩ := unhide KT _ hSw
              clear hSw
              (try dsimp only at hSw)
              go_simp
              try with_reducible rfl
            case rf16_35 =>
            simp only [Act.put, List.setIfInBounds_toArray, List.set_cons_zero, List.set_cons_succ]
            refine wpAnyH_take (i := 17) (oi := { dst := some 107, op := Go.Op.binOp Go.BinOp.eql 2 (Go.Operand.tmp 106) (Go.Operand.const (Go.Value.int Go.IntKind.i64 0)) 2, type := 4, pos := "laws.go:179", after := #[{ on := 16, ground := Go.Ground.data }, { on := 14, ground := Go.Ground.guard }], guard := some (14, true) }) (v := ?vf17_36) rfl (by kernel_rfl) (by kernel_rfl) (by kernel_rfl) (fun _ _ _ h => h) (Or.inl ⟨by rfl, ?hf17_36⟩) hHeld ?rf17_36
            case hf17_36 =>
              intro wS hSw
              (try dsimp only at hSw)
              go_simp
              try with_reducible rfl
            case rf17_36 =>
            simp only [Act.put, List.setIfInBounds_toArray, List.set_cons_zero, List.set_cons_succ]
            refine wpAnyH_take (i := 18) (oi := { dst := some 108, op := Go.Op.pick (Go.Operand.tmp 104) (Go.Operand.tmp 107) (Go.Operand.const (Go.Value.bool false)), type := 4, pos := "laws.go:179", after := #[{ on := 14, ground := Go.Ground.data }, { on := 17, ground := Go.Ground.data }], guard := none }) (v := ?vf18_37) rfl (by kernel_rfl) (by kernel_rfl) (by kernel_rfl) (fun _ _ _ h => h) (Or.inl ⟨by rfl, ?hf18_37⟩) hHeld ?rf18_37
            case hf18_37 =>
              intro wS hSw
              (try dsimp only at hSw)
              go_simp
              try with_reducible rfl
            case rf18_37 =>
            simp only [Act.put, List.setIfInBounds_toArray, List.set_cons_zero, List.set_cons_succ]
            refine wpAnyH_take (i := 19) (oi := { dst := some 109, op := Go.Op.move (Go.Operand.tmp 108), type := 4, pos := "laws.go:179", after := #[{ on := 18, ground := Go.Ground.data }, { on := 14, ground := Go.Ground.chain }], guard := none }) (v := ?vf19_38) rfl (by kernel_rfl) (by kernel_rfl) (by kernel_rfl) (fun _ _ _ h => h) (Or.inl ⟨by rfl, ?hf19_38⟩) hHeld ?rf19_38
            case hf19_38 =>
              intro wS hSw
              (try dsimp only at hSw)
              go_simp
              try with_reducible rfl
            case rf19_38 =>
            simp only [Act.put, List.setIfInBounds_toArray, List.set_cons_zero, List.set_cons_succ]
            refine wpAnyH_take (i := 20) (oi := { dst := some 110, op := Go.Op.fieldAddr 32 (Go.Operand.tmp 9) 1, type := 0, pos := "laws.go:179", after := #[{ on := 19, ground := Go.Ground.guard }], guard := some (19, true) }) (v := ?vf20_39) rfl (by kernel_rfl) (by kernel_rfl) (by kernel_rfl) (fun _ _ _ h => h) (Or.inl ⟨by rfl, ?hf20_39⟩) hHeld ?rf20_39
            case hf20_39 =>
              intro wS hSw
              (try dsimp only at hSw)
              go_simp
              try with_reducible rfl
            case rf20_39 =>
            simp only [Act.put, List.setIfInBounds_toArray, List.set_cons_zero, List.set_cons_succ]
            refine wpAnyH_take (i := 21) (oi := { dst := some 111, op := Go.Op.load 9 (Go.Operand.tmp 110), type := 9, pos := "laws.go:179", after := #[{ on := 20, ground := Go.Ground.data }, { on := 19, ground := Go.Ground.guard }], guard := some (19, true) }) (v := ?vf21_40) rfl (by kernel_rfl) (by kernel_rfl) (by kernel_rfl) (fun _ _ _ h => h) (Or.inl ⟨by rfl, ?hf21_40⟩) hHeld ?rf21_40
            case hf21_40 =>
              intro wS hSw
              obtain ⟨q0, q1, q2, q3, q4, p1, t0, t1⟩ := unhide KT _ hSw
              clear hSw
              (try dsimp only at hSw)
              go_simp
              try with_reducible rfl
            case rf21_40 =>
            simp only [Act.put, List.setIfInBounds_toArray, List.set_cons_zero, List.set_cons_succ]
            refine wpAnyH_take (i := 25) (oi := { dst := some 115, op := Go.Op.load 27 (Go.Operand.tmp 7), type := 27, pos := "laws.go:179", after := #[{ on := 19, ground := Go.Ground.guard }], guard := some (19, true) }) (v := ?vf25_41) rfl (by kernel_rfl) (by kernel_rfl) (by kernel_rfl) (fun _ _ _ h => h) (Or.inl ⟨by rfl, ?hf25_41⟩) hHeld ?rf25_41
            case hf25_41 =>
              intro wS hSw
              obtain ⟨q0, q1, q2, q3, q4, p1, t0, t1⟩ := unhide KT _ hSw
              clear hSw
              (try dsimp only at hSw)
              go_simp
              try with_reducible rfl
            case rf25_41 =>
            simp only [Act.put, List.setIfInBounds_toArray, List.set_cons_zero, List.set_cons_succ]
            refine wpAnyH_ready (rs := [22, 26]) (by kernel_rfl) (by simp) ?_
            refine AllReadyH.cons (o := { dst := some 112, op := Go.Op.call { callee := Go.Callee.value (Go.Operand.func 6), args := #[Go.Operand.tmp 111], argTypes := #[9] }, type := 29, pos := "laws.go:179", after := #[{ on := 21, ground := Go.Ground.data }, { on := 19, ground := Go.Ground.chain }, { on := 19, ground := Go.Ground.guard }], guard := some (19, true) }) rfl (fun K hK => ?of22_42) (AllReadyH.cons (o := { dst := some 116, op := Go.Op.buildSlice 43 1 #[(0, Go.Operand.tmp 115)], type := 43, pos := "laws.go:179", after := #[{ on := 25, ground := Go.Ground.data }, { on := 19, ground := Go.Ground.guard }], guard := some (19, true) }) rfl (fun K hK => ?of26_42) (AllReadyH.nil))
            case of22_42 =>
              go_simp
              go_at_call 6
              refine (unhide LP _ hHeld).mono ?_
              rintro e w6 ⟨a24, d24, rfl, hR22, hb22⟩
              try go_wp2_with fail
              refine hK.out _ _ (hHeld.trans (hb22.mono hHeld.size)) (fun hHeld => ?_)
              clear hK K
              try simp only [Act.put, List.setIfInBounds_toArray, List.set_cons_zero, List.set_cons_succ]
              refine wpAnyH_take (i := 23) (oi := { dst := some 113, op := Go.Op.field 29 (Go.Operand.tmp 112) 1, type := 27, pos := "laws.go:179", after := #[{ on := 22, ground := Go.Ground.data }, { on := 19, ground := Go.Ground.guard }], guard := some (19, true) }) (v := ?vf23_43) rfl (by kernel_rfl) (by kernel_rfl) (by kernel_rfl) (fun _ _ _ h => h) (Or.inl ⟨by rfl, ?hf23_43⟩) hHeld ?rf23_43
              case hf23_43 =>
                intro wS hSw
                have yf := hfW x.kind x.id a24 x.vec.length d24 x.session x.seq
                clear hSw
                (try dsimp only at hSw)
                go_simp
                try with_reducible rfl
              case rf23_43 =>
              simp only [Act.put, List.setIfInBounds_toArray, List.set_cons_zero, List.set_cons_succ]
              refine wpAnyH_ready (rs := [24, 26]) (by kernel_rfl) (by simp) ?_
              refine AllReadyH.cons (o := { dst := some 114, op := Go.Op.buildSlice 43 1 #[(0, Go.Operand.tmp 113)], type := 43, pos := "laws.go:179", after := #[{ on := 23, ground := Go.Ground.data }, { on := 19, ground := Go.Ground.guard }], guard := some (19, true) }) rfl (fun K hK => ?of24_44) (AllReadyH.cons (o := { dst := some 116, op := Go.Op.buildSlice 43 1 #[(0, Go.Operand.tmp 115)], type := 43, pos := "laws.go:179", after := #[{ on := 25, ground := Go.Ground.data }, { on := 19, ground := Go.Ground.guard }], guard := some (19, true) }) rfl (fun K hK => ?of26_44) (AllReadyH.nil))
              case of24_44 =>
                replace hR22 := hR22.later ((Below.refl _ _).alloc (Nat.le_refl _) (.cells #[.int .i64 x.kind, .int .i64 x.id, .slice a24 x.vec.length d24, .int .i64 x.session, .int .i64 x.seq] 27))
                have hG24 : Box 0 #[.int .i64 x.kind, .int .i64 x.id, .slice a24 x.vec.length d24, .int .i64 x.session, .int .i64 x.seq] 27 (w6.alloc (.cells #[.int .i64 x.kind, .int .i64 x.id, .slice a24 x.vec.length d24, .int .i64 x.session, .int .i64 x.seq] 27)) (w6.heap.size) := newBoxAt (Nat.zero_le _) (by simp)
                go_simp
                refine hK.out _ _ (hHeld.alloc hHeld.size _) (fun hHeld => ?_)
                clear hK K
                try simp only [Act.put, List.setIfInBounds_toArray, List.set_cons_zero, List.set_cons_succ]
                refine wpAnyH_ready (rs := [26]) (by kernel_rfl) (by simp) ?_
                refine AllReadyH.cons (o := { dst := some 116, op := Go.Op.buildSlice 43 1 #[(0, Go.Operand.tmp 115)], type := 43, pos := "laws.go:179", after := #[{ on := 25, ground := Go.Ground.data }, { on := 19, ground := Go.Ground.guard }], guard := some (19, true) }) rfl (fun K hK => ?_) AllReadyH.nil
                replace hR22 := hR22.later ((Below.refl _ _).alloc (Nat.le_refl _) (.cells #[.int .i64 x.kind, .int .i64 x.id, .slice aw x.vec.length dw, .int .i64 x.session, .int .i64 x.seq] 27))
                replace hG24 := hG24.grow (.cells #[.int .i64 x.kind, .int .i64 x.id, .slice aw x.vec.length dw, .int .i64 x.session, .int .i64 x.seq] 27)
                have hG26 : Box 0 #[.int .i64 x.kind, .int .i64 x.id, .slice aw x.vec.length dw, .int .i64 x.session, .int .i64 x.seq] 27 ((w6.alloc (.cells #[.int .i64 x.kind, .int .i64 x.id, .slice a24 x.vec.length d24, .int .i64 x.session, .int .i64 x.seq] 27)).alloc (.cells #[.int .i64 x.kind, .int .i64 x.id, .slice aw x.vec.length dw, .int .i64 x.session, .int .i64 x.seq] 27)) (w6.heap.size + 1) := newBoxAt (Nat.zero_le _) (by simp)
                go_simp
                refine hK.out _ _ (hHeld.alloc hHeld.size _) (fun hHeld => ?_)
                clear hK K
                try simp only [Act.put, List.setIfInBounds_toArray, List.set_cons_zero, List.set_cons_succ]
                refine wpAnyH_ready (rs := [27]) (by kernel_rfl) (by simp) ?_
                refine AllReadyH.cons (o := { dst := some 117, op := Go.Op.call { callee := Go.Callee.value (Go.Operand.func 17), args := #[Go.Operand.tmp 114, Go.Operand.tmp 116], argTypes := #[43, 43] }, type := 4, pos := "laws.go:179", after := #[{ on := 24, ground := Go.Ground.data }, { on := 26, ground := Go.Ground.data }, { on := 22, ground := Go.Ground.chain }, { on := 19, ground := Go.Ground.guard }], guard := some (19, true) }) rfl (fun K hK => ?_) AllReadyH.nil
                go_simp
                go_at_call 17
                refine (unhide LW _ _ _ (read_one hG24 hR22) (read_one hG26 ((unhide HW).later hHeld))).mono ?_
                rintro e w8 ⟨rfl, hb27⟩
                clear hG24 hG26 hR22
                try go_wp2_with fail
                refine hK.out _ _ (hHeld.trans (hb27.mono hHeld.size)) (fun hHeld => ?_)
                clear hK K
                try simp only [Act.put, List.setIfInBounds_toArray, List.set_cons_zero, List.set_cons_succ]
                refine wpAnyH_take (i := 28) (oi := { dst := some 118, op := Go.Op.pick (Go.Operand.tmp 109) (Go.Operand.tmp 117) (Go.Operand.const (Go.Value.bool false)), type := 4, pos := "laws.go:179", after := #[{ on := 19, ground := Go.Ground.data }, { on := 27, ground := Go.Ground.data }], guard := none }) (v := ?vf28_45) rfl (by kernel_rfl) (by kernel_rfl) (by kernel_rfl) (fun _ _ _ h => h) (Or.inl ⟨by rfl, ?hf28_45⟩) hHeld ?rf28_45
                case hf28_45 =>
                  intro wS hSw
                  (try dsimp only at hSw)
                  go_simp
                  try with_reducible rfl
                case rf28_45 =>
                simp only [Act.put, List.setIfInBounds_toArray, List.set_cons_zero, List.set_cons_succ]
                refine wpAnyH_take (i := 29) (oi := { dst := some 2, op := Go.Op.assign (Go.Operand.tmp 118), type := 4, pos := "laws.go:179", after := #[{ on := 28, ground := Go.Ground.data }, { on := 27, ground := Go.Ground.chain }, { on := 0, ground := Go.Ground.phase }, { on := 1, ground := Go.Ground.phase }, { on := 2, ground := Go.Ground.phase }, { on := 3, ground := Go.Ground.phase }, { on := 4, ground := Go.Ground.phase }, { on := 5, ground := Go.Ground.phase }, { on := 6, ground := Go.Ground.phase }, { on := 7, ground := Go.Ground.phase }, { on := 8, ground := Go.Ground.phase }, { on := 9, ground := Go.Ground.phase }, { on := 10, ground := Go.Ground.phase }, { on := 11, ground := Go.Ground.phase }, { on := 12, ground := Go.Ground.phase }, { on := 13, ground := Go.Ground.phase }, { on := 14, ground := Go.Ground.phase }, { on := 15, ground := Go.Ground.phase }, { on := 16, ground := Go.Ground.phase }, { on := 17, ground := Go.Ground.phase }, { on := 18, ground := Go.Ground.phase }, { on := 19, ground := Go.Ground.phase }, { on := 20, ground := Go.Ground.phase }, { on := 21, ground := Go.Ground.phase }, { on := 22, ground := Go.Ground.phase }, { on := 23, ground := Go.Ground.phase }, { on := 24, ground := Go.Ground.phase }, { on := 25, ground := Go.Ground.phase }, { on := 26, ground := Go.Ground.phase }, { on := 27, ground := Go.Ground.phase }, { on := 28, ground := Go.Ground.phase }], guard := none }) (v := ?vf29_46) rfl (by kernel_rfl) (by kernel_rfl) (by kernel_rfl) (fun _ _ _ h => h) (Or.inl ⟨by rfl, ?hf29_46⟩) hHeld ?rf29_46
                case hf29_46 =>
                  intro wS hSw
                  (try dsimp only at hSw)
                  go_simp
                  try with_reducible rfl
                case rf29_46 =>
                simp only [Act.put, List.setIfInBounds_toArray, List.set_cons_zero, List.set_cons_succ]
                refine wpAnyH_done (by kernel_rfl) ?_ _
                refine NoPanic.normal ?_
                have HB9 := hide ((unhide HBA).trans (hHeld.mono (unhide HBA).size))
                clear hHeld
                go_wp2_with fail
                go_ret
                exact ⟨rfl, unhide HB9⟩
              case of26_44 =>
                replace hR22 := hR22.later ((Below.refl _ _).alloc (Nat.le_refl _) (.cells #[.int .i64 x.kind, .int .i64 x.id, .slice aw x.vec.length dw, .int .i64 x.session, .int .i64 x.seq] 27))
                have hG26 : Box 0 #[.int .i64 x.kind, .int .i64 x.id, .slice aw x.vec.length dw, .int .i64 x.session, .int .i64 x.seq] 27 (w6.alloc (.cells #[.int .i64 x.kind, .int .i64 x.id, .slice aw x.vec.length dw, .int .i64 x.session, .int .i64 x.seq] 27)) (w6.heap.size) := newBoxAt (Nat.zero_le _) (by simp)
                go_simp
                refine hK.out _ _ (hHeld.alloc hHeld.size _) (fun hHeld => ?_)
                clear hK K
                try simp only [Act.put, List.setIfInBounds_toArray, List.set_cons_zero, List.set_cons_succ]
                refine wpAnyH_ready (rs := [24]) (by kernel_rfl) (by simp) ?_
                refine AllReadyH.cons (o := { dst := some 114, op := Go.Op.buildSlice 43 1 #[(0, Go.Operand.tmp 113)], type := 43, pos := "laws.go:179", after := #[{ on := 23, ground := Go.Ground.data }, { on := 19, ground := Go.Ground.guard }], guard := some (19, true) }) rfl (fun K hK => ?_) AllReadyH.nil
                replace hR22 := hR22.later ((Below.refl _ _).alloc (Nat.le_refl _) (.cells #[.int .i64 x.kind, .int .i64 x.id, .slice a24 x.vec.length d24, .int .i64 x.session, .int .i64 x.seq] 27))
                replace hG26 := hG26.grow (.cells #[.int .i64 x.kind, .int .i64 x.id, .slice a24 x.vec.length d24, .int .i64 x.session, .int .i64 x.seq] 27)
                have hG24 : Box 0 #[.int .i64 x.kind, .int .i64 x.id, .slice a24 x.vec.length d24, .int .i64 x.session, .int .i64 x.seq] 27 ((w6.alloc (.cells #[.int .i64 x.kind, .int .i64 x.id, .slice aw x.vec.length dw, .int .i64 x.session, .int .i64 x.seq] 27)).alloc (.cells #[.int .i64 x.kind, .int .i64 x.id, .slice a24 x.vec.length d24, .int .i64 x.session, .int .i64 x.seq] 27)) (w6.heap.size + 1) := newBoxAt (Nat.zero_le _) (by simp)
                go_simp
                refine hK.out _ _ (hHeld.alloc hHeld.size _) (fun hHeld => ?_)
                clear hK K
                try simp only [Act.put, List.setIfInBounds_toArray, List.set_cons_zero, List.set_cons_succ]
                refine wpAnyH_ready (rs := [27]) (by kernel_rfl) (by simp) ?_
                refine AllReadyH.cons (o := { dst := some 117, op := Go.Op.call { callee := Go.Callee.value (Go.Operand.func 17), args := #[Go.Operand.tmp 114, Go.Operand.tmp 116], argTypes := #[43, 43] }, type := 4, pos := "laws.go:179", after := #[{ on := 24, ground := Go.Ground.data }, { on := 26, ground := Go.Ground.data }, { on := 22, ground := Go.Ground.chain }, { on := 19, ground := Go.Ground.guard }], guard := some (19, true) }) rfl (fun K hK => ?_) AllReadyH.nil
                go_simp
                go_at_call 17
                refine (unhide LW _ _ _ (read_one hG24 hR22) (read_one hG26 ((unhide HW).later hHeld))).mono ?_
                rintro e w8 ⟨rfl, hb27⟩
                clear hG24 hG26 hR22
                try go_wp2_with fail
                refine hK.out _ _ (hHeld.trans (hb27.mono hHeld.size)) (fun hHeld => ?_)
                clear hK K
                try simp only [Act.put, List.setIfInBounds_toArray, List.set_cons_zero, List.set_cons_succ]
                refine wpAnyH_take (i := 28) (oi := { dst := some 118, op := Go.Op.pick (Go.Operand.tmp 109) (Go.Operand.tmp 117) (Go.Operand.const (Go.Value.bool false)), type := 4, pos := "laws.go:179", after := #[{ on := 19, ground := Go.Ground.data }, { on := 27, ground := Go.Ground.data }], guard := none }) (v := ?vf28_47) rfl (by kernel_rfl) (by kernel_rfl) (by kernel_rfl) (fun _ _ _ h => h) (Or.inl ⟨by rfl, ?hf28_47⟩) hHeld ?rf28_47
                case hf28_47 =>
                  intro wS hSw
                  (try dsimp only at hSw)
                  go_simp
                  try with_reducible rfl
                case rf28_47 =>
                simp only [Act.put, List.setIfInBounds_toArray, List.set_cons_zero, List.set_cons_succ]
                refine wpAnyH_take (i := 29) (oi := { dst := some 2, op := Go.Op.assign (Go.Operand.tmp 118), type := 4, pos := "laws.go:179", after := #[{ on := 28, ground := Go.Ground.data }, { on := 27, ground := Go.Ground.chain }, { on := 0, ground := Go.Ground.phase }, { on := 1, ground := Go.Ground.phase }, { on := 2, ground := Go.Ground.phase }, { on := 3, ground := Go.Ground.phase }, { on := 4, ground := Go.Ground.phase }, { on := 5, ground := Go.Ground.phase }, { on := 6, ground := Go.Ground.phase }, { on := 7, ground := Go.Ground.phase }, { on := 8, ground := Go.Ground.phase }, { on := 9, ground := Go.Ground.phase }, { on := 10, ground := Go.Ground.phase }, { on := 11, ground := Go.Ground.phase }, { on := 12, ground := Go.Ground.phase }, { on := 13, ground := Go.Ground.phase }, { on := 14, ground := Go.Ground.phase }, { on := 15, ground := Go.Ground.phase }, { on := 16, ground := Go.Ground.phase }, { on := 17, ground := Go.Ground.phase }, { on := 18, ground := Go.Ground.phase }, { on := 19, ground := Go.Ground.phase }, { on := 20, ground := Go.Ground.phase }, { on := 21, ground := Go.Ground.phase }, { on := 22, ground := Go.Ground.phase }, { on := 23, ground := Go.Ground.phase }, { on := 24, ground := Go.Ground.phase }, { on := 25, ground := Go.Ground.phase }, { on := 26, ground := Go.Ground.phase }, { on := 27, ground := Go.Ground.phase }, { on := 28, ground := Go.Ground.phase }], guard := none }) (v := ?vf29_48) rfl (by kernel_rfl) (by kernel_rfl) (by kernel_rfl) (fun _ _ _ h => h) (Or.inl ⟨by rfl, ?hf29_48⟩) hHeld ?rf29_48
                case hf29_48 =>
                  intro wS hSw
                  (try dsimp only at hSw)
                  go_simp
                  try with_reducible rfl
                case rf29_48 =>
                simp only [Act.put, List.setIfInBounds_toArray, List.set_cons_zero, List.set_cons_succ]
                refine wpAnyH_done (by kernel_rfl) ?_ _
                refine NoPanic.normal ?_
                have HB9 := hide ((unhide HBA).trans (hHeld.mono (unhide HBA).size))
                clear hHeld
                go_wp2_with fail
                go_ret
                exact ⟨rfl, unhide HB9⟩
            case of26_42 =>
              have hG26 : Box 0 #[.int .i64 x.kind, .int .i64 x.id, .slice aw x.vec.length dw, .int .i64 x.session, .int .i64 x.seq] 27 (w5.alloc (.cells #[.int .i64 x.kind, .int .i64 x.id, .slice aw x.vec.length dw, .int .i64 x.session, .int .i64 x.seq] 27)) (w5.heap.size) := newBoxAt (Nat.zero_le _) (by simp)
              go_simp
              refine hK.out _ _ (hHeld.alloc hHeld.size _) (fun hHeld => ?_)
              clear hK K
              try simp only [Act.put, List.setIfInBounds_toArray, List.set_cons_zero, List.set_cons_succ]
              refine wpAnyH_ready (rs := [22]) (by kernel_rfl) (by simp) ?_
              refine AllReadyH.cons (o := { dst := some 112, op := Go.Op.call { callee := Go.Callee.value (Go.Operand.func 6), args := #[Go.Operand.tmp 111], argTypes := #[9] }, type := 29, pos := "laws.go:179", after := #[{ on := 21, ground := Go.Ground.data }, { on := 19, ground := Go.Ground.chain }, { on := 19, ground := Go.Ground.guard }], guard := some (19, true) }) rfl (fun K hK => ?_) AllReadyH.nil
              go_simp
              go_at_call 6
              refine (unhide LP _ hHeld).mono ?_
              rintro e w6 ⟨a24, d24, rfl, hR22, hb22⟩
              replace hG26 := hG26.keep hb22
              try go_wp2_with fail
              refine hK.out _ _ (hHeld.trans (hb22.mono hHeld.size)) (fun hHeld => ?_)
              clear hK K
              try simp only [Act.put, List.setIfInBounds_toArray, List.set_cons_zero, List.set_cons_succ]
              refine wpAnyH_take (i := 23) (oi := { dst := some 113, op := Go.Op.field 29 (Go.Operand.tmp 112) 1, type := 27, pos := "laws.go:179", after := #[{ on := 22, ground := Go.Ground.data }, { on := 19, ground := Go.Ground.guard }], guard := some (19, true) }) (v := ?vf23_49) rfl (by kernel_rfl) (by kernel_rfl) (by kernel_rfl) (fun _ _ _ h => h) (Or.inl ⟨by rfl, ?hf23_49⟩) hHeld ?rf23_49
              case hf23_49 =>
                intro wS hSw
                have yf := hfW x.kind x.id a24 x.vec.length d24 x.session x.seq
                clear hSw
                (try dsimp only at hSw)
                go_simp
                try with_reducible rfl
              case rf23_49 =>
              simp only [Act.put, List.setIfInBounds_toArray, List.set_cons_zero, List.set_cons_succ]
              refine wpAnyH_ready (rs := [24]) (by kernel_rfl) (by simp) ?_
              refine AllReadyH.cons (o := { dst := some 114, op := Go.Op.buildSlice 43 1 #[(0, Go.Operand.tmp 113)], type := 43, pos := "laws.go:179", after := #[{ on := 23, ground := Go.Ground.data }, { on := 19, ground := Go.Ground.guard }], guard := some (19, true) }) rfl (fun K hK => ?_) AllReadyH.nil
              replace hG26 := hG26.grow (.cells #[.int .i64 x.kind, .int .i64 x.id, .slice a24 x.vec.length d24, .int .i64 x.session, .int .i64 x.seq] 27)
              replace hR22 := hR22.later ((Below.refl _ _).alloc (Nat.le_refl _) (.cells #[.int .i64 x.kind, .int .i64 x.id, .slice a24 x.vec.length d24, .int .i64 x.session, .int .i64 x.seq] 27))
              have hG24 : Box 0 #[.int .i64 x.kind, .int .i64 x.id, .slice a24 x.vec.length d24, .int .i64 x.session, .int .i64 x.seq] 27 (w6.alloc (.cells #[.int .i64 x.kind, .int .i64 x.id, .slice a24 x.vec.length d24, .int .i64 x.session, .int .i64 x.seq] 27)) (w6.heap.size) := newBoxAt (Nat.zero_le _) (by simp)
              go_simp
              refine hK.out _ _ (hHeld.alloc hHeld.size _) (fun hHeld => ?_)
              clear hK K
              try simp only [Act.put, List.setIfInBounds_toArray, List.set_cons_zero, List.set_cons_succ]
              refine wpAnyH_ready (rs := [27]) (by kernel_rfl) (by simp) ?_
              refine AllReadyH.cons (o := { dst := some 117, op := Go.Op.call { callee := Go.Callee.value (Go.Operand.func 17), args := #[Go.Operand.tmp 114, Go.Operand.tmp 116], argTypes := #[43, 43] }, type := 4, pos := "laws.go:179", after := #[{ on := 24, ground := Go.Ground.data }, { on := 26, ground := Go.Ground.data }, { on := 22, ground := Go.Ground.chain }, { on := 19, ground := Go.Ground.guard }], guard := some (19, true) }) rfl (fun K hK => ?_) AllReadyH.nil
              go_simp
              go_at_call 17
              refine (unhide LW _ _ _ (read_one hG24 hR22) (read_one hG26 ((unhide HW).later hHeld))).mono ?_
              rintro e w8 ⟨rfl, hb27⟩
              clear hG24 hG26 hR22
              try go_wp2_with fail
              refine hK.out _ _ (hHeld.trans (hb27.mono hHeld.size)) (fun hHeld => ?_)
              clear hK K
              try simp only [Act.put, List.setIfInBounds_toArray, List.set_cons_zero, List.set_cons_succ]
              refine wpAnyH_take (i := 28) (oi := { dst := some 118, op := Go.Op.pick (Go.Operand.tmp 109) (Go.Operand.tmp 117) (Go.Operand.const (Go.Value.bool false)), type := 4, pos := "laws.go:179", after := #[{ on := 19, ground := Go.Ground.data }, { on := 27, ground := Go.Ground.data }], guard := none }) (v := ?vf28_50) rfl (by kernel_rfl) (by kernel_rfl) (by kernel_rfl) (fun _ _ _ h => h) (Or.inl ⟨by rfl, ?hf28_50⟩) hHeld ?rf28_50
              case hf28_50 =>
                intro wS hSw
                (try dsimp only at hSw)
                go_simp
                try with_reducible rfl
              case rf28_50 =>
              simp only [Act.put, List.setIfInBounds_toArray, List.set_cons_zero, List.set_cons_succ]
              refine wpAnyH_take (i := 29) (oi := { dst := some 2, op := Go.Op.assign (Go.Operand.tmp 118), type := 4, pos := "laws.go:179", after := #[{ on := 28, ground := Go.Ground.data }, { on := 27, ground := Go.Ground.chain }, { on := 0, ground := Go.Ground.phase }, { on := 1, ground := Go.Ground.phase }, { on := 2, ground := Go.Ground.phase }, { on := 3, ground := Go.Ground.phase }, { on := 4, ground := Go.Ground.phase }, { on := 5, ground := Go.Ground.phase }, { on := 6, ground := Go.Ground.phase }, { on := 7, ground := Go.Ground.phase }, { on := 8, ground := Go.Ground.phase }, { on := 9, ground := Go.Ground.phase }, { on := 10, ground := Go.Ground.phase }, { on := 11, ground := Go.Ground.phase }, { on := 12, ground := Go.Ground.phase }, { on := 13, ground := Go.Ground.phase }, { on := 14, ground := Go.Ground.phase }, { on := 15, ground := Go.Ground.phase }, { on := 16, ground := Go.Ground.phase }, { on := 17, ground := Go.Ground.phase }, { on := 18, ground := Go.Ground.phase }, { on := 19, ground := Go.Ground.phase }, { on := 20, ground := Go.Ground.phase }, { on := 21, ground := Go.Ground.phase }, { on := 22, ground := Go.Ground.phase }, { on := 23, ground := Go.Ground.phase }, { on := 24, ground := Go.Ground.phase }, { on := 25, ground := Go.Ground.phase }, { on := 26, ground := Go.Ground.phase }, { on := 27, ground := Go.Ground.phase }, { on := 28, ground := Go.Ground.phase }], guard := none }) (v := ?vf29_51) rfl (by kernel_rfl) (by kernel_rfl) (by kernel_rfl) (fun _ _ _ h => h) (Or.inl ⟨by rfl, ?hf29_51⟩) hHeld ?rf29_51
              case hf29_51 =>
                intro wS hSw
                (try dsimp only at hSw)
                go_simp
                try with_reducible rfl
              case rf29_51 =>
              simp only [Act.put, List.setIfInBounds_toArray, List.set_cons_zero, List.set_cons_succ]
              refine wpAnyH_done (by kernel_rfl) ?_ _
              refine NoPanic.normal ?_
              have HB9 := hide ((unhide HBA).trans (hHeld.mono (unhide HBA).size))
              clear hHeld
              go_wp2_with fail
              go_ret
              exact ⟨rfl, unhide HB9⟩
        case of11_9 =>
          have hG11 : Box 0 #[.int .i64 x.kind, .int .i64 x.id, .slice aw x.vec.length dw, .int .i64 x.session, .int .i64 x.seq] 27 (wD.alloc (.cells #[.int .i64 x.kind, .int .i64 x.id, .slice aw x.vec.length dw, .int .i64 x.session, .int .i64 x.seq] 27)) (wD.heap.size) := newBoxAt (Nat.zero_le _) (by simp)
          go_simp
          refine hK.out _ _ (hHeld.alloc hHeld.size _) (fun hHeld => ?_)
          clear hK K
          try simp only [Act.put, List.setIfInBounds_toArray, List.set_cons_zero, List.set_cons_succ]
          refine wpAnyH_ready (rs := [7]) (by kernel_rfl) (by simp) ?_
          refine AllReadyH.cons (o := { dst := some 97, op := Go.Op.call { callee := Go.Callee.value (Go.Operand.func 10), args := #[Go.Operand.tmp 96], argTypes := #[25] }, type := 29, pos := "laws.go:179", after := #[{ on := 6, ground := Go.Ground.data }, { on := 4, ground := Go.Ground.chain }, { on := 4, ground := Go.Ground.guard }], guard := some (4, true) }) rfl (fun K hK => ?_) AllReadyH.nil
          go_simp
          go_at_call 10
          refine (unhide LU _ hHeld).mono ?_
          rintro e w3 ⟨a9, d9, rfl, hR7, hb7⟩
          replace hG11 := hG11.keep hb7
          try go_wp2_with fail
          refine hK.out _ _ (hHeld.trans (hb7.mono hHeld.size)) (fun hHeld => ?_)
          clear hK K
          try simp only [Act.put, List.setIfInBounds_toArray, List.set_cons_zero, List.set_cons_succ]
          refine wpAnyH_take (i := 8) (oi := { dst := some 98, op := Go.Op.field 29 (Go.Operand.tmp 97) 1, type := 27, pos := "laws.go:179", after := #[{ on := 7, ground := Go.Ground.data }, { on := 4, ground := Go.Ground.guard }], guard := some (4, true) }) (v := ?vf8_52) rfl (by kernel_rfl) (by kernel_rfl) (by kernel_rfl) (fun _ _ _ h => h) (Or.inl ⟨by rfl, ?hf8_52⟩) hHeld ?rf8_52
          case hf8_52 =>
            intro wS hSw
            have yf := hfW x.kind x.id a9 x.vec.length d9 x.session x.seq
            clear hSw
            (try dsimp only at hSw)
            go_simp
            try with_reducible rfl
          case rf8_52 =>
          simp only [Act.put, List.setIfInBounds_toArray, List.set_cons_zero, List.set_cons_succ]
          refine wpAnyH_ready (rs := [9]) (by kernel_rfl) (by simp) ?_
          refine AllReadyH.cons (o := { dst := some 99, op := Go.Op.buildSlice 43 1 #[(0, Go.Operand.tmp 98)], type := 43, pos := "laws.go:179", after := #[{ on := 8, ground := Go.Ground.data }, { on := 4, ground := Go.Ground.guard }], guard := some (4, true) }) rfl (fun K hK => ?_) AllReadyH.nil
          replace hG11 := hG11.grow (.cells #[.int .i64 x.kind, .int .i64 x.id, .slice a9 x.vec.length d9, .int .i64 x.session, .int .i64 x.seq] 27)
          replace hR7 := hR7.later ((Below.refl _ _).alloc (Nat.le_refl _) (.cells #[.int .i64 x.kind, .int .i64 x.id, .slice a9 x.vec.length d9, .int .i64 x.session, .int .i64 x.seq] 27))
          have hG9 : Box 0 #[.int .i64 x.kind, .int .i64 x.id, .slice a9 x.vec.length d9, .int .i64 x.session, .int .i64 x.seq] 27 (w3.alloc (.cells #[.int .i64 x.kind, .int .i64 x.id, .slice a9 x.vec.length d9, .int .i64 x.session, .int .i64 x.seq] 27)) (w3.heap.size) := newBoxAt (Nat.zero_le _) (by simp)
          go_simp
          refine hK.out _ _ (hHeld.alloc hHeld.size _) (fun hHeld => ?_)
          clear hK K
          try simp only [Act.put, List.setIfInBounds_toArray, List.set_cons_zero, List.set_cons_succ]
          refine wpAnyH_ready (rs := [12]) (by kernel_rfl) (by simp) ?_
          refine AllReadyH.cons (o := { dst := some 102, op := Go.Op.call { callee := Go.Callee.value (Go.Operand.func 17), args := #[Go.Operand.tmp 99, Go.Operand.tmp 101], argTypes := #[43, 43] }, type := 4, pos := "laws.go:179", after := #[{ on := 9, ground := Go.Ground.data }, { on := 11, ground := Go.Ground.data }, { on := 7, ground := Go.Ground.chain }, { on := 4, ground := Go.Ground.guard }], guard := some (4, true) }) rfl (fun K hK => ?_) AllReadyH.nil
          go_simp
          go_at_call 17
          refine (unhide LW _ _ _ (read_one hG9 hR7) (read_one hG11 ((unhide HW).later hHeld))).mono ?_
          rintro e w5 ⟨rfl, hb12⟩
          clear hG9 hG11 hR7
          try go_wp2_with fail
          refine hK.out _ _ (hHeld.trans (hb12.mono hHeld.size)) (fun hHeld => ?_)
          clear hK K
          try simp only [Act.put, List.setIfInBounds_toArray, List.set_cons_zero, List.set_cons_succ]
          refine wpAnyH_take (i := 13) (oi := { dst := some 103, op := Go.Op.pick (Go.Operand.tmp 94) (Go.Operand.tmp 102) (Go.Operand.const (Go.Value.bool false)), type := 4, pos := "laws.go:179", after := #[{ on := 4, ground := Go.Ground.data }, { on := 12, ground := Go.Ground.data }], guard := none }) (v := ?vf13_53) rfl (by kernel_rfl) (by kernel_rfl) (by kernel_rfl) (fun _ _ _ h => h) (Or.inl ⟨by rfl, ?hf13_53⟩) hHeld ?rf13_53
          case hf13_53 =>
            intro wS hSw
            (try dsimp only at hSw)
            go_simp
            try with_reducible rfl
          case rf13_53 =>
          simp only [Act.put, List.setIfInBounds_toArray, List.set_cons_zero, List.set_cons_succ]
          refine wpAnyH_take (i := 14) (oi := { dst := some 104, op := Go.Op.move (Go.Operand.tmp 103), type := 4, pos := "laws.go:179", after := #[{ on := 13, ground := Go.Ground.data }, { on := 12, ground := Go.Ground.chain }], guard := none }) (v := ?vf14_54) rfl (by kernel_rfl) (by kernel_rfl) (by kernel_rfl) (fun _ _ _ h => h) (Or.inl ⟨by rfl, ?hf14_54⟩) hHeld ?rf14_54
          case hf14_54 =>
            intro wS hSw
            (try dsimp only at hSw)
            go_simp
            try with_reducible rfl
          case rf14_54 =>
          simp only [Act.put, List.setIfInBounds_toArray, List.set_cons_zero, List.set_cons_succ]
          refine wpAnyH_take (i := 15) (oi := { dst := some 105, op := Go.Op.fieldAddr 32 (Go.Operand.tmp 9) 0, type := 0, pos := "laws.go:179", after := #[{ on := 14, ground := Go.Ground.guard }], guard := some (14, true) }) (v := ?vf15_55) rfl (by kernel_rfl) (by kernel_rfl) (by kernel_rfl) (fun _ _ _ h => h) (Or.inl ⟨by rfl, ?hf15_55⟩) hHeld ?rf15_55
          case hf15_55 =>
            intro wS hSw
            (try dsimp only at hSw)
            go_simp
            try with_reducible rfl
          case rf15_55 =>
          simp only [Act.put, List.setIfInBounds_toArray, List.set_cons_zero, List.set_cons_succ]
          refine wpAnyH_take (i := 16) (oi := { dst := some 106, op := Go.Op.load 2 (Go.Operand.tmp 105), type := 2, pos := "laws.go:179", after := #[{ on := 15, ground := Go.Ground.data }, { on := 14, ground := Go.Ground.guard }], guard := some (14, true) }) (v := ?vf16_56) rfl (by kernel_rfl) (by kernel_rfl) (by kernel_rfl) (fun _ _ _ h => h) (Or.inl ⟨by rfl, ?hf16_56⟩) hHeld ?rf16_56
          case hf16_56 =>
            intro wS hSw
            obtain ⟨q0, q1, q2, q3, q4, p1, t0, t1⟩ := unhide KT _ hSw
            clear hSw
            (try dsimp only at hSw)
            go_simp
            try with_reducible rfl
          case rf16_56 =>
          simp only [Act.put, List.setIfInBounds_toArray, List.set_cons_zero, List.set_cons_succ]
          refine wpAnyH_take (i := 17) (oi := { dst := some 107, op := Go.Op.binOp Go.BinOp.eql 2 (Go.Operand.tmp 106) (Go.Operand.const (Go.Value.int Go.IntKind.i64 0)) 2, type := 4, pos := "laws.go:179", after := #[{ on := 16, ground := Go.Ground.data }, { on := 14, ground := Go.Ground.guard }], guard := some (14, true) }) (v := ?vf17_57) rfl (by kernel_rfl) (by kernel_rfl) (by kernel_rfl) (fun _ _ _ h => h) (Or.inl ⟨by rfl, ?hf17_57⟩) hHeld ?rf17_57
          case hf17_57 =>
            intro wS hSw
            (try dsimp only at hSw)
            go_simp
            try with_reducible rfl
          case rf17_57 =>
          simp only [Act.put, List.setIfInBounds_toArray, List.set_cons_zero, List.set_cons_succ]
          refine wpAnyH_take (i := 18) (oi := { dst := some 108, op := Go.Op.pick (Go.Operand.tmp 104) (Go.Operand.tmp 107) (Go.Operand.const (Go.Value.bool false)), type := 4, pos := "laws.go:179", after := #[{ on := 14, ground := Go.Ground.data }, { on := 17, ground := Go.Ground.data }], guard := none }) (v := ?vf18_58) rfl (by kernel_rfl) (by kernel_rfl) (by kernel_rfl) (fun _ _ _ h => h) (Or.inl ⟨by rfl, ?hf18_58⟩) hHeld ?rf18_58
          case hf18_58 =>
            intro wS hSw
            (try dsimp only at hSw)
            go_simp
            try with_reducible rfl
          case rf18_58 =>
          simp only [Act.put, List.setIfInBounds_toArray, List.set_cons_zero, List.set_cons_succ]
          refine wpAnyH_take (i := 19) (oi := { dst := some 109, op := Go.Op.move (Go.Operand.tmp 108), type := 4, pos := "laws.go:179", after := #[{ on := 18, ground := Go.Ground.data }, { on := 14, ground := Go.Ground.chain }], guard := none }) (v := ?vf19_59) rfl (by kernel_rfl) (by kernel_rfl) (by kernel_rfl) (fun _ _ _ h => h) (Or.inl ⟨by rfl, ?hf19_59⟩) hHeld ?rf19_59
          case hf19_59 =>
            intro wS hSw
            (try dsimp only at hSw)
            go_simp
            try with_reducible rfl
          case rf19_59 =>
          simp only [Act.put, List.setIfInBounds_toArray, List.set_cons_zero, List.set_cons_succ]
          refine wpAnyH_take (i := 20) (oi := { dst := some 110, op := Go.Op.fieldAddr 32 (Go.Operand.tmp 9) 1, type := 0, pos := "laws.go:179", after := #[{ on := 19, ground := Go.Ground.guard }], guard := some (19, true) }) (v := ?vf20_60) rfl (by kernel_rfl) (by kernel_rfl) (by kernel_rfl) (fun _ _ _ h => h) (Or.inl ⟨by rfl, ?hf20_60⟩) hHeld ?rf20_60
          case hf20_60 =>
            intro wS hSw
            (try dsimp only at hSw)
            go_simp
            try with_reducible rfl
          case rf20_60 =>
          simp only [Act.put, List.setIfInBounds_toArray, List.set_cons_zero, List.set_cons_succ]
          refine wpAnyH_take (i := 21) (oi := { dst := some 111, op := Go.Op.load 9 (Go.Operand.tmp 110), type := 9, pos := "laws.go:179", after := #[{ on := 20, ground := Go.Ground.data }, { on := 19, ground := Go.Ground.guard }], guard := some (19, true) }) (v := ?vf21_61) rfl (by kernel_rfl) (by kernel_rfl) (by kernel_rfl) (fun _ _ _ h => h) (Or.inl ⟨by rfl, ?hf21_61⟩) hHeld ?rf21_61
          case hf21_61 =>
            intro wS hSw
            obtain ⟨q0, q1, q2, q3, q4, p1, t0, t1⟩ := unhide KT _ hSw
            clear hSw
            (try dsimp only at hSw)
            go_simp
            try with_reducible rfl
          case rf21_61 =>
          simp only [Act.put, List.setIfInBounds_toArray, List.set_cons_zero, List.set_cons_succ]
          refine wpAnyH_take (i := 25) (oi := { dst := some 115, op := Go.Op.load 27 (Go.Operand.tmp 7), type := 27, pos := "laws.go:179", after := #[{ on := 19, ground := Go.Ground.guard }], guard := some (19, true) }) (v := ?vf25_62) rfl (by kernel_rfl) (by kernel_rfl) (by kernel_rfl) (fun _ _ _ h => h) (Or.inl ⟨by rfl, ?hf25_62⟩) hHeld ?rf25_62
          case hf25_62 =>
            intro wS hSw
            obtain ⟨q0, q1, q2, q3, q4, p1, t0, t1⟩ := unhide KT _ hSw
            clear hSw
            (try dsimp only at hSw)
            go_simp
            try with_reducible rfl
          case rf25_62 =>
          simp only [Act.put, List.setIfInBounds_toArray, List.set_cons_zero, List.set_cons_succ]
          refine wpAnyH_ready (rs := [22, 26]) (by kernel_rfl) (by simp) ?_
          refine AllReadyH.cons (o := { dst := some 112, op := Go.Op.call { callee := Go.Callee.value (Go.Operand.func 6), args := #[Go.Operand.tmp 111], argTypes := #[9] }, type := 29, pos := "laws.go:179", after := #[{ on := 21, ground := Go.Ground.data }, { on := 19, ground := Go.Ground.chain }, { on := 19, ground := Go.Ground.guard }], guard := some (19, true) }) rfl (fun K hK => ?of22_63) (AllReadyH.cons (o := { dst := some 116, op := Go.Op.buildSlice 43 1 #[(0, Go.Operand.tmp 115)], type := 43, pos := "laws.go:179", after := #[{ on := 25, ground := Go.Ground.data }, { on := 19, ground := Go.Ground.guard }], guard := some (19, true) }) rfl (fun K hK => ?of26_63) (AllReadyH.nil))
          case of22_63 =>
            go_simp
            go_at_call 6
            refine (unhide LP _ hHeld).mono ?_
            rintro e w6 ⟨a24, d24, rfl, hR22, hb22⟩
            try go_wp2_with fail
            refine hK.out _ _ (hHeld.trans (hb22.mono hHeld.size)) (fun hHeld => ?_)
            clear hK K
            try simp only [Act.put, List.setIfInBounds_toArray, List.set_cons_zero, List.set_cons_succ]
            refine wpAnyH_take (i := 23) (oi := { dst := some 113, op := Go.Op.field 29 (Go.Operand.tmp 112) 1, type := 27, pos := "laws.go:179", after := #[{ on := 22, ground := Go.Ground.data }, { on := 19, ground := Go.Ground.guard }], guard := some (19, true) }) (v := ?vf23_64) rfl (by kernel_rfl) (by kernel_rfl) (by kernel_rfl) (fun _ _ _ h => h) (Or.inl ⟨by rfl, ?hf23_64⟩) hHeld ?rf23_64
            case hf23_64 =>
              intro wS hSw
              have yf := hfW x.kind x.id a24 x.vec.length d24 x.session x.seq
              clear hSw
              (try dsimp only at hSw)
              go_simp
              try with_reducible rfl
            case rf23_64 =>
            simp only [Act.put, List.setIfInBounds_toArray, List.set_cons_zero, List.set_cons_succ]
            refine wpAnyH_ready (rs := [24, 26]) (by kernel_rfl) (by simp) ?_
            refine AllReadyH.cons (o := { dst := some 114, op := Go.Op.buildSlice 43 1 #[(0, Go.Operand.tmp 113)], type := 43, pos := "laws.go:179", after := #[{ on := 23, ground := Go.Ground.data }, { on := 19, ground := Go.Ground.guard }], guard := some (19, true) }) rfl (fun K hK => ?of24_65) (AllReadyH.cons (o := { dst := some 116, op := Go.Op.buildSlice 43 1 #[(0, Go.Operand.tmp 115)], type := 43, pos := "laws.go:179", after := #[{ on := 25, ground := Go.Ground.data }, { on := 19, ground := Go.Ground.guard }], guard := some (19, true) }) rfl (fun K hK => ?of26_65) (AllReadyH.nil))
            case of24_65 =>
              replace hR22 := hR22.later ((Below.refl _ _).alloc (Nat.le_refl _) (.cells #[.int .i64 x.kind, .int .i64 x.id, .slice a24 x.vec.length d24, .int .i64 x.session, .int .i64 x.seq] 27))
              have hG24 : Box 0 #[.int .i64 x.kind, .int .i64 x.id, .slice a24 x.vec.length d24, .int .i64 x.session, .int .i64 x.seq] 27 (w6.alloc (.cells #[.int .i64 x.kind, .int .i64 x.id, .slice a24 x.vec.length d24, .int .i64 x.session, .int .i64 x.seq] 27)) (w6.heap.size) := newBoxAt (Nat.zero_le _) (by simp)
              go_simp
              refine hK.out _ _ (hHeld.alloc hHeld.size _) (fun hHeld => ?_)
              clear hK K
              try simp only [Act.put, List.setIfInBounds_toArray, List.set_cons_zero, List.set_cons_succ]
              refine wpAnyH_ready (rs := [26]) (by kernel_rfl) (by simp) ?_
              refine AllReadyH.cons (o := { dst := some 116, op := Go.Op.buildSlice 43 1 #[(0, Go.Operand.tmp 115)], type := 43, pos := "laws.go:179", after := #[{ on := 25, ground := Go.Ground.data }, { on := 19, ground := Go.Ground.guard }], guard := some (19, true) }) rfl (fun K hK => ?_) AllReadyH.nil
              replace hR22 := hR22.later ((Below.refl _ _).alloc (Nat.le_refl _) (.cells #[.int .i64 x.kind, .int .i64 x.id, .slice aw x.vec.length dw, .int .i64 x.session, .int .i64 x.seq] 27))
              replace hG24 := hG24.grow (.cells #[.int .i64 x.kind, .int .i64 x.id, .slice aw x.vec.length dw, .int .i64 x.session, .int .i64 x.seq] 27)
              have hG26 : Box 0 #[.int .i64 x.kind, .int .i64 x.id, .slice aw x.vec.length dw, .int .i64 x.session, .int .i64 x.seq] 27 ((w6.alloc (.cells #[.int .i64 x.kind, .int .i64 x.id, .slice a24 x.vec.length d24, .int .i64 x.session, .int .i64 x.seq] 27)).alloc (.cells #[.int .i64 x.kind, .int .i64 x.id, .slice aw x.vec.length dw, .int .i64 x.session, .int .i64 x.seq] 27)) (w6.heap.size + 1) := newBoxAt (Nat.zero_le _) (by simp)
              go_simp
              refine hK.out _ _ (hHeld.alloc hHeld.size _) (fun hHeld => ?_)
              clear hK K
              try simp only [Act.put, List.setIfInBounds_toArray, List.set_cons_zero, List.set_cons_succ]
              refine wpAnyH_ready (rs := [27]) (by kernel_rfl) (by simp) ?_
              refine AllReadyH.cons (o := { dst := some 117, op := Go.Op.call { callee := Go.Callee.value (Go.Operand.func 17), args := #[Go.Operand.tmp 114, Go.Operand.tmp 116], argTypes := #[43, 43] }, type := 4, pos := "laws.go:179", after := #[{ on := 24, ground := Go.Ground.data }, { on := 26, ground := Go.Ground.data }, { on := 22, ground := Go.Ground.chain }, { on := 19, ground := Go.Ground.guard }], guard := some (19, true) }) rfl (fun K hK => ?_) AllReadyH.nil
              go_simp
              go_at_call 17
              refine (unhide LW _ _ _ (read_one hG24 hR22) (read_one hG26 ((unhide HW).later hHeld))).mono ?_
              rintro e w8 ⟨rfl, hb27⟩
              clear hG24 hG26 hR22
              try go_wp2_with fail
              refine hK.out _ _ (hHeld.trans (hb27.mono hHeld.size)) (fun hHeld => ?_)
              clear hK K
              try simp only [Act.put, List.setIfInBounds_toArray, List.set_cons_zero, List.set_cons_succ]
              refine wpAnyH_take (i := 28) (oi := { dst := some 118, op := Go.Op.pick (Go.Operand.tmp 109) (Go.Operand.tmp 117) (Go.Operand.const (Go.Value.bool false)), type := 4, pos := "laws.go:179", after := #[{ on := 19, ground := Go.Ground.data }, { on := 27, ground := Go.Ground.data }], guard := none }) (v := ?vf28_66) rfl (by kernel_rfl) (by kernel_rfl) (by kernel_rfl) (fun _ _ _ h => h) (Or.inl ⟨by rfl, ?hf28_66⟩) hHeld ?rf28_66
              case hf28_66 =>
                intro wS hSw
                (try dsimp only at hSw)
                go_simp
                try with_reducible rfl
              case rf28_66 =>
              simp only [Act.put, List.setIfInBounds_toArray, List.set_cons_zero, List.set_cons_succ]
              refine wpAnyH_take (i := 29) (oi := { dst := some 2, op := Go.Op.assign (Go.Operand.tmp 118), type := 4, pos := "laws.go:179", after := #[{ on := 28, ground := Go.Ground.data }, { on := 27, ground := Go.Ground.chain }, { on := 0, ground := Go.Ground.phase }, { on := 1, ground := Go.Ground.phase }, { on := 2, ground := Go.Ground.phase }, { on := 3, ground := Go.Ground.phase }, { on := 4, ground := Go.Ground.phase }, { on := 5, ground := Go.Ground.phase }, { on := 6, ground := Go.Ground.phase }, { on := 7, ground := Go.Ground.phase }, { on := 8, ground := Go.Ground.phase }, { on := 9, ground := Go.Ground.phase }, { on := 10, ground := Go.Ground.phase }, { on := 11, ground := Go.Ground.phase }, { on := 12, ground := Go.Ground.phase }, { on := 13, ground := Go.Ground.phase }, { on := 14, ground := Go.Ground.phase }, { on := 15, ground := Go.Ground.phase }, { on := 16, ground := Go.Ground.phase }, { on := 17, ground := Go.Ground.phase }, { on := 18, ground := Go.Ground.phase }, { on := 19, ground := Go.Ground.phase }, { on := 20, ground := Go.Ground.phase }, { on := 21, ground := Go.Ground.phase }, { on := 22, ground := Go.Ground.phase }, { on := 23, ground := Go.Ground.phase }, { on := 24, ground := Go.Ground.phase }, { on := 25, ground := Go.Ground.phase }, { on := 26, ground := Go.Ground.phase }, { on := 27, ground := Go.Ground.phase }, { on := 28, ground := Go.Ground.phase }], guard := none }) (v := ?vf29_67) rfl (by kernel_rfl) (by kernel_rfl) (by kernel_rfl) (fun _ _ _ h => h) (Or.inl ⟨by rfl, ?hf29_67⟩) hHeld ?rf29_67
              case hf29_67 =>
                intro wS hSw
                (try dsimp only at hSw)
                go_simp
                try with_reducible rfl
              case rf29_67 =>
              simp only [Act.put, List.setIfInBounds_toArray, List.set_cons_zero, List.set_cons_succ]
              refine wpAnyH_done (by kernel_rfl) ?_ _
              refine NoPanic.normal ?_
              have HB9 := hide ((unhide HBA).trans (hHeld.mono (unhide HBA).size))
              clear hHeld
              go_wp2_with fail
              go_ret
              exact ⟨rfl, unhide HB9⟩
            case of26_65 =>
              replace hR22 := hR22.later ((Below.refl _ _).alloc (Nat.le_refl _) (.cells #[.int .i64 x.kind, .int .i64 x.id, .slice aw x.vec.length dw, .int .i64 x.session, .int .i64 x.seq] 27))
              have hG26 : Box 0 #[.int .i64 x.kind, .int .i64 x.id, .slice aw x.vec.length dw, .int .i64 x.session, .int .i64 x.seq] 27 (w6.alloc (.cells #[.int .i64 x.kind, .int .i64 x.id, .slice aw x.vec.length dw, .int .i64 x.session, .int .i64 x.seq] 27)) (w6.heap.size) := newBoxAt (Nat.zero_le _) (by simp)
              go_simp
              refine hK.out _ _ (hHeld.alloc hHeld.size _) (fun hHeld => ?_)
              clear hK K
              try simp only [Act.put, List.setIfInBounds_toArray, List.set_cons_zero, List.set_cons_succ]
              refine wpAnyH_ready (rs := [24]) (by kernel_rfl) (by simp) ?_
              refine AllReadyH.cons (o := { dst := some 114, op := Go.Op.buildSlice 43 1 #[(0, Go.Operand.tmp 113)], type := 43, pos := "laws.go:179", after := #[{ on := 23, ground := Go.Ground.data }, { on := 19, ground := Go.Ground.guard }], guard := some (19, true) }) rfl (fun K hK => ?_) AllReadyH.nil
              replace hR22 := hR22.later ((Below.refl _ _).alloc (Nat.le_refl _) (.cells #[.int .i64 x.kind, .int .i64 x.id, .slice a24 x.vec.length d24, .int .i64 x.session, .int .i64 x.seq] 27))
              replace hG26 := hG26.grow (.cells #[.int .i64 x.kind, .int .i64 x.id, .slice a24 x.vec.length d24, .int .i64 x.session, .int .i64 x.seq] 27)
              have hG24 : Box 0 #[.int .i64 x.kind, .int .i64 x.id, .slice a24 x.vec.length d24, .int .i64 x.session, .int .i64 x.seq] 27 ((w6.alloc (.cells #[.int .i64 x.kind, .int .i64 x.id, .slice aw x.vec.length dw, .int .i64 x.session, .int .i64 x.seq] 27)).alloc (.cells #[.int .i64 x.kind, .int .i64 x.id, .slice a24 x.vec.length d24, .int .i64 x.session, .int .i64 x.seq] 27)) (w6.heap.size + 1) := newBoxAt (Nat.zero_le _) (by simp)
              go_simp
              refine hK.out _ _ (hHeld.alloc hHeld.size _) (fun hHeld => ?_)
              clear hK K
              try simp only [Act.put, List.setIfInBounds_toArray, List.set_cons_zero, List.set_cons_succ]
              refine wpAnyH_ready (rs := [27]) (by kernel_rfl) (by simp) ?_
              refine AllReadyH.cons (o := { dst := some 117, op := Go.Op.call { callee := Go.Callee.value (Go.Operand.func 17), args := #[Go.Operand.tmp 114, Go.Operand.tmp 116], argTypes := #[43, 43] }, type := 4, pos := "laws.go:179", after := #[{ on := 24, ground := Go.Ground.data }, { on := 26, ground := Go.Ground.data }, { on := 22, ground := Go.Ground.chain }, { on := 19, ground := Go.Ground.guard }], guard := some (19, true) }) rfl (fun K hK => ?_) AllReadyH.nil
              go_simp
              go_at_call 17
              refine (unhide LW _ _ _ (read_one hG24 hR22) (read_one hG26 ((unhide HW).later hHeld))).mono ?_
              rintro e w8 ⟨rfl, hb27⟩
              clear hG24 hG26 hR22
              try go_wp2_with fail
              refine hK.out _ _ (hHeld.trans (hb27.mono hHeld.size)) (fun hHeld => ?_)
              clear hK K
              try simp only [Act.put, List.setIfInBounds_toArray, List.set_cons_zero, List.set_cons_succ]
              refine wpAnyH_take (i := 28) (oi := { dst := some 118, op := Go.Op.pick (Go.Operand.tmp 109) (Go.Operand.tmp 117) (Go.Operand.const (Go.Value.bool false)), type := 4, pos := "laws.go:179", after := #[{ on := 19, ground := Go.Ground.data }, { on := 27, ground := Go.Ground.data }], guard := none }) (v := ?vf28_68) rfl (by kernel_rfl) (by kernel_rfl) (by kernel_rfl) (fun _ _ _ h => h) (Or.inl ⟨by rfl, ?hf28_68⟩) hHeld ?rf28_68
              case hf28_68 =>
                intro wS hSw
                (try dsimp only at hSw)
                go_simp
                try with_reducible rfl
              case rf28_68 =>
              simp only [Act.put, List.setIfInBounds_toArray, List.set_cons_zero, List.set_cons_succ]
              refine wpAnyH_take (i := 29) (oi := { dst := some 2, op := Go.Op.assign (Go.Operand.tmp 118), type := 4, pos := "laws.go:179", after := #[{ on := 28, ground := Go.Ground.data }, { on := 27, ground := Go.Ground.chain }, { on := 0, ground := Go.Ground.phase }, { on := 1, ground := Go.Ground.phase }, { on := 2, ground := Go.Ground.phase }, { on := 3, ground := Go.Ground.phase }, { on := 4, ground := Go.Ground.phase }, { on := 5, ground := Go.Ground.phase }, { on := 6, ground := Go.Ground.phase }, { on := 7, ground := Go.Ground.phase }, { on := 8, ground := Go.Ground.phase }, { on := 9, ground := Go.Ground.phase }, { on := 10, ground := Go.Ground.phase }, { on := 11, ground := Go.Ground.phase }, { on := 12, ground := Go.Ground.phase }, { on := 13, ground := Go.Ground.phase }, { on := 14, ground := Go.Ground.phase }, { on := 15, ground := Go.Ground.phase }, { on := 16, ground := Go.Ground.phase }, { on := 17, ground := Go.Ground.phase }, { on := 18, ground := Go.Ground.phase }, { on := 19, ground := Go.Ground.phase }, { on := 20, ground := Go.Ground.phase }, { on := 21, ground := Go.Ground.phase }, { on := 22, ground := Go.Ground.phase }, { on := 23, ground := Go.Ground.phase }, { on := 24, ground := Go.Ground.phase }, { on := 25, ground := Go.Ground.phase }, { on := 26, ground := Go.Ground.phase }, { on := 27, ground := Go.Ground.phase }, { on := 28, ground := Go.Ground.phase }], guard := none }) (v := ?vf29_69) rfl (by kernel_rfl) (by kernel_rfl) (by kernel_rfl) (fun _ _ _ h => h) (Or.inl ⟨by rfl, ?hf29_69⟩) hHeld ?rf29_69
              case hf29_69 =>
                intro wS hSw
                (try dsimp only at hSw)
                go_simp
                try with_reducible rfl
              case rf29_69 =>
              simp only [Act.put, List.setIfInBounds_toArray, List.set_cons_zero, List.set_cons_succ]
              refine wpAnyH_done (by kernel_rfl) ?_ _
              refine NoPanic.normal ?_
              have HB9 := hide ((unhide HBA).trans (hHeld.mono (unhide HBA).size))
              clear hHeld
              go_wp2_with fail
              go_ret
              exact ⟨rfl, unhide HB9⟩
          case of26_63 =>
            have hG26 : Box 0 #[.int .i64 x.kind, .int .i64 x.id, .slice aw x.vec.length dw, .int .i64 x.session, .int .i64 x.seq] 27 (w5.alloc (.cells #[.int .i64 x.kind, .int .i64 x.id, .slice aw x.vec.length dw, .int .i64 x.session, .int .i64 x.seq] 27)) (w5.heap.size) := newBoxAt (Nat.zero_le _) (by simp)
            go_simp
            refine hK.out _ _ (hHeld.alloc hHeld.size _) (fun hHeld => ?_)
            clear hK K
            try simp only [Act.put, List.setIfInBounds_toArray, List.set_cons_zero, List.set_cons_succ]
            refine wpAnyH_ready (rs := [22]) (by kernel_rfl) (by simp) ?_
            refine AllReadyH.cons (o := { dst := some 112, op := Go.Op.call { callee := Go.Callee.value (Go.Operand.func 6), args := #[Go.Operand.tmp 111], argTypes := #[9] }, type := 29, pos := "laws.go:179", after := #[{ on := 21, ground := Go.Ground.data }, { on := 19, ground := Go.Ground.chain }, { on := 19, ground := Go.Ground.guard }], guard := some (19, true) }) rfl (fun K hK => ?_) AllReadyH.nil
            go_simp
            go_at_call 6
            refine (unhide LP _ hHeld).mono ?_
            rintro e w6 ⟨a24, d24, rfl, hR22, hb22⟩
            replace hG26 := hG26.keep hb22
            try go_wp2_with fail
            refine hK.out _ _ (hHeld.trans (hb22.mono hHeld.size)) (fun hHeld => ?_)
            clear hK K
            try simp only [Act.put, List.setIfInBounds_toArray, List.set_cons_zero, List.set_cons_succ]
            refine wpAnyH_take (i := 23) (oi := { dst := some 113, op := Go.Op.field 29 (Go.Operand.tmp 112) 1, type := 27, pos := "laws.go:179", after := #[{ on := 22, ground := Go.Ground.data }, { on := 19, ground := Go.Ground.guard }], guard := some (19, true) }) (v := ?vf23_70) rfl (by kernel_rfl) (by kernel_rfl) (by kernel_rfl) (fun _ _ _ h => h) (Or.inl ⟨by rfl, ?hf23_70⟩) hHeld ?rf23_70
            case hf23_70 =>
              intro wS hSw
              have yf := hfW x.kind x.id a24 x.vec.length d24 x.session x.seq
              clear hSw
              (try dsimp only at hSw)
              go_simp
              try with_reducible rfl
            case rf23_70 =>
            simp only [Act.put, List.setIfInBounds_toArray, List.set_cons_zero, List.set_cons_succ]
            refine wpAnyH_ready (rs := [24]) (by kernel_rfl) (by simp) ?_
            refine AllReadyH.cons (o := { dst := some 114, op := Go.Op.buildSlice 43 1 #[(0, Go.Operand.tmp 113)], type := 43, pos := "laws.go:179", after := #[{ on := 23, ground := Go.Ground.data }, { on := 19, ground := Go.Ground.guard }], guard := some (19, true) }) rfl (fun K hK => ?_) AllReadyH.nil
            replace hG26 := hG26.grow (.cells #[.int .i64 x.kind, .int .i64 x.id, .slice a24 x.vec.length d24, .int .i64 x.session, .int .i64 x.seq] 27)
            replace hR22 := hR22.later ((Below.refl _ _).alloc (Nat.le_refl _) (.cells #[.int .i64 x.kind, .int .i64 x.id, .slice a24 x.vec.length d24, .int .i64 x.session, .int .i64 x.seq] 27))
            have hG24 : Box 0 #[.int .i64 x.kind, .int .i64 x.id, .slice a24 x.vec.length d24, .int .i64 x.session, .int .i64 x.seq] 27 (w6.alloc (.cells #[.int .i64 x.kind, .int .i64 x.id, .slice a24 x.vec.length d24, .int .i64 x.session, .int .i64 x.seq] 27)) (w6.heap.size) := newBoxAt (Nat.zero_le _) (by simp)
            go_simp
            refine hK.out _ _ (hHeld.alloc hHeld.size _) (fun hHeld => ?_)
            clear hK K
            try simp only [Act.put, List.setIfInBounds_toArray, List.set_cons_zero, List.set_cons_succ]
            refine wpAnyH_ready (rs := [27]) (by kernel_rfl) (by simp) ?_
            refine AllReadyH.cons (o := { dst := some 117, op := Go.Op.call { callee := Go.Callee.value (Go.Operand.func 17), args := #[Go.Operand.tmp 114, Go.Operand.tmp 116], argTypes := #[43, 43] }, type := 4, pos := "laws.go:179", after := #[{ on := 24, ground := Go.Ground.data }, { on := 26, ground := Go.Ground.data }, { on := 22, ground := Go.Ground.chain }, { on := 19, ground := Go.Ground.guard }], guard := some (19, true) }) rfl (fun K hK => ?_) AllReadyH.nil
            go_simp
            go_at_call 17
            refine (unhide LW _ _ _ (read_one hG24 hR22) (read_one hG26 ((unhide HW).later hHeld))).mono ?_
            rintro e w8 ⟨rfl, hb27⟩
            clear hG24 hG26 hR22
            try go_wp2_with fail
            refine hK.out _ _ (hHeld.trans (hb27.mono hHeld.size)) (fun hHeld => ?_)
            clear hK K
            try simp only [Act.put, List.setIfInBounds_toArray, List.set_cons_zero, List.set_cons_succ]
            refine wpAnyH_take (i := 28) (oi := { dst := some 118, op := Go.Op.pick (Go.Operand.tmp 109) (Go.Operand.tmp 117) (Go.Operand.const (Go.Value.bool false)), type := 4, pos := "laws.go:179", after := #[{ on := 19, ground := Go.Ground.data }, { on := 27, ground := Go.Ground.data }], guard := none }) (v := ?vf28_71) rfl (by kernel_rfl) (by kernel_rfl) (by kernel_rfl) (fun _ _ _ h => h) (Or.inl ⟨by rfl, ?hf28_71⟩) hHeld ?rf28_71
            case hf28_71 =>
              intro wS hSw
              (try dsimp only at hSw)
              go_simp
              try with_reducible rfl
            case rf28_71 =>
            simp only [Act.put, List.setIfInBounds_toArray, List.set_cons_zero, List.set_cons_succ]
            refine wpAnyH_take (i := 29) (oi := { dst := some 2, op := Go.Op.assign (Go.Operand.tmp 118), type := 4, pos := "laws.go:179", after := #[{ on := 28, ground := Go.Ground.data }, { on := 27, ground := Go.Ground.chain }, { on := 0, ground := Go.Ground.phase }, { on := 1, ground := Go.Ground.phase }, { on := 2, ground := Go.Ground.phase }, { on := 3, ground := Go.Ground.phase }, { on := 4, ground := Go.Ground.phase }, { on := 5, ground := Go.Ground.phase }, { on := 6, ground := Go.Ground.phase }, { on := 7, ground := Go.Ground.phase }, { on := 8, ground := Go.Ground.phase }, { on := 9, ground := Go.Ground.phase }, { on := 10, ground := Go.Ground.phase }, { on := 11, ground := Go.Ground.phase }, { on := 12, ground := Go.Ground.phase }, { on := 13, ground := Go.Ground.phase }, { on := 14, ground := Go.Ground.phase }, { on := 15, ground := Go.Ground.phase }, { on := 16, ground := Go.Ground.phase }, { on := 17, ground := Go.Ground.phase }, { on := 18, ground := Go.Ground.phase }, { on := 19, ground := Go.Ground.phase }, { on := 20, ground := Go.Ground.phase }, { on := 21, ground := Go.Ground.phase }, { on := 22, ground := Go.Ground.phase }, { on := 23, ground := Go.Ground.phase }, { on := 24, ground := Go.Ground.phase }, { on := 25, ground := Go.Ground.phase }, { on := 26, ground := Go.Ground.phase }, { on := 27, ground := Go.Ground.phase }, { on := 28, ground := Go.Ground.phase }], guard := none }) (v := ?vf29_72) rfl (by kernel_rfl) (by kernel_rfl) (by kernel_rfl) (fun _ _ _ h => h) (Or.inl ⟨by rfl, ?hf29_72⟩) hHeld ?rf29_72
            case hf29_72 =>
              intro wS hSw
              (try dsimp only at hSw)
              go_simp
              try with_reducible rfl
            case rf29_72 =>
            simp only [Act.put, List.setIfInBounds_toArray, List.set_cons_zero, List.set_cons_succ]
            refine wpAnyH_done (by kernel_rfl) ?_ _
            refine NoPanic.normal ?_
            have HB9 := hide ((unhide HBA).trans (hHeld.mono (unhide HBA).size))
            clear hHeld
            go_wp2_with fail
            go_ret
            exact ⟨rfl, unhide HB9⟩
      · have HF := hide hf
        have nb6 : Below w6.heap.size w6 (w6.alloc (.cells #[.int .i64 (writeFault x.kind x.id x.vec x.session x.seq), .slice ap ps.length cp] 38)) := (Below.refl _ _).alloc (Nat.le_refl _) _
        have xP : Box 0 #[.int .i64 (writeFault x.kind x.id x.vec x.session x.seq), .slice ap ps.length cp] 38 (w6.alloc (.cells #[.int .i64 (writeFault x.kind x.id x.vec x.session x.seq), .slice ap ps.length cp] 38)) w6.heap.size := newBox (Nat.zero_le _)
        have HXP := hide xP
        replace HXW := hide (((unhide HXW).keep hb6).keep nb6)
        replace HWV := hide (((unhide HWV).later hb6).later nb6)
        replace HBA := hide (((unhide HBA).trans (hb6.mono (unhide HBA).size)).trans (nb6.mono (Nat.le_trans (unhide HBA).size hb6.size)))
        have hne : (writeFault x.kind x.id x.vec x.session x.seq != 0) = true := by rw [bne_iff_ne]; exact hf
        have heq : (writeFault x.kind x.id x.vec x.session x.seq == writeFault x.kind x.id x.vec x.session x.seq) = true := by simp
        have p0 : (w6.alloc (.cells #[.int .i64 (writeFault x.kind x.id x.vec x.session x.seq), .slice ap ps.length cp] 38)).cell? ⟨w6.heap.size, 0, none⟩ = some (.int .i64 (writeFault x.kind x.id x.vec x.session x.seq)) := xP.at 0 _ rfl
        clear hb6 nb6 xP hf HOP HPL HW
        have LF1 : Hid (∀ W, Below (w6.alloc (.cells #[.int .i64 (writeFault x.kind x.id x.vec x.session x.seq), .slice ap ps.length cp] 38)).heap.size (w6.alloc (.cells #[.int .i64 (writeFault x.kind x.id x.vec x.session x.seq), .slice ap ps.length cp] 38)) W → Calls Tryz.prog 15 #[.agg #[.int .i64 x.kind, .int .i64 x.id, .slice aw x.vec.length dw, .int .i64 x.session, .int .i64 x.seq]] W fun e w' => e = .returned (.int .i64 (writeFault x.kind x.id x.vec x.session x.seq)) ∧ Below W.heap.size W w') := fun W hW => specWrF x.kind x.id _ x.session x.seq x.vec W (Lay.ints_reads ((unhide HWV).later hW))
        have LF2 : Hid (∀ W, Below (w6.alloc (.cells #[.int .i64 (writeFault x.kind x.id x.vec x.session x.seq), .slice ap ps.length cp] 38)).heap.size (w6.alloc (.cells #[.int .i64 (writeFault x.kind x.id x.vec x.session x.seq), .slice ap ps.length cp] 38)) W → Calls Tryz.prog 16 #[.agg #[.int .i64 x.kind, .int .i64 x.id, .slice aw x.vec.length dw, .int .i64 x.session, .int .i64 x.seq]] W fun e w' => e = .returned (.int .i64 (writeFault x.kind x.id x.vec x.session x.seq)) ∧ Below W.heap.size W w') := fun W hW => implWriteFault x.kind x.id _ x.session x.seq x.vec W (Lay.ints_reads ((unhide HWV).later hW))
        have KP : Hid (∀ W, Below (w6.alloc (.cells #[.int .i64 (writeFault x.kind x.id x.vec x.session x.seq), .slice ap ps.length cp] 38)).heap.size (w6.alloc (.cells #[.int .i64 (writeFault x.kind x.id x.vec x.session x.seq), .slice ap ps.length cp] 38)) W → W.cell? ⟨w5.heap.size, 0, none⟩ = some (.int .i64 x.kind) ∧ W.cell? ⟨w5.heap.size, 1, none⟩ = some (.int .i64 x.id) ∧ W.cell? ⟨w5.heap.size, 2, none⟩ = some (.slice aw x.vec.length dw) ∧ W.cell? ⟨w5.heap.size, 3, none⟩ = some (.int .i64 x.session) ∧ W.cell? ⟨w5.heap.size, 4, none⟩ = some (.int .i64 x.seq) ∧ W.cell? ⟨w6.heap.size, 0, none⟩ = some (.int .i64 (writeFault x.kind x.id x.vec x.session x.seq))) := fun W hW =>
          ⟨((unhide HXW).keep hW).at 0 _ rfl, ((unhide HXW).keep hW).at 1 _ rfl, ((unhide HXW).keep hW).at 2 _ rfl, ((unhide HXW).keep hW).at 3 _ rfl, ((unhide HXW).keep hW).at 4 _ rfl, ((unhide HXP).keep hW).at 0 _ rfl⟩
        clear HXW HXP HWV
        generalize writeFault x.kind x.id x.vec x.session x.seq = fc at *
        go_upto_region 14 with fail
        generalize w6.alloc (.cells #[.int .i64 fc, .slice ap ps.length cp] 38) = W7 at *
        clear p0
        refine wp_region_noPanic ?_
        refine wp_region_held_drew (S := fun w' => Below W7.heap.size W7 w') (by kernel_rfl) (Below.refl _ _).drew (fun hHeld => ?_)
        generalize W7.drew = wD at hHeld ⊢
        refine wpAnyH_take (i := 0) (oi := { dst := some 76, op := Go.Op.load 27 (Go.Operand.tmp 7), type := 27, pos := "laws.go:176", after := #[], guard := none }) (v := ?ve0_1) rfl (by kernel_rfl) (by kernel_rfl) (by kernel_rfl) (fun _ _ _ h => h) (Or.inl ⟨by rfl, ?he0_1⟩) hHeld ?re0_1
        case he0_1 =>
          intro wS hSw
          obtain ⟨q0, q1, q2, q3, q4, p0⟩ := unhide KP _ hSw
          clear hSw
          (try dsimp only at hSw)
          go_simp
          try with_reducible rfl
        case re0_1 =>
        simp only [Act.put, List.setIfInBounds_toArray, List.set_cons_zero, List.set_cons_succ]
        refine wpAnyH_take (i := 2) (oi := { dst := some 78, op := Go.Op.fieldAddr 38 (Go.Operand.tmp 8) 0, type := 0, pos := "laws.go:176", after := #[], guard := none }) (v := ?ve2_2) rfl (by kernel_rfl) (by kernel_rfl) (by kernel_rfl) (fun _ _ _ h => h) (Or.inl ⟨by rfl, ?he2_2⟩) hHeld ?re2_2
        case he2_2 =>
          intro wS hSw
          (try dsimp only at hSw)
          go_simp
          try with_reducible rfl
        case re2_2 =>
        simp only [Act.put, List.setIfInBounds_toArray, List.set_cons_zero, List.set_cons_succ]
        refine wpAnyH_take (i := 3) (oi := { dst := some 79, op := Go.Op.load 2 (Go.Operand.tmp 78), type := 2, pos := "laws.go:176", after := #[{ on := 2, ground := Go.Ground.data }], guard := none }) (v := ?ve3_3) rfl (by kernel_rfl) (by kernel_rfl) (by kernel_rfl) (fun _ _ _ h => h) (Or.inl ⟨by rfl, ?he3_3⟩) hHeld ?re3_3
        case he3_3 =>
          intro wS hSw
          obtain ⟨q0, q1, q2, q3, q4, p0⟩ := unhide KP _ hSw
          clear hSw
          (try dsimp only at hSw)
          go_simp
          try with_reducible rfl
        case re3_3 =>
        simp only [Act.put, List.setIfInBounds_toArray, List.set_cons_zero, List.set_cons_succ]
        refine wpAnyH_ready (rs := [1]) (by kernel_rfl) (by simp) ?_
        refine AllReadyH.cons (o := { dst := some 77, op := Go.Op.call { callee := Go.Callee.value (Go.Operand.func 15), args := #[Go.Operand.tmp 76], argTypes := #[27] }, type := 2, pos := "laws.go:176", after := #[{ on := 0, ground := Go.Ground.data }], guard := none }) rfl (fun K hK => ?_) AllReadyH.nil
        go_simp
        go_at_call 15
        refine (unhide LF1 _ hHeld).mono ?_
        rintro e w3 ⟨rfl, hbw⟩
        try go_wp2_with fail
        refine hK.out _ _ (hHeld.trans (hbw.mono hHeld.size)) (fun hHeld => ?_)
        clear hK K
        try simp only [Act.put, List.setIfInBounds_toArray, List.set_cons_zero, List.set_cons_succ]
        refine wpAnyH_take (i := 4) (oi := { dst := some 80, op := Go.Op.binOp Go.BinOp.eql 2 (Go.Operand.tmp 77) (Go.Operand.tmp 79) 2, type := 4, pos := "laws.go:176", after := #[{ on := 1, ground := Go.Ground.data }, { on := 3, ground := Go.Ground.data }], guard := none }) (v := ?ve4_4) rfl (by kernel_rfl) (by kernel_rfl) (by kernel_rfl) (fun _ _ _ h => h) (Or.inl ⟨by rfl, ?he4_4⟩) hHeld ?re4_4
        case he4_4 =>
          intro wS hSw
          (try dsimp only at hSw)
          go_simp
          try with_reducible rfl
        case re4_4 =>
        simp only [Act.put, List.setIfInBounds_toArray, List.set_cons_zero, List.set_cons_succ]
        refine wpAnyH_take (i := 5) (oi := { dst := some 81, op := Go.Op.move (Go.Operand.tmp 80), type := 4, pos := "laws.go:176", after := #[{ on := 4, ground := Go.Ground.data }, { on := 1, ground := Go.Ground.chain }], guard := none }) (v := ?ve5_5) rfl (by kernel_rfl) (by kernel_rfl) (by kernel_rfl) (fun _ _ _ h => h) (Or.inl ⟨by rfl, ?he5_5⟩) hHeld ?re5_5
        case he5_5 =>
          intro wS hSw
          (try dsimp only at hSw)
          go_simp
          try with_reducible rfl
        case re5_5 =>
        simp only [Act.put, List.setIfInBounds_toArray, List.set_cons_zero, List.set_cons_succ]
        refine wpAnyH_take (i := 6) (oi := { dst := some 82, op := Go.Op.load 27 (Go.Operand.tmp 7), type := 27, pos := "laws.go:176", after := #[{ on := 5, ground := Go.Ground.guard }], guard := some (5, true) }) (v := ?ve6_6) rfl (by kernel_rfl) (by kernel_rfl) (by kernel_rfl) (fun _ _ _ h => h) (Or.inl ⟨by rfl, ?he6_6⟩) hHeld ?re6_6
        case he6_6 =>
          intro wS hSw
          obtain ⟨q0, q1, q2, q3, q4, p0⟩ := unhide KP _ hSw
          clear hSw
          (try dsimp only at hSw)
          go_simp
          try with_reducible rfl
        case re6_6 =>
        simp only [Act.put, List.setIfInBounds_toArray, List.set_cons_zero, List.set_cons_succ]
        refine wpAnyH_take (i := 8) (oi := { dst := some 84, op := Go.Op.fieldAddr 38 (Go.Operand.tmp 8) 0, type := 0, pos := "laws.go:176", after := #[{ on := 5, ground := Go.Ground.guard }], guard := some (5, true) }) (v := ?ve8_7) rfl (by kernel_rfl) (by kernel_rfl) (by kernel_rfl) (fun _ _ _ h => h) (Or.inl ⟨by rfl, ?he8_7⟩) hHeld ?re8_7
        case he8_7 =>
          intro wS hSw
          (try dsimp only at hSw)
          go_simp
          try with_reducible rfl
        case re8_7 =>
        simp only [Act.put, List.setIfInBounds_toArray, List.set_cons_zero, List.set_cons_succ]
        refine wpAnyH_take (i := 9) (oi := { dst := some 85, op := Go.Op.load 2 (Go.Operand.tmp 84), type := 2, pos := "laws.go:176", after := #[{ on := 8, ground := Go.Ground.data }, { on := 5, ground := Go.Ground.guard }], guard := some (5, true) }) (v := ?ve9_8) rfl (by kernel_rfl) (by kernel_rfl) (by kernel_rfl) (fun _ _ _ h => h) (Or.inl ⟨by rfl, ?he9_8⟩) hHeld ?re9_8
        case he9_8 =>
          intro wS hSw
          obtain ⟨q0, q1, q2, q3, q4, p0⟩ := unhide KP _ hSw
          clear hSw
          (try dsimp only at hSw)
          go_simp
          try with_reducible rfl
        case re9_8 =>
        simp only [Act.put, List.setIfInBounds_toArray, List.set_cons_zero, List.set_cons_succ]
        refine wpAnyH_ready (rs := [7]) (by kernel_rfl) (by simp) ?_
        refine AllReadyH.cons (o := { dst := some 83, op := Go.Op.call { callee := Go.Callee.value (Go.Operand.func 16), args := #[Go.Operand.tmp 82], argTypes := #[27] }, type := 2, pos := "laws.go:176", after := #[{ on := 6, ground := Go.Ground.data }, { on := 5, ground := Go.Ground.chain }, { on := 5, ground := Go.Ground.guard }], guard := some (5, true) }) rfl (fun K hK => ?_) AllReadyH.nil
        go_simp
        go_at_call 16
        refine (unhide LF2 _ hHeld).mono ?_
        rintro e w4 ⟨rfl, hbx⟩
        try go_wp2_with fail
        refine hK.out _ _ (hHeld.trans (hbx.mono hHeld.size)) (fun hHeld => ?_)
        clear hK K
        try simp only [Act.put, List.setIfInBounds_toArray, List.set_cons_zero, List.set_cons_succ]
        refine wpAnyH_take (i := 10) (oi := { dst := some 86, op := Go.Op.binOp Go.BinOp.eql 2 (Go.Operand.tmp 83) (Go.Operand.tmp 85) 2, type := 4, pos := "laws.go:176", after := #[{ on := 7, ground := Go.Ground.data }, { on := 9, ground := Go.Ground.data }, { on := 5, ground := Go.Ground.guard }], guard := some (5, true) }) (v := ?ve10_9) rfl (by kernel_rfl) (by kernel_rfl) (by kernel_rfl) (fun _ _ _ h => h) (Or.inl ⟨by rfl, ?he10_9⟩) hHeld ?re10_9
        case he10_9 =>
          intro wS hSw
          (try dsimp only at hSw)
          go_simp
          try with_reducible rfl
        case re10_9 =>
        simp only [Act.put, List.setIfInBounds_toArray, List.set_cons_zero, List.set_cons_succ]
        refine wpAnyH_take (i := 11) (oi := { dst := some 87, op := Go.Op.pick (Go.Operand.tmp 81) (Go.Operand.tmp 86) (Go.Operand.const (Go.Value.bool false)), type := 4, pos := "laws.go:176", after := #[{ on := 5, ground := Go.Ground.data }, { on := 10, ground := Go.Ground.data }], guard := none }) (v := ?ve11_10) rfl (by kernel_rfl) (by kernel_rfl) (by kernel_rfl) (fun _ _ _ h => h) (Or.inl ⟨by rfl, ?he11_10⟩) hHeld ?re11_10
        case he11_10 =>
          intro wS hSw
          (try dsimp only at hSw)
          go_simp
          try with_reducible rfl
        case re11_10 =>
        simp only [Act.put, List.setIfInBounds_toArray, List.set_cons_zero, List.set_cons_succ]
        refine wpAnyH_take (i := 12) (oi := { dst := some 2, op := Go.Op.assign (Go.Operand.tmp 87), type := 4, pos := "laws.go:176", after := #[{ on := 11, ground := Go.Ground.data }, { on := 7, ground := Go.Ground.chain }, { on := 0, ground := Go.Ground.phase }, { on := 1, ground := Go.Ground.phase }, { on := 2, ground := Go.Ground.phase }, { on := 3, ground := Go.Ground.phase }, { on := 4, ground := Go.Ground.phase }, { on := 5, ground := Go.Ground.phase }, { on := 6, ground := Go.Ground.phase }, { on := 7, ground := Go.Ground.phase }, { on := 8, ground := Go.Ground.phase }, { on := 9, ground := Go.Ground.phase }, { on := 10, ground := Go.Ground.phase }, { on := 11, ground := Go.Ground.phase }], guard := none }) (v := ?ve12_11) rfl (by kernel_rfl) (by kernel_rfl) (by kernel_rfl) (fun _ _ _ h => h) (Or.inl ⟨by rfl, ?he12_11⟩) hHeld ?re12_11
        case he12_11 =>
          intro wS hSw
          (try dsimp only at hSw)
          go_simp
          try with_reducible rfl
        case re12_11 =>
        simp only [Act.put, List.setIfInBounds_toArray, List.set_cons_zero, List.set_cons_succ]
        refine wpAnyH_done (by kernel_rfl) ?_ _
        refine NoPanic.normal ?_
        have HB9 := hide ((unhide HBA).trans (hHeld.mono (unhide HBA).size))
        clear hHeld
        go_wp2_with fail
        go_ret
        exact ⟨rfl, unhide HB9⟩

end Go.Proofs.YtjofcmdlcoganaaGreatDoor
