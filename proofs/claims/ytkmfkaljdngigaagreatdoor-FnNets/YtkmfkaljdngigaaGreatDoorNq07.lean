/-
  Texts of this proof in one: ImplLost, ImplDropF, CountPlain, ImplCount, LawNets.
  Their conditions stand in their theorems.
-/
import Derived.Test.YtkmfkaljdngigaaGreatDoorNq06
import Derived.Deep.RegionHeld3
import Derived.Test.YtkmfkaljdngigaaGreatDoorNq05
import Derived.Test.YtkmfkaljdngigaaGreatDoorNq02
import Derived.Deep.CutRange

namespace Go.Proofs.YtkmfkaljdngigaaGreatDoor
open Go.RowKit

theorem dropMR_out2 {xs : List DMsg} {z : Int} (h : netFault xs = 0) (h2 : (decide (0 ≤ z) && decide (z < (xs.length : Int))) = false) : dropMR xs z = badNet 3 := by
  rw [dropMR, if_pos h, if_neg]
  intro q
  simp at h2
  omega
set_option maxRecDepth 10000 in
set_option maxHeartbeats 2000000 in
theorem lostC (v : Value) (xs : List DMsg) (z : Int) (w : World) (h : (Lay.sl Lay.tMsg).Reads w [v] xs) :
    Calls Tryz.prog 28 #[v, .int .i64 z] w fun e w' => SentE (dropMR xs z).code (dropMR xs z).msgs w w' e ∧ Below w.heap.size w w' := by
  obtain ⟨ao, cap, rfl⟩ := open_sl h
  have HL := hide (mustBeNetC _ xs w h)
  have H := hide h
  clear h
  go_enter Tryz.func28, Tryz.ntmps28
  go_wp2_with fail
  refine (unhide HL).mono ?_
  rintro e W ⟨he, hb⟩
  replace H := hide ((unhide H).later hb)
  have HB := hide hb
  clear hb HL
  by_cases hf : netFault xs = 0
  case neg =>
    rw [wrongE_bad hf] at he
    subst he
    have HF := hide (dropMR_net (z := z) hf)
    have HG := hide hf
    clear hf
    go_wp2_with fail
    exact ⟨rfl, by rw [unhide HF]; exact sentE_bad (unhide HG), unhide HB⟩
  case pos =>
  rw [wrongE_ok hf] at he
  subst he
  have HNF := hide hf
  have hlen := (netFault_zero hf).1
  clear hf
  cases d1 : decide (0 ≤ z)
  case false =>
    have HV := hide (dropMR_out2 (z := z) (unhide HNF) (by rw [d1]; rfl))
    go_wp2_with fail
    refine (mustF 3 _).mono ?_
    rintro e w9 ⟨rfl, h9⟩
    subst w9
    go_wp2_with fail
    exact ⟨rfl, by rw [unhide HV]; exact sentE_bad (by decide), unhide HB⟩
  case true =>
  cases d2 : decide (z < (xs.length : Int))
  case false =>
    have HV := hide (dropMR_out2 (z := z) (unhide HNF) (by rw [d1, d2]; rfl))
    go_wp2_with fail
    refine (mustF 3 _).mono ?_
    rintro e w9 ⟨rfl, h9⟩
    subst w9
    go_wp2_with fail
    exact ⟨rfl, by rw [unhide HV]; exact sentE_bad (by decide), unhide HB⟩
  case true =>
  go_wp2_with fail
  refine (mustT 3 _).mono ?_
  rintro e w9 ⟨rfl, h9⟩
  subst w9
  obtain ⟨k, rfl⟩ : ∃ k : Nat, z = k := ⟨z.toNat, by simp at d1; omega⟩
  have hk : k < xs.length := by simp at d2; omega
  clear d1 d2
  have HV := hide (dropMR_in (unhide HNF) hk)
  obtain ⟨b, off, rfl, hbl⟩ := Lay.sl_addr (unhide H) (by omega)
  have hcap : xs.length ≤ cap := (Lay.Reads.cap (unhide H)).2
  have hkc : k ≤ cap := by omega
  have HLI := hide (unhide H).liesIn
  have HU := hide (lies_take (unhide HLI) k (by omega))
  have HVS : Hid (∀ y ∈ xs.take k ++ xs.drop (k + 1), y.write.vec.length ≤ 10000000) := fun y hy => msgs_vecS (unhide HNF) y (by
    rcases List.mem_append.1 hy with hy | hy
    · exact List.mem_of_mem_take hy
    · exact List.mem_of_mem_drop hy)
  have HWW : Hid (w.heap.size ≤ W.heap.size) := (unhide HB).size
  by_cases hcp : cap = k + 1
  · subst hcp
    have HVV : Hid ((Lay.sl Lay.tMsg).LiesIn W [.slice (some ⟨b, off, none⟩) 0 0] (xs.drop (k + 1)) 0 W.heap.size) := by
      have e0 : xs.drop (k + 1) = [] := List.drop_eq_nil_of_le (by omega)
      show (Lay.sl Lay.tMsg).LiesIn W [.slice (some ⟨b, off, none⟩) 0 0] (xs.drop (k + 1)) 0 W.heap.size
      rw [e0]
      exact lies_none
    go_upto_region 3 with fail
    refine wp_region_noPanic ?_
    refine wp_region_held_drew (S := fun w' => Below W.heap.size W w') (by kernel_rfl) (Below.refl _ _).drew (fun hHeld => ?_)
    generalize W.drew = wD at hHeld ⊢
    refine wpAnyH_take (i := 0) (oi := { dst := some 16, op := Go.Op.move (Go.Operand.tmp 0), type := 24, pos := "l11_net.go:118", after := #[], guard := none }) (v := ?vp0) rfl (by kernel_rfl) (by kernel_rfl) (by kernel_rfl) (fun _ _ _ h => h) (Or.inl ⟨by rfl, ?hp0⟩) hHeld ?rp0
    case hp0 =>
      intro wS hSw
      (try dsimp only at hSw)
      go_simp
      try with_reducible rfl
    case rp0 =>
    simp only [Act.put, List.setIfInBounds_toArray, List.set_cons_zero, List.set_cons_succ]
    refine wpAnyH_take (i := 1) (oi := { dst := some 17, op := Go.Op.move (Go.Operand.tmp 1), type := 2, pos := "l11_net.go:118", after := #[], guard := none }) (v := ?vp1) rfl (by kernel_rfl) (by kernel_rfl) (by kernel_rfl) (fun _ _ _ h => h) (Or.inl ⟨by rfl, ?hp1⟩) hHeld ?rp1
    case hp1 =>
      intro wS hSw
      (try dsimp only at hSw)
      go_simp
      try with_reducible rfl
    case rp1 =>
    simp only [Act.put, List.setIfInBounds_toArray, List.set_cons_zero, List.set_cons_succ]
    refine wpAnyH_take (i := 2) (oi := { dst := some 18, op := Go.Op.slice 24 (Go.Operand.tmp 16) none (some (Go.Operand.tmp 17)) none, type := 24, pos := "l11_net.go:118", after := #[{ on := 0, ground := Go.Ground.data }, { on := 1, ground := Go.Ground.data }], guard := none }) (v := ?vp2) rfl (by kernel_rfl) (by kernel_rfl) (by kernel_rfl) (fun _ _ _ h => h) (Or.inl ⟨by rfl, ?hp2⟩) hHeld ?rp2
    case hp2 =>
      intro wS hSw
      clear hSw
      have q1 : (k : Int) ≤ (k : Int) + 1 := by omega
      (try dsimp only at hSw)
      go_simp
      try with_reducible rfl
    case rp2 =>
    simp only [Act.put, List.setIfInBounds_toArray, List.set_cons_zero, List.set_cons_succ]
    refine wpAnyH_take (i := 3) (oi := { dst := some 19, op := Go.Op.move (Go.Operand.tmp 0), type := 24, pos := "l11_net.go:118", after := #[], guard := none }) (v := ?vp3) rfl (by kernel_rfl) (by kernel_rfl) (by kernel_rfl) (fun _ _ _ h => h) (Or.inl ⟨by rfl, ?hp3⟩) hHeld ?rp3
    case hp3 =>
      intro wS hSw
      (try dsimp only at hSw)
      go_simp
      try with_reducible rfl
    case rp3 =>
    simp only [Act.put, List.setIfInBounds_toArray, List.set_cons_zero, List.set_cons_succ]
    refine wpAnyH_take (i := 4) (oi := { dst := some 20, op := Go.Op.move (Go.Operand.tmp 1), type := 2, pos := "l11_net.go:118", after := #[], guard := none }) (v := ?vp4) rfl (by kernel_rfl) (by kernel_rfl) (by kernel_rfl) (fun _ _ _ h => h) (Or.inl ⟨by rfl, ?hp4⟩) hHeld ?rp4
    case hp4 =>
      intro wS hSw
      (try dsimp only at hSw)
      go_simp
      try with_reducible rfl
    case rp4 =>
    simp only [Act.put, List.setIfInBounds_toArray, List.set_cons_zero, List.set_cons_succ]
    refine wpAnyH_take (i := 5) (oi := { dst := some 21, op := Go.Op.binOp Go.BinOp.add 2 (Go.Operand.tmp 20) (Go.Operand.const (Go.Value.int Go.IntKind.i64 1)) 2, type := 2, pos := "l11_net.go:118", after := #[{ on := 4, ground := Go.Ground.data }], guard := none }) (v := ?vp5) rfl (by kernel_rfl) (by kernel_rfl) (by kernel_rfl) (fun _ _ _ h => h) (Or.inl ⟨by rfl, ?hp5⟩) hHeld ?rp5
    case hp5 =>
      intro wS hSw
      clear hSw
      have q0 : IntKind.i64.wrap ((k : Int) + 1) = (k : Int) + 1 := by rw [IntKind.wrap_i64]; omega
      have q1 : (0 : Int) ≤ (k : Int) + 1 := by omega
      have q2 : (k : Int) + 1 ≤ (xs.length : Int) := by omega
      have q3 : ((k : Int) + 1).toNat = k + 1 := by omega
      have q4 : xs.length - (k + 1) = 0 := by omega
      (try dsimp only at hSw)
      go_simp
      try with_reducible rfl
    case rp5 =>
    simp only [Act.put, List.setIfInBounds_toArray, List.set_cons_zero, List.set_cons_succ]
    refine wpAnyH_take (i := 6) (oi := { dst := some 22, op := Go.Op.slice 24 (Go.Operand.tmp 19) (some (Go.Operand.tmp 21)) none none, type := 24, pos := "l11_net.go:118", after := #[{ on := 3, ground := Go.Ground.data }, { on := 5, ground := Go.Ground.data }], guard := none }) (v := ?vp6) rfl (by kernel_rfl) (by kernel_rfl) (by kernel_rfl) (fun _ _ _ h => h) (Or.inl ⟨by rfl, ?hp6⟩) hHeld ?rp6
    case hp6 =>
      intro wS hSw
      clear hSw
      have q0 : IntKind.i64.wrap ((k : Int) + 1) = (k : Int) + 1 := by rw [IntKind.wrap_i64]; omega
      have q1 : (0 : Int) ≤ (k : Int) + 1 := by omega
      have q2 : (k : Int) + 1 ≤ (xs.length : Int) := by omega
      have q3 : ((k : Int) + 1).toNat = k + 1 := by omega
      have q4 : xs.length - (k + 1) = 0 := by omega
      (try dsimp only at hSw)
      go_simp
      try with_reducible rfl
    case rp6 =>
    simp only [Act.put, List.setIfInBounds_toArray, List.set_cons_zero, List.set_cons_succ]
    refine wpAnyH_ready (rs := [7]) (by kernel_rfl) (by simp) ?_
    refine AllReadyH.cons (o := { dst := some 23, op := Go.Op.buildSlice 114 2 #[(0, Go.Operand.tmp 18), (1, Go.Operand.tmp 22)], type := 114, pos := "l11_net.go:118", after := #[{ on := 2, ground := Go.Ground.data }, { on := 6, ground := Go.Ground.data }], guard := none }) rfl (fun K hK => ?_) AllReadyH.nil
    have b7 : Box 0 #[.slice (some ⟨b, off, none⟩) k (k + 1), .slice (some ⟨b, off, none⟩) 0 0] 24 (wD.alloc (.cells #[.slice (some ⟨b, off, none⟩) k (k + 1), .slice (some ⟨b, off, none⟩) 0 0] 24)) wD.heap.size := newBox (Nat.zero_le _)
    have nb7 : Below wD.heap.size wD (wD.alloc (.cells #[.slice (some ⟨b, off, none⟩) k (k + 1), .slice (some ⟨b, off, none⟩) 0 0] 24)) := (Below.refl _ _).alloc (Nat.le_refl _) _
    have hS7 := hHeld.trans (nb7.mono hHeld.size)
    go_simp
    try go_wp2_with fail
    refine hK.out _ _ hS7 (fun hHeld => ?_)
    clear hK K
    try simp only [Act.put, List.setIfInBounds_toArray, List.set_cons_zero, List.set_cons_succ]
    refine wpAnyH_ready (rs := [8]) (by kernel_rfl) (by simp) ?_
    refine AllReadyH.cons (o := { dst := some 24, op := Go.Op.call { callee := Go.Callee.value (Go.Operand.func 59), args := #[Go.Operand.tmp 23], argTypes := #[114] }, type := 24, pos := "l11_net.go:118", after := #[{ on := 7, ground := Go.Ground.data }], guard := none }) rfl (fun K hK => ?_) AllReadyH.nil
    go_simp
    go_at_call 59
    refine (implConcatM wD.heap.size (.slice (some ⟨b, off, none⟩) k (k + 1)) (.slice (some ⟨b, off, none⟩) 0 0) (xs.take k) (xs.drop (k + 1)) _ (b7.at 0 _ rfl) (b7.at 1 _ rfl) ((unhide HU).later hS7).reads ((unhide HVV).later hS7).reads (by simp; omega) (by simp; omega)).mono ?_
    rintro e w8 ⟨r8, rfl, ⟨rows8, bls8, G8⟩, hb8⟩
    have hS8 := hS7.trans (hb8.mono hS7.size)
    try go_wp2_with fail
    refine hK.out _ _ hS8 (fun hHeld => ?_)
    clear hK K
    try simp only [Act.put, List.setIfInBounds_toArray, List.set_cons_zero, List.set_cons_succ]
    refine wpAnyH_ready (rs := [9]) (by kernel_rfl) (by simp) ?_
    refine AllReadyH.cons (o := { dst := some 25, op := Go.Op.call { callee := Go.Callee.value (Go.Operand.func 46), args := #[Go.Operand.tmp 24], argTypes := #[24] }, type := 24, pos := "l11_net.go:118", after := #[{ on := 8, ground := Go.Ground.data }, { on := 8, ground := Go.Ground.chain }], guard := none }) rfl (fun K hK => ?_) AllReadyH.nil
    go_simp
    go_at_call 46
    refine (copiedMsgsC _ (xs.take k ++ xs.drop (k + 1)) w8 (G8.toReads (by simp; omega)) (by simp; omega) (unhide HVS)).mono ?_
    rintro e w9 ⟨g9, rfl, O9, hb9, -⟩
    generalize xs.take k ++ xs.drop (k + 1) = ms at *
    have hS9 := hS8.trans (hb9.mono hS8.size)
    have HO9 := hide O9
    have HZ9 := hide hS8.size
    clear O9 G8
    try go_wp2_with fail
    refine hK.out _ _ hS9 (fun hHeld => ?_)
    clear hK K
    try simp only [Act.put, List.setIfInBounds_toArray, List.set_cons_zero, List.set_cons_succ]
    refine wpAnyH_take (i := 10) (oi := { dst := some 4, op := Go.Op.assign (Go.Operand.tmp 25), type := 24, pos := "l11_net.go:118", after := #[{ on := 9, ground := Go.Ground.data }, { on := 9, ground := Go.Ground.chain }, { on := 0, ground := Go.Ground.phase }, { on := 1, ground := Go.Ground.phase }, { on := 2, ground := Go.Ground.phase }, { on := 3, ground := Go.Ground.phase }, { on := 4, ground := Go.Ground.phase }, { on := 5, ground := Go.Ground.phase }, { on := 6, ground := Go.Ground.phase }, { on := 7, ground := Go.Ground.phase }, { on := 8, ground := Go.Ground.phase }, { on := 9, ground := Go.Ground.phase }], guard := none }) (v := ?vp10) rfl (by kernel_rfl) (by kernel_rfl) (by kernel_rfl) (fun _ _ _ h => h) (Or.inl ⟨by rfl, ?hp10⟩) hHeld ?rp10
    case hp10 =>
      intro wS hSw
      (try dsimp only at hSw)
      go_simp
      try with_reducible rfl
    case rp10 =>
    simp only [Act.put, List.setIfInBounds_toArray, List.set_cons_zero, List.set_cons_succ]
    refine wpAnyH_done (by kernel_rfl) ?_ _
    refine NoPanic.normal ?_
    replace HB := hide ((unhide HB).trans (hHeld.mono (unhide HB).size))
    clear hHeld hS7 hS8 hS9 hb8 hb9 b7 nb7
    go_wp2_with fail
    go_ret
    refine ⟨?_, unhide HB⟩
    rw [unhide HV]
    exact sentE_ok ((unhide HO9).mono (Nat.le_trans (unhide HWW) (unhide HZ9)) (Nat.le_refl _))
  · have hcl : k + 1 < cap := by omega
    have HVV := hide (lies_drop (unhide HLI) (k + 1) (cap - (k + 1)) (by omega) (by omega))
    go_upto_region 3 with fail
    refine wp_region_noPanic ?_
    refine wp_region_held_drew (S := fun w' => Below W.heap.size W w') (by kernel_rfl) (Below.refl _ _).drew (fun hHeld => ?_)
    generalize W.drew = wD at hHeld ⊢
    refine wpAnyH_take (i := 0) (oi := { dst := some 16, op := Go.Op.move (Go.Operand.tmp 0), type := 24, pos := "l11_net.go:118", after := #[], guard := none }) (v := ?vq0) rfl (by kernel_rfl) (by kernel_rfl) (by kernel_rfl) (fun _ _ _ h => h) (Or.inl ⟨by rfl, ?hq0⟩) hHeld ?rq0
    case hq0 =>
      intro wS hSw
      (try dsimp only at hSw)
      go_simp
      try with_reducible rfl
    case rq0 =>
    simp only [Act.put, List.setIfInBounds_toArray, List.set_cons_zero, List.set_cons_succ]
    refine wpAnyH_take (i := 1) (oi := { dst := some 17, op := Go.Op.move (Go.Operand.tmp 1), type := 2, pos := "l11_net.go:118", after := #[], guard := none }) (v := ?vq1) rfl (by kernel_rfl) (by kernel_rfl) (by kernel_rfl) (fun _ _ _ h => h) (Or.inl ⟨by rfl, ?hq1⟩) hHeld ?rq1
    case hq1 =>
      intro wS hSw
      (try dsimp only at hSw)
      go_simp
      try with_reducible rfl
    case rq1 =>
    simp only [Act.put, List.setIfInBounds_toArray, List.set_cons_zero, List.set_cons_succ]
    refine wpAnyH_take (i := 2) (oi := { dst := some 18, op := Go.Op.slice 24 (Go.Operand.tmp 16) none (some (Go.Operand.tmp 17)) none, type := 24, pos := "l11_net.go:118", after := #[{ on := 0, ground := Go.Ground.data }, { on := 1, ground := Go.Ground.data }], guard := none }) (v := ?vq2) rfl (by kernel_rfl) (by kernel_rfl) (by kernel_rfl) (fun _ _ _ h => h) (Or.inl ⟨by rfl, ?hq2⟩) hHeld ?rq2
    case hq2 =>
      intro wS hSw
      clear hSw
      have q1 : (k : Int) ≤ (cap : Int) := by omega
      (try dsimp only at hSw)
      go_simp
      try with_reducible rfl
    case rq2 =>
    simp only [Act.put, List.setIfInBounds_toArray, List.set_cons_zero, List.set_cons_succ]
    refine wpAnyH_take (i := 3) (oi := { dst := some 19, op := Go.Op.move (Go.Operand.tmp 0), type := 24, pos := "l11_net.go:118", after := #[], guard := none }) (v := ?vq3) rfl (by kernel_rfl) (by kernel_rfl) (by kernel_rfl) (fun _ _ _ h => h) (Or.inl ⟨by rfl, ?hq3⟩) hHeld ?rq3
    case hq3 =>
      intro wS hSw
      (try dsimp only at hSw)
      go_simp
      try with_reducible rfl
    case rq3 =>
    simp only [Act.put, List.setIfInBounds_toArray, List.set_cons_zero, List.set_cons_succ]
    refine wpAnyH_take (i := 4) (oi := { dst := some 20, op := Go.Op.move (Go.Operand.tmp 1), type := 2, pos := "l11_net.go:118", after := #[], guard := none }) (v := ?vq4) rfl (by kernel_rfl) (by kernel_rfl) (by kernel_rfl) (fun _ _ _ h => h) (Or.inl ⟨by rfl, ?hq4⟩) hHeld ?rq4
    case hq4 =>
      intro wS hSw
      (try dsimp only at hSw)
      go_simp
      try with_reducible rfl
    case rq4 =>
    simp only [Act.put, List.setIfInBounds_toArray, List.set_cons_zero, List.set_cons_succ]
    refine wpAnyH_take (i := 5) (oi := { dst := some 21, op := Go.Op.binOp Go.BinOp.add 2 (Go.Operand.tmp 20) (Go.Operand.const (Go.Value.int Go.IntKind.i64 1)) 2, type := 2, pos := "l11_net.go:118", after := #[{ on := 4, ground := Go.Ground.data }], guard := none }) (v := ?vq5) rfl (by kernel_rfl) (by kernel_rfl) (by kernel_rfl) (fun _ _ _ h => h) (Or.inl ⟨by rfl, ?hq5⟩) hHeld ?rq5
    case hq5 =>
      intro wS hSw
      clear hSw
      have q0 : IntKind.i64.wrap ((k : Int) + 1) = (k : Int) + 1 := by rw [IntKind.wrap_i64]; omega
      have q1 : (0 : Int) ≤ (k : Int) + 1 := by omega
      have q2 : (k : Int) + 1 ≤ (xs.length : Int) := by omega
      have q3 : ((k : Int) + 1).toNat = k + 1 := by omega
      (try dsimp only at hSw)
      go_simp
      try with_reducible rfl
    case rq5 =>
    simp only [Act.put, List.setIfInBounds_toArray, List.set_cons_zero, List.set_cons_succ]
    refine wpAnyH_take (i := 6) (oi := { dst := some 22, op := Go.Op.slice 24 (Go.Operand.tmp 19) (some (Go.Operand.tmp 21)) none none, type := 24, pos := "l11_net.go:118", after := #[{ on := 3, ground := Go.Ground.data }, { on := 5, ground := Go.Ground.data }], guard := none }) (v := ?vq6) rfl (by kernel_rfl) (by kernel_rfl) (by kernel_rfl) (fun _ _ _ h => h) (Or.inl ⟨by rfl, ?hq6⟩) hHeld ?rq6
    case hq6 =>
      intro wS hSw
      clear hSw
      have q0 : IntKind.i64.wrap ((k : Int) + 1) = (k : Int) + 1 := by rw [IntKind.wrap_i64]; omega
      have q1 : (0 : Int) ≤ (k : Int) + 1 := by omega
      have q2 : (k : Int) + 1 ≤ (xs.length : Int) := by omega
      have q3 : ((k : Int) + 1).toNat = k + 1 := by omega
      (try dsimp only at hSw)
      go_simp
      try with_reducible rfl
    case rq6 =>
    simp only [Act.put, List.setIfInBounds_toArray, List.set_cons_zero, List.set_cons_succ]
    refine wpAnyH_ready (rs := [7]) (by kernel_rfl) (by simp) ?_
    refine AllReadyH.cons (o := { dst := some 23, op := Go.Op.buildSlice 114 2 #[(0, Go.Operand.tmp 18), (1, Go.Operand.tmp 22)], type := 114, pos := "l11_net.go:118", after := #[{ on := 2, ground := Go.Ground.data }, { on := 6, ground := Go.Ground.data }], guard := none }) rfl (fun K hK => ?_) AllReadyH.nil
    have b7 : Box 0 #[.slice (some ⟨b, off, none⟩) k cap, .slice (some ⟨b, off + (k + 1) * 10, none⟩) (xs.length - (k + 1)) (cap - (k + 1))] 24 (wD.alloc (.cells #[.slice (some ⟨b, off, none⟩) k cap, .slice (some ⟨b, off + (k + 1) * 10, none⟩) (xs.length - (k + 1)) (cap - (k + 1))] 24)) wD.heap.size := newBox (Nat.zero_le _)
    have nb7 : Below wD.heap.size wD (wD.alloc (.cells #[.slice (some ⟨b, off, none⟩) k cap, .slice (some ⟨b, off + (k + 1) * 10, none⟩) (xs.length - (k + 1)) (cap - (k + 1))] 24)) := (Below.refl _ _).alloc (Nat.le_refl _) _
    have hS7 := hHeld.trans (nb7.mono hHeld.size)
    go_simp
    try go_wp2_with fail
    refine hK.out _ _ hS7 (fun hHeld => ?_)
    clear hK K
    try simp only [Act.put, List.setIfInBounds_toArray, List.set_cons_zero, List.set_cons_succ]
    refine wpAnyH_ready (rs := [8]) (by kernel_rfl) (by simp) ?_
    refine AllReadyH.cons (o := { dst := some 24, op := Go.Op.call { callee := Go.Callee.value (Go.Operand.func 59), args := #[Go.Operand.tmp 23], argTypes := #[114] }, type := 24, pos := "l11_net.go:118", after := #[{ on := 7, ground := Go.Ground.data }], guard := none }) rfl (fun K hK => ?_) AllReadyH.nil
    go_simp
    go_at_call 59
    refine (implConcatM wD.heap.size (.slice (some ⟨b, off, none⟩) k cap) (.slice (some ⟨b, off + (k + 1) * 10, none⟩) (xs.length - (k + 1)) (cap - (k + 1))) (xs.take k) (xs.drop (k + 1)) _ (b7.at 0 _ rfl) (b7.at 1 _ rfl) ((unhide HU).later hS7).reads ((unhide HVV).later hS7).reads (by simp; omega) (by simp; omega)).mono ?_
    rintro e w8 ⟨r8, rfl, ⟨rows8, bls8, G8⟩, hb8⟩
    have hS8 := hS7.trans (hb8.mono hS7.size)
    try go_wp2_with fail
    refine hK.out _ _ hS8 (fun hHeld => ?_)
    clear hK K
    try simp only [Act.put, List.setIfInBounds_toArray, List.set_cons_zero, List.set_cons_succ]
    refine wpAnyH_ready (rs := [9]) (by kernel_rfl) (by simp) ?_
    refine AllReadyH.cons (o := { dst := some 25, op := Go.Op.call { callee := Go.Callee.value (Go.Operand.func 46), args := #[Go.Operand.tmp 24], argTypes := #[24] }, type := 24, pos := "l11_net.go:118", after := #[{ on := 8, ground := Go.Ground.data }, { on := 8, ground := Go.Ground.chain }], guard := none }) rfl (fun K hK => ?_) AllReadyH.nil
    go_simp
    go_at_call 46
    refine (copiedMsgsC _ (xs.take k ++ xs.drop (k + 1)) w8 (G8.toReads (by simp; omega)) (by simp; omega) (unhide HVS)).mono ?_
    rintro e w9 ⟨g9, rfl, O9, hb9, -⟩
    generalize xs.take k ++ xs.drop (k + 1) = ms at *
    have hS9 := hS8.trans (hb9.mono hS8.size)
    have HO9 := hide O9
    have HZ9 := hide hS8.size
    clear O9 G8
    try go_wp2_with fail
    refine hK.out _ _ hS9 (fun hHeld => ?_)
    clear hK K
    try simp only [Act.put, List.setIfInBounds_toArray, List.set_cons_zero, List.set_cons_succ]
    refine wpAnyH_take (i := 10) (oi := { dst := some 4, op := Go.Op.assign (Go.Operand.tmp 25), type := 24, pos := "l11_net.go:118", after := #[{ on := 9, ground := Go.Ground.data }, { on := 9, ground := Go.Ground.chain }, { on := 0, ground := Go.Ground.phase }, { on := 1, ground := Go.Ground.phase }, { on := 2, ground := Go.Ground.phase }, { on := 3, ground := Go.Ground.phase }, { on := 4, ground := Go.Ground.phase }, { on := 5, ground := Go.Ground.phase }, { on := 6, ground := Go.Ground.phase }, { on := 7, ground := Go.Ground.phase }, { on := 8, ground := Go.Ground.phase }, { on := 9, ground := Go.Ground.phase }], guard := none }) (v := ?vq10) rfl (by kernel_rfl) (by kernel_rfl) (by kernel_rfl) (fun _ _ _ h => h) (Or.inl ⟨by rfl, ?hq10⟩) hHeld ?rq10
    case hq10 =>
      intro wS hSw
      (try dsimp only at hSw)
      go_simp
      try with_reducible rfl
    case rq10 =>
    simp only [Act.put, List.setIfInBounds_toArray, List.set_cons_zero, List.set_cons_succ]
    refine wpAnyH_done (by kernel_rfl) ?_ _
    refine NoPanic.normal ?_
    replace HB := hide ((unhide HB).trans (hHeld.mono (unhide HB).size))
    clear hHeld hS7 hS8 hS9 hb8 hb9 b7 nb7
    go_wp2_with fail
    go_ret
    refine ⟨?_, unhide HB⟩
    rw [unhide HV]
    exact sentE_ok ((unhide HO9).mono (Nat.le_trans (unhide HWW) (unhide HZ9)) (Nat.le_refl _))
end Go.Proofs.YtkmfkaljdngigaaGreatDoor

namespace Go.Proofs.YtkmfkaljdngigaaGreatDoor
open Go.RowKit

theorem drop_bad {xs : List DMsg} {z : Int} (h : (dropMR xs z).code ≠ 0) : dropMR xs z = badNet (dropMR xs z).code := by
  unfold dropMR at h ⊢
  split
  · rename_i q
    rw [if_pos q] at h
    split
    · rename_i q2; rw [if_pos q2] at h; exact absurd rfl h
    · rfl
  · rfl
theorem drop_vals (xs : List DMsg) (z : Int) : 0 ≤ (dropMR xs z).code ∧ (dropMR xs z).code ≤ 6 := by
  have h1 := netFault_vals xs
  unfold dropMR
  split
  · split
    · exact ⟨by show (0 : Int) ≤ 0; omega, by show (0 : Int) ≤ 6; omega⟩
    · decide
  · exact h1
set_option maxRecDepth 10000 in
theorem dropWork (v : Value) (xs : List DMsg) (z : Int) (g g2 : Nat) (w : World) (h : (Lay.sl Lay.tMsg).Reads w [v] xs)  (hx : Box 0 #[v] 24 w g) (hx2 : Box 0 #[.int .i64 z] 2 w g2) :
    Calls Tryz.prog 27 #[.pointer (some ⟨g, 0, none⟩), .pointer (some ⟨g2, 0, none⟩)] w fun e w' => SentE (dropMR xs z).code (dropMR xs z).msgs w w' e ∧ Below w.heap.size w w' := by
  have HL := hide (lostC v xs z w h)
  obtain ⟨ao, cap, rfl⟩ := open_sl h
  have z0 : w.cell? ⟨g, 0, none⟩ = some (.slice ao xs.length cap) := hx.at 0 _ rfl
  have c0 : w.cell? ⟨g2, 0, none⟩ = some (.int .i64 z) := hx2.at 0 _ rfl
  clear hx h hx2 
  go_enter Tryz.func27, Tryz.ntmps27
  go_wp2_with fail
  refine (unhide HL).mono ?_
  rintro e W2 ⟨he, hb⟩
  have HB := hide hb
  have HE := hide he
  clear hb HL z0 he
  by_cases hf : (dropMR xs z).code = 0
  · obtain ⟨v2, rfl, O⟩ := (unhide HE).1 hf
    have HO := hide O
    have HF := hide hf
    clear hf HE O
    go_wp2_with fail
    go_ret
    exact ⟨by rw [unhide HF]; exact sentE_ok (unhide HO), unhide HB⟩
  · obtain rfl := (unhide HE).2 hf
    have HF := hide hf
    clear hf HE
    go_wp2_with fail
    exact ⟨rfl, sentE_bad (unhide HF), unhide HB⟩
set_option maxRecDepth 10000 in
set_option maxHeartbeats 2000000 in
theorem implDropMsg (v : Value) (xs : List DMsg) (z : Int) (w : World) (h : (Lay.sl Lay.tMsg).Reads w [v] xs)  :
    Calls Tryz.prog 9 #[v, .int .i64 z] w fun e w' => ∃ cs, e = .returned (.agg cs.toArray) ∧ Lay.tNetResult.OwnIn w' cs (dropMR xs z) w.heap.size w'.heap.size ∧ Below w.heap.size w w' := by
  have hmf : ∀ (fn : Fn) (first cap : Array Value) (w : World), (Instr.makeFunc fn first cap).run Tryz.prog w = .ok (.func fn first cap) w := fun _ _ _ _ => rfl
  obtain ⟨ao, cap, rfl⟩ := open_sl h
  have nb1 : Below w.heap.size w (w.alloc (.cells #[.slice ao xs.length cap] 24)) := (Below.refl _ _).alloc (Nat.le_refl _) _
  have x1 : Box 0 #[.slice ao xs.length cap] 24 (w.alloc (.cells #[.slice ao xs.length cap] 24)) w.heap.size := newBox (Nat.zero_le _)
  have s1 : (w.alloc (.cells #[.slice ao xs.length cap] 24)).heap.size = w.heap.size + 1 := by simp
  have R1 := h.later nb1
  generalize hA1 : w.alloc (.cells #[.slice ao xs.length cap] 24) = A1 at *
  have nb2 : Below A1.heap.size A1 (A1.alloc (.cells #[.int .i64 z] 2)) := (Below.refl _ _).alloc (Nat.le_refl _) _
  have x2 : Box 0 #[.int .i64 z] 2 (A1.alloc (.cells #[.int .i64 z] 2)) A1.heap.size := newBox (Nat.zero_le _)
  have s2 : (A1.alloc (.cells #[.int .i64 z] 2)).heap.size = A1.heap.size + 1 := by simp
  replace x1 := x1.keep nb2
  have R2 := R1.later nb2
  generalize hA2 : A1.alloc (.cells #[.int .i64 z] 2) = A2 at *
  have nb3 : Below A2.heap.size A2 (A2.alloc (.cells #[.int .i64 0, .slice none 0 0] 33)) := (Below.refl _ _).alloc (Nat.le_refl _) _
  have x3 : Box 0 #[.int .i64 0, .slice none 0 0] 33 (A2.alloc (.cells #[.int .i64 0, .slice none 0 0] 33)) A2.heap.size := newBox (Nat.zero_le _)
  have s3 : (A2.alloc (.cells #[.int .i64 0, .slice none 0 0] 33)).heap.size = A2.heap.size + 1 := by simp
  replace x1 := x1.keep nb3
  replace x2 := x2.keep nb3
  have R3 := R2.later nb3
  have B3 : Below w.heap.size w (A2.alloc (.cells #[.int .i64 0, .slice none 0 0] 33)) := (nb1.trans (nb2.mono (by omega))).trans (nb3.mono (by omega))
  have HB := hide B3
  rw [s2, s1] at s3 x3
  rw [s1] at x2
  have HX1 := hide x1
  have HX2 := hide x2
  have HX3 := hide x3
  have HR := hide R3
  subst hA2
  subst hA1
  clear nb1 nb2 nb3 x1 x2 x3 R1 R2 R3 B3 s1 s2 h  
  go_enter Tryz.func9, Tryz.ntmps9
  go_upto_region 1 with fail
  generalize ((w.alloc (.cells #[.slice ao xs.length cap] 24)).alloc (.cells #[.int .i64 z] 2)).alloc (.cells #[.int .i64 0, .slice none 0 0] 33) = W1 at *
  have nb : Below W1.heap.size W1 (W1.alloc (.cells #[.int .i64 0] 2)) := (Below.refl _ _).alloc (Nat.le_refl _) _
  have HW := hide (dropWork _ xs z w.heap.size (w.heap.size + 1) _ ((unhide HR).later nb)  ((unhide HX1).keep nb) ((unhide HX2).keep nb))
  have hz : (W1.alloc (.cells #[.int .i64 0] 2)).heap.size = W1.heap.size + 1 := by simp
  have HZ := hide hz
  have HS := hide s3
  clear nb hz s3
  by_cases hf : (dropMR xs z).code = 0
  · have HL := hide (faced_ok_msgs 27 #[.pointer (some ⟨w.heap.size, 0, none⟩), .pointer (some ⟨w.heap.size + 1, 0, none⟩)] W1 (fun v w' => (Lay.sl Lay.tMsg).OwnIn w' [v] (dropMR xs z).msgs (W1.heap.size + 1) w'.heap.size) (fun _ => by rfl) ((unhide HW).mono (by
      rintro e w' ⟨he, hb⟩
      obtain ⟨v2, he2, O⟩ := he.1 hf
      rw [unhide HZ] at hb O
      exact ⟨v2, he2, O, hb⟩)))
    have HF : Hid (dropMR xs z = ⟨0, (dropMR xs z).msgs⟩) := by
      show dropMR xs z = _
      rw [← hf]
    clear hf HW
    go_wp2_with fail
    refine (unhide HL).mono ?_
    rintro e W2 ⟨v, W3, rfl, O, hW, hb, -⟩
    obtain ⟨a9, d9, rfl⟩ := open_sl O.reads
    have hE : Ext (fun q => q = W1.heap.size) W3 W2 := by rw [hW]; exact (Ext.refl (fun q => q = W1.heap.size) _).setCell ⟨W1.heap.size, 0, none⟩ _ rfl
    have hsz : W3.heap.size = W2.heap.size := by rw [hW]; simp
    have hs3 := unhide HS
    have O2 := O.ext hE (fun q h1 h2 h3 => by omega)
    rw [hsz] at O2
    replace HX3 := hide ((unhide HX3).keep hb)
    replace HB := hide ((unhide HB).trans (hb.mono (unhide HB).size))
    clear hE hsz O hW
    generalize (dropMR xs z).msgs = ms at *
    have z0 : W2.cell? ⟨w.heap.size + 1 + 1, 0, none⟩ = some (.int .i64 0) := (unhide HX3).at 0 _ rfl
    have z1 : W2.cell? ⟨w.heap.size + 1 + 1, 1, none⟩ = some (.slice none 0 0) := (unhide HX3).at 1 _ rfl
    have ff := (unhide HX3).soft
    have l0 := (unhide HX3).lt
    have HB2 := hide (below_setAll (unhide HB) (w.heap.size + 1 + 1) 0 [.int .i64 0, .slice a9 ms.length d9] (by omega))
    have HO2 := hide (own_store' (s := w.heap.size + 1 + 1) (vs := [.int .i64 0, .slice a9 ms.length d9]) O2 (by omega))
    have HZ2 : Hid ((setAll W2 (w.heap.size + 1 + 1) 0 [.int .i64 0, .slice a9 ms.length d9]).heap.size = W2.heap.size) := size_setAll _ _ _ _
    have HLE : Hid (w.heap.size ≤ W1.heap.size + 1) := by show w.heap.size ≤ W1.heap.size + 1; omega
    clear hb HL HX1 HX2 HX3 HR HB HZ HS O2 hs3
    go_wp2_with fail
    refine bodyPost_ret (v := .agg #[.int .i64 0, .slice a9 ms.length d9]) (by simp [results, Tryz.results9, go_sem, z0, z1]) rfl ?_
    rw [unhide HF]
    exact ⟨[_, _], rfl, own_netR (by decide) ((unhide HO2).mono (unhide HLE) (Nat.le_of_eq (unhide HZ2).symm)), unhide HB2⟩
  · have HL := hide (faced_bad_msgs 27 #[.pointer (some ⟨w.heap.size, 0, none⟩), .pointer (some ⟨w.heap.size + 1, 0, none⟩)] (dropMR xs z).code W1 (fun _ => by rfl) ((unhide HW).mono (by
      rintro e w' ⟨he, hb⟩
      rw [unhide HZ] at hb
      exact ⟨he.2 hf, hb⟩)))
    have HF := hide (drop_bad hf)
    have hv := drop_vals xs z
    clear hf HW HZ HS
    go_wp2_with fail
    refine (unhide HL).mono ?_
    rintro e W2 ⟨rfl, hb⟩
    replace HX3 := hide ((unhide HX3).keep hb)
    replace HB := hide ((unhide HB).trans (hb.mono (unhide HB).size))
    generalize (dropMR xs z).code = f at *
    have z0 : W2.cell? ⟨w.heap.size + 1 + 1, 0, none⟩ = some (.int .i64 0) := (unhide HX3).at 0 _ rfl
    have z1 : W2.cell? ⟨w.heap.size + 1 + 1, 1, none⟩ = some (.slice none 0 0) := (unhide HX3).at 1 _ rfl
    have ff := (unhide HX3).soft
    have l0 := (unhide HX3).lt
    have HB2 := hide (below_setAll (unhide HB) (w.heap.size + 1 + 1) 0 [.int .i64 f, .slice none 0 0] (by omega))
    clear hb HL HX1 HX2 HX3 HR HB
    go_wp2_with fail
    refine bodyPost_ret (v := .agg #[.int .i64 f, .slice none 0 0]) (by simp [results, Tryz.results9, go_sem, z0, z1]) rfl ?_
    rw [unhide HF]
    exact ⟨[_, _], rfl, own_badNet (by omega), unhide HB2⟩
end Go.Proofs.YtkmfkaljdngigaaGreatDoor

namespace Go.Proofs.YtkmfkaljdngigaaGreatDoor
open Go.RowKit

theorem countM_step (xs : List DMsg) (z : Int) (k : Nat) (hk : k < xs.length) : countM (xs.take (k + 1)) z = countM (xs.take k) z + (if xs[k].dst == z then 1 else 0) := by
  rw [List.take_succ_eq_append_getElem hk, countM, countM, List.filter_append, List.length_append]
  congr 1
  cases h : (xs[k].dst == z)
  · simp [h]
  · simp [h]
theorem own_intRM {w : World} {c n : Int} {lo hi : Nat} (hc : -1000000000 ≤ c ∧ c ≤ 1000000000) (hn : -1000000000 ≤ n ∧ n ≤ 1000000000) : Lay.tIntResult.OwnIn w [.int .i64 c, .int .i64 n] ⟨c, n⟩ lo hi :=
  ⟨[], ⟨lies_IntResult.2 ⟨rfl, rfl, wf_of_bd hc, wf_of_bd hn⟩, by simp, by simp⟩, by simp⟩
end Go.Proofs.YtkmfkaljdngigaaGreatDoor

namespace Go.Proofs.YtkmfkaljdngigaaGreatDoor
open Go.RowKit

set_option maxRecDepth 10000 in
set_option maxHeartbeats 4000000 in
theorem countToC (v : Value) (xs : List DMsg) (z : Int) (w : World) (h : (Lay.sl Lay.tMsg).Reads w [v] xs) :
    Calls Tryz.prog 26 #[v, .int .i64 z] w fun e w' => e = workE (.int .i64 (countM xs z : Nat)) (netFault xs) ∧ Below w.heap.size w w' := by
  have hbig := h.big
  have HL := hide (mustBeNetC v xs w h)
  obtain ⟨ao, cap, rfl⟩ := open_sl h
  have H := hide h
  clear h
  go_enter Tryz.func26, Tryz.ntmps26
  go_wp2_with fail
  refine (unhide HL).mono ?_
  rintro e W1 ⟨he, hb⟩
  have HB := hide hb
  clear hb HL
  by_cases hf : netFault xs = 0
  · rw [wrongE_ok hf] at he
    subst he
    have hlen := (netFault_zero hf).1
    have HE : Hid (workE (.int .i64 (countM xs z : Nat)) (netFault xs) = .returned (.int .i64 (countM xs z : Nat))) := workE_ok hf
    clear hf
    go_wp2_with fail
    go_loopw [5, 12] (fun n i wr => ∃ k : Nat, k ≤ xs.length ∧ i = .int .i64 k ∧ n = .int .i64 (countM (xs.take k) z : Nat) ∧ Below w.heap.size w wr) (fun _ i _ => xs.length - (intOf i).toNat)
    case atStart => exact ⟨0, Nat.zero_le _, rfl, rfl, unhide HB⟩
    case round =>
      obtain ⟨k, hk, rfl, rfl, hB⟩ := hrel
      clear HB
      by_cases hlt : k < xs.length
      · obtain ⟨b, off, rfl, hbl⟩ := Lay.sl_addr (unhide H) (by omega)
        obtain ⟨row, hc, hr⟩ := Lay.row_at (unhide H) hlt
        have hdl : decide ((k : Int) < (xs.length : Int)) = true := by simp; omega
        obtain ⟨a, d, rfl, -⟩ := open_Msg hr
        have c0 : wr.cell? ⟨b, off + k * 10, none⟩ = some (.int .i64 (xs[k]).kind) := (hB.cell (p := ⟨b, off + k * 10, none⟩) hbl).trans (hc 0 (by decide))
        have c1 : wr.cell? ⟨b, off + k * 10 + 1, none⟩ = some (.int .i64 (xs[k]).epoch) := (hB.cell (p := ⟨b, off + k * 10 + 1, none⟩) hbl).trans (hc 1 (by decide))
        have c2 : wr.cell? ⟨b, off + k * 10 + 2, none⟩ = some (.int .i64 (xs[k]).src) := (hB.cell (p := ⟨b, off + k * 10 + 2, none⟩) hbl).trans (hc 2 (by decide))
        have c3 : wr.cell? ⟨b, off + k * 10 + 3, none⟩ = some (.int .i64 (xs[k]).dst) := (hB.cell (p := ⟨b, off + k * 10 + 3, none⟩) hbl).trans (hc 3 (by decide))
        have c4 : wr.cell? ⟨b, off + k * 10 + 4, none⟩ = some (.int .i64 (xs[k]).index) := (hB.cell (p := ⟨b, off + k * 10 + 4, none⟩) hbl).trans (hc 4 (by decide))
        have c5 : wr.cell? ⟨b, off + k * 10 + 5, none⟩ = some (.int .i64 (xs[k]).write.kind) := (hB.cell (p := ⟨b, off + k * 10 + 5, none⟩) hbl).trans (hc 5 (by decide))
        have c6 : wr.cell? ⟨b, off + k * 10 + 6, none⟩ = some (.int .i64 (xs[k]).write.id) := (hB.cell (p := ⟨b, off + k * 10 + 6, none⟩) hbl).trans (hc 6 (by decide))
        have c7 : wr.cell? ⟨b, off + k * 10 + 7, none⟩ = some (.slice a (xs[k]).write.vec.length d) := (hB.cell (p := ⟨b, off + k * 10 + 7, none⟩) hbl).trans (hc 7 (by decide))
        have c8 : wr.cell? ⟨b, off + k * 10 + 8, none⟩ = some (.int .i64 (xs[k]).write.session) := (hB.cell (p := ⟨b, off + k * 10 + 8, none⟩) hbl).trans (hc 8 (by decide))
        have c9 : wr.cell? ⟨b, off + k * 10 + 9, none⟩ = some (.int .i64 (xs[k]).write.seq) := (hB.cell (p := ⟨b, off + k * 10 + 9, none⟩) hbl).trans (hc 9 (by decide))
        have hst := countM_step xs z k hlt
        have hle := countM_le (xs.take k) z
        rw [List.length_take] at hle
        have hle2 : countM (xs.take k) z ≤ 40 := by omega
        have HST := hide hst
        have HB := hide hB
        clear hr hB hc hst hle
        generalize hx : xs[k] = x at *
        generalize countM (xs.take k) z = m at *
        clear hx
        have nb : Below wr.heap.size wr (wr.alloc (.cells #[.int .i64 x.kind, .int .i64 x.epoch, .int .i64 x.src, .int .i64 x.dst, .int .i64 x.index, .int .i64 x.write.kind, .int .i64 x.write.id, .slice a x.write.vec.length d, .int .i64 x.write.session, .int .i64 x.write.seq] 29)) := (Below.refl _ _).alloc (Nat.le_refl _) _
        replace HB := hide ((unhide HB).trans (nb.mono (unhide HB).size))
        clear nb
        cases e1 : (x.dst == z)
        · have HN : Hid (countM (xs.take (k + 1)) z = m) := by have q := unhide HST; rw [e1] at q; exact q
          clear HST
          go_wp2_with fail
          go_roundw
          case rel => exact ⟨k + 1, by omega, by go_num, by rw [unhide HN], unhide HB⟩
          case measure => simp [intOf]; omega
        · have HN : Hid (countM (xs.take (k + 1)) z = m + 1) := by have q := unhide HST; rw [e1] at q; exact q
          clear HST
          go_wp2_with fail
          go_roundw
          case rel => exact ⟨k + 1, by omega, by go_num, by rw [unhide HN]; go_num, unhide HB⟩
          case measure => simp [intOf]; omega
      · obtain rfl : k = xs.length := by omega
        have hdl : decide ((xs.length : Int) < (xs.length : Int)) = false := by simp
        rw [List.take_length]
        have HB := hide hB
        clear hB
        go_wp2_with fail
        go_ret
        exact ⟨(unhide HE).symm, unhide HB⟩
  · rw [wrongE_bad hf] at he
    subst he
    have HF := hide hf
    clear hf
    go_wp2_with fail
    exact ⟨rfl, (workE_bad (unhide HF)).symm, unhide HB⟩
set_option maxRecDepth 10000 in
theorem countWork (v : Value) (xs : List DMsg) (z : Int) (g g2 : Nat) (w : World) (h : (Lay.sl Lay.tMsg).Reads w [v] xs) (hx : Box 0 #[v] 24 w g) (hx2 : Box 0 #[.int .i64 z] 2 w g2) :
    Calls Tryz.prog 25 #[.pointer (some ⟨g, 0, none⟩), .pointer (some ⟨g2, 0, none⟩)] w fun e w' => e = workE (.int .i64 (countM xs z : Nat)) (netFault xs) ∧ Below w.heap.size w w' := by
  have HL := hide (countToC v xs z w h)
  obtain ⟨ao, cap, rfl⟩ := open_sl h
  have z0 : w.cell? ⟨g, 0, none⟩ = some (.slice ao xs.length cap) := hx.at 0 _ rfl
  have z1 : w.cell? ⟨g2, 0, none⟩ = some (.int .i64 z) := hx2.at 0 _ rfl
  clear hx h hx2
  go_enter Tryz.func25, Tryz.ntmps25
  go_wp2_with fail
  refine (unhide HL).mono ?_
  rintro e W2 ⟨he, hb⟩
  have HB := hide hb
  clear hb HL z0 z1
  by_cases hf : netFault xs = 0
  · rw [workE_ok hf] at he
    subst he
    have HF := hide hf
    clear hf
    go_wp2_with fail
    go_ret
    exact ⟨(workE_ok (unhide HF)).symm, unhide HB⟩
  · rw [workE_bad hf] at he
    subst he
    have HF := hide hf
    clear hf
    go_wp2_with fail
    exact ⟨rfl, (workE_bad (unhide HF)).symm, unhide HB⟩
set_option maxRecDepth 10000 in
set_option maxHeartbeats 1000000 in
theorem implCountMsgs (v : Value) (xs : List DMsg) (z : Int) (w : World) (h : (Lay.sl Lay.tMsg).Reads w [v] xs) :
    Calls Tryz.prog 8 #[v, .int .i64 z] w fun e w' => ∃ cs, e = .returned (.agg cs.toArray) ∧ Lay.tIntResult.OwnIn w' cs (countR xs z) w.heap.size w'.heap.size ∧ Below w.heap.size w w' := by
  have hmf : ∀ (fn : Fn) (first cap : Array Value) (w : World), (Instr.makeFunc fn first cap).run Tryz.prog w = .ok (.func fn first cap) w := fun _ _ _ _ => rfl
  obtain ⟨ao, cap, rfl⟩ := open_sl h
  have nb1 : Below w.heap.size w (w.alloc (.cells #[.slice ao xs.length cap] 24)) := (Below.refl _ _).alloc (Nat.le_refl _) _
  have x1 : Box 0 #[.slice ao xs.length cap] 24 (w.alloc (.cells #[.slice ao xs.length cap] 24)) w.heap.size := newBox (Nat.zero_le _)
  have s1 : (w.alloc (.cells #[.slice ao xs.length cap] 24)).heap.size = w.heap.size + 1 := by simp
  have R1 := h.later nb1
  generalize hA1 : w.alloc (.cells #[.slice ao xs.length cap] 24) = A1 at *
  have nb2 : Below A1.heap.size A1 (A1.alloc (.cells #[.int .i64 z] 2)) := (Below.refl _ _).alloc (Nat.le_refl _) _
  have x2 : Box 0 #[.int .i64 z] 2 (A1.alloc (.cells #[.int .i64 z] 2)) A1.heap.size := newBox (Nat.zero_le _)
  have s2 : (A1.alloc (.cells #[.int .i64 z] 2)).heap.size = A1.heap.size + 1 := by simp
  replace x1 := x1.keep nb2
  have R2 := R1.later nb2
  generalize hA2 : A1.alloc (.cells #[.int .i64 z] 2) = A2 at *
  have nb3 : Below A2.heap.size A2 (A2.alloc (.cells #[.int .i64 0, .int .i64 0] 36)) := (Below.refl _ _).alloc (Nat.le_refl _) _
  have x3 : Box 0 #[.int .i64 0, .int .i64 0] 36 (A2.alloc (.cells #[.int .i64 0, .int .i64 0] 36)) A2.heap.size := newBox (Nat.zero_le _)
  have s3 : (A2.alloc (.cells #[.int .i64 0, .int .i64 0] 36)).heap.size = A2.heap.size + 1 := by simp
  replace x1 := x1.keep nb3
  replace x2 := x2.keep nb3
  have R3 := R2.later nb3
  have B3 : Below w.heap.size w (A2.alloc (.cells #[.int .i64 0, .int .i64 0] 36)) := (nb1.trans (nb2.mono (by omega))).trans (nb3.mono (by omega))
  have HB := hide B3
  rw [s2, s1] at s3 x3
  rw [s1] at x2
  have HX1 := hide x1
  have HX2 := hide x2
  have HX3 := hide x3
  have HR := hide R3
  subst hA2
  subst hA1
  clear nb1 nb2 nb3 x1 x2 x3 R1 R2 R3 B3 s1 s2 h
  go_enter Tryz.func8, Tryz.ntmps8
  go_upto_region 1 with fail
  generalize ((w.alloc (.cells #[.slice ao xs.length cap] 24)).alloc (.cells #[.int .i64 z] 2)).alloc (.cells #[.int .i64 0, .int .i64 0] 36) = W1 at *
  have nb : Below W1.heap.size W1 (W1.alloc (.cells #[.int .i64 0] 2)) := (Below.refl _ _).alloc (Nat.le_refl _) _
  have HW := hide (countWork _ xs z w.heap.size (w.heap.size + 1) _ ((unhide HR).later nb) ((unhide HX1).keep nb) ((unhide HX2).keep nb))
  have hz : (W1.alloc (.cells #[.int .i64 0] 2)).heap.size = W1.heap.size + 1 := by simp
  have HZ := hide hz
  have HS := hide s3
  clear nb hz s3
  by_cases hf : netFault xs = 0
  · have HL := hide (faced_ok_int 25 #[.pointer (some ⟨w.heap.size, 0, none⟩), .pointer (some ⟨w.heap.size + 1, 0, none⟩)] W1 (fun v w' => v = .int .i64 (countM xs z : Nat) ∧ Below (W1.heap.size + 1) (W1.alloc (.cells #[.int .i64 0] 2)) w') (fun _ => by rfl) ((unhide HW).mono (by
      rintro e w' ⟨he, hb⟩
      rw [workE_ok hf] at he
      rw [unhide HZ] at hb
      exact ⟨_, he, ⟨rfl, hb⟩, hb⟩)))
    have HF : Hid (countR xs z = ⟨0, (countM xs z : Nat)⟩) := by show countR xs z = _; rw [countR, if_pos hf]
    have hle := countM_le xs z
    have hlen := (netFault_zero hf).1
    have hle2 : countM xs z ≤ 40 := by omega
    clear hf HW hle hlen
    go_wp2_with fail
    refine (unhide HL).mono ?_
    rintro e W2 ⟨v, W3, rfl, ⟨rfl, -⟩, -, hb, -⟩
    replace HX3 := hide ((unhide HX3).keep hb)
    replace HB := hide ((unhide HB).trans (hb.mono (unhide HB).size))
    generalize countM xs z = m at *
    have z0 : W2.cell? ⟨w.heap.size + 1 + 1, 0, none⟩ = some (.int .i64 0) := (unhide HX3).at 0 _ rfl
    have z1 : W2.cell? ⟨w.heap.size + 1 + 1, 1, none⟩ = some (.int .i64 0) := (unhide HX3).at 1 _ rfl
    have ff := (unhide HX3).soft
    have l0 := (unhide HX3).lt
    have HB2 := hide (below_setAll (unhide HB) (w.heap.size + 1 + 1) 0 [.int .i64 0, .int .i64 (m : Nat)] (by omega))
    clear hb HL HX1 HX2 HX3 HR HB HZ HS
    go_wp2_with fail
    refine bodyPost_ret (v := .agg #[.int .i64 0, .int .i64 (m : Nat)]) (by simp [results, Tryz.results8, go_sem, z0, z1]) rfl ?_
    rw [unhide HF]
    exact ⟨[_, _], rfl, own_intRM (by decide) (by omega), unhide HB2⟩
  · have HL := hide (faced_bad_int 25 #[.pointer (some ⟨w.heap.size, 0, none⟩), .pointer (some ⟨w.heap.size + 1, 0, none⟩)] (netFault xs) W1 (fun _ => by rfl) ((unhide HW).mono (by
      rintro e w' ⟨he, hb⟩
      rw [workE_bad hf] at he
      rw [unhide HZ] at hb
      exact ⟨he, hb⟩)))
    have HF : Hid (countR xs z = ⟨netFault xs, 0⟩) := by show countR xs z = _; rw [countR, if_neg hf]
    have hv := netFault_vals xs
    clear hf HW HZ HS
    go_wp2_with fail
    refine (unhide HL).mono ?_
    rintro e W2 ⟨rfl, hb⟩
    replace HX3 := hide ((unhide HX3).keep hb)
    replace HB := hide ((unhide HB).trans (hb.mono (unhide HB).size))
    generalize netFault xs = f at *
    have z0 : W2.cell? ⟨w.heap.size + 1 + 1, 0, none⟩ = some (.int .i64 0) := (unhide HX3).at 0 _ rfl
    have z1 : W2.cell? ⟨w.heap.size + 1 + 1, 1, none⟩ = some (.int .i64 0) := (unhide HX3).at 1 _ rfl
    have ff := (unhide HX3).soft
    have l0 := (unhide HX3).lt
    have HB2 := hide (below_setAll (unhide HB) (w.heap.size + 1 + 1) 0 [.int .i64 f, .int .i64 0] (by omega))
    clear hb HL HX1 HX2 HX3 HR HB
    go_wp2_with fail
    refine bodyPost_ret (v := .agg #[.int .i64 f, .int .i64 0]) (by simp [results, Tryz.results8, go_sem, z0, z1]) rfl ?_
    rw [unhide HF]
    exact ⟨[_, _], rfl, own_intRM (by omega) (by decide), unhide HB2⟩
end Go.Proofs.YtkmfkaljdngigaaGreatDoor

namespace Go.Proofs.YtkmfkaljdngigaaGreatDoor
open Go.RowKit

theorem fieldNC0 (c : Int) (a : Option Addr) (n cp : Nat) (w : World) : (Instr.field 33 (.agg #[.int .i64 c, .slice a n cp]) 0).run Tryz.prog w = .ok (.int .i64 c) w := by kernel_rfl
theorem fieldNT1 (c : Int) (s : ByteArray) (w : World) : (Instr.field 40 (.agg #[.int .i64 c, .string s]) 1).run Tryz.prog w = .ok (.string s) w := by kernel_rfl
theorem ba_reflN (t : ByteArray) : (t == t) = true := by
  first | exact beq_self_eq_true t | (cases t with | mk d => exact beq_self_eq_true d)
theorem int_partsN {w : World} {cs : List Value} {y : DIntResult} {lo hi : Nat} (h : Lay.tIntResult.OwnIn w cs y lo hi) : cs = [.int .i64 y.code, .int .i64 y.value] := by
  obtain ⟨bl, l⟩ := h.reads
  exact (lies_IntResult.1 l).1
theorem text_partsN {w : World} {cs : List Value} {y : DTextResult} {lo hi : Nat} (h : Lay.tTextResult.OwnIn w cs y lo hi) : cs = [.int .i64 y.code, .string y.text] := by
  obtain ⟨bl, l⟩ := h.reads
  exact (lies_TextResult.1 l).1
theorem net_partsN {w : World} {cs : List Value} {y : DNetResult} (h : Lay.tNetResult.Reads w cs y) : ∃ a d, cs = [.int .i64 y.code, .slice a y.msgs.length d] ∧ (Lay.sl Lay.tMsg).Reads w [.slice a y.msgs.length d] y.msgs := by
  obtain ⟨bl, l⟩ := h
  obtain ⟨a, d, b1, rfl, -, -, l2⟩ := lies_NetResult.1 l
  exact ⟨a, d, rfl, ⟨b1, l2⟩⟩
theorem specNetsText (cs : List Value) (x : DMsg) (w : World) (h : Lay.tMsg.Reads w cs x) : Calls Tryz.prog 12 #[.agg cs.toArray] w fun e w' => e = .returned (.agg #[.int .i64 (textMR x).code, .string (textMR x).text]) ∧ Below w.heap.size w w' := by
  refine (specMsgText cs x w h).mono ?_
  rintro e w' ⟨cs, rfl, O, hb⟩
  obtain rfl := text_partsN O
  exact ⟨rfl, hb⟩
theorem specNetsSend (v : Value) (xs : List DMsg) (cs : List Value) (x : DMsg) (w : World) (h : (Lay.sl Lay.tMsg).Reads w [v] xs) (hx : Lay.tMsg.Reads w cs x) : Calls Tryz.prog 7 #[v, .agg cs.toArray] w fun e w' => (∃ a n d, e = .returned (.agg #[.int .i64 (sendR xs x).code, .slice a n d])) ∧ Below w.heap.size w w' := by
  refine (specSendMsg v xs cs x w h hx).mono ?_
  rintro e w' ⟨cs, rfl, O, hb⟩
  obtain ⟨a, d, rfl, -⟩ := net_partsN O.reads
  exact ⟨⟨a, _, d, rfl⟩, hb⟩

set_option maxRecDepth 10000 in
theorem lawNets_many (ao : Option Addr) (len cap : Nat) (w : World) (hn : 1048576 < len) :
    Calls Tryz.prog 3 #[.slice ao len cap] w fun e w' => e = .returned (.bool true) ∧ Below w.heap.size w w' := by
  go_enter Tryz.func3, Tryz.ntmps3
  go_wp2_with fail
  refine (big_yes ao len cap w hn).mono ?_
  rintro e w' ⟨rfl, rfl⟩
  go_wp2_with fail
  go_ret
  exact ⟨rfl, Below.refl _ _⟩

set_option maxRecDepth 100000 in
set_option maxHeartbeats 8000000 in
theorem lawNets_few (ao : Option Addr) (len cap : Nat) (w : World) (hn : len ≤ 1048576) (hcode : IsCode w.heap.size w (.slice ao len cap)) (ht : Tab w) :
    Calls Tryz.prog 3 #[.slice ao len cap] w fun e w' => e = .returned (.bool true) ∧ Below w.heap.size w w' := by
  have HC := hide hcode
  have HT := hide ht
  clear hcode ht
  go_enter Tryz.func3, Tryz.ntmps3
  go_wp2_with fail
  refine (big_no ao len cap w hn).mono ?_
  rintro e w ⟨rfl, rfl⟩
  go_wp2_with fail
  refine (drawSM ao len cap w (unhide HC)).mono ?_
  rintro e w1 ⟨v, xs, cs, x, rfl, hXS, hX, hlen, hb⟩
  obtain ⟨a8, c8, rfl⟩ := open_sl hXS
  obtain ⟨a, d, rfl, -⟩ := open_Msg hX
  have HRS := hide hXS
  have HRX := hide hX
  have HB := hide hb
  replace HT := hide ((unhide HT).later hb)
  clear hXS hX hb HC
  have nb : Below w1.heap.size w1 (w1.alloc (.cells #[.int .i64 x.kind, .int .i64 x.epoch, .int .i64 x.src, .int .i64 x.dst, .int .i64 x.index, .int .i64 x.write.kind, .int .i64 x.write.id, .slice a x.write.vec.length d, .int .i64 x.write.session, .int .i64 x.write.seq] 29)) := (Below.refl _ _).alloc (Nat.le_refl _) _
  have HX : Hid (Box 0 #[.int .i64 x.kind, .int .i64 x.epoch, .int .i64 x.src, .int .i64 x.dst, .int .i64 x.index, .int .i64 x.write.kind, .int .i64 x.write.id, .slice a x.write.vec.length d, .int .i64 x.write.session, .int .i64 x.write.seq] 29 (w1.alloc (.cells #[.int .i64 x.kind, .int .i64 x.epoch, .int .i64 x.src, .int .i64 x.dst, .int .i64 x.index, .int .i64 x.write.kind, .int .i64 x.write.id, .slice a x.write.vec.length d, .int .i64 x.write.session, .int .i64 x.write.seq] 29)) w1.heap.size) := newBox (Nat.zero_le _)
  replace HRS := hide ((unhide HRS).later nb)
  replace HRX := hide ((unhide HRX).later nb)
  replace HB := hide ((unhide HB).trans (nb.mono (unhide HB).size))
  replace HT := hide ((unhide HT).later nb)
  clear nb
  go_upto_region 4 with fail
  generalize w1.alloc (.cells #[.int .i64 x.kind, .int .i64 x.epoch, .int .i64 x.src, .int .i64 x.dst, .int .i64 x.index, .int .i64 x.write.kind, .int .i64 x.write.id, .slice a x.write.vec.length d, .int .i64 x.write.session, .int .i64 x.write.seq] 29) = W1 at *
  have L := hide (implSendMsg _ xs _ x W1 (unhide HRS) (unhide HRX))
  have x0 : W1.cell? ⟨w1.heap.size, 0, none⟩ = some (.int .i64 x.kind) := (unhide HX).at 0 _ rfl
  have x1 : W1.cell? ⟨w1.heap.size, 1, none⟩ = some (.int .i64 x.epoch) := (unhide HX).at 1 _ rfl
  have x2 : W1.cell? ⟨w1.heap.size, 2, none⟩ = some (.int .i64 x.src) := (unhide HX).at 2 _ rfl
  have x3 : W1.cell? ⟨w1.heap.size, 3, none⟩ = some (.int .i64 x.dst) := (unhide HX).at 3 _ rfl
  have x4 : W1.cell? ⟨w1.heap.size, 4, none⟩ = some (.int .i64 x.index) := (unhide HX).at 4 _ rfl
  have x5 : W1.cell? ⟨w1.heap.size, 5, none⟩ = some (.int .i64 x.write.kind) := (unhide HX).at 5 _ rfl
  have x6 : W1.cell? ⟨w1.heap.size, 6, none⟩ = some (.int .i64 x.write.id) := (unhide HX).at 6 _ rfl
  have x7 : W1.cell? ⟨w1.heap.size, 7, none⟩ = some (.slice a x.write.vec.length d) := (unhide HX).at 7 _ rfl
  have x8 : W1.cell? ⟨w1.heap.size, 8, none⟩ = some (.int .i64 x.write.session) := (unhide HX).at 8 _ rfl
  have x9 : W1.cell? ⟨w1.heap.size, 9, none⟩ = some (.int .i64 x.write.seq) := (unhide HX).at 9 _ rfl
  go_wp2_with fail
  clear x0 x1 x2 x3 x4 x5 x6 x7 x8 x9
  refine (unhide L).mono ?_
  rintro e w2 ⟨cs, rfl, O, hb⟩
  obtain ⟨a2, d2, rfl, hR2⟩ := net_partsN O.reads
  replace HX := hide ((unhide HX).keep hb)
  replace HRS := hide ((unhide HRS).later hb)
  replace HRX := hide ((unhide HRX).later hb)
  replace HB := hide ((unhide HB).trans (hb.mono (unhide HB).size))
  replace HT := hide ((unhide HT).later hb)
  clear O L hb
  by_cases hf : (sendR xs x).code = 0
  case neg =>
    clear hR2
    have nb : Below w2.heap.size w2 (w2.alloc (.cells #[.int .i64 (sendR xs x).code, .slice a2 (sendR xs x).msgs.length d2] 33)) := (Below.refl _ _).alloc (Nat.le_refl _) _
    have HR : Hid (Box 0 #[.int .i64 (sendR xs x).code, .slice a2 (sendR xs x).msgs.length d2] 33 (w2.alloc (.cells #[.int .i64 (sendR xs x).code, .slice a2 (sendR xs x).msgs.length d2] 33)) w2.heap.size) := newBox (Nat.zero_le _)
    replace HX := hide ((unhide HX).keep nb)
    replace HRS := hide ((unhide HRS).later nb)
    replace HRX := hide ((unhide HRX).later nb)
    replace HB := hide ((unhide HB).trans (nb.mono (unhide HB).size))
    replace HT := hide ((unhide HT).later nb)
    clear nb
    go_upto_region 5 with fail
    generalize w2.alloc (.cells #[.int .i64 (sendR xs x).code, .slice a2 (sendR xs x).msgs.length d2] 33) = W2 at *
    have hne : ((sendR xs x).code != 0) = true := by simpa using hf
    have r0 : W2.cell? ⟨w2.heap.size, 0, none⟩ = some (.int .i64 (sendR xs x).code) := (unhide HR).at 0 _ rfl
    go_upto_region 6 with fail
    clear r0 hne
    have LS : Hid (∀ W, Below W2.heap.size W2 W → Calls Tryz.prog 7 #[.slice a8 xs.length c8, .agg #[.int .i64 x.kind, .int .i64 x.epoch, .int .i64 x.src, .int .i64 x.dst, .int .i64 x.index, .int .i64 x.write.kind, .int .i64 x.write.id, .slice a x.write.vec.length d, .int .i64 x.write.session, .int .i64 x.write.seq]] W fun e w' => (∃ a n d, e = .returned (.agg #[.int .i64 (sendR xs x).code, .slice a n d])) ∧ Below W.heap.size W w') := fun W hW => specNetsSend _ xs _ x W ((unhide HRS).later hW) ((unhide HRX).later hW)
    have KEEP : Hid (∀ W, Below W2.heap.size W2 W → W.cell? ⟨w1.heap.size, 0, none⟩ = some (.int .i64 x.kind) ∧ W.cell? ⟨w1.heap.size, 1, none⟩ = some (.int .i64 x.epoch) ∧ W.cell? ⟨w1.heap.size, 2, none⟩ = some (.int .i64 x.src) ∧ W.cell? ⟨w1.heap.size, 3, none⟩ = some (.int .i64 x.dst) ∧ W.cell? ⟨w1.heap.size, 4, none⟩ = some (.int .i64 x.index) ∧ W.cell? ⟨w1.heap.size, 5, none⟩ = some (.int .i64 x.write.kind) ∧ W.cell? ⟨w1.heap.size, 6, none⟩ = some (.int .i64 x.write.id) ∧ W.cell? ⟨w1.heap.size, 7, none⟩ = some (.slice a x.write.vec.length d) ∧ W.cell? ⟨w1.heap.size, 8, none⟩ = some (.int .i64 x.write.session) ∧ W.cell? ⟨w1.heap.size, 9, none⟩ = some (.int .i64 x.write.seq) ∧ W.cell? ⟨w2.heap.size, 0, none⟩ = some (.int .i64 (sendR xs x).code)) := fun W hW => ⟨((unhide HX).keep hW).at 0 _ rfl, ((unhide HX).keep hW).at 1 _ rfl, ((unhide HX).keep hW).at 2 _ rfl, ((unhide HX).keep hW).at 3 _ rfl, ((unhide HX).keep hW).at 4 _ rfl, ((unhide HX).keep hW).at 5 _ rfl, ((unhide HX).keep hW).at 6 _ rfl, ((unhide HX).keep hW).at 7 _ rfl, ((unhide HX).keep hW).at 8 _ rfl, ((unhide HX).keep hW).at 9 _ rfl, ((unhide HR).keep hW).at 0 _ rfl⟩
    generalize (sendR xs x).code = sc at *
    refine wp_region_noPanic ?_
    refine wp_region_held_drew (S := fun w' => Below W2.heap.size W2 w') (by kernel_rfl) (Below.refl _ _).drew (fun hHeld => ?_)
    generalize W2.drew = wD at hHeld ⊢
    refine wpAnyH_take (i := 0) (oi := { dst := some 25, op := Go.Op.move (Go.Operand.tmp 3), type := 24, pos := "laws.go:458", after := #[], guard := none }) (v := ?vb0) rfl (by kernel_rfl) (by kernel_rfl) (by kernel_rfl) (fun _ _ _ h => h) (Or.inl ⟨by rfl, ?hb0⟩) hHeld ?rb0
    case hb0 =>
      intro wS hSw
      (try dsimp only at hSw)
      go_simp
      try with_reducible rfl
    case rb0 =>
    simp only [Act.put, List.setIfInBounds_toArray, List.set_cons_zero, List.set_cons_succ]
    refine wpAnyH_take (i := 1) (oi := { dst := some 26, op := Go.Op.load 29 (Go.Operand.tmp 4), type := 29, pos := "laws.go:458", after := #[], guard := none }) (v := ?vb1) rfl (by kernel_rfl) (by kernel_rfl) (by kernel_rfl) (fun _ _ _ h => h) (Or.inl ⟨by rfl, ?hb1⟩) hHeld ?rb1
    case hb1 =>
      intro wS hSw
      obtain ⟨e0, e1, e2, e3, e4, e5, e6, e7, e8, e9, k0⟩ := unhide KEEP _ hSw
      clear hSw
      (try dsimp only at hSw)
      go_simp
      try with_reducible rfl
    case rb1 =>
    simp only [Act.put, List.setIfInBounds_toArray, List.set_cons_zero, List.set_cons_succ]
    refine wpAnyH_take (i := 4) (oi := { dst := some 29, op := Go.Op.fieldAddr 33 (Go.Operand.tmp 5) 0, type := 0, pos := "laws.go:458", after := #[], guard := none }) (v := ?vb4) rfl (by kernel_rfl) (by kernel_rfl) (by kernel_rfl) (fun _ _ _ h => h) (Or.inl ⟨by rfl, ?hb4⟩) hHeld ?rb4
    case hb4 =>
      intro wS hSw
      (try dsimp only at hSw)
      go_simp
      try with_reducible rfl
    case rb4 =>
    simp only [Act.put, List.setIfInBounds_toArray, List.set_cons_zero, List.set_cons_succ]
    refine wpAnyH_take (i := 5) (oi := { dst := some 30, op := Go.Op.load 2 (Go.Operand.tmp 29), type := 2, pos := "laws.go:458", after := #[{ on := 4, ground := Go.Ground.data }], guard := none }) (v := ?vb5) rfl (by kernel_rfl) (by kernel_rfl) (by kernel_rfl) (fun _ _ _ h => h) (Or.inl ⟨by rfl, ?hb5⟩) hHeld ?rb5
    case hb5 =>
      intro wS hSw
      obtain ⟨e0, e1, e2, e3, e4, e5, e6, e7, e8, e9, k0⟩ := unhide KEEP _ hSw
      clear hSw
      (try dsimp only at hSw)
      go_simp
      try with_reducible rfl
    case rb5 =>
    simp only [Act.put, List.setIfInBounds_toArray, List.set_cons_zero, List.set_cons_succ]
    refine wpAnyH_ready (rs := [2]) (by kernel_rfl) (by simp) ?_
    refine AllReadyH.cons (o := { dst := some 27, op := Go.Op.call { callee := Go.Callee.value (Go.Operand.func 7), args := #[Go.Operand.tmp 25, Go.Operand.tmp 26], argTypes := #[24, 29] }, type := 33, pos := "laws.go:458", after := #[{ on := 0, ground := Go.Ground.data }, { on := 1, ground := Go.Ground.data }], guard := none }) rfl (fun K hK => ?_) AllReadyH.nil
    go_simp
    go_at_call 7
    refine (unhide LS _ hHeld).mono ?_
    rintro e u2 ⟨⟨a5, n5, d5, rfl⟩, hbw⟩
    have hS5 := hHeld.trans (hbw.mono hHeld.size)
    try go_wp2_with fail
    refine hK.out _ _ hS5 (fun hHeld => ?_)
    clear hK K
    try simp only [Act.put, List.setIfInBounds_toArray, List.set_cons_zero, List.set_cons_succ]
    refine wpAnyH_take (i := 3) (oi := { dst := some 28, op := Go.Op.field 33 (Go.Operand.tmp 27) 0, type := 2, pos := "laws.go:458", after := #[{ on := 2, ground := Go.Ground.data }], guard := none }) (v := ?vb3) rfl (by kernel_rfl) (by kernel_rfl) (by kernel_rfl) (fun _ _ _ h => h) (Or.inl ⟨by rfl, ?hb3⟩) hHeld ?rb3
    case hb3 =>
      intro wS hSw
      have yf := fieldNC0
      clear hSw
      (try dsimp only at hSw)
      go_simp
      try with_reducible rfl
    case rb3 =>
    simp only [Act.put, List.setIfInBounds_toArray, List.set_cons_zero, List.set_cons_succ]
    refine wpAnyH_take (i := 6) (oi := { dst := some 31, op := Go.Op.binOp Go.BinOp.eql 2 (Go.Operand.tmp 28) (Go.Operand.tmp 30) 2, type := 4, pos := "laws.go:458", after := #[{ on := 3, ground := Go.Ground.data }, { on := 5, ground := Go.Ground.data }], guard := none }) (v := ?vb6) rfl (by kernel_rfl) (by kernel_rfl) (by kernel_rfl) (fun _ _ _ h => h) (Or.inl ⟨by rfl, ?hb6⟩) hHeld ?rb6
    case hb6 =>
      intro wS hSw
      have q9 : (sc == sc) = true := by simp
      clear hSw
      (try dsimp only at hSw)
      go_simp
      try with_reducible rfl
    case rb6 =>
    simp only [Act.put, List.setIfInBounds_toArray, List.set_cons_zero, List.set_cons_succ]
    refine wpAnyH_take (i := 7) (oi := { dst := some 2, op := Go.Op.assign (Go.Operand.tmp 31), type := 4, pos := "laws.go:458", after := #[{ on := 6, ground := Go.Ground.data }, { on := 2, ground := Go.Ground.chain }, { on := 0, ground := Go.Ground.phase }, { on := 1, ground := Go.Ground.phase }, { on := 2, ground := Go.Ground.phase }, { on := 3, ground := Go.Ground.phase }, { on := 4, ground := Go.Ground.phase }, { on := 5, ground := Go.Ground.phase }, { on := 6, ground := Go.Ground.phase }], guard := none }) (v := ?vb7) rfl (by kernel_rfl) (by kernel_rfl) (by kernel_rfl) (fun _ _ _ h => h) (Or.inl ⟨by rfl, ?hb7⟩) hHeld ?rb7
    case hb7 =>
      intro wS hSw
      (try dsimp only at hSw)
      go_simp
      try with_reducible rfl
    case rb7 =>
    simp only [Act.put, List.setIfInBounds_toArray, List.set_cons_zero, List.set_cons_succ]
    refine wpAnyH_done (by kernel_rfl) ?_ _
    refine NoPanic.normal ?_
    replace HB := hide ((unhide HB).trans (hHeld.mono (unhide HB).size))
    clear hHeld
    go_wp2_with fail
    go_ret
    exact ⟨by simp, unhide HB⟩
  case pos =>
  obtain ⟨ys, K⟩ := nets_plain hf
  rw [K.send] at hR2 ⊢
  replace hR2 : (Lay.sl Lay.tMsg).Reads w2 [.slice a2 ys.length d2] ys := hR2
  simp only at ⊢
  have HRY := hide hR2
  have hy1 := K.pos
  have hy2 := K.few
  have hy3 := K.le
  have HCD := hide K.cd
  have hcl := countM_le xs x.dst
  have hcl2 := countM_le ys x.dst
  have HK := hide K
  clear K hf hR2
  have nb : Below w2.heap.size w2 (w2.alloc (.cells #[.int .i64 0, .slice a2 ys.length d2] 33)) := (Below.refl _ _).alloc (Nat.le_refl _) _
  have HR : Hid (Box 0 #[.int .i64 0, .slice a2 ys.length d2] 33 (w2.alloc (.cells #[.int .i64 0, .slice a2 ys.length d2] 33)) w2.heap.size) := newBox (Nat.zero_le _)
  replace HX := hide ((unhide HX).keep nb)
  replace HRS := hide ((unhide HRS).later nb)
  replace HRX := hide ((unhide HRX).later nb)
  replace HRY := hide ((unhide HRY).later nb)
  replace HB := hide ((unhide HB).trans (nb.mono (unhide HB).size))
  replace HT := hide ((unhide HT).later nb)
  clear nb
  go_upto_region 7 with fail
  generalize w2.alloc (.cells #[.int .i64 0, .slice a2 ys.length d2] 33) = W2 at *
  have L := hide ((unhide HK).again ▸ implSendMsg _ ys _ x W2 (unhide HRY) (unhide HRX) : Calls Tryz.prog 6 #[.slice a2 ys.length d2, .agg #[.int .i64 x.kind, .int .i64 x.epoch, .int .i64 x.src, .int .i64 x.dst, .int .i64 x.index, .int .i64 x.write.kind, .int .i64 x.write.id, .slice a x.write.vec.length d, .int .i64 x.write.session, .int .i64 x.write.seq]] W2 fun e w' => ∃ cs, e = .returned (.agg cs.toArray) ∧ Lay.tNetResult.OwnIn w' cs ⟨0, ys⟩ W2.heap.size w'.heap.size ∧ Below W2.heap.size W2 w')
  have x0 : W2.cell? ⟨w1.heap.size, 0, none⟩ = some (.int .i64 x.kind) := (unhide HX).at 0 _ rfl
  have x1 : W2.cell? ⟨w1.heap.size, 1, none⟩ = some (.int .i64 x.epoch) := (unhide HX).at 1 _ rfl
  have x2 : W2.cell? ⟨w1.heap.size, 2, none⟩ = some (.int .i64 x.src) := (unhide HX).at 2 _ rfl
  have x3 : W2.cell? ⟨w1.heap.size, 3, none⟩ = some (.int .i64 x.dst) := (unhide HX).at 3 _ rfl
  have x4 : W2.cell? ⟨w1.heap.size, 4, none⟩ = some (.int .i64 x.index) := (unhide HX).at 4 _ rfl
  have x5 : W2.cell? ⟨w1.heap.size, 5, none⟩ = some (.int .i64 x.write.kind) := (unhide HX).at 5 _ rfl
  have x6 : W2.cell? ⟨w1.heap.size, 6, none⟩ = some (.int .i64 x.write.id) := (unhide HX).at 6 _ rfl
  have x7 : W2.cell? ⟨w1.heap.size, 7, none⟩ = some (.slice a x.write.vec.length d) := (unhide HX).at 7 _ rfl
  have x8 : W2.cell? ⟨w1.heap.size, 8, none⟩ = some (.int .i64 x.write.session) := (unhide HX).at 8 _ rfl
  have x9 : W2.cell? ⟨w1.heap.size, 9, none⟩ = some (.int .i64 x.write.seq) := (unhide HX).at 9 _ rfl
  have r1 : W2.cell? ⟨w2.heap.size, 1, none⟩ = some (.slice a2 ys.length d2) := (unhide HR).at 1 _ rfl
  go_wp2_with fail
  clear x0 x1 x2 x3 x4 x5 x6 x7 x8 x9 r1
  refine (unhide L).mono ?_
  rintro e w3 ⟨cs, rfl, O, hb⟩
  obtain ⟨a3, d3, rfl, -⟩ := net_partsN O.reads
  simp only at ⊢
  replace HX := hide ((unhide HX).keep hb)
  replace HR := hide ((unhide HR).keep hb)
  replace HRS := hide ((unhide HRS).later hb)
  replace HRX := hide ((unhide HRX).later hb)
  replace HRY := hide ((unhide HRY).later hb)
  replace HB := hide ((unhide HB).trans (hb.mono (unhide HB).size))
  replace HT := hide ((unhide HT).later hb)
  clear O L hb
  have nb : Below w3.heap.size w3 (w3.alloc (.cells #[.int .i64 0, .slice a3 ys.length d3] 33)) := (Below.refl _ _).alloc (Nat.le_refl _) _
  have H6 : Hid (Box 0 #[.int .i64 0, .slice a3 ys.length d3] 33 (w3.alloc (.cells #[.int .i64 0, .slice a3 ys.length d3] 33)) w3.heap.size) := newBox (Nat.zero_le _)
  replace HX := hide ((unhide HX).keep nb)
  replace HR := hide ((unhide HR).keep nb)
  replace HRS := hide ((unhide HRS).later nb)
  replace HRX := hide ((unhide HRX).later nb)
  replace HRY := hide ((unhide HRY).later nb)
  replace HB := hide ((unhide HB).trans (nb.mono (unhide HB).size))
  replace HT := hide ((unhide HT).later nb)
  clear nb
  go_upto_region 8 with fail
  generalize w3.alloc (.cells #[.int .i64 0, .slice a3 ys.length d3] 33) = W3 at *
  have r1 : W3.cell? ⟨w2.heap.size, 1, none⟩ = some (.slice a2 ys.length d2) := (unhide HR).at 1 _ rfl
  go_upto_region 9 with fail
  clear r1
  have L := hide ((unhide HK).ca ▸ implCountMsgs _ xs x.dst W3 (unhide HRS) : Calls Tryz.prog 8 #[.slice a8 xs.length c8, .int .i64 x.dst] W3 fun e w' => ∃ cs, e = .returned (.agg cs.toArray) ∧ Lay.tIntResult.OwnIn w' cs ⟨0, (countM xs x.dst : Nat)⟩ W3.heap.size w'.heap.size ∧ Below W3.heap.size W3 w')
  have x3 : W3.cell? ⟨w1.heap.size, 3, none⟩ = some (.int .i64 x.dst) := (unhide HX).at 3 _ rfl
  go_wp2_with fail
  clear x3
  refine (unhide L).mono ?_
  rintro e w4 ⟨cs, rfl, O, hb⟩
  obtain rfl := int_partsN O
  simp only at ⊢
  replace HX := hide ((unhide HX).keep hb)
  replace HR := hide ((unhide HR).keep hb)
  replace H6 := hide ((unhide H6).keep hb)
  replace HRS := hide ((unhide HRS).later hb)
  replace HRX := hide ((unhide HRX).later hb)
  replace HRY := hide ((unhide HRY).later hb)
  replace HB := hide ((unhide HB).trans (hb.mono (unhide HB).size))
  replace HT := hide ((unhide HT).later hb)
  clear O L hb
  have nb : Below w4.heap.size w4 (w4.alloc (.cells #[.int .i64 0, .int .i64 (countM xs x.dst : Nat)] 36)) := (Below.refl _ _).alloc (Nat.le_refl _) _
  have H8 : Hid (Box 0 #[.int .i64 0, .int .i64 (countM xs x.dst : Nat)] 36 (w4.alloc (.cells #[.int .i64 0, .int .i64 (countM xs x.dst : Nat)] 36)) w4.heap.size) := newBox (Nat.zero_le _)
  replace HX := hide ((unhide HX).keep nb)
  replace HR := hide ((unhide HR).keep nb)
  replace H6 := hide ((unhide H6).keep nb)
  replace HRS := hide ((unhide HRS).later nb)
  replace HRX := hide ((unhide HRX).later nb)
  replace HRY := hide ((unhide HRY).later nb)
  replace HB := hide ((unhide HB).trans (nb.mono (unhide HB).size))
  replace HT := hide ((unhide HT).later nb)
  clear nb
  go_upto_region 10 with fail
  generalize w4.alloc (.cells #[.int .i64 0, .int .i64 (countM xs x.dst : Nat)] 36) = W4 at *
  have L := hide ((unhide HK).cb ▸ implCountMsgs _ ys x.dst W4 (unhide HRY) : Calls Tryz.prog 8 #[.slice a2 ys.length d2, .int .i64 x.dst] W4 fun e w' => ∃ cs, e = .returned (.agg cs.toArray) ∧ Lay.tIntResult.OwnIn w' cs ⟨0, (countM ys x.dst : Nat)⟩ W4.heap.size w'.heap.size ∧ Below W4.heap.size W4 w')
  have x3 : W4.cell? ⟨w1.heap.size, 3, none⟩ = some (.int .i64 x.dst) := (unhide HX).at 3 _ rfl
  have r1 : W4.cell? ⟨w2.heap.size, 1, none⟩ = some (.slice a2 ys.length d2) := (unhide HR).at 1 _ rfl
  go_wp2_with fail
  clear x3 r1
  refine (unhide L).mono ?_
  rintro e w5 ⟨cs, rfl, O, hb⟩
  obtain rfl := int_partsN O
  simp only at ⊢
  replace HX := hide ((unhide HX).keep hb)
  replace HR := hide ((unhide HR).keep hb)
  replace H6 := hide ((unhide H6).keep hb)
  replace H8 := hide ((unhide H8).keep hb)
  replace HRS := hide ((unhide HRS).later hb)
  replace HRX := hide ((unhide HRX).later hb)
  replace HRY := hide ((unhide HRY).later hb)
  replace HB := hide ((unhide HB).trans (hb.mono (unhide HB).size))
  replace HT := hide ((unhide HT).later hb)
  clear O L hb
  have nb : Below w5.heap.size w5 (w5.alloc (.cells #[.int .i64 0, .int .i64 (countM ys x.dst : Nat)] 36)) := (Below.refl _ _).alloc (Nat.le_refl _) _
  have H9 : Hid (Box 0 #[.int .i64 0, .int .i64 (countM ys x.dst : Nat)] 36 (w5.alloc (.cells #[.int .i64 0, .int .i64 (countM ys x.dst : Nat)] 36)) w5.heap.size) := newBox (Nat.zero_le _)
  replace HX := hide ((unhide HX).keep nb)
  replace HR := hide ((unhide HR).keep nb)
  replace H6 := hide ((unhide H6).keep nb)
  replace H8 := hide ((unhide H8).keep nb)
  replace HRS := hide ((unhide HRS).later nb)
  replace HRX := hide ((unhide HRX).later nb)
  replace HRY := hide ((unhide HRY).later nb)
  replace HB := hide ((unhide HB).trans (nb.mono (unhide HB).size))
  replace HT := hide ((unhide HT).later nb)
  clear nb
  go_upto_region 11 with fail
  generalize w5.alloc (.cells #[.int .i64 0, .int .i64 (countM ys x.dst : Nat)] 36) = W5 at *
  have L := hide ((unhide HK).drop ▸ implDropMsg _ ys ((ys.length : Int) - 1) W5 (unhide HRY) : Calls Tryz.prog 9 #[.slice a2 ys.length d2, .int .i64 ((ys.length : Int) - 1)] W5 fun e w' => ∃ cs, e = .returned (.agg cs.toArray) ∧ Lay.tNetResult.OwnIn w' cs ⟨0, ys.take (ys.length - 1)⟩ W5.heap.size w'.heap.size ∧ Below W5.heap.size W5 w')
  have r1 : W5.cell? ⟨w2.heap.size, 1, none⟩ = some (.slice a2 ys.length d2) := (unhide HR).at 1 _ rfl
  go_wp2_with fail
  clear r1
  refine (unhide L).mono ?_
  rintro e w6 ⟨cs, rfl, O, hb⟩
  obtain ⟨a6, d6, rfl, -⟩ := net_partsN O.reads
  simp only at ⊢
  have hzl : (ys.take (ys.length - 1)).length = ys.length - 1 := by rw [List.length_take]; omega
  generalize (ys.take (ys.length - 1)).length = zl at *
  have HZL := hide hzl
  clear hzl
  replace HX := hide ((unhide HX).keep hb)
  replace HR := hide ((unhide HR).keep hb)
  replace H6 := hide ((unhide H6).keep hb)
  replace H8 := hide ((unhide H8).keep hb)
  replace H9 := hide ((unhide H9).keep hb)
  replace HRS := hide ((unhide HRS).later hb)
  replace HRX := hide ((unhide HRX).later hb)
  replace HRY := hide ((unhide HRY).later hb)
  replace HB := hide ((unhide HB).trans (hb.mono (unhide HB).size))
  replace HT := hide ((unhide HT).later hb)
  clear O L hb
  have nb : Below w6.heap.size w6 (w6.alloc (.cells #[.int .i64 0, .slice a6 zl d6] 33)) := (Below.refl _ _).alloc (Nat.le_refl _) _
  have H10 : Hid (Box 0 #[.int .i64 0, .slice a6 zl d6] 33 (w6.alloc (.cells #[.int .i64 0, .slice a6 zl d6] 33)) w6.heap.size) := newBox (Nat.zero_le _)
  replace HX := hide ((unhide HX).keep nb)
  replace HR := hide ((unhide HR).keep nb)
  replace H6 := hide ((unhide H6).keep nb)
  replace H8 := hide ((unhide H8).keep nb)
  replace H9 := hide ((unhide H9).keep nb)
  replace HRS := hide ((unhide HRS).later nb)
  replace HRX := hide ((unhide HRX).later nb)
  replace HRY := hide ((unhide HRY).later nb)
  replace HB := hide ((unhide HB).trans (nb.mono (unhide HB).size))
  replace HT := hide ((unhide HT).later nb)
  clear nb
  go_upto_region 12 with fail
  generalize w6.alloc (.cells #[.int .i64 0, .slice a6 zl d6] 33) = W6 at *
  have HTX : Hid (textMR x = ⟨0, ⟨(textM x).toArray⟩⟩) := by show textMR x = _; rw [textMR, if_pos (unhide HK).mf]
  have L := hide (unhide HTX ▸ implMsgText _ x W6 (unhide HT) (unhide HRX) : Calls Tryz.prog 10 #[.agg #[.int .i64 x.kind, .int .i64 x.epoch, .int .i64 x.src, .int .i64 x.dst, .int .i64 x.index, .int .i64 x.write.kind, .int .i64 x.write.id, .slice a x.write.vec.length d, .int .i64 x.write.session, .int .i64 x.write.seq]] W6 fun e w' => ∃ cs, e = .returned (.agg cs.toArray) ∧ Lay.tTextResult.OwnIn w' cs ⟨0, ⟨(textM x).toArray⟩⟩ W6.heap.size w'.heap.size ∧ Below W6.heap.size W6 w')
  have x0 : W6.cell? ⟨w1.heap.size, 0, none⟩ = some (.int .i64 x.kind) := (unhide HX).at 0 _ rfl
  have x1 : W6.cell? ⟨w1.heap.size, 1, none⟩ = some (.int .i64 x.epoch) := (unhide HX).at 1 _ rfl
  have x2 : W6.cell? ⟨w1.heap.size, 2, none⟩ = some (.int .i64 x.src) := (unhide HX).at 2 _ rfl
  have x3 : W6.cell? ⟨w1.heap.size, 3, none⟩ = some (.int .i64 x.dst) := (unhide HX).at 3 _ rfl
  have x4 : W6.cell? ⟨w1.heap.size, 4, none⟩ = some (.int .i64 x.index) := (unhide HX).at 4 _ rfl
  have x5 : W6.cell? ⟨w1.heap.size, 5, none⟩ = some (.int .i64 x.write.kind) := (unhide HX).at 5 _ rfl
  have x6 : W6.cell? ⟨w1.heap.size, 6, none⟩ = some (.int .i64 x.write.id) := (unhide HX).at 6 _ rfl
  have x7 : W6.cell? ⟨w1.heap.size, 7, none⟩ = some (.slice a x.write.vec.length d) := (unhide HX).at 7 _ rfl
  have x8 : W6.cell? ⟨w1.heap.size, 8, none⟩ = some (.int .i64 x.write.session) := (unhide HX).at 8 _ rfl
  have x9 : W6.cell? ⟨w1.heap.size, 9, none⟩ = some (.int .i64 x.write.seq) := (unhide HX).at 9 _ rfl
  go_wp2_with fail
  clear x0 x1 x2 x3 x4 x5 x6 x7 x8 x9
  refine (unhide L).mono ?_
  rintro e w7 ⟨cs, rfl, O, hb⟩
  obtain rfl := text_partsN O
  simp only at ⊢
  replace HX := hide ((unhide HX).keep hb)
  replace HR := hide ((unhide HR).keep hb)
  replace H6 := hide ((unhide H6).keep hb)
  replace H8 := hide ((unhide H8).keep hb)
  replace H9 := hide ((unhide H9).keep hb)
  replace H10 := hide ((unhide H10).keep hb)
  replace HRS := hide ((unhide HRS).later hb)
  replace HRX := hide ((unhide HRX).later hb)
  replace HRY := hide ((unhide HRY).later hb)
  replace HB := hide ((unhide HB).trans (hb.mono (unhide HB).size))
  replace HT := hide ((unhide HT).later hb)
  clear O L hb
  have nb : Below w7.heap.size w7 (w7.alloc (.cells #[.int .i64 0, .string ⟨(textM x).toArray⟩] 40)) := (Below.refl _ _).alloc (Nat.le_refl _) _
  have H11 : Hid (Box 0 #[.int .i64 0, .string ⟨(textM x).toArray⟩] 40 (w7.alloc (.cells #[.int .i64 0, .string ⟨(textM x).toArray⟩] 40)) w7.heap.size) := newBox (Nat.zero_le _)
  replace HX := hide ((unhide HX).keep nb)
  replace HR := hide ((unhide HR).keep nb)
  replace H6 := hide ((unhide H6).keep nb)
  replace H8 := hide ((unhide H8).keep nb)
  replace H9 := hide ((unhide H9).keep nb)
  replace H10 := hide ((unhide H10).keep nb)
  replace HRS := hide ((unhide HRS).later nb)
  replace HRX := hide ((unhide HRX).later nb)
  replace HRY := hide ((unhide HRY).later nb)
  replace HB := hide ((unhide HB).trans (nb.mono (unhide HB).size))
  replace HT := hide ((unhide HT).later nb)
  clear nb
  go_upto_region 13 with fail
  generalize w7.alloc (.cells #[.int .i64 0, .string ⟨(textM x).toArray⟩] 40) = W7 at *
  have KEEP : Hid (∀ W, Below W7.heap.size W7 W → W.cell? ⟨w1.heap.size, 0, none⟩ = some (.int .i64 x.kind) ∧ W.cell? ⟨w1.heap.size, 1, none⟩ = some (.int .i64 x.epoch) ∧ W.cell? ⟨w1.heap.size, 2, none⟩ = some (.int .i64 x.src) ∧ W.cell? ⟨w1.heap.size, 3, none⟩ = some (.int .i64 x.dst) ∧ W.cell? ⟨w1.heap.size, 4, none⟩ = some (.int .i64 x.index) ∧ W.cell? ⟨w1.heap.size, 5, none⟩ = some (.int .i64 x.write.kind) ∧ W.cell? ⟨w1.heap.size, 6, none⟩ = some (.int .i64 x.write.id) ∧ W.cell? ⟨w1.heap.size, 7, none⟩ = some (.slice a x.write.vec.length d) ∧ W.cell? ⟨w1.heap.size, 8, none⟩ = some (.int .i64 x.write.session) ∧ W.cell? ⟨w1.heap.size, 9, none⟩ = some (.int .i64 x.write.seq) ∧ W.cell? ⟨w2.heap.size, 1, none⟩ = some (.slice a2 ys.length d2) ∧ W.cell? ⟨w3.heap.size, 0, none⟩ = some (.int .i64 0) ∧ W.cell? ⟨w3.heap.size, 1, none⟩ = some (.slice a3 ys.length d3) ∧ W.cell? ⟨w5.heap.size, 1, none⟩ = some (.int .i64 (countM ys x.dst : Nat)) ∧ W.cell? ⟨w4.heap.size, 1, none⟩ = some (.int .i64 (countM xs x.dst : Nat)) ∧ W.cell? ⟨w6.heap.size, 0, none⟩ = some (.int .i64 0) ∧ W.cell? ⟨w6.heap.size, 1, none⟩ = some (.slice a6 zl d6) ∧ W.cell? ⟨w7.heap.size, 0, none⟩ = some (.int .i64 0) ∧ W.cell? ⟨w7.heap.size, 1, none⟩ = some (.string ⟨(textM x).toArray⟩)) := fun W hW =>
    ⟨((unhide HX).keep hW).at 0 _ rfl, ((unhide HX).keep hW).at 1 _ rfl, ((unhide HX).keep hW).at 2 _ rfl, ((unhide HX).keep hW).at 3 _ rfl, ((unhide HX).keep hW).at 4 _ rfl, ((unhide HX).keep hW).at 5 _ rfl, ((unhide HX).keep hW).at 6 _ rfl, ((unhide HX).keep hW).at 7 _ rfl, ((unhide HX).keep hW).at 8 _ rfl, ((unhide HX).keep hW).at 9 _ rfl, ((unhide HR).keep hW).at 1 _ rfl, ((unhide H6).keep hW).at 0 _ rfl, ((unhide H6).keep hW).at 1 _ rfl, ((unhide H9).keep hW).at 1 _ rfl, ((unhide H8).keep hW).at 1 _ rfl, ((unhide H10).keep hW).at 0 _ rfl, ((unhide H10).keep hW).at 1 _ rfl, ((unhide H11).keep hW).at 0 _ rfl, ((unhide H11).keep hW).at 1 _ rfl⟩
  have LN : Hid (∀ W, Below W7.heap.size W7 W → Calls Tryz.prog 11 #[.slice a2 ys.length d2] W fun e w' => e = .returned (.int .i64 0) ∧ Below W.heap.size W w') := fun W hW => by
    have q := implNetFault _ ys W ((unhide HRY).later hW)
    rw [(unhide HK).yf] at q
    exact q
  have LM : Hid (∀ W, Below W7.heap.size W7 W → Calls Tryz.prog 13 #[.agg #[.int .i64 x.kind, .int .i64 x.epoch, .int .i64 x.src, .int .i64 x.dst, .int .i64 x.index, .int .i64 x.write.kind, .int .i64 x.write.id, .slice a x.write.vec.length d, .int .i64 x.write.session, .int .i64 x.write.seq]] W fun e w' => e = .returned (.int .i64 0) ∧ Below W.heap.size W w') := fun W hW => by
    have q := implMsgFault _ x W ((unhide HRX).later hW)
    rw [(unhide HK).mf] at q
    exact q
  have LT : Hid (∀ W, Below W7.heap.size W7 W → Calls Tryz.prog 12 #[.agg #[.int .i64 x.kind, .int .i64 x.epoch, .int .i64 x.src, .int .i64 x.dst, .int .i64 x.index, .int .i64 x.write.kind, .int .i64 x.write.id, .slice a x.write.vec.length d, .int .i64 x.write.session, .int .i64 x.write.seq]] W fun e w' => e = .returned (.agg #[.int .i64 0, .string ⟨(textM x).toArray⟩]) ∧ Below W.heap.size W w') := fun W hW => by
    have q := specNetsText _ x W ((unhide HRX).later hW)
    rw [unhide HTX] at q
    exact q
  have hcd := unhide HCD
  have hcb : (countM ys x.dst : Int) = (countM xs x.dst : Int) + ((ys.length : Int) - (xs.length : Int)) := by omega
  have hca : countM xs x.dst ≤ 100 := by omega
  have HZ1 : Hid (((zl : Int) == (ys.length : Int) - 1) = true) := by
    show ((zl : Int) == (ys.length : Int) - 1) = true
    have := unhide HZL
    rw [beq_iff_eq]; omega
  have hxl : xs.length ≤ 40 := by omega
  clear HX HR H6 H8 H9 H10 H11 HRS HRX HRY HT HK HTX HCD hcd hcl hcl2 hlen
  have HCB := hide hcb
  clear hcb
  generalize countM ys x.dst = cb at *
  generalize countM xs x.dst = ca at *
  generalize (⟨(textM x).toArray⟩ : ByteArray) = tx at *
  refine wp_region_noPanic ?_
  refine wp_region_held_drew (S := fun w' => Below W7.heap.size W7 w') (by kernel_rfl) (Below.refl _ _).drew (fun hHeld => ?_)
  generalize W7.drew = wD at hHeld ⊢
  refine wpAnyH_take (i := 0) (oi := { dst := some 55, op := Go.Op.fieldAddr 33 (Go.Operand.tmp 5) 1, type := 0, pos := "laws.go:466", after := #[], guard := none }) (v := ?vf0) rfl (by kernel_rfl) (by kernel_rfl) (by kernel_rfl) (fun _ _ _ h => h) (Or.inl ⟨by rfl, ?hf0⟩) hHeld ?rf0
  case hf0 =>
    intro wS hSw
    (try dsimp only at hSw)
    go_simp
    try with_reducible rfl
  case rf0 =>
  simp only [Act.put, List.setIfInBounds_toArray, List.set_cons_zero, List.set_cons_succ]
  refine wpAnyH_take (i := 1) (oi := { dst := some 56, op := Go.Op.load 24 (Go.Operand.tmp 55), type := 24, pos := "laws.go:466", after := #[{ on := 0, ground := Go.Ground.data }], guard := none }) (v := ?vf1) rfl (by kernel_rfl) (by kernel_rfl) (by kernel_rfl) (fun _ _ _ h => h) (Or.inl ⟨by rfl, ?hf1⟩) hHeld ?rf1
  case hf1 =>
    intro wS hSw
    obtain ⟨-, -, -, -, -, -, -, -, -, -, r1, -, -, -, -, -, -, -, -⟩ := unhide KEEP _ hSw
    clear hSw
    (try dsimp only at hSw)
    go_simp
    try with_reducible rfl
  case rf1 =>
  simp only [Act.put, List.setIfInBounds_toArray, List.set_cons_zero, List.set_cons_succ]
  refine wpAnyH_ready (rs := [2]) (by kernel_rfl) (by simp) ?_
  refine AllReadyH.cons (o := { dst := some 57, op := Go.Op.call { callee := Go.Callee.value (Go.Operand.func 11), args := #[Go.Operand.tmp 56], argTypes := #[24] }, type := 2, pos := "laws.go:466", after := #[{ on := 1, ground := Go.Ground.data }], guard := none }) rfl (fun K hK => ?_) AllReadyH.nil
  go_simp
  go_at_call 11
  refine (unhide LN _ hHeld).mono ?_
  rintro e u1 ⟨rfl, hbw⟩
  have hS1 := hHeld.trans (hbw.mono hHeld.size)
  clear hbw
  try go_wp2_with fail
  refine hK.out _ _ hS1 (fun hHeld => ?_)
  clear hK K
  try simp only [Act.put, List.setIfInBounds_toArray, List.set_cons_zero, List.set_cons_succ]
  refine wpAnyH_take (i := 3) (oi := { dst := some 58, op := Go.Op.binOp Go.BinOp.eql 2 (Go.Operand.tmp 57) (Go.Operand.const (Go.Value.int Go.IntKind.i64 0)) 2, type := 4, pos := "laws.go:466", after := #[{ on := 2, ground := Go.Ground.data }], guard := none }) (v := ?vf3) rfl (by kernel_rfl) (by kernel_rfl) (by kernel_rfl) (fun _ _ _ h => h) (Or.inl ⟨by rfl, ?hf3⟩) hHeld ?rf3
  case hf3 =>
    intro wS hSw
    (try dsimp only at hSw)
    go_simp
    try with_reducible rfl
  case rf3 =>
  simp only [Act.put, List.setIfInBounds_toArray, List.set_cons_zero, List.set_cons_succ]
  refine wpAnyH_take (i := 4) (oi := { dst := some 59, op := Go.Op.move (Go.Operand.tmp 58), type := 4, pos := "laws.go:466", after := #[{ on := 3, ground := Go.Ground.data }, { on := 2, ground := Go.Ground.chain }], guard := none }) (v := ?vf4) rfl (by kernel_rfl) (by kernel_rfl) (by kernel_rfl) (fun _ _ _ h => h) (Or.inl ⟨by rfl, ?hf4⟩) hHeld ?rf4
  case hf4 =>
    intro wS hSw
    (try dsimp only at hSw)
    go_simp
    try with_reducible rfl
  case rf4 =>
  simp only [Act.put, List.setIfInBounds_toArray, List.set_cons_zero, List.set_cons_succ]
  refine wpAnyH_take (i := 5) (oi := { dst := some 60, op := Go.Op.fieldAddr 33 (Go.Operand.tmp 6) 0, type := 0, pos := "laws.go:466", after := #[{ on := 4, ground := Go.Ground.guard }], guard := some (4, true) }) (v := ?vf5) rfl (by kernel_rfl) (by kernel_rfl) (by kernel_rfl) (fun _ _ _ h => h) (Or.inl ⟨by rfl, ?hf5⟩) hHeld ?rf5
  case hf5 =>
    intro wS hSw
    (try dsimp only at hSw)
    go_simp
    try with_reducible rfl
  case rf5 =>
  simp only [Act.put, List.setIfInBounds_toArray, List.set_cons_zero, List.set_cons_succ]
  refine wpAnyH_take (i := 6) (oi := { dst := some 61, op := Go.Op.load 2 (Go.Operand.tmp 60), type := 2, pos := "laws.go:466", after := #[{ on := 5, ground := Go.Ground.data }, { on := 4, ground := Go.Ground.guard }], guard := some (4, true) }) (v := ?vf6) rfl (by kernel_rfl) (by kernel_rfl) (by kernel_rfl) (fun _ _ _ h => h) (Or.inl ⟨by rfl, ?hf6⟩) hHeld ?rf6
  case hf6 =>
    intro wS hSw
    obtain ⟨-, -, -, -, -, -, -, -, -, -, -, g0, -, -, -, -, -, -, -⟩ := unhide KEEP _ hSw
    clear hSw
    (try dsimp only at hSw)
    go_simp
    try with_reducible rfl
  case rf6 =>
  simp only [Act.put, List.setIfInBounds_toArray, List.set_cons_zero, List.set_cons_succ]
  refine wpAnyH_take (i := 7) (oi := { dst := some 62, op := Go.Op.binOp Go.BinOp.eql 2 (Go.Operand.tmp 61) (Go.Operand.const (Go.Value.int Go.IntKind.i64 0)) 2, type := 4, pos := "laws.go:466", after := #[{ on := 6, ground := Go.Ground.data }, { on := 4, ground := Go.Ground.guard }], guard := some (4, true) }) (v := ?vf7) rfl (by kernel_rfl) (by kernel_rfl) (by kernel_rfl) (fun _ _ _ h => h) (Or.inl ⟨by rfl, ?hf7⟩) hHeld ?rf7
  case hf7 =>
    intro wS hSw
    (try dsimp only at hSw)
    go_simp
    try with_reducible rfl
  case rf7 =>
  simp only [Act.put, List.setIfInBounds_toArray, List.set_cons_zero, List.set_cons_succ]
  refine wpAnyH_take (i := 8) (oi := { dst := some 63, op := Go.Op.pick (Go.Operand.tmp 59) (Go.Operand.tmp 62) (Go.Operand.const (Go.Value.bool false)), type := 4, pos := "laws.go:466", after := #[{ on := 4, ground := Go.Ground.data }, { on := 7, ground := Go.Ground.data }], guard := none }) (v := ?vf8) rfl (by kernel_rfl) (by kernel_rfl) (by kernel_rfl) (fun _ _ _ h => h) (Or.inl ⟨by rfl, ?hf8⟩) hHeld ?rf8
  case hf8 =>
    intro wS hSw
    (try dsimp only at hSw)
    go_simp
    try with_reducible rfl
  case rf8 =>
  simp only [Act.put, List.setIfInBounds_toArray, List.set_cons_zero, List.set_cons_succ]
  refine wpAnyH_take (i := 9) (oi := { dst := some 64, op := Go.Op.move (Go.Operand.tmp 63), type := 4, pos := "laws.go:466", after := #[{ on := 8, ground := Go.Ground.data }, { on := 4, ground := Go.Ground.chain }], guard := none }) (v := ?vf9) rfl (by kernel_rfl) (by kernel_rfl) (by kernel_rfl) (fun _ _ _ h => h) (Or.inl ⟨by rfl, ?hf9⟩) hHeld ?rf9
  case hf9 =>
    intro wS hSw
    (try dsimp only at hSw)
    go_simp
    try with_reducible rfl
  case rf9 =>
  simp only [Act.put, List.setIfInBounds_toArray, List.set_cons_zero, List.set_cons_succ]
  refine wpAnyH_take (i := 10) (oi := { dst := some 65, op := Go.Op.fieldAddr 33 (Go.Operand.tmp 6) 1, type := 0, pos := "laws.go:466", after := #[{ on := 9, ground := Go.Ground.guard }], guard := some (9, true) }) (v := ?vf10) rfl (by kernel_rfl) (by kernel_rfl) (by kernel_rfl) (fun _ _ _ h => h) (Or.inl ⟨by rfl, ?hf10⟩) hHeld ?rf10
  case hf10 =>
    intro wS hSw
    (try dsimp only at hSw)
    go_simp
    try with_reducible rfl
  case rf10 =>
  simp only [Act.put, List.setIfInBounds_toArray, List.set_cons_zero, List.set_cons_succ]
  refine wpAnyH_take (i := 11) (oi := { dst := some 66, op := Go.Op.load 24 (Go.Operand.tmp 65), type := 24, pos := "laws.go:466", after := #[{ on := 10, ground := Go.Ground.data }, { on := 9, ground := Go.Ground.guard }], guard := some (9, true) }) (v := ?vf11) rfl (by kernel_rfl) (by kernel_rfl) (by kernel_rfl) (fun _ _ _ h => h) (Or.inl ⟨by rfl, ?hf11⟩) hHeld ?rf11
  case hf11 =>
    intro wS hSw
    obtain ⟨-, -, -, -, -, -, -, -, -, -, -, -, g1, -, -, -, -, -, -⟩ := unhide KEEP _ hSw
    clear hSw
    (try dsimp only at hSw)
    go_simp
    try with_reducible rfl
  case rf11 =>
  simp only [Act.put, List.setIfInBounds_toArray, List.set_cons_zero, List.set_cons_succ]
  refine wpAnyH_take (i := 12) (oi := { dst := some 67, op := Go.Op.call { callee := Go.Callee.builtin Go.Builtin.len, args := #[Go.Operand.tmp 66], argTypes := #[24] }, type := 3, pos := "laws.go:466", after := #[{ on := 11, ground := Go.Ground.data }, { on := 9, ground := Go.Ground.guard }], guard := some (9, true) }) (v := ?vf12) rfl (by kernel_rfl) (by kernel_rfl) (by kernel_rfl) (fun _ _ _ h => h) (Or.inl ⟨by rfl, ?hf12⟩) hHeld ?rf12
  case hf12 =>
    intro wS hSw
    (try dsimp only at hSw)
    go_simp
    try with_reducible rfl
  case rf12 =>
  simp only [Act.put, List.setIfInBounds_toArray, List.set_cons_zero, List.set_cons_succ]
  refine wpAnyH_take (i := 13) (oi := { dst := some 68, op := Go.Op.move (Go.Operand.tmp 7), type := 3, pos := "laws.go:466", after := #[{ on := 9, ground := Go.Ground.guard }], guard := some (9, true) }) (v := ?vf13) rfl (by kernel_rfl) (by kernel_rfl) (by kernel_rfl) (fun _ _ _ h => h) (Or.inl ⟨by rfl, ?hf13⟩) hHeld ?rf13
  case hf13 =>
    intro wS hSw
    (try dsimp only at hSw)
    go_simp
    try with_reducible rfl
  case rf13 =>
  simp only [Act.put, List.setIfInBounds_toArray, List.set_cons_zero, List.set_cons_succ]
  refine wpAnyH_take (i := 14) (oi := { dst := some 69, op := Go.Op.binOp Go.BinOp.eql 3 (Go.Operand.tmp 67) (Go.Operand.tmp 68) 3, type := 4, pos := "laws.go:466", after := #[{ on := 12, ground := Go.Ground.data }, { on := 13, ground := Go.Ground.data }, { on := 9, ground := Go.Ground.guard }], guard := some (9, true) }) (v := ?vf14) rfl (by kernel_rfl) (by kernel_rfl) (by kernel_rfl) (fun _ _ _ h => h) (Or.inl ⟨by rfl, ?hf14⟩) hHeld ?rf14
  case hf14 =>
    intro wS hSw
    (try dsimp only at hSw)
    go_simp
    try with_reducible rfl
  case rf14 =>
  simp only [Act.put, List.setIfInBounds_toArray, List.set_cons_zero, List.set_cons_succ]
  refine wpAnyH_take (i := 15) (oi := { dst := some 70, op := Go.Op.pick (Go.Operand.tmp 64) (Go.Operand.tmp 69) (Go.Operand.const (Go.Value.bool false)), type := 4, pos := "laws.go:466", after := #[{ on := 9, ground := Go.Ground.data }, { on := 14, ground := Go.Ground.data }], guard := none }) (v := ?vf15) rfl (by kernel_rfl) (by kernel_rfl) (by kernel_rfl) (fun _ _ _ h => h) (Or.inl ⟨by rfl, ?hf15⟩) hHeld ?rf15
  case hf15 =>
    intro wS hSw
    (try dsimp only at hSw)
    go_simp
    try with_reducible rfl
  case rf15 =>
  simp only [Act.put, List.setIfInBounds_toArray, List.set_cons_zero, List.set_cons_succ]
  refine wpAnyH_take (i := 16) (oi := { dst := some 71, op := Go.Op.move (Go.Operand.tmp 70), type := 4, pos := "laws.go:466", after := #[{ on := 15, ground := Go.Ground.data }, { on := 9, ground := Go.Ground.chain }], guard := none }) (v := ?vf16) rfl (by kernel_rfl) (by kernel_rfl) (by kernel_rfl) (fun _ _ _ h => h) (Or.inl ⟨by rfl, ?hf16⟩) hHeld ?rf16
  case hf16 =>
    intro wS hSw
    (try dsimp only at hSw)
    go_simp
    try with_reducible rfl
  case rf16 =>
  simp only [Act.put, List.setIfInBounds_toArray, List.set_cons_zero, List.set_cons_succ]
  refine wpAnyH_take (i := 17) (oi := { dst := some 72, op := Go.Op.move (Go.Operand.tmp 7), type := 3, pos := "laws.go:466", after := #[{ on := 16, ground := Go.Ground.guard }], guard := some (16, true) }) (v := ?vf17) rfl (by kernel_rfl) (by kernel_rfl) (by kernel_rfl) (fun _ _ _ h => h) (Or.inl ⟨by rfl, ?hf17⟩) hHeld ?rf17
  case hf17 =>
    intro wS hSw
    (try dsimp only at hSw)
    go_simp
    try with_reducible rfl
  case rf17 =>
  simp only [Act.put, List.setIfInBounds_toArray, List.set_cons_zero, List.set_cons_succ]
  refine wpAnyH_take (i := 18) (oi := { dst := some 73, op := Go.Op.move (Go.Operand.tmp 3), type := 24, pos := "laws.go:466", after := #[{ on := 16, ground := Go.Ground.guard }], guard := some (16, true) }) (v := ?vf18) rfl (by kernel_rfl) (by kernel_rfl) (by kernel_rfl) (fun _ _ _ h => h) (Or.inl ⟨by rfl, ?hf18⟩) hHeld ?rf18
  case hf18 =>
    intro wS hSw
    (try dsimp only at hSw)
    go_simp
    try with_reducible rfl
  case rf18 =>
  simp only [Act.put, List.setIfInBounds_toArray, List.set_cons_zero, List.set_cons_succ]
  refine wpAnyH_take (i := 19) (oi := { dst := some 74, op := Go.Op.call { callee := Go.Callee.builtin Go.Builtin.len, args := #[Go.Operand.tmp 73], argTypes := #[24] }, type := 3, pos := "laws.go:466", after := #[{ on := 18, ground := Go.Ground.data }, { on := 16, ground := Go.Ground.guard }], guard := some (16, true) }) (v := ?vf19) rfl (by kernel_rfl) (by kernel_rfl) (by kernel_rfl) (fun _ _ _ h => h) (Or.inl ⟨by rfl, ?hf19⟩) hHeld ?rf19
  case hf19 =>
    intro wS hSw
    (try dsimp only at hSw)
    go_simp
    try with_reducible rfl
  case rf19 =>
  simp only [Act.put, List.setIfInBounds_toArray, List.set_cons_zero, List.set_cons_succ]
  refine wpAnyH_take (i := 20) (oi := { dst := some 75, op := Go.Op.binOp Go.BinOp.geq 3 (Go.Operand.tmp 72) (Go.Operand.tmp 74) 3, type := 4, pos := "laws.go:466", after := #[{ on := 17, ground := Go.Ground.data }, { on := 19, ground := Go.Ground.data }, { on := 16, ground := Go.Ground.guard }], guard := some (16, true) }) (v := ?vf20) rfl (by kernel_rfl) (by kernel_rfl) (by kernel_rfl) (fun _ _ _ h => h) (Or.inl ⟨by rfl, ?hf20⟩) hHeld ?rf20
  case hf20 =>
    intro wS hSw
    clear hSw
    have q0 : decide ((xs.length : Int) ≤ (ys.length : Int)) = true := by simp; omega
    have q00 : (xs.length : Int) ≤ (ys.length : Int) := by omega
    (try dsimp only at hSw)
    go_simp
    try with_reducible rfl
  case rf20 =>
  simp only [Act.put, List.setIfInBounds_toArray, List.set_cons_zero, List.set_cons_succ]
  refine wpAnyH_take (i := 21) (oi := { dst := some 76, op := Go.Op.pick (Go.Operand.tmp 71) (Go.Operand.tmp 75) (Go.Operand.const (Go.Value.bool false)), type := 4, pos := "laws.go:466", after := #[{ on := 16, ground := Go.Ground.data }, { on := 20, ground := Go.Ground.data }], guard := none }) (v := ?vf21) rfl (by kernel_rfl) (by kernel_rfl) (by kernel_rfl) (fun _ _ _ h => h) (Or.inl ⟨by rfl, ?hf21⟩) hHeld ?rf21
  case hf21 =>
    intro wS hSw
    (try dsimp only at hSw)
    go_simp
    try with_reducible rfl
  case rf21 =>
  simp only [Act.put, List.setIfInBounds_toArray, List.set_cons_zero, List.set_cons_succ]
  refine wpAnyH_take (i := 22) (oi := { dst := some 77, op := Go.Op.move (Go.Operand.tmp 76), type := 4, pos := "laws.go:466", after := #[{ on := 21, ground := Go.Ground.data }, { on := 16, ground := Go.Ground.chain }], guard := none }) (v := ?vf22) rfl (by kernel_rfl) (by kernel_rfl) (by kernel_rfl) (fun _ _ _ h => h) (Or.inl ⟨by rfl, ?hf22⟩) hHeld ?rf22
  case hf22 =>
    intro wS hSw
    (try dsimp only at hSw)
    go_simp
    try with_reducible rfl
  case rf22 =>
  simp only [Act.put, List.setIfInBounds_toArray, List.set_cons_zero, List.set_cons_succ]
  refine wpAnyH_take (i := 23) (oi := { dst := some 78, op := Go.Op.fieldAddr 36 (Go.Operand.tmp 9) 1, type := 0, pos := "laws.go:466", after := #[{ on := 22, ground := Go.Ground.guard }], guard := some (22, true) }) (v := ?vf23) rfl (by kernel_rfl) (by kernel_rfl) (by kernel_rfl) (fun _ _ _ h => h) (Or.inl ⟨by rfl, ?hf23⟩) hHeld ?rf23
  case hf23 =>
    intro wS hSw
    (try dsimp only at hSw)
    go_simp
    try with_reducible rfl
  case rf23 =>
  simp only [Act.put, List.setIfInBounds_toArray, List.set_cons_zero, List.set_cons_succ]
  refine wpAnyH_take (i := 24) (oi := { dst := some 79, op := Go.Op.load 2 (Go.Operand.tmp 78), type := 2, pos := "laws.go:466", after := #[{ on := 23, ground := Go.Ground.data }, { on := 22, ground := Go.Ground.guard }], guard := some (22, true) }) (v := ?vf24) rfl (by kernel_rfl) (by kernel_rfl) (by kernel_rfl) (fun _ _ _ h => h) (Or.inl ⟨by rfl, ?hf24⟩) hHeld ?rf24
  case hf24 =>
    intro wS hSw
    obtain ⟨-, -, -, -, -, -, -, -, -, -, -, -, -, q1, -, -, -, -, -⟩ := unhide KEEP _ hSw
    clear hSw
    (try dsimp only at hSw)
    go_simp
    try with_reducible rfl
  case rf24 =>
  simp only [Act.put, List.setIfInBounds_toArray, List.set_cons_zero, List.set_cons_succ]
  refine wpAnyH_take (i := 25) (oi := { dst := some 80, op := Go.Op.fieldAddr 36 (Go.Operand.tmp 8) 1, type := 0, pos := "laws.go:466", after := #[{ on := 22, ground := Go.Ground.guard }], guard := some (22, true) }) (v := ?vf25) rfl (by kernel_rfl) (by kernel_rfl) (by kernel_rfl) (fun _ _ _ h => h) (Or.inl ⟨by rfl, ?hf25⟩) hHeld ?rf25
  case hf25 =>
    intro wS hSw
    (try dsimp only at hSw)
    go_simp
    try with_reducible rfl
  case rf25 =>
  simp only [Act.put, List.setIfInBounds_toArray, List.set_cons_zero, List.set_cons_succ]
  refine wpAnyH_take (i := 26) (oi := { dst := some 81, op := Go.Op.load 2 (Go.Operand.tmp 80), type := 2, pos := "laws.go:466", after := #[{ on := 25, ground := Go.Ground.data }, { on := 22, ground := Go.Ground.guard }], guard := some (22, true) }) (v := ?vf26) rfl (by kernel_rfl) (by kernel_rfl) (by kernel_rfl) (fun _ _ _ h => h) (Or.inl ⟨by rfl, ?hf26⟩) hHeld ?rf26
  case hf26 =>
    intro wS hSw
    obtain ⟨-, -, -, -, -, -, -, -, -, -, -, -, -, -, p1, -, -, -, -⟩ := unhide KEEP _ hSw
    clear hSw
    (try dsimp only at hSw)
    go_simp
    try with_reducible rfl
  case rf26 =>
  simp only [Act.put, List.setIfInBounds_toArray, List.set_cons_zero, List.set_cons_succ]
  refine wpAnyH_take (i := 27) (oi := { dst := some 82, op := Go.Op.binOp Go.BinOp.sub 2 (Go.Operand.tmp 79) (Go.Operand.tmp 81) 2, type := 2, pos := "laws.go:466", after := #[{ on := 24, ground := Go.Ground.data }, { on := 26, ground := Go.Ground.data }, { on := 22, ground := Go.Ground.guard }], guard := some (22, true) }) (v := ?vf27) rfl (by kernel_rfl) (by kernel_rfl) (by kernel_rfl) (fun _ _ _ h => h) (Or.inl ⟨by rfl, ?hf27⟩) hHeld ?rf27
  case hf27 =>
    intro wS hSw
    clear hSw
    have q1 : IntKind.i64.wrap ((cb : Int) - (ca : Int)) = (cb : Int) - (ca : Int) := by have := unhide HCB; rw [IntKind.wrap_i64]; omega
    (try dsimp only at hSw)
    go_simp
    try with_reducible rfl
  case rf27 =>
  simp only [Act.put, List.setIfInBounds_toArray, List.set_cons_zero, List.set_cons_succ]
  refine wpAnyH_take (i := 28) (oi := { dst := some 83, op := Go.Op.move (Go.Operand.tmp 7), type := 3, pos := "laws.go:466", after := #[{ on := 22, ground := Go.Ground.guard }], guard := some (22, true) }) (v := ?vf28) rfl (by kernel_rfl) (by kernel_rfl) (by kernel_rfl) (fun _ _ _ h => h) (Or.inl ⟨by rfl, ?hf28⟩) hHeld ?rf28
  case hf28 =>
    intro wS hSw
    (try dsimp only at hSw)
    go_simp
    try with_reducible rfl
  case rf28 =>
  simp only [Act.put, List.setIfInBounds_toArray, List.set_cons_zero, List.set_cons_succ]
  refine wpAnyH_take (i := 29) (oi := { dst := some 84, op := Go.Op.move (Go.Operand.tmp 3), type := 24, pos := "laws.go:466", after := #[{ on := 22, ground := Go.Ground.guard }], guard := some (22, true) }) (v := ?vf29) rfl (by kernel_rfl) (by kernel_rfl) (by kernel_rfl) (fun _ _ _ h => h) (Or.inl ⟨by rfl, ?hf29⟩) hHeld ?rf29
  case hf29 =>
    intro wS hSw
    (try dsimp only at hSw)
    go_simp
    try with_reducible rfl
  case rf29 =>
  simp only [Act.put, List.setIfInBounds_toArray, List.set_cons_zero, List.set_cons_succ]
  refine wpAnyH_take (i := 30) (oi := { dst := some 85, op := Go.Op.call { callee := Go.Callee.builtin Go.Builtin.len, args := #[Go.Operand.tmp 84], argTypes := #[24] }, type := 3, pos := "laws.go:466", after := #[{ on := 29, ground := Go.Ground.data }, { on := 22, ground := Go.Ground.guard }], guard := some (22, true) }) (v := ?vf30) rfl (by kernel_rfl) (by kernel_rfl) (by kernel_rfl) (fun _ _ _ h => h) (Or.inl ⟨by rfl, ?hf30⟩) hHeld ?rf30
  case hf30 =>
    intro wS hSw
    (try dsimp only at hSw)
    go_simp
    try with_reducible rfl
  case rf30 =>
  simp only [Act.put, List.setIfInBounds_toArray, List.set_cons_zero, List.set_cons_succ]
  refine wpAnyH_take (i := 31) (oi := { dst := some 86, op := Go.Op.binOp Go.BinOp.sub 3 (Go.Operand.tmp 83) (Go.Operand.tmp 85) 3, type := 3, pos := "laws.go:466", after := #[{ on := 28, ground := Go.Ground.data }, { on := 30, ground := Go.Ground.data }, { on := 22, ground := Go.Ground.guard }], guard := some (22, true) }) (v := ?vf31) rfl (by kernel_rfl) (by kernel_rfl) (by kernel_rfl) (fun _ _ _ h => h) (Or.inl ⟨by rfl, ?hf31⟩) hHeld ?rf31
  case hf31 =>
    intro wS hSw
    clear hSw
    have q2 : IntKind.i64.wrap ((ys.length : Int) - (xs.length : Int)) = (ys.length : Int) - (xs.length : Int) := by rw [IntKind.wrap_i64]; omega
    (try dsimp only at hSw)
    go_simp
    try with_reducible rfl
  case rf31 =>
  simp only [Act.put, List.setIfInBounds_toArray, List.set_cons_zero, List.set_cons_succ]
  refine wpAnyH_take (i := 32) (oi := { dst := some 87, op := Go.Op.binOp Go.BinOp.eql 2 (Go.Operand.tmp 82) (Go.Operand.tmp 86) 2, type := 4, pos := "laws.go:466", after := #[{ on := 27, ground := Go.Ground.data }, { on := 31, ground := Go.Ground.data }, { on := 22, ground := Go.Ground.guard }], guard := some (22, true) }) (v := ?vf32) rfl (by kernel_rfl) (by kernel_rfl) (by kernel_rfl) (fun _ _ _ h => h) (Or.inl ⟨by rfl, ?hf32⟩) hHeld ?rf32
  case hf32 =>
    intro wS hSw
    clear hSw
    have q1 : IntKind.i64.wrap ((cb : Int) - (ca : Int)) = (cb : Int) - (ca : Int) := by have := unhide HCB; rw [IntKind.wrap_i64]; omega
    have q2 : IntKind.i64.wrap ((ys.length : Int) - (xs.length : Int)) = (ys.length : Int) - (xs.length : Int) := by rw [IntKind.wrap_i64]; omega
    have q4 : ((cb : Int) - (ca : Int) == (ys.length : Int) - (xs.length : Int)) = true := by have := unhide HCB; rw [beq_iff_eq]; omega
    (try dsimp only at hSw)
    go_simp
    try with_reducible rfl
  case rf32 =>
  simp only [Act.put, List.setIfInBounds_toArray, List.set_cons_zero, List.set_cons_succ]
  refine wpAnyH_take (i := 33) (oi := { dst := some 88, op := Go.Op.pick (Go.Operand.tmp 77) (Go.Operand.tmp 87) (Go.Operand.const (Go.Value.bool false)), type := 4, pos := "laws.go:466", after := #[{ on := 22, ground := Go.Ground.data }, { on := 32, ground := Go.Ground.data }], guard := none }) (v := ?vf33) rfl (by kernel_rfl) (by kernel_rfl) (by kernel_rfl) (fun _ _ _ h => h) (Or.inl ⟨by rfl, ?hf33⟩) hHeld ?rf33
  case hf33 =>
    intro wS hSw
    (try dsimp only at hSw)
    go_simp
    try with_reducible rfl
  case rf33 =>
  simp only [Act.put, List.setIfInBounds_toArray, List.set_cons_zero, List.set_cons_succ]
  refine wpAnyH_take (i := 34) (oi := { dst := some 89, op := Go.Op.move (Go.Operand.tmp 88), type := 4, pos := "laws.go:466", after := #[{ on := 33, ground := Go.Ground.data }, { on := 22, ground := Go.Ground.chain }], guard := none }) (v := ?vf34) rfl (by kernel_rfl) (by kernel_rfl) (by kernel_rfl) (fun _ _ _ h => h) (Or.inl ⟨by rfl, ?hf34⟩) hHeld ?rf34
  case hf34 =>
    intro wS hSw
    (try dsimp only at hSw)
    go_simp
    try with_reducible rfl
  case rf34 =>
  simp only [Act.put, List.setIfInBounds_toArray, List.set_cons_zero, List.set_cons_succ]
  refine wpAnyH_take (i := 35) (oi := { dst := some 90, op := Go.Op.fieldAddr 33 (Go.Operand.tmp 10) 0, type := 0, pos := "laws.go:466", after := #[{ on := 34, ground := Go.Ground.guard }], guard := some (34, true) }) (v := ?vf35) rfl (by kernel_rfl) (by kernel_rfl) (by kernel_rfl) (fun _ _ _ h => h) (Or.inl ⟨by rfl, ?hf35⟩) hHeld ?rf35
  case hf35 =>
    intro wS hSw
    (try dsimp only at hSw)
    go_simp
    try with_reducible rfl
  case rf35 =>
  simp only [Act.put, List.setIfInBounds_toArray, List.set_cons_zero, List.set_cons_succ]
  refine wpAnyH_take (i := 36) (oi := { dst := some 91, op := Go.Op.load 2 (Go.Operand.tmp 90), type := 2, pos := "laws.go:466", after := #[{ on := 35, ground := Go.Ground.data }, { on := 34, ground := Go.Ground.guard }], guard := some (34, true) }) (v := ?vf36) rfl (by kernel_rfl) (by kernel_rfl) (by kernel_rfl) (fun _ _ _ h => h) (Or.inl ⟨by rfl, ?hf36⟩) hHeld ?rf36
  case hf36 =>
    intro wS hSw
    obtain ⟨-, -, -, -, -, -, -, -, -, -, -, -, -, -, -, h0, -, -, -⟩ := unhide KEEP _ hSw
    clear hSw
    (try dsimp only at hSw)
    go_simp
    try with_reducible rfl
  case rf36 =>
  simp only [Act.put, List.setIfInBounds_toArray, List.set_cons_zero, List.set_cons_succ]
  refine wpAnyH_take (i := 37) (oi := { dst := some 92, op := Go.Op.binOp Go.BinOp.eql 2 (Go.Operand.tmp 91) (Go.Operand.const (Go.Value.int Go.IntKind.i64 0)) 2, type := 4, pos := "laws.go:466", after := #[{ on := 36, ground := Go.Ground.data }, { on := 34, ground := Go.Ground.guard }], guard := some (34, true) }) (v := ?vf37) rfl (by kernel_rfl) (by kernel_rfl) (by kernel_rfl) (fun _ _ _ h => h) (Or.inl ⟨by rfl, ?hf37⟩) hHeld ?rf37
  case hf37 =>
    intro wS hSw
    (try dsimp only at hSw)
    go_simp
    try with_reducible rfl
  case rf37 =>
  simp only [Act.put, List.setIfInBounds_toArray, List.set_cons_zero, List.set_cons_succ]
  refine wpAnyH_take (i := 38) (oi := { dst := some 93, op := Go.Op.pick (Go.Operand.tmp 89) (Go.Operand.tmp 92) (Go.Operand.const (Go.Value.bool false)), type := 4, pos := "laws.go:466", after := #[{ on := 34, ground := Go.Ground.data }, { on := 37, ground := Go.Ground.data }], guard := none }) (v := ?vf38) rfl (by kernel_rfl) (by kernel_rfl) (by kernel_rfl) (fun _ _ _ h => h) (Or.inl ⟨by rfl, ?hf38⟩) hHeld ?rf38
  case hf38 =>
    intro wS hSw
    (try dsimp only at hSw)
    go_simp
    try with_reducible rfl
  case rf38 =>
  simp only [Act.put, List.setIfInBounds_toArray, List.set_cons_zero, List.set_cons_succ]
  refine wpAnyH_take (i := 39) (oi := { dst := some 94, op := Go.Op.move (Go.Operand.tmp 93), type := 4, pos := "laws.go:466", after := #[{ on := 38, ground := Go.Ground.data }, { on := 34, ground := Go.Ground.chain }], guard := none }) (v := ?vf39) rfl (by kernel_rfl) (by kernel_rfl) (by kernel_rfl) (fun _ _ _ h => h) (Or.inl ⟨by rfl, ?hf39⟩) hHeld ?rf39
  case hf39 =>
    intro wS hSw
    (try dsimp only at hSw)
    go_simp
    try with_reducible rfl
  case rf39 =>
  simp only [Act.put, List.setIfInBounds_toArray, List.set_cons_zero, List.set_cons_succ]
  refine wpAnyH_take (i := 40) (oi := { dst := some 95, op := Go.Op.fieldAddr 33 (Go.Operand.tmp 10) 1, type := 0, pos := "laws.go:466", after := #[{ on := 39, ground := Go.Ground.guard }], guard := some (39, true) }) (v := ?vf40) rfl (by kernel_rfl) (by kernel_rfl) (by kernel_rfl) (fun _ _ _ h => h) (Or.inl ⟨by rfl, ?hf40⟩) hHeld ?rf40
  case hf40 =>
    intro wS hSw
    (try dsimp only at hSw)
    go_simp
    try with_reducible rfl
  case rf40 =>
  simp only [Act.put, List.setIfInBounds_toArray, List.set_cons_zero, List.set_cons_succ]
  refine wpAnyH_take (i := 41) (oi := { dst := some 96, op := Go.Op.load 24 (Go.Operand.tmp 95), type := 24, pos := "laws.go:466", after := #[{ on := 40, ground := Go.Ground.data }, { on := 39, ground := Go.Ground.guard }], guard := some (39, true) }) (v := ?vf41) rfl (by kernel_rfl) (by kernel_rfl) (by kernel_rfl) (fun _ _ _ h => h) (Or.inl ⟨by rfl, ?hf41⟩) hHeld ?rf41
  case hf41 =>
    intro wS hSw
    obtain ⟨-, -, -, -, -, -, -, -, -, -, -, -, -, -, -, -, h1, -, -⟩ := unhide KEEP _ hSw
    clear hSw
    (try dsimp only at hSw)
    go_simp
    try with_reducible rfl
  case rf41 =>
  simp only [Act.put, List.setIfInBounds_toArray, List.set_cons_zero, List.set_cons_succ]
  refine wpAnyH_take (i := 42) (oi := { dst := some 97, op := Go.Op.call { callee := Go.Callee.builtin Go.Builtin.len, args := #[Go.Operand.tmp 96], argTypes := #[24] }, type := 3, pos := "laws.go:466", after := #[{ on := 41, ground := Go.Ground.data }, { on := 39, ground := Go.Ground.guard }], guard := some (39, true) }) (v := ?vf42) rfl (by kernel_rfl) (by kernel_rfl) (by kernel_rfl) (fun _ _ _ h => h) (Or.inl ⟨by rfl, ?hf42⟩) hHeld ?rf42
  case hf42 =>
    intro wS hSw
    (try dsimp only at hSw)
    go_simp
    try with_reducible rfl
  case rf42 =>
  simp only [Act.put, List.setIfInBounds_toArray, List.set_cons_zero, List.set_cons_succ]
  refine wpAnyH_take (i := 43) (oi := { dst := some 98, op := Go.Op.move (Go.Operand.tmp 7), type := 3, pos := "laws.go:466", after := #[{ on := 39, ground := Go.Ground.guard }], guard := some (39, true) }) (v := ?vf43) rfl (by kernel_rfl) (by kernel_rfl) (by kernel_rfl) (fun _ _ _ h => h) (Or.inl ⟨by rfl, ?hf43⟩) hHeld ?rf43
  case hf43 =>
    intro wS hSw
    (try dsimp only at hSw)
    go_simp
    try with_reducible rfl
  case rf43 =>
  simp only [Act.put, List.setIfInBounds_toArray, List.set_cons_zero, List.set_cons_succ]
  refine wpAnyH_take (i := 44) (oi := { dst := some 99, op := Go.Op.binOp Go.BinOp.sub 3 (Go.Operand.tmp 98) (Go.Operand.const (Go.Value.int Go.IntKind.i64 1)) 3, type := 3, pos := "laws.go:466", after := #[{ on := 43, ground := Go.Ground.data }, { on := 39, ground := Go.Ground.guard }], guard := some (39, true) }) (v := ?vf44) rfl (by kernel_rfl) (by kernel_rfl) (by kernel_rfl) (fun _ _ _ h => h) (Or.inl ⟨by rfl, ?hf44⟩) hHeld ?rf44
  case hf44 =>
    intro wS hSw
    clear hSw
    have q3 : IntKind.i64.wrap ((ys.length : Int) - 1) = (ys.length : Int) - 1 := by rw [IntKind.wrap_i64]; omega
    (try dsimp only at hSw)
    go_simp
    try with_reducible rfl
  case rf44 =>
  simp only [Act.put, List.setIfInBounds_toArray, List.set_cons_zero, List.set_cons_succ]
  refine wpAnyH_take (i := 45) (oi := { dst := some 100, op := Go.Op.binOp Go.BinOp.eql 3 (Go.Operand.tmp 97) (Go.Operand.tmp 99) 3, type := 4, pos := "laws.go:466", after := #[{ on := 42, ground := Go.Ground.data }, { on := 44, ground := Go.Ground.data }, { on := 39, ground := Go.Ground.guard }], guard := some (39, true) }) (v := ?vf45) rfl (by kernel_rfl) (by kernel_rfl) (by kernel_rfl) (fun _ _ _ h => h) (Or.inl ⟨by rfl, ?hf45⟩) hHeld ?rf45
  case hf45 =>
    intro wS hSw
    clear hSw
    have q3 : IntKind.i64.wrap ((ys.length : Int) - 1) = (ys.length : Int) - 1 := by rw [IntKind.wrap_i64]; omega
    have q4 := unhide HZ1
    (try dsimp only at hSw)
    go_simp
    try with_reducible rfl
  case rf45 =>
  simp only [Act.put, List.setIfInBounds_toArray, List.set_cons_zero, List.set_cons_succ]
  refine wpAnyH_take (i := 46) (oi := { dst := some 101, op := Go.Op.pick (Go.Operand.tmp 94) (Go.Operand.tmp 100) (Go.Operand.const (Go.Value.bool false)), type := 4, pos := "laws.go:466", after := #[{ on := 39, ground := Go.Ground.data }, { on := 45, ground := Go.Ground.data }], guard := none }) (v := ?vf46) rfl (by kernel_rfl) (by kernel_rfl) (by kernel_rfl) (fun _ _ _ h => h) (Or.inl ⟨by rfl, ?hf46⟩) hHeld ?rf46
  case hf46 =>
    intro wS hSw
    (try dsimp only at hSw)
    go_simp
    try with_reducible rfl
  case rf46 =>
  simp only [Act.put, List.setIfInBounds_toArray, List.set_cons_zero, List.set_cons_succ]
  refine wpAnyH_take (i := 47) (oi := { dst := some 102, op := Go.Op.move (Go.Operand.tmp 101), type := 4, pos := "laws.go:466", after := #[{ on := 46, ground := Go.Ground.data }, { on := 39, ground := Go.Ground.chain }], guard := none }) (v := ?vf47) rfl (by kernel_rfl) (by kernel_rfl) (by kernel_rfl) (fun _ _ _ h => h) (Or.inl ⟨by rfl, ?hf47⟩) hHeld ?rf47
  case hf47 =>
    intro wS hSw
    (try dsimp only at hSw)
    go_simp
    try with_reducible rfl
  case rf47 =>
  simp only [Act.put, List.setIfInBounds_toArray, List.set_cons_zero, List.set_cons_succ]
  refine wpAnyH_take (i := 48) (oi := { dst := some 103, op := Go.Op.fieldAddr 40 (Go.Operand.tmp 11) 0, type := 0, pos := "laws.go:466", after := #[{ on := 47, ground := Go.Ground.guard }], guard := some (47, true) }) (v := ?vf48) rfl (by kernel_rfl) (by kernel_rfl) (by kernel_rfl) (fun _ _ _ h => h) (Or.inl ⟨by rfl, ?hf48⟩) hHeld ?rf48
  case hf48 =>
    intro wS hSw
    (try dsimp only at hSw)
    go_simp
    try with_reducible rfl
  case rf48 =>
  simp only [Act.put, List.setIfInBounds_toArray, List.set_cons_zero, List.set_cons_succ]
  refine wpAnyH_take (i := 49) (oi := { dst := some 104, op := Go.Op.load 2 (Go.Operand.tmp 103), type := 2, pos := "laws.go:466", after := #[{ on := 48, ground := Go.Ground.data }, { on := 47, ground := Go.Ground.guard }], guard := some (47, true) }) (v := ?vf49) rfl (by kernel_rfl) (by kernel_rfl) (by kernel_rfl) (fun _ _ _ h => h) (Or.inl ⟨by rfl, ?hf49⟩) hHeld ?rf49
  case hf49 =>
    intro wS hSw
    obtain ⟨-, -, -, -, -, -, -, -, -, -, -, -, -, -, -, -, -, t0, -⟩ := unhide KEEP _ hSw
    clear hSw
    (try dsimp only at hSw)
    go_simp
    try with_reducible rfl
  case rf49 =>
  simp only [Act.put, List.setIfInBounds_toArray, List.set_cons_zero, List.set_cons_succ]
  refine wpAnyH_take (i := 50) (oi := { dst := some 105, op := Go.Op.binOp Go.BinOp.eql 2 (Go.Operand.tmp 104) (Go.Operand.const (Go.Value.int Go.IntKind.i64 0)) 2, type := 4, pos := "laws.go:466", after := #[{ on := 49, ground := Go.Ground.data }, { on := 47, ground := Go.Ground.guard }], guard := some (47, true) }) (v := ?vf50) rfl (by kernel_rfl) (by kernel_rfl) (by kernel_rfl) (fun _ _ _ h => h) (Or.inl ⟨by rfl, ?hf50⟩) hHeld ?rf50
  case hf50 =>
    intro wS hSw
    (try dsimp only at hSw)
    go_simp
    try with_reducible rfl
  case rf50 =>
  simp only [Act.put, List.setIfInBounds_toArray, List.set_cons_zero, List.set_cons_succ]
  refine wpAnyH_take (i := 51) (oi := { dst := some 106, op := Go.Op.pick (Go.Operand.tmp 102) (Go.Operand.tmp 105) (Go.Operand.const (Go.Value.bool false)), type := 4, pos := "laws.go:466", after := #[{ on := 47, ground := Go.Ground.data }, { on := 50, ground := Go.Ground.data }], guard := none }) (v := ?vf51) rfl (by kernel_rfl) (by kernel_rfl) (by kernel_rfl) (fun _ _ _ h => h) (Or.inl ⟨by rfl, ?hf51⟩) hHeld ?rf51
  case hf51 =>
    intro wS hSw
    (try dsimp only at hSw)
    go_simp
    try with_reducible rfl
  case rf51 =>
  simp only [Act.put, List.setIfInBounds_toArray, List.set_cons_zero, List.set_cons_succ]
  refine wpAnyH_take (i := 52) (oi := { dst := some 107, op := Go.Op.move (Go.Operand.tmp 106), type := 4, pos := "laws.go:466", after := #[{ on := 51, ground := Go.Ground.data }, { on := 47, ground := Go.Ground.chain }], guard := none }) (v := ?vf52) rfl (by kernel_rfl) (by kernel_rfl) (by kernel_rfl) (fun _ _ _ h => h) (Or.inl ⟨by rfl, ?hf52⟩) hHeld ?rf52
  case hf52 =>
    intro wS hSw
    (try dsimp only at hSw)
    go_simp
    try with_reducible rfl
  case rf52 =>
  simp only [Act.put, List.setIfInBounds_toArray, List.set_cons_zero, List.set_cons_succ]
  refine wpAnyH_take (i := 53) (oi := { dst := some 108, op := Go.Op.fieldAddr 40 (Go.Operand.tmp 11) 1, type := 0, pos := "laws.go:466", after := #[{ on := 52, ground := Go.Ground.guard }], guard := some (52, true) }) (v := ?vf53) rfl (by kernel_rfl) (by kernel_rfl) (by kernel_rfl) (fun _ _ _ h => h) (Or.inl ⟨by rfl, ?hf53⟩) hHeld ?rf53
  case hf53 =>
    intro wS hSw
    (try dsimp only at hSw)
    go_simp
    try with_reducible rfl
  case rf53 =>
  simp only [Act.put, List.setIfInBounds_toArray, List.set_cons_zero, List.set_cons_succ]
  refine wpAnyH_take (i := 54) (oi := { dst := some 109, op := Go.Op.load 9 (Go.Operand.tmp 108), type := 9, pos := "laws.go:466", after := #[{ on := 53, ground := Go.Ground.data }, { on := 52, ground := Go.Ground.guard }], guard := some (52, true) }) (v := ?vf54) rfl (by kernel_rfl) (by kernel_rfl) (by kernel_rfl) (fun _ _ _ h => h) (Or.inl ⟨by rfl, ?hf54⟩) hHeld ?rf54
  case hf54 =>
    intro wS hSw
    obtain ⟨-, -, -, -, -, -, -, -, -, -, -, -, -, -, -, -, -, -, t1⟩ := unhide KEEP _ hSw
    clear hSw
    (try dsimp only at hSw)
    go_simp
    try with_reducible rfl
  case rf54 =>
  simp only [Act.put, List.setIfInBounds_toArray, List.set_cons_zero, List.set_cons_succ]
  refine wpAnyH_take (i := 55) (oi := { dst := some 110, op := Go.Op.load 29 (Go.Operand.tmp 4), type := 29, pos := "laws.go:466", after := #[{ on := 52, ground := Go.Ground.guard }], guard := some (52, true) }) (v := ?vf55) rfl (by kernel_rfl) (by kernel_rfl) (by kernel_rfl) (fun _ _ _ h => h) (Or.inl ⟨by rfl, ?hf55⟩) hHeld ?rf55
  case hf55 =>
    intro wS hSw
    obtain ⟨x0, x1, x2, x3, x4, x5, x6, x7, x8, x9, -, -, -, -, -, -, -, -, -⟩ := unhide KEEP _ hSw
    clear hSw
    (try dsimp only at hSw)
    go_simp
    try with_reducible rfl
  case rf55 =>
  simp only [Act.put, List.setIfInBounds_toArray, List.set_cons_zero, List.set_cons_succ]
  refine wpAnyH_ready (rs := [56]) (by kernel_rfl) (by simp) ?_
  refine AllReadyH.cons (o := { dst := some 111, op := Go.Op.call { callee := Go.Callee.value (Go.Operand.func 12), args := #[Go.Operand.tmp 110], argTypes := #[29] }, type := 40, pos := "laws.go:466", after := #[{ on := 55, ground := Go.Ground.data }, { on := 52, ground := Go.Ground.chain }, { on := 52, ground := Go.Ground.guard }], guard := some (52, true) }) rfl (fun K hK => ?_) AllReadyH.nil
  go_simp
  go_at_call 12
  refine (unhide LT _ hHeld).mono ?_
  rintro e u2 ⟨rfl, hbw⟩
  have hS2 := hHeld.trans (hbw.mono hHeld.size)
  clear hbw
  try go_wp2_with fail
  refine hK.out _ _ hS2 (fun hHeld => ?_)
  clear hK K
  try simp only [Act.put, List.setIfInBounds_toArray, List.set_cons_zero, List.set_cons_succ]
  refine wpAnyH_take (i := 57) (oi := { dst := some 112, op := Go.Op.field 40 (Go.Operand.tmp 111) 1, type := 9, pos := "laws.go:466", after := #[{ on := 56, ground := Go.Ground.data }, { on := 52, ground := Go.Ground.guard }], guard := some (52, true) }) (v := ?vf57) rfl (by kernel_rfl) (by kernel_rfl) (by kernel_rfl) (fun _ _ _ h => h) (Or.inl ⟨by rfl, ?hf57⟩) hHeld ?rf57
  case hf57 =>
    intro wS hSw
    have yf := fieldNT1
    clear hSw
    (try dsimp only at hSw)
    go_simp
    try with_reducible rfl
  case rf57 =>
  simp only [Act.put, List.setIfInBounds_toArray, List.set_cons_zero, List.set_cons_succ]
  refine wpAnyH_take (i := 58) (oi := { dst := some 113, op := Go.Op.binOp Go.BinOp.eql 9 (Go.Operand.tmp 109) (Go.Operand.tmp 112) 9, type := 4, pos := "laws.go:466", after := #[{ on := 54, ground := Go.Ground.data }, { on := 57, ground := Go.Ground.data }, { on := 52, ground := Go.Ground.guard }], guard := some (52, true) }) (v := ?vf58) rfl (by kernel_rfl) (by kernel_rfl) (by kernel_rfl) (fun _ _ _ h => h) (Or.inl ⟨by rfl, ?hf58⟩) hHeld ?rf58
  case hf58 =>
    intro wS hSw
    clear hSw
    have q5 := ba_reflN tx
    (try dsimp only at hSw)
    go_simp
    try with_reducible rfl
  case rf58 =>
  simp only [Act.put, List.setIfInBounds_toArray, List.set_cons_zero, List.set_cons_succ]
  refine wpAnyH_take (i := 59) (oi := { dst := some 114, op := Go.Op.pick (Go.Operand.tmp 107) (Go.Operand.tmp 113) (Go.Operand.const (Go.Value.bool false)), type := 4, pos := "laws.go:466", after := #[{ on := 52, ground := Go.Ground.data }, { on := 58, ground := Go.Ground.data }], guard := none }) (v := ?vf59) rfl (by kernel_rfl) (by kernel_rfl) (by kernel_rfl) (fun _ _ _ h => h) (Or.inl ⟨by rfl, ?hf59⟩) hHeld ?rf59
  case hf59 =>
    intro wS hSw
    (try dsimp only at hSw)
    go_simp
    try with_reducible rfl
  case rf59 =>
  simp only [Act.put, List.setIfInBounds_toArray, List.set_cons_zero, List.set_cons_succ]
  refine wpAnyH_take (i := 60) (oi := { dst := some 115, op := Go.Op.move (Go.Operand.tmp 114), type := 4, pos := "laws.go:466", after := #[{ on := 59, ground := Go.Ground.data }, { on := 56, ground := Go.Ground.chain }], guard := none }) (v := ?vf60) rfl (by kernel_rfl) (by kernel_rfl) (by kernel_rfl) (fun _ _ _ h => h) (Or.inl ⟨by rfl, ?hf60⟩) hHeld ?rf60
  case hf60 =>
    intro wS hSw
    (try dsimp only at hSw)
    go_simp
    try with_reducible rfl
  case rf60 =>
  simp only [Act.put, List.setIfInBounds_toArray, List.set_cons_zero, List.set_cons_succ]
  refine wpAnyH_take (i := 61) (oi := { dst := some 116, op := Go.Op.load 29 (Go.Operand.tmp 4), type := 29, pos := "laws.go:466", after := #[{ on := 60, ground := Go.Ground.guard }], guard := some (60, true) }) (v := ?vf61) rfl (by kernel_rfl) (by kernel_rfl) (by kernel_rfl) (fun _ _ _ h => h) (Or.inl ⟨by rfl, ?hf61⟩) hHeld ?rf61
  case hf61 =>
    intro wS hSw
    obtain ⟨x0, x1, x2, x3, x4, x5, x6, x7, x8, x9, -, -, -, -, -, -, -, -, -⟩ := unhide KEEP _ hSw
    clear hSw
    (try dsimp only at hSw)
    go_simp
    try with_reducible rfl
  case rf61 =>
  simp only [Act.put, List.setIfInBounds_toArray, List.set_cons_zero, List.set_cons_succ]
  refine wpAnyH_ready (rs := [62]) (by kernel_rfl) (by simp) ?_
  refine AllReadyH.cons (o := { dst := some 117, op := Go.Op.call { callee := Go.Callee.value (Go.Operand.func 13), args := #[Go.Operand.tmp 116], argTypes := #[29] }, type := 2, pos := "laws.go:466", after := #[{ on := 61, ground := Go.Ground.data }, { on := 60, ground := Go.Ground.chain }, { on := 60, ground := Go.Ground.guard }], guard := some (60, true) }) rfl (fun K hK => ?_) AllReadyH.nil
  go_simp
  go_at_call 13
  refine (unhide LM _ hHeld).mono ?_
  rintro e u3 ⟨rfl, hbw⟩
  have hS3 := hHeld.trans (hbw.mono hHeld.size)
  clear hbw
  try go_wp2_with fail
  refine hK.out _ _ hS3 (fun hHeld => ?_)
  clear hK K
  try simp only [Act.put, List.setIfInBounds_toArray, List.set_cons_zero, List.set_cons_succ]
  refine wpAnyH_take (i := 63) (oi := { dst := some 118, op := Go.Op.binOp Go.BinOp.eql 2 (Go.Operand.tmp 117) (Go.Operand.const (Go.Value.int Go.IntKind.i64 0)) 2, type := 4, pos := "laws.go:466", after := #[{ on := 62, ground := Go.Ground.data }, { on := 60, ground := Go.Ground.guard }], guard := some (60, true) }) (v := ?vf63) rfl (by kernel_rfl) (by kernel_rfl) (by kernel_rfl) (fun _ _ _ h => h) (Or.inl ⟨by rfl, ?hf63⟩) hHeld ?rf63
  case hf63 =>
    intro wS hSw
    (try dsimp only at hSw)
    go_simp
    try with_reducible rfl
  case rf63 =>
  simp only [Act.put, List.setIfInBounds_toArray, List.set_cons_zero, List.set_cons_succ]
  refine wpAnyH_take (i := 64) (oi := { dst := some 119, op := Go.Op.pick (Go.Operand.tmp 115) (Go.Operand.tmp 118) (Go.Operand.const (Go.Value.bool false)), type := 4, pos := "laws.go:466", after := #[{ on := 60, ground := Go.Ground.data }, { on := 63, ground := Go.Ground.data }], guard := none }) (v := ?vf64) rfl (by kernel_rfl) (by kernel_rfl) (by kernel_rfl) (fun _ _ _ h => h) (Or.inl ⟨by rfl, ?hf64⟩) hHeld ?rf64
  case hf64 =>
    intro wS hSw
    (try dsimp only at hSw)
    go_simp
    try with_reducible rfl
  case rf64 =>
  simp only [Act.put, List.setIfInBounds_toArray, List.set_cons_zero, List.set_cons_succ]
  refine wpAnyH_take (i := 65) (oi := { dst := some 2, op := Go.Op.assign (Go.Operand.tmp 119), type := 4, pos := "laws.go:466", after := ([{ on := 64, ground := Go.Ground.data }, { on := 62, ground := Go.Ground.chain }, { on := 0, ground := Go.Ground.phase }, { on := 1, ground := Go.Ground.phase }, { on := 2, ground := Go.Ground.phase }, { on := 3, ground := Go.Ground.phase }, { on := 4, ground := Go.Ground.phase }, { on := 5, ground := Go.Ground.phase }, { on := 6, ground := Go.Ground.phase }, { on := 7, ground := Go.Ground.phase }, { on := 8, ground := Go.Ground.phase }, { on := 9, ground := Go.Ground.phase }, { on := 10, ground := Go.Ground.phase }, { on := 11, ground := Go.Ground.phase }, { on := 12, ground := Go.Ground.phase }, { on := 13, ground := Go.Ground.phase }, { on := 14, ground := Go.Ground.phase }, { on := 15, ground := Go.Ground.phase }, { on := 16, ground := Go.Ground.phase }, { on := 17, ground := Go.Ground.phase }, { on := 18, ground := Go.Ground.phase }, { on := 19, ground := Go.Ground.phase }, { on := 20, ground := Go.Ground.phase }, { on := 21, ground := Go.Ground.phase }, { on := 22, ground := Go.Ground.phase }, { on := 23, ground := Go.Ground.phase }, { on := 24, ground := Go.Ground.phase }, { on := 25, ground := Go.Ground.phase }, { on := 26, ground := Go.Ground.phase }, { on := 27, ground := Go.Ground.phase }, { on := 28, ground := Go.Ground.phase }, { on := 29, ground := Go.Ground.phase }, { on := 30, ground := Go.Ground.phase }].append [{ on := 31, ground := Go.Ground.phase }, { on := 32, ground := Go.Ground.phase }, { on := 33, ground := Go.Ground.phase }, { on := 34, ground := Go.Ground.phase }, { on := 35, ground := Go.Ground.phase }, { on := 36, ground := Go.Ground.phase }, { on := 37, ground := Go.Ground.phase }, { on := 38, ground := Go.Ground.phase }, { on := 39, ground := Go.Ground.phase }, { on := 40, ground := Go.Ground.phase }, { on := 41, ground := Go.Ground.phase }, { on := 42, ground := Go.Ground.phase }, { on := 43, ground := Go.Ground.phase }, { on := 44, ground := Go.Ground.phase }, { on := 45, ground := Go.Ground.phase }, { on := 46, ground := Go.Ground.phase }, { on := 47, ground := Go.Ground.phase }, { on := 48, ground := Go.Ground.phase }, { on := 49, ground := Go.Ground.phase }, { on := 50, ground := Go.Ground.phase }, { on := 51, ground := Go.Ground.phase }, { on := 52, ground := Go.Ground.phase }, { on := 53, ground := Go.Ground.phase }, { on := 54, ground := Go.Ground.phase }, { on := 55, ground := Go.Ground.phase }, { on := 56, ground := Go.Ground.phase }, { on := 57, ground := Go.Ground.phase }, { on := 58, ground := Go.Ground.phase }, { on := 59, ground := Go.Ground.phase }, { on := 60, ground := Go.Ground.phase }, { on := 61, ground := Go.Ground.phase }, { on := 62, ground := Go.Ground.phase }, { on := 63, ground := Go.Ground.phase }, { on := 64, ground := Go.Ground.phase }]).toArray, guard := none }) (v := ?vf65) rfl (by kernel_rfl) (by kernel_rfl) (by kernel_rfl) (fun _ _ _ h => h) (Or.inl ⟨by rfl, ?hf65⟩) hHeld ?rf65
  case hf65 =>
    intro wS hSw
    (try dsimp only at hSw)
    go_simp
    try with_reducible rfl
  case rf65 =>
  simp only [Act.put, List.setIfInBounds_toArray, List.set_cons_zero, List.set_cons_succ]
  refine wpAnyH_done (by kernel_rfl) ?_ _
  refine NoPanic.normal ?_
  replace HB := hide ((unhide HB).trans (hHeld.mono (unhide HB).size))
  clear hHeld
  go_wp2_with fail
  go_ret
  exact ⟨rfl, unhide HB⟩

theorem lawFnNets (ao : Option Addr) (len cap : Nat) (zs : List Int) (w : World) (h : (ao = none ∧ len = 0 ∧ cap = 0 ∧ zs = []) ∨
    ∃ x, ao = some x ∧ len ≤ cap ∧ cap ≤ maxLen ∧ zs.length = cap ∧ (∀ i, i < zs.length → w.cell? (x.add i) = some (.int .u8 (zs.getD i 0))) ∧ ∀ n ∈ zs, (Lit.int .u8 n).wf = true) (ht : Tab w) :
    Calls Tryz.prog 3 #[.slice ao len cap] w fun e w' => e = .returned (.bool true) ∧ Below w.heap.size w w' := by
  by_cases hn : len ≤ 1048576
  · exact lawNets_few ao len cap w hn (isCode_of_row h hn) ht
  · exact lawNets_many ao len cap w (by omega)
end Go.Proofs.YtkmfkaljdngigaaGreatDoor
