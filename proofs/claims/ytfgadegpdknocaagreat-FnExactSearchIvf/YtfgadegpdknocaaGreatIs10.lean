/-
  Texts of this proof in one: ImplCmp, ImplId, ImplTab, MapTab, ImplFrom.
  Their conditions stand in their theorems.
-/
import Derived.Test.YtfgadegpdknocaaGreatChecked
import Derived.Test.YtfgadegpdknocaaGreatIs08
import Derived.Test.YtfgadegpdknocaaGreatIs09
import Derived.Deep.RegionHeld3
import Derived.Test.YtfgadegpdknocaaGreatIs01
import Derived.Test.YtfgadegpdknocaaGreatIs02
import Derived.Test.YtfgadegpdknocaaGreatIs06
import Derived.BigQuiet
import Derived.Deep.QuietTactic

namespace Go.Proofs.YtfgadegpdknocaaGreat
open Go.RowKit

theorem fieldV (a b : Int) (w : World) : (Instr.field 68 (.agg #[.int .i64 a, .int .i64 b]) 1).run Tryz.prog w = .ok (.int .i64 b) w := by kernel_rfl
def cmpI (a b : Int) : Int := if a < b then -1 else if b < a then 1 else 0

set_option maxHeartbeats 400000 in
theorem nanC (a : Int) (w : World) : Calls Tryz.prog 150 #[.int .i64 a] w fun e w' => e = .returned (.bool false) ∧ w' = w := by
  have hd : (a != a) = false := by simp
  go_enter Tryz.func150, Tryz.ntmps150
  go_wp2_with fail
  go_ret
  exact ⟨rfl, rfl⟩
set_option maxHeartbeats 1000000 in
theorem compareC (a b : Int) (w : World) : Calls Tryz.prog 137 #[.int .i64 a, .int .i64 b] w fun e w' => e = .returned (.int .i64 (cmpI a b)) ∧ w' = w := by
  generalize hF0 : cmpI a b = F0
  have HF0 := hide hF0
  clear hF0
  go_enter Tryz.func137, Tryz.ntmps137
  go_wp2_with fail
  refine (nanC a _).mono ?_
  rintro e w1 ⟨rfl, rfl⟩
  go_wp2_with fail
  refine (nanC b _).mono ?_
  rintro e w1 ⟨rfl, rfl⟩
  by_cases h1 : a < b
  · have hF : F0 = -1 := by rw [← unhide HF0, cmpI, if_pos h1]
    have d1 : decide (a < b) = true := by simpa using h1
    clear h1
    go_wp2_with fail
    go_ret
    exact ⟨by rw [hF]; rfl, rfl⟩
  · have d1 : decide (a < b) = false := by simpa using h1
    by_cases h2 : b < a
    · have hF : F0 = 1 := by rw [← unhide HF0, cmpI, if_neg h1, if_pos h2]
      have d2 : decide (b < a) = true := by simpa using h2
      clear h1 h2
      go_wp2_with fail
      go_ret
      exact ⟨by rw [hF]; rfl, rfl⟩
    · have hF : F0 = 0 := by rw [← unhide HF0, cmpI, if_neg h1, if_neg h2]
      have d2 : decide (b < a) = false := by simpa using h2
      clear h1 h2
      go_wp2_with fail
      go_ret
      exact ⟨by rw [hF]; rfl, rfl⟩

set_option maxRecDepth 100000 in
set_option maxHeartbeats 4000000 in
theorem cmpC (cs : List DCenter) (q : List Int) (ac : Option Addr) (dc : Nat) (aq : Option Addr) (dq Bl Bq p r : Nat) (w : World) (h1 : (Lay.sl Lay.tCenter).Reads w [.slice ac cs.length dc] cs) (h2 : IsInts w (.slice aq q.length dq) q) (hc : centersFault cs = 0) (hq : vecFault q = 0)
    (cl : w.cell? ⟨Bl, 0, none⟩ = some (.slice ac cs.length dc)) (cq : w.cell? ⟨Bq, 0, none⟩ = some (.slice aq q.length dq)) (hp : p < cs.length) (hr : r < cs.length) :
    Calls Tryz.prog 136 #[.int .i64 (p : Int), .int .i64 (r : Int), .pointer (some ⟨Bl, 0, none⟩), .pointer (some ⟨Bq, 0, none⟩)] w fun e w' => e = .returned (.int .i64 (cmpI (hitAt cs q p).2 (hitAt cs q r).2)) ∧ Below w.heap.size w w' := by
  obtain ⟨b, off, rfl, hbl⟩ := Lay.sl_addr h1 (by omega)
  obtain ⟨row1, k1, r1⟩ := Lay.row_at h1 hp
  obtain ⟨a1, d1, rfl, R1⟩ := open_Center r1
  obtain ⟨row2, k2, r2⟩ := Lay.row_at h1 hr
  obtain ⟨a2, d2, rfl, R2⟩ := open_Center r2
  have HC1 := hide (cen_cell (k1 0 (by decide)))
  have HC2 := hide (cen_cell (k2 0 (by decide)))
  have e1 : (hitAt cs q p).2 = score3 cs[p].vec q := by simp [hitAt, List.getD, List.getElem?_eq_getElem hp]
  have e2 : (hitAt cs q r).2 = score3 cs[r].vec q := by simp [hitAt, List.getD, List.getElem?_eq_getElem hr]
  have HV1 := hide ((centersFault_zero hc).2 cs[p] (List.getElem_mem hp))
  have HV2 := hide ((centersFault_zero hc).2 cs[r] (List.getElem_mem hr))
  rw [e1, e2]
  have HI1 := hide (Lay.ints_reads R1)
  have HI2 := hide (Lay.ints_reads R2)
  have HIQ := hide h2
  have HVQ := hide hq
  have HBL := hide cl
  have HBQ := hide cq
  clear e1 e2 k1 k2 r1 r2 R1 R2 h1 h2 hc hq cl cq
  generalize cs[p] = c1 at *
  generalize cs[r] = c2 at *
  go_enter Tryz.func136, Tryz.ntmps136
  go_wp2_with fail
  refine wp_region_noPanic ?_
  refine wp_region_held_drew (S := fun w' => Below w.heap.size w w') (by kernel_rfl) (Below.refl _ _).drew (fun hHeld => ?_)
  generalize w.drew = wD at hHeld ⊢
  refine wpAnyH_take (i := 0) (oi := { dst := some 7, op := Go.Op.load 28 (Go.Operand.tmp 2), type := 28, pos := "l07_ivf.go:51", after := #[], guard := none }) (v := ?vc0) rfl (by kernel_rfl) (by kernel_rfl) (by kernel_rfl) (fun _ _ _ h => h) (Or.inl ⟨by rfl, ?hc0⟩) hHeld ?rc0
  case hc0 =>
    intro wS hSw
    have y0 := (cell_keep hSw (unhide HBL))
    clear hSw
    (try dsimp only at hSw)
    go_simp
    try with_reducible rfl
  case rc0 =>
  simp only [Act.put, List.setIfInBounds_toArray, List.set_cons_zero, List.set_cons_succ]
  refine wpAnyH_take (i := 1) (oi := { dst := some 8, op := Go.Op.move (Go.Operand.tmp 0), type := 2, pos := "l07_ivf.go:51", after := #[], guard := none }) (v := ?vc1) rfl (by kernel_rfl) (by kernel_rfl) (by kernel_rfl) (fun _ _ _ h => h) (Or.inl ⟨by rfl, ?hc1⟩) hHeld ?rc1
  case hc1 =>
    intro wS hSw
    (try dsimp only at hSw)
    go_simp
    try with_reducible rfl
  case rc1 =>
  simp only [Act.put, List.setIfInBounds_toArray, List.set_cons_zero, List.set_cons_succ]
  refine wpAnyH_take (i := 2) (oi := { dst := some 9, op := Go.Op.indexAddr 28 (Go.Operand.tmp 7) (Go.Operand.tmp 8), type := 0, pos := "l07_ivf.go:51", after := #[{ on := 0, ground := Go.Ground.data }, { on := 1, ground := Go.Ground.data }], guard := none }) (v := ?vc2) rfl (by kernel_rfl) (by kernel_rfl) (by kernel_rfl) (fun _ _ _ h => h) (Or.inl ⟨by rfl, ?hc2⟩) hHeld ?rc2
  case hc2 =>
    intro wS hSw
    (try dsimp only at hSw)
    go_simp
    try with_reducible rfl
  case rc2 =>
  simp only [Act.put, List.setIfInBounds_toArray, List.set_cons_zero, List.set_cons_succ]
  refine wpAnyH_take (i := 3) (oi := { dst := some 10, op := Go.Op.fieldAddr 134 (Go.Operand.tmp 9) 0, type := 0, pos := "l07_ivf.go:51", after := #[{ on := 2, ground := Go.Ground.data }], guard := none }) (v := ?vc3) rfl (by kernel_rfl) (by kernel_rfl) (by kernel_rfl) (fun _ _ _ h => h) (Or.inl ⟨by rfl, ?hc3⟩) hHeld ?rc3
  case hc3 =>
    intro wS hSw
    (try dsimp only at hSw)
    go_simp
    try with_reducible rfl
  case rc3 =>
  simp only [Act.put, List.setIfInBounds_toArray, List.set_cons_zero, List.set_cons_succ]
  refine wpAnyH_take (i := 4) (oi := { dst := some 11, op := Go.Op.load 26 (Go.Operand.tmp 10), type := 26, pos := "l07_ivf.go:51", after := #[{ on := 3, ground := Go.Ground.data }], guard := none }) (v := ?vc4) rfl (by kernel_rfl) (by kernel_rfl) (by kernel_rfl) (fun _ _ _ h => h) (Or.inl ⟨by rfl, ?hc4⟩) hHeld ?rc4
  case hc4 =>
    intro wS hSw
    have y0 := (cell_keep hSw (unhide HC1))
    clear hSw
    (try dsimp only at hSw)
    go_simp
    try with_reducible rfl
  case rc4 =>
  simp only [Act.put, List.setIfInBounds_toArray, List.set_cons_zero, List.set_cons_succ]
  refine wpAnyH_take (i := 5) (oi := { dst := some 12, op := Go.Op.load 26 (Go.Operand.tmp 3), type := 26, pos := "l07_ivf.go:51", after := #[], guard := none }) (v := ?vc5) rfl (by kernel_rfl) (by kernel_rfl) (by kernel_rfl) (fun _ _ _ h => h) (Or.inl ⟨by rfl, ?hc5⟩) hHeld ?rc5
  case hc5 =>
    intro wS hSw
    have y0 := (cell_keep hSw (unhide HBQ))
    clear hSw
    (try dsimp only at hSw)
    go_simp
    try with_reducible rfl
  case rc5 =>
  simp only [Act.put, List.setIfInBounds_toArray, List.set_cons_zero, List.set_cons_succ]
  refine wpAnyH_take (i := 8) (oi := { dst := some 15, op := Go.Op.load 28 (Go.Operand.tmp 2), type := 28, pos := "l07_ivf.go:51", after := #[], guard := none }) (v := ?vc8) rfl (by kernel_rfl) (by kernel_rfl) (by kernel_rfl) (fun _ _ _ h => h) (Or.inl ⟨by rfl, ?hc8⟩) hHeld ?rc8
  case hc8 =>
    intro wS hSw
    have y0 := (cell_keep hSw (unhide HBL))
    clear hSw
    (try dsimp only at hSw)
    go_simp
    try with_reducible rfl
  case rc8 =>
  simp only [Act.put, List.setIfInBounds_toArray, List.set_cons_zero, List.set_cons_succ]
  refine wpAnyH_take (i := 9) (oi := { dst := some 16, op := Go.Op.move (Go.Operand.tmp 1), type := 2, pos := "l07_ivf.go:51", after := #[], guard := none }) (v := ?vc9) rfl (by kernel_rfl) (by kernel_rfl) (by kernel_rfl) (fun _ _ _ h => h) (Or.inl ⟨by rfl, ?hc9⟩) hHeld ?rc9
  case hc9 =>
    intro wS hSw
    (try dsimp only at hSw)
    go_simp
    try with_reducible rfl
  case rc9 =>
  simp only [Act.put, List.setIfInBounds_toArray, List.set_cons_zero, List.set_cons_succ]
  refine wpAnyH_take (i := 10) (oi := { dst := some 17, op := Go.Op.indexAddr 28 (Go.Operand.tmp 15) (Go.Operand.tmp 16), type := 0, pos := "l07_ivf.go:51", after := #[{ on := 8, ground := Go.Ground.data }, { on := 9, ground := Go.Ground.data }], guard := none }) (v := ?vc10) rfl (by kernel_rfl) (by kernel_rfl) (by kernel_rfl) (fun _ _ _ h => h) (Or.inl ⟨by rfl, ?hc10⟩) hHeld ?rc10
  case hc10 =>
    intro wS hSw
    (try dsimp only at hSw)
    go_simp
    try with_reducible rfl
  case rc10 =>
  simp only [Act.put, List.setIfInBounds_toArray, List.set_cons_zero, List.set_cons_succ]
  refine wpAnyH_take (i := 11) (oi := { dst := some 18, op := Go.Op.fieldAddr 134 (Go.Operand.tmp 17) 0, type := 0, pos := "l07_ivf.go:51", after := #[{ on := 10, ground := Go.Ground.data }], guard := none }) (v := ?vc11) rfl (by kernel_rfl) (by kernel_rfl) (by kernel_rfl) (fun _ _ _ h => h) (Or.inl ⟨by rfl, ?hc11⟩) hHeld ?rc11
  case hc11 =>
    intro wS hSw
    (try dsimp only at hSw)
    go_simp
    try with_reducible rfl
  case rc11 =>
  simp only [Act.put, List.setIfInBounds_toArray, List.set_cons_zero, List.set_cons_succ]
  refine wpAnyH_take (i := 12) (oi := { dst := some 19, op := Go.Op.load 26 (Go.Operand.tmp 18), type := 26, pos := "l07_ivf.go:51", after := #[{ on := 11, ground := Go.Ground.data }], guard := none }) (v := ?vc12) rfl (by kernel_rfl) (by kernel_rfl) (by kernel_rfl) (fun _ _ _ h => h) (Or.inl ⟨by rfl, ?hc12⟩) hHeld ?rc12
  case hc12 =>
    intro wS hSw
    have y0 := (cell_keep hSw (unhide HC2))
    clear hSw
    (try dsimp only at hSw)
    go_simp
    try with_reducible rfl
  case rc12 =>
  simp only [Act.put, List.setIfInBounds_toArray, List.set_cons_zero, List.set_cons_succ]
  refine wpAnyH_take (i := 13) (oi := { dst := some 20, op := Go.Op.load 26 (Go.Operand.tmp 3), type := 26, pos := "l07_ivf.go:51", after := #[], guard := none }) (v := ?vc13) rfl (by kernel_rfl) (by kernel_rfl) (by kernel_rfl) (fun _ _ _ h => h) (Or.inl ⟨by rfl, ?hc13⟩) hHeld ?rc13
  case hc13 =>
    intro wS hSw
    have y0 := (cell_keep hSw (unhide HBQ))
    clear hSw
    (try dsimp only at hSw)
    go_simp
    try with_reducible rfl
  case rc13 =>
  simp only [Act.put, List.setIfInBounds_toArray, List.set_cons_zero, List.set_cons_succ]
  refine wpAnyH_ready (rs := [6]) (by kernel_rfl) (by simp) ?_
  refine AllReadyH.cons (o := { dst := some 13, op := Go.Op.call { callee := Go.Callee.value (Go.Operand.func 31), args := #[Go.Operand.tmp 11, Go.Operand.tmp 12], argTypes := #[26, 26] }, type := 68, pos := "l07_ivf.go:51", after := #[{ on := 4, ground := Go.Ground.data }, { on := 5, ground := Go.Ground.data }], guard := none }) rfl (fun K hK => ?_) AllReadyH.nil
  go_simp
  go_at_call 31
  refine (implScore3 _ _ _ _ _ ((unhide HI1).later hHeld) ((unhide HIQ).later hHeld) (unhide HV1) (unhide HVQ)).mono ?_
  rintro e w3 ⟨rfl, hb3⟩
  try go_wp2_with fail
  refine hK.out _ _ (hHeld.trans (hb3.mono hHeld.size)) (fun hHeld => ?_)
  clear hK K
  try simp only [Act.put, List.setIfInBounds_toArray, List.set_cons_zero, List.set_cons_succ]
  refine wpAnyH_take (i := 7) (oi := { dst := some 14, op := Go.Op.field 68 (Go.Operand.tmp 13) 1, type := 2, pos := "l07_ivf.go:51", after := #[{ on := 6, ground := Go.Ground.data }], guard := none }) (v := ?vc7) rfl (by kernel_rfl) (by kernel_rfl) (by kernel_rfl) (fun _ _ _ h => h) (Or.inl ⟨by rfl, ?hc7⟩) hHeld ?rc7
  case hc7 =>
    intro wS hSw
    have hfl := fieldV 0 (score3 c1.vec q) wS
    (try dsimp only at hSw)
    go_simp
    try with_reducible rfl
  case rc7 =>
  simp only [Act.put, List.setIfInBounds_toArray, List.set_cons_zero, List.set_cons_succ]
  refine wpAnyH_ready (rs := [14]) (by kernel_rfl) (by simp) ?_
  refine AllReadyH.cons (o := { dst := some 21, op := Go.Op.call { callee := Go.Callee.value (Go.Operand.func 31), args := #[Go.Operand.tmp 19, Go.Operand.tmp 20], argTypes := #[26, 26] }, type := 68, pos := "l07_ivf.go:51", after := #[{ on := 12, ground := Go.Ground.data }, { on := 13, ground := Go.Ground.data }, { on := 6, ground := Go.Ground.chain }], guard := none }) rfl (fun K hK => ?_) AllReadyH.nil
  go_simp
  go_at_call 31
  refine (implScore3 _ _ _ _ _ ((unhide HI2).later hHeld) ((unhide HIQ).later hHeld) (unhide HV2) (unhide HVQ)).mono ?_
  rintro e w4 ⟨rfl, hb4⟩
  try go_wp2_with fail
  refine hK.out _ _ (hHeld.trans (hb4.mono hHeld.size)) (fun hHeld => ?_)
  clear hK K
  try simp only [Act.put, List.setIfInBounds_toArray, List.set_cons_zero, List.set_cons_succ]
  refine wpAnyH_take (i := 15) (oi := { dst := some 22, op := Go.Op.field 68 (Go.Operand.tmp 21) 1, type := 2, pos := "l07_ivf.go:51", after := #[{ on := 14, ground := Go.Ground.data }], guard := none }) (v := ?vc15) rfl (by kernel_rfl) (by kernel_rfl) (by kernel_rfl) (fun _ _ _ h => h) (Or.inl ⟨by rfl, ?hc15⟩) hHeld ?rc15
  case hc15 =>
    intro wS hSw
    have hfl := fieldV 0 (score3 c2.vec q) wS
    (try dsimp only at hSw)
    go_simp
    try with_reducible rfl
  case rc15 =>
  simp only [Act.put, List.setIfInBounds_toArray, List.set_cons_zero, List.set_cons_succ]
  refine wpAnyH_ready (rs := [16]) (by kernel_rfl) (by simp) ?_
  refine AllReadyH.cons (o := { dst := some 23, op := Go.Op.call { callee := Go.Callee.value (Go.Operand.func 137), args := #[Go.Operand.tmp 14, Go.Operand.tmp 22], argTypes := #[2, 2] }, type := 3, pos := "l07_ivf.go:51", after := #[{ on := 7, ground := Go.Ground.data }, { on := 15, ground := Go.Ground.data }, { on := 14, ground := Go.Ground.chain }], guard := none }) rfl (fun K hK => ?_) AllReadyH.nil
  go_simp
  go_at_call 137
  refine (compareC _ _ _).mono ?_
  rintro e w5 ⟨rfl, rfl⟩
  try go_wp2_with fail
  refine hK.out _ _ hHeld (fun hHeld => ?_)
  clear hK K
  try simp only [Act.put, List.setIfInBounds_toArray, List.set_cons_zero, List.set_cons_succ]
  refine wpAnyH_take (i := 17) (oi := { dst := some 6, op := Go.Op.assign (Go.Operand.tmp 23), type := 3, pos := "l07_ivf.go:51", after := #[{ on := 16, ground := Go.Ground.data }, { on := 16, ground := Go.Ground.chain }, { on := 0, ground := Go.Ground.phase }, { on := 1, ground := Go.Ground.phase }, { on := 2, ground := Go.Ground.phase }, { on := 3, ground := Go.Ground.phase }, { on := 4, ground := Go.Ground.phase }, { on := 5, ground := Go.Ground.phase }, { on := 6, ground := Go.Ground.phase }, { on := 7, ground := Go.Ground.phase }, { on := 8, ground := Go.Ground.phase }, { on := 9, ground := Go.Ground.phase }, { on := 10, ground := Go.Ground.phase }, { on := 11, ground := Go.Ground.phase }, { on := 12, ground := Go.Ground.phase }, { on := 13, ground := Go.Ground.phase }, { on := 14, ground := Go.Ground.phase }, { on := 15, ground := Go.Ground.phase }, { on := 16, ground := Go.Ground.phase }], guard := none }) (v := ?vc17) rfl (by kernel_rfl) (by kernel_rfl) (by kernel_rfl) (fun _ _ _ h => h) (Or.inl ⟨by rfl, ?hc17⟩) hHeld ?rc17
  case hc17 =>
    intro wS hSw
    (try dsimp only at hSw)
    go_simp
    try with_reducible rfl
  case rc17 =>
  simp only [Act.put, List.setIfInBounds_toArray, List.set_cons_zero, List.set_cons_succ]
  refine wpAnyH_done (by kernel_rfl) ?_ _
  refine NoPanic.normal ?_
  have HB := hide hHeld
  clear hHeld
  go_wp2_with fail
  go_ret
  exact ⟨rfl, unhide HB⟩

end Go.Proofs.YtfgadegpdknocaaGreat

namespace Go.Proofs.YtfgadegpdknocaaGreat
open Go.RowKit

theorem implId (v : Int) (w : World) :
    Calls Tryz.prog 46 #[.int .i64 v] w fun e w' => e = .returned (.bool (decide (1 ≤ v) && decide (v ≤ 999))) ∧ w' = w := by
  by_cases h1 : 1 ≤ v
  · have d1 : decide (1 ≤ v) = true := by simpa using h1
    rw [d1]
    cases d2 : decide (v ≤ 999) <;>
    · go_enter Tryz.func46, Tryz.ntmps46
      go_wp2_with fail
      go_ret
      exact ⟨rfl, rfl⟩
  · have d1 : decide (1 ≤ v) = false := by simpa using h1
    rw [d1]
    go_enter Tryz.func46, Tryz.ntmps46
    go_wp2_with fail
    go_ret
    exact ⟨rfl, rfl⟩

end Go.Proofs.YtfgadegpdknocaaGreat

namespace Go.Proofs.YtfgadegpdknocaaGreat
open Go.RowKit

set_option maxRecDepth 100000 in
set_option maxHeartbeats 1000000 in
theorem implTab_pos (b off cap : Nat) (xs : List DItem) (w : World) (hn : xs.length ≤ 30) (h : (Lay.sl Lay.tItem).Reads w [.slice (some ⟨b, off, none⟩) xs.length cap] xs) (hbl : b < w.heap.size) :
    Calls Tryz.prog 75 #[.slice (some ⟨b, off, none⟩) xs.length cap] w fun e w' => e = .returned (.int .i64 (tabFrom none xs)) ∧ Below w.heap.size w w' := by
  generalize hF0 : tabFrom none xs = F0
  have H := hide h
  clear h
  go_enter Tryz.func75, Tryz.ntmps75
  go_wp2_with fail
  go_loopw [11] (fun i wr => ∃ k : Nat, k ≤ xs.length ∧ i = .int .i64 k ∧ tabFrom (idAhead xs k) (xs.drop k) = F0 ∧ Below w.heap.size w wr) (fun i _ => xs.length - (intOf i).toNat)
  case atStart => exact ⟨0, Nat.zero_le _, rfl, hF0, Below.refl _ _⟩
  case round =>
    obtain ⟨k, hk, rfl, hF, hB⟩ := hrel
    by_cases hlt : k < xs.length
    · obtain ⟨row, hc, hr⟩ := Lay.row_at (unhide H) hlt
      replace hr := hr.later hB
      obtain ⟨a1, d1, rfl, R1⟩ := open_Item hr
      have c0 : wr.cell? ⟨b, off + k * 2, none⟩ = some (.int .i64 (xs[k]).id) := (hB.cell (p := ⟨b, off + k * 2, none⟩) hbl).trans (hc 0 (by decide))
      have c1 : wr.cell? ⟨b, off + k * 2 + 1, none⟩ = some (.slice a1 (xs[k]).vec.length d1) := (hB.cell (p := ⟨b, off + k * 2 + 1, none⟩) hbl).trans (hc 1 (by decide))
      have HP : Hid (∀ m, k = m + 1 → ∃ z, idAhead xs (m + 1) = some z ∧ wr.cell? ⟨b, off + m * 2, none⟩ = some (.int .i64 z)) := by
        rintro m rfl
        have hm : m < xs.length := by omega
        obtain ⟨row2, hc2, hr2⟩ := Lay.row_at (unhide H) hm
        obtain ⟨a2, d2, rfl, -⟩ := open_Item hr2
        exact ⟨_, idAhead_succ xs m hm, (hB.cell (p := ⟨b, off + m * 2, none⟩) hbl).trans (hc2 0 (by decide))⟩
      rw [tabFrom_step xs k hlt] at hF
      clear hc hr
      generalize hx : xs[k] = x at *
      clear hx
      have hbr : b < wr.heap.size := Nat.lt_of_lt_of_le hbl hB.size
      have nb : Below wr.heap.size wr (wr.alloc (.cells #[.int .i64 x.id, .slice a1 x.vec.length d1] 133)) := (Below.refl _ _).alloc (Nat.le_refl _) _
      have I1 := hide ((Lay.ints_reads R1).later nb)
      have HF := hide hF
      have B1 := hide (hB.trans (nb.mono hB.size))
      clear R1 hF hB nb
      go_wp2_with fail
      refine (implId x.id _).mono ?_
      rintro e w1 ⟨rfl, rfl⟩
      rw [show (decide (1 ≤ x.id) && decide (x.id ≤ 999)) = idB x.id from rfl]
      cases hid : idB x.id with
      | false =>
        have hF := unhide HF
        rw [hid, if_neg (by simp)] at hF
        have HF2 := hide hF
        clear HF hF hid HP
        go_wp2_with fail
        go_ret
        exact ⟨by rw [← unhide HF2]; rfl, unhide B1⟩
      | true =>
        have hF := unhide HF
        rw [hid, if_pos rfl] at hF
        clear HF hid
        have HF := hide hF
        clear hF
        go_wp2_with fail
        refine (implFault _ x.vec _ (unhide I1)).mono ?_
        rintro e w1 ⟨rfl, rfl⟩
        by_cases hv : vecFault x.vec = 0
        · rw [hv]
          have hF := unhide HF
          rw [if_pos hv] at hF
          clear HF I1 hv
          have HF := hide hF
          clear hF
          by_cases hk0 : k = 0
          · subst hk0
            have hF := unhide HF
            rw [idAhead_zero, Option.all_none, if_pos rfl] at hF
            have HF3 := hide hF
            clear HF hF HP
            have g0 : decide ((0 : Int) < 0) = false := by decide
            go_wp2_with fail
            go_quiet (fail)
            all_goals go_wp2_with fail
            all_goals exact ⟨⟨0 + 1, by omega, by go_num, unhide HF3, below_drewN (unhide B1) _⟩, by simp [intOf]; omega⟩
          · obtain ⟨m, rfl⟩ : ∃ m, k = m + 1 := ⟨k - 1, by omega⟩
            obtain ⟨z, e1, p0⟩ := unhide HP m rfl
            have hF := unhide HF
            rw [e1, Option.all_some] at hF
            have HF3 := hide hF
            clear HF hF HP e1 hk0
            have g1 : decide ((0 : Int) < (m : Int) + 1) = true := by simp
            have g4 : IntKind.i64.wrap ((m : Int) + 1 - 1) = (m : Int) := by simp only [IntKind.wrap_i64]; omega
            have g9 : IntKind.i64.wrap (m : Int) = (m : Int) := by simp only [IntKind.wrap_i64]; omega
            have g2 : (m : Int) + 1 - 1 = (m : Int) := by omega
            have g3 : (m : Int) < (xs.length : Int) := by omega
            have g5 : (0 : Int) ≤ (m : Int) := by omega
            cases hq : decide (z < x.id) with
            | true =>
              have hF := unhide HF3
              rw [hq, if_pos rfl] at hF
              have HF4 := hide hF
              have q1 : decide (x.id ≤ z) = false := by simp at hq ⊢; omega
              clear hF HF3 hq
              go_wp2_with fail
              go_quiet (fail)
              all_goals go_wp2_with fail
              all_goals exact ⟨⟨m + 1 + 1, by omega, by go_num, unhide HF4, below_drewN (unhide B1) _⟩, by simp [intOf]; omega⟩
            | false =>
              have hF := unhide HF3
              rw [hq, if_neg (by simp)] at hF
              have HF4 := hide hF
              have q1 : decide (x.id ≤ z) = true := by simp at hq ⊢; omega
              clear hF HF3 hq
              go_wp2_with fail
              go_quiet (fail)
              all_goals go_wp2_with fail
              all_goals go_ret
              all_goals exact ⟨by rw [← unhide HF4]; rfl, below_drewN (unhide B1) _⟩
        · have hF := unhide HF
          rw [if_neg hv] at hF
          have hd : (vecFault x.vec != 0) = true := by simpa using hv
          have HF2 := hide hF
          clear HF hF HP I1 hv
          go_wp2_with fail
          go_ret
          exact ⟨by rw [← unhide HF2]; rfl, unhide B1⟩
    · obtain rfl : k = xs.length := by omega
      rw [List.drop_length] at hF
      have HF := hide hF
      have HB := hide hB
      clear hF hB H
      go_wp2_with fail
      go_ret
      exact ⟨by rw [← unhide HF]; rfl, unhide HB⟩

set_option maxRecDepth 10000 in
/-- TableFault of the program. -/
theorem implTab (v : Value) (xs : List DItem) (w : World) (h : (Lay.sl Lay.tItem).Reads w [v] xs) :
    Calls Tryz.prog 75 #[v] w fun e w' => e = .returned (.int .i64 (tableFault xs)) ∧ Below w.heap.size w w' := by
  obtain ⟨ao, cap, rfl⟩ := open_sl h
  by_cases hn : xs.length ≤ 30
  · have e : tableFault xs = tabFrom none xs := by unfold tableFault; rw [if_neg (by omega)]
    rw [e]
    by_cases hp : 0 < xs.length
    · obtain ⟨b, off, rfl, hbl⟩ := Lay.sl_addr h hp
      exact implTab_pos b off cap xs w hn h hbl
    · obtain rfl : xs = [] := List.eq_nil_of_length_eq_zero (by omega)
      clear h e hn hp
      go_enter Tryz.func75, Tryz.ntmps75
      go_wp2_with fail
      refine wp_loop_rounds 1 ?_
      rw [rounds_succ]
      go_wp2_with fail
      go_ret
      exact ⟨rfl, Below.refl _ _⟩
  · have e : tableFault xs = 2 := by unfold tableFault; rw [if_pos (by omega)]
    rw [e]
    have hd : decide ((30 : Int) < (xs.length : Int)) = true := by simp; omega
    clear h e
    go_enter Tryz.func75, Tryz.ntmps75
    go_wp2_with fail
    go_ret
    exact ⟨rfl, Below.refl _ _⟩

end Go.Proofs.YtfgadegpdknocaaGreat

namespace Go.Proofs.YtfgadegpdknocaaGreat
open Go.RowKit Go.Maps

def vecR : Value → Option (DataW Unit × List MemPlace)
  | .agg cs => match cs.toList with
    | [.int .i64 a, .int .i64 b, .int .i64 c] => some (vecD [a, b, c], [])
    | _ => none
  | _ => none
theorem vecR_mk (a b c : Int) : vecR (arr3 a b c) = some (vecD [a, b, c], []) := rfl
theorem vecR_inv {v : Value} {z : DataW Unit × List MemPlace} (h : vecR v = some z) : ∃ a b c, v = arr3 a b c ∧ z = (vecD [a, b, c], []) := by
  unfold vecR at h
  split at h
  · rename_i cs
    split at h
    · rename_i a b c he
      cases h
      refine ⟨a, b, c, ?_, rfl⟩
      obtain ⟨l⟩ := cs
      simp only at he
      rw [he]; rfl
    · cases h
  · cases h
theorem keyed64 : Keyed Tryz.prog 2 := int_keyed Tryz.underlying2
theorem zeroVec (w : World) : (zeroValue 90).run Tryz.prog w = .ok (arr3 0 0 0) w := by kernel_rfl
/-- Block b is a map that holds the items xs. -/
def TabAt (w : World) (b n : Nat) (xs : List DItem) : Prop := w.ownsMap Tryz.prog 2 vecR b n (mapD xs)
theorem TabAt.ext {S : Nat → Prop} {w w' : World} {b n : Nat} {xs : List DItem} (h : TabAt w b n xs) (e : Ext S w w') (hb : ¬ S b) : TabAt w' b n xs := by
  have hlt := World.ownsMap.lt h
  obtain ⟨es, clock, hb', r⟩ := h
  exact ⟨es, clock, (e.block b hlt hb).trans hb', r⟩
theorem TabAt.later {w w' : World} {b n : Nat} {xs : List DItem} (h : TabAt w b n xs) (e : Below w.heap.size w w') : TabAt w' b n xs := h.ext (ext_of_below e nowhere) (fun h => h)
theorem TabAt.lt {w : World} {b n : Nat} {xs : List DItem} (h : TabAt w b n xs) : b < w.heap.size := World.ownsMap.lt h
theorem TabAt.mono {w : World} {b n n' : Nat} {xs : List DItem} (h : TabAt w b n xs) (hn : n ≤ n') : TabAt w b n' xs := World.ownsMap.mono h hn
theorem ext_of_turned {w w' : World} {b : Nat} (h : w.mapTurned w' b) : Ext (fun q => q = b) w w' := by
  have g := h.grown
  obtain ⟨es, clock, es', clock', hb, rfl⟩ := h
  exact ⟨rfl, rfl, rfl, by simp [ChangeMaps.setBlock], fun k hk hn => g.block k hk (fun e => hn (by simpa using e))⟩
theorem key64 {a : Int} (h : (Lit.int .i64 a).wf = true) : keyOf Tryz.prog 2 (.int .i64 a) = some (.int .i64 a) := keyOf_int_mk Tryz.underlying2 h
/-- m[id] = vec. -/
theorem TabAt.put {w : World} {b n : Nat} {xs : List DItem} (h : TabAt w b n xs) (hn : n < 1000) {id : Int} (hw : (Lit.int .i64 id).wf = true) (x y z : Int) :
    ∃ w', (Instr.mapUpdate 85 (.map (some b)) (.int .i64 id) (arr3 x y z)).run Tryz.prog w = .ok () w' ∧ TabAt w' b (n + 1) (putI xs id [x, y, z]) ∧ Ext (fun q => q = b) w w' := by
  obtain ⟨w', h1, h2, h3⟩ := World.ownsMap.store h keyed64 Tryz.underlying85 (by unfold maxLen; omega) (key64 hw) (vecR_mk x y z)
  rw [put_mapD] at h2
  exact ⟨w', h1, h2, ext_of_turned h3⟩
/-- delete(m, id). -/
theorem TabAt.drop {w : World} {b n : Nat} {xs : List DItem} (h : TabAt w b n xs) {id : Int} (hw : (Lit.int .i64 id).wf = true) (ty : TypeId) :
    ∃ w', (Builtin.delete_ #[85, 2] ty #[.map (some b), .int .i64 id]).run Tryz.prog w = .ok (.tuple #[]) w' ∧ TabAt w' b n (dropI xs id) ∧ Ext (fun q => q = b) w w' := by
  obtain ⟨w', h1, h2, h3⟩ := World.ownsMap.drop h keyed64 Tryz.underlying85 (key64 hw) ty
  rw [del_mapD] at h2
  exact ⟨w', h1, h2, ext_of_turned h3⟩
/-- v, ok := m[id], where it is there. -/
theorem TabAt.look {w : World} {b n : Nat} {xs : List DItem} (h : TabAt w b n xs) (hr : Rising xs) {id : Int} (hw : (Lit.int .i64 id).wf = true) {x : DItem} (hx : x ∈ xs) (hid : x.id = id) :
    ∃ p q r, x.vec = [p, q, r] ∧ (Instr.lookup 85 (.map (some b)) (.int .i64 id) true).run Tryz.prog w = .ok (.tuple #[arr3 p q r, .bool true]) w ∧ (Instr.lookup 85 (.map (some b)) (.int .i64 id) false).run Tryz.prog w = .ok (arr3 p q r) w := by
  subst hid
  have hh : hasI xs x.id = true := by simp only [hasI, List.any_eq_true]; exact ⟨x, hx, by simp⟩
  obtain ⟨v, ps, hrun, hv⟩ := World.ownsMap.look_ok h keyed64 Tryz.underlying85 (zeroVec w) (vecR_mk 0 0 0) (key64 hw)
  obtain ⟨v2, ps2, hrun2, hv2⟩ := World.ownsMap.lookup h keyed64 Tryz.underlying85 (zeroVec w) (vecR_mk 0 0 0) (key64 hw)
  rw [at_mapD hr hx] at hv hv2
  obtain ⟨p, q, r, rfl, e⟩ := vecR_inv hv
  obtain ⟨p2, q2, r2, rfl, e2⟩ := vecR_inv hv2
  rw [has_mapD, hh] at hrun
  have k1 : x.vec = [p, q, r] := vecD_inj (congrArg Prod.fst e)
  have k2 : x.vec = [p2, q2, r2] := vecD_inj (congrArg Prod.fst e2)
  rw [k1] at k2
  simp only [List.cons.injEq, and_true] at k2
  obtain ⟨rfl, rfl, rfl⟩ := k2
  exact ⟨p, q, r, k1, hrun, hrun2⟩
theorem TabAt.miss {w : World} {b n : Nat} {xs : List DItem} (h : TabAt w b n xs) {id : Int} (hw : (Lit.int .i64 id).wf = true) (hi : hasI xs id = false) :
    ∃ p q r, (Instr.lookup 85 (.map (some b)) (.int .i64 id) true).run Tryz.prog w = .ok (.tuple #[arr3 p q r, .bool false]) w := by
  obtain ⟨v, ps, hrun, hv⟩ := World.ownsMap.look_ok h keyed64 Tryz.underlying85 (zeroVec w) (vecR_mk 0 0 0) (key64 hw)
  have hh : Maps.has (mapD xs) (.int .i64 id) = false := by rw [has_mapD]; exact hi
  rw [Maps.atKey_of_not_has hh] at hv
  obtain ⟨p, q, r, rfl, e⟩ := vecR_inv hv
  rw [hh] at hrun
  exact ⟨p, q, r, hrun⟩
theorem TabAt.len {w : World} {b n : Nat} {xs : List DItem} (h : TabAt w b n xs) (ty : TypeId) : (Builtin.len_ #[85] ty #[.map (some b)]).run Tryz.prog w = .ok (.int .i64 xs.length) w := by
  have := World.ownsMap.len h Tryz.underlying85 ty
  rwa [size_mapD] at this
theorem tabAt_new (w : World) : TabAt (w.alloc (.map #[] 0)) w.heap.size 0 [] := World.ownsMap_made w _ _ _

end Go.Proofs.YtfgadegpdknocaaGreat

namespace Go.Proofs.YtfgadegpdknocaaGreat
open Go.RowKit

theorem vec3 {zs : List Int} (h : vecFault zs = 0) : ∃ p q r, zs = [p, q, r] := by
  have hl := (vecFault_zero h).1
  match zs, hl with
  | [p, q, r], _ => exact ⟨p, q, r, rfl⟩
theorem Ext.drew1 {S : Nat → Prop} {a b : World} (h : Ext S a b) : Ext S a b.drew := ⟨h.os, h.tape, h.output, h.size, h.block⟩

set_option maxRecDepth 10000 in
theorem tableFrom_bad (v : Value) (xs : List DItem) (w : World) (h : (Lay.sl Lay.tItem).Reads w [v] xs) (hf : tableFault xs ≠ 0) :
    Calls Tryz.prog 77 #[v] w fun e w' => e = .returned (.tuple #[.map none, .int .i64 (tableFault xs)]) ∧ Below w.heap.size w w' := by
  have L := hide (implTab v xs w h)
  obtain ⟨ao, cap, rfl⟩ := open_sl h
  have hd : (tableFault xs != 0) = true := by simpa using hf
  clear h hf
  go_enter Tryz.func77, Tryz.ntmps77
  go_wp2_with fail
  refine (unhide L).mono ?_
  rintro e w1 ⟨rfl, hb⟩
  have HB := hide hb
  clear hb L
  go_wp2_with fail
  refine bodyPost_ret (v := .tuple #[.map none, .int .i64 (tableFault xs)]) (by simp [results, Tryz.results77, go_sem]) rfl ?_
  exact ⟨rfl, unhide HB⟩

set_option maxRecDepth 10000 in
set_option maxHeartbeats 1000000 in
theorem tableFrom_zero (ao : Option Addr) (cap : Nat) (w : World) (h : (Lay.sl Lay.tItem).Reads w [.slice ao 0 cap] []) :
    Calls Tryz.prog 77 #[.slice ao 0 cap] w fun e w' => (∃ b, e = .returned (.tuple #[.map (some b), .int .i64 0]) ∧ w.heap.size ≤ b ∧ TabAt w' b 30 []) ∧ Below w.heap.size w w' := by
  have L := hide (implTab _ [] w h)
  clear h
  rw [show tableFault [] = 0 from rfl] at L
  have hmk : ∀ W : World, (Instr.makeMap 85 (some (.int .i64 0))).run Tryz.prog W = .ok (.map (some W.heap.size)) (W.alloc (.map #[] 0)) := fun W => by kernel_rfl
  go_enter Tryz.func77, Tryz.ntmps77
  go_wp2_with fail
  refine (unhide L).mono ?_
  rintro e w1 ⟨rfl, hb⟩
  have hz := hb.size
  have HT := hide ((tabAt_new w1).mono (Nat.zero_le 30))
  have HB := hide (hb.alloc hb.size (.map #[] 0))
  clear hb L
  go_wp2_with fail
  refine wp_loop_rounds 1 ?_
  rw [rounds_succ]
  go_wp2_with fail
  refine bodyPost_ret (v := .tuple #[.map (some w1.heap.size), .int .i64 0]) (by simp [results, Tryz.results77, go_sem]) rfl ?_
  exact ⟨⟨_, rfl, hz, unhide HT⟩, unhide HB⟩

set_option maxRecDepth 100000 in
set_option maxHeartbeats 4000000 in
theorem tableFrom_pos (b off cap : Nat) (xs : List DItem) (w : World) (h : (Lay.sl Lay.tItem).Reads w [.slice (some ⟨b, off, none⟩) xs.length cap] xs) (hbl : b < w.heap.size) (hf : tableFault xs = 0) :
    Calls Tryz.prog 77 #[.slice (some ⟨b, off, none⟩) xs.length cap] w fun e w' => (∃ q, e = .returned (.tuple #[.map (some q), .int .i64 0]) ∧ w.heap.size ≤ q ∧ TabAt w' q 30 xs) ∧ Below w.heap.size w w' := by
  have L := hide (implTab _ xs w h)
  rw [hf] at L
  obtain ⟨hlen, hall, hris⟩ := tableFault_zero hf
  have HA := hide hall
  have HI := hide hris
  have H := hide h
  clear h hall hris hf
  have hmk : ∀ W : World, (Instr.makeMap 85 (some (.int .i64 xs.length))).run Tryz.prog W = .ok (.map (some W.heap.size)) (W.alloc (.map #[] 0)) := fun W => by kernel_rfl
  go_enter Tryz.func77, Tryz.ntmps77
  go_wp2_with fail
  refine (unhide L).mono ?_
  rintro e w1 ⟨rfl, hb⟩
  have hz := hb.size
  have HT := hide (tabAt_new w1)
  have HB := hide (hb.alloc hb.size (.map #[] 0))
  clear hb L
  go_wp2_with fail
  clear hmk
  generalize w1.heap.size = B at *
  go_loopw [18] (fun i wr => ∃ k : Nat, k ≤ xs.length ∧ i = .int .i64 k ∧ TabAt wr B k (xs.take k) ∧ Below w.heap.size w wr) (fun i _ => xs.length - (intOf i).toNat)
  case atStart => exact ⟨0, Nat.zero_le _, rfl, unhide HT, unhide HB⟩
  case round =>
    obtain ⟨k, hk, rfl, hT, hB⟩ := hrel
    clear HT HB
    by_cases hlt : k < xs.length
    · obtain ⟨row, hc, hr⟩ := Lay.row_at (unhide H) hlt
      replace hr := hr.later hB
      obtain ⟨a1, d1, rfl, R1⟩ := open_Item hr
      have c0 : wr.cell? ⟨b, off + k * 2, none⟩ = some (.int .i64 (xs[k]).id) := (hB.cell (p := ⟨b, off + k * 2, none⟩) hbl).trans (hc 0 (by decide))
      have c1 : wr.cell? ⟨b, off + k * 2 + 1, none⟩ = some (.slice a1 (xs[k]).vec.length d1) := (hB.cell (p := ⟨b, off + k * 2 + 1, none⟩) hbl).trans (hc 1 (by decide))
      obtain ⟨hid, hvf⟩ := unhide HA xs[k] (List.getElem_mem hlt)
      have HTK : Hid (putI (xs.take k) xs[k].id xs[k].vec = xs.take (k + 1)) := by
        show putI (xs.take k) xs[k].id xs[k].vec = xs.take (k + 1)
        rw [putI_last _ xs[k] (rising_take (unhide HI) hlt)]
        exact (List.take_succ_eq_append_getElem hlt).symm
      clear hc hr
      generalize hx : xs[k] = x at *
      clear hx
      obtain ⟨p, q, r, hv3⟩ := vec3 hvf
      have hbr : b < wr.heap.size := Nat.lt_of_lt_of_le hbl hB.size
      have hBl := hT.lt
      have nb : Below wr.heap.size wr (wr.alloc (.cells #[.int .i64 x.id, .slice a1 x.vec.length d1] 133)) := (Below.refl _ _).alloc (Nat.le_refl _) _
      have bI : Box wr.heap.size #[.int .i64 x.id, .slice a1 x.vec.length d1] 133 (wr.alloc (.cells #[.int .i64 x.id, .slice a1 x.vec.length d1] 133)) wr.heap.size := newBox (Nat.le_refl _)
      have I1 := (Lay.ints_reads R1).later nb
      replace I1 : IsInts (wr.alloc (.cells #[.int .i64 x.id, .slice a1 x.vec.length d1] 133)) (.slice a1 x.vec.length d1) [p, q, r] := by rw [← hv3]; exact I1
      rw [hv3] at hvf HTK
      replace hT := hT.later nb
      replace hB := hB.trans (nb.mono hB.size)
      have HHT := hide hT
      have HB := hide hB
      have HI1 := hide I1
      have HBI := hide bI
      have HV := hide hvf
      have hwf := id_wf hid
      have HW := hide hwf
      clear R1 hT hB nb I1 bI hvf hid hwf hv3
      go_wp2_with fail
      clear c0 c1
      have hbI := unhide HBI
      have hhT := unhide HHT
      have hI1 := unhide HI1
      clear HBI HHT HI1
      generalize hW0 : wr.alloc (.cells #[.int .i64 x.id, .slice a1 x.vec.length d1] 133) = W0 at *
      clear hW0
      have hI0 : wr.heap.size < W0.heap.size := hbI.lt
      have hDT : TabAt W0.drew B k (xs.take k) := hhT
      have hDI : IsInts W0.drew (.slice a1 x.vec.length d1) [p, q, r] := hI1
      refine wp_region_noPanic ?_
      refine wp_region_held_drew (S := fun w' => Ext (fun c => c = B) W0 w') (by kernel_rfl) (Ext.refl _ _).drew1 (fun hHeld => ?_)
      generalize W0.drew = wD at hHeld hDT hDI ⊢
      refine wpAnyH_take (i := 0) (oi := { dst := some 23, op := Go.Op.move (Go.Operand.tmp 5), type := 85, pos := "l04_table.go:49", after := #[], guard := none }) (v := ?v0) rfl (by kernel_rfl) (by kernel_rfl) (by kernel_rfl) (fun _ _ _ h => h) (Or.inl ⟨by rfl, ?h0⟩) hHeld ?r0
      case h0 =>
        intro wS hSw
        (try dsimp only at hSw)
        go_simp
        try with_reducible rfl
      case r0 =>
      simp only [Act.put, List.setIfInBounds_toArray, List.set_cons_zero, List.set_cons_succ]
      refine wpAnyH_take (i := 1) (oi := { dst := some 24, op := Go.Op.fieldAddr 133 (Go.Operand.tmp 7) 0, type := 0, pos := "l04_table.go:49", after := #[], guard := none }) (v := ?v1) rfl (by kernel_rfl) (by kernel_rfl) (by kernel_rfl) (fun _ _ _ h => h) (Or.inl ⟨by rfl, ?h1⟩) hHeld ?r1
      case h1 =>
        intro wS hSw
        (try dsimp only at hSw)
        go_simp
        try with_reducible rfl
      case r1 =>
      simp only [Act.put, List.setIfInBounds_toArray, List.set_cons_zero, List.set_cons_succ]
      refine wpAnyH_take (i := 2) (oi := { dst := some 25, op := Go.Op.load 2 (Go.Operand.tmp 24), type := 2, pos := "l04_table.go:49", after := #[{ on := 1, ground := Go.Ground.data }], guard := none }) (v := ?v2) rfl (by kernel_rfl) (by kernel_rfl) (by kernel_rfl) (fun _ _ _ h => h) (Or.inl ⟨by rfl, ?h2⟩) hHeld ?r2
      case h2 =>
        intro wS hSw
        have bx := hbI.ext hSw (by omega)
        have y0 := bx.at 0 _ rfl
        have y1 := bx.at 1 _ rfl
        clear bx hSw
        (try dsimp only at hSw)
        go_simp
        try with_reducible rfl
      case r2 =>
      simp only [Act.put, List.setIfInBounds_toArray, List.set_cons_zero, List.set_cons_succ]
      refine wpAnyH_take (i := 3) (oi := { dst := some 26, op := Go.Op.fieldAddr 133 (Go.Operand.tmp 7) 1, type := 0, pos := "l04_table.go:49", after := #[], guard := none }) (v := ?v3) rfl (by kernel_rfl) (by kernel_rfl) (by kernel_rfl) (fun _ _ _ h => h) (Or.inl ⟨by rfl, ?h3⟩) hHeld ?r3
      case h3 =>
        intro wS hSw
        (try dsimp only at hSw)
        go_simp
        try with_reducible rfl
      case r3 =>
      simp only [Act.put, List.setIfInBounds_toArray, List.set_cons_zero, List.set_cons_succ]
      refine wpAnyH_take (i := 4) (oi := { dst := some 27, op := Go.Op.load 26 (Go.Operand.tmp 26), type := 26, pos := "l04_table.go:49", after := #[{ on := 3, ground := Go.Ground.data }], guard := none }) (v := ?v4) rfl (by kernel_rfl) (by kernel_rfl) (by kernel_rfl) (fun _ _ _ h => h) (Or.inl ⟨by rfl, ?h4⟩) hHeld ?r4
      case h4 =>
        intro wS hSw
        have bx := hbI.ext hSw (by omega)
        have y0 := bx.at 0 _ rfl
        have y1 := bx.at 1 _ rfl
        clear bx hSw
        (try dsimp only at hSw)
        go_simp
        try with_reducible rfl
      case r4 =>
      simp only [Act.put, List.setIfInBounds_toArray, List.set_cons_zero, List.set_cons_succ]
      refine wpAnyH_ready (rs := [5]) (by kernel_rfl) (by simp) ?_
      refine AllReadyH.cons (o := { dst := some 28, op := Go.Op.call { callee := Go.Callee.value (Go.Operand.func 47), args := #[Go.Operand.tmp 27], argTypes := #[26] }, type := 91, pos := "l04_table.go:49", after := #[{ on := 4, ground := Go.Ground.data }], guard := none }) rfl (fun K hK => ?_) AllReadyH.nil
      go_simp
      go_at_call 47
      refine (vectorOf_ok _ p q r _ hDI (unhide HV)).mono ?_
      rintro e w3 ⟨rfl, hbw⟩
      have hT3 := hDT.later hbw
      try go_wp2_with fail
      refine hK.out _ _ (hHeld.trans (ext_of_below hbw _)) (fun hHeld => ?_)
      clear hK K
      try simp only [Act.put, List.setIfInBounds_toArray, List.set_cons_zero, List.set_cons_succ]
      refine wpAnyH_take (i := 6) (oi := { dst := some 22, op := Go.Op.move (Go.Operand.tmp 28), type := 91, pos := "l04_table.go:49", after := #[{ on := 5, ground := Go.Ground.data }], guard := none }) (v := ?v6) rfl (by kernel_rfl) (by kernel_rfl) (by kernel_rfl) (fun _ _ _ h => h) (Or.inl ⟨by rfl, ?h6⟩) hHeld ?r6
      case h6 =>
        intro wS hSw
        (try dsimp only at hSw)
        go_simp
        try with_reducible rfl
      case r6 =>
      simp only [Act.put, List.setIfInBounds_toArray, List.set_cons_zero, List.set_cons_succ]
      refine wpAnyH_take (i := 7) (oi := { dst := some 29, op := Go.Op.extract (Go.Operand.tmp 22) 0, type := 90, pos := "l04_table.go:49", after := #[{ on := 6, ground := Go.Ground.data }], guard := none }) (v := ?v7) rfl (by kernel_rfl) (by kernel_rfl) (by kernel_rfl) (fun _ _ _ h => h) (Or.inl ⟨by rfl, ?h7⟩) hHeld ?r7
      case h7 =>
        intro wS hSw
        (try dsimp only at hSw)
        go_simp
        try with_reducible rfl
      case r7 =>
      simp only [Act.put, List.setIfInBounds_toArray, List.set_cons_zero, List.set_cons_succ]
      refine wpAnyH_take (i := 8) (oi := { dst := some 30, op := Go.Op.extract (Go.Operand.tmp 22) 1, type := 2, pos := "l04_table.go:49", after := #[{ on := 6, ground := Go.Ground.data }, { on := 9, ground := Go.Ground.gcOnly Go.Departure.lateStores }], guard := none }) (v := ?v8) rfl (by kernel_rfl) (by kernel_rfl) (by kernel_rfl) (fun _ _ _ h => h) (Or.inl ⟨by rfl, ?h8⟩) hHeld ?r8
      case h8 =>
        intro wS hSw
        (try dsimp only at hSw)
        go_simp
        try with_reducible rfl
      case r8 =>
      simp only [Act.put, List.setIfInBounds_toArray, List.set_cons_zero, List.set_cons_succ]
      refine wpAnyH_ready (rs := [9]) (by kernel_rfl) (by simp) ?_
      refine AllReadyH.cons (o := { dst := none, op := Go.Op.mapUpdate 85 (Go.Operand.tmp 23) (Go.Operand.tmp 25) (Go.Operand.tmp 29), type := 0, pos := "l04_table.go:49", after := #[{ on := 0, ground := Go.Ground.data }, { on := 2, ground := Go.Ground.data }, { on := 7, ground := Go.Ground.data }, { on := 5, ground := Go.Ground.chain }, { on := 0, ground := Go.Ground.phase }, { on := 1, ground := Go.Ground.phase }, { on := 2, ground := Go.Ground.phase }, { on := 3, ground := Go.Ground.phase }, { on := 4, ground := Go.Ground.phase }, { on := 5, ground := Go.Ground.phase }, { on := 6, ground := Go.Ground.phase }, { on := 7, ground := Go.Ground.phase }, { on := 8, ground := Go.Ground.textOnly Go.Departure.lateStores }], guard := none }) rfl (fun K hK => ?_) AllReadyH.nil
      obtain ⟨w5, hrun, hT5, hE5⟩ := hT3.put (by omega) (unhide HW) p q r
      go_simp
      try simp only [hrun]
      try go_simp
      refine hK.out _ _ (hHeld.trans hE5) (fun hHeld => ?_)
      clear hK K
      try simp only [Act.put, List.setIfInBounds_toArray, List.set_cons_zero, List.set_cons_succ]
      refine wpAnyH_done (by kernel_rfl) ?_ _
      refine NoPanic.normal ?_
      have HT5 := hide hT5
      have HE5 := hide ((unhide HB).trans (hHeld.below (unhide HB).size (fun c hc e => by omega)))
      clear hHeld hT5 HB
      go_wp2_with fail
      go_roundw
      case rel => exact ⟨k + 1, by omega, by go_num, by rw [← unhide HTK]; exact unhide HT5, unhide HE5⟩
      case measure => simp [intOf]; omega
    · obtain rfl : k = xs.length := by omega
      rw [List.take_length] at hT
      have HT := hide (hT.mono hlen)
      have HB := hide hB
      clear hT hB H
      go_wp2_with fail
      refine bodyPost_ret (v := .tuple #[.map (some B), .int .i64 0]) (by simp [results, Tryz.results77, go_sem]) rfl ?_
      exact ⟨⟨_, rfl, hz, unhide HT⟩, unhide HB⟩

/-- tableFrom of a right table. -/
theorem tableFrom_ok (v : Value) (xs : List DItem) (w : World) (h : (Lay.sl Lay.tItem).Reads w [v] xs) (hf : tableFault xs = 0) :
    Calls Tryz.prog 77 #[v] w fun e w' => (∃ q, e = .returned (.tuple #[.map (some q), .int .i64 0]) ∧ w.heap.size ≤ q ∧ TabAt w' q 30 xs) ∧ Below w.heap.size w w' := by
  obtain ⟨ao, cap, rfl⟩ := open_sl h
  by_cases hp : 0 < xs.length
  · obtain ⟨b, off, rfl, hbl⟩ := Lay.sl_addr h hp
    exact tableFrom_pos b off cap xs w h hbl hf
  · obtain rfl : xs = [] := List.eq_nil_of_length_eq_zero (by omega)
    exact tableFrom_zero ao cap w h

end Go.Proofs.YtfgadegpdknocaaGreat
