/-
  Texts of this proof in one: ImplMember, ImplMay, LawMay, OpenChain, OpenWrite, OpenNode, OpenMsg, OpenHit, OpenEntry, OpenWorld.
  Their conditions stand in their theorems.
-/
import Derived.Test.YtoanimpijfijgaaGreatMa07
import Derived.Test.YtoanimpijfijgaaGreatMa05
import Derived.Test.YtoanimpijfijgaaGreatMa09
import Derived.Deep.CutRange
import Derived.Test.YtoanimpijfijgaaGreatMa00
import Derived.Test.YtoanimpijfijgaaGreatMa13
import Derived.Deep.RegionHeld3
import Derived.Test.YtoanimpijfijgaaGreatMa01
set_option maxRecDepth 100000
set_option maxHeartbeats 4000000
namespace Go.Proofs.YtoanimpijfijgaaGreat
open Go.RowKit
def memberW (x : DWorld) (id : Int) : Bool := decide (0 ≤ placeC x.chain.ids id) && ((nodeOf x id).up && (nodeOf x id).epoch == x.chain.epoch)
theorem memberW_eq (x : DWorld) (id : Int) : memberW x id = memberB x id := by
 unfold memberW memberB
 cases decide (0 ≤ placeC x.chain.ids id) <;> cases (nodeOf x id).up <;> simp
theorem isMemberC (cs : List Value) (x : DWorld) (id : Int) (w : World) (h : Lay.tWorld.Reads w cs x) (hi : ∀ z ∈ x.chain.ids, nodeIn x z = true) (hn5 : x.nodes.length ≤ 5) :
  Calls Tryz.prog 140 #[.agg cs.toArray, .int .i64 id] w fun e w' => e = .returned (.bool (memberW x id)) ∧ Below w.heap.size w w' := by
 obtain ⟨a3, d3, a4, d4, a5, d5, a6, d6, rfl, RC, RN, -, -⟩ := open_World h
 have nb : Below w.heap.size w (w.alloc (.cells #[.int .i64 x.now, .int .i64 x.events, .int .i64 x.chain.epoch, .slice a3 x.chain.ids.length d3, .slice a4 x.nodes.length d4, .slice a5 x.msgs.length d5, .slice a6 x.history.length d6] 36)) := (Below.refl _ _).alloc (Nat.le_refl _) _
 have HX : Hid (Box 0 #[.int .i64 x.now, .int .i64 x.events, .int .i64 x.chain.epoch, .slice a3 x.chain.ids.length d3, .slice a4 x.nodes.length d4, .slice a5 x.msgs.length d5, .slice a6 x.history.length d6] 36 (w.alloc (.cells #[.int .i64 x.now, .int .i64 x.events, .int .i64 x.chain.epoch, .slice a3 x.chain.ids.length d3, .slice a4 x.nodes.length d4, .slice a5 x.msgs.length d5, .slice a6 x.history.length d6] 36)) w.heap.size) := newBox (Nat.zero_le _)
 have HL := yh (isInChainC _ x.chain id _ (RC.later nb))
 have HRN := yh (RN.later nb)
 have HB := yh nb
 have HP : Hid (memberW x id = (decide (0 ≤ placeC x.chain.ids id) && ((nodeOf x id).up && (nodeOf x id).epoch == x.chain.epoch))) := rfl
 have HM : Hid (decide (0 ≤ placeC x.chain.ids id) = true → nodeIn x id = true) := fun q => hi id ((mem_place _ _).1 q)
 clear nb h RC RN hi
 generalize memberW x id = r at *
 generalize hq : decide (0 ≤ placeC x.chain.ids id) = q at *
 clear hq
 go_enter Tryz.func140, Tryz.ntmps140
 go_upto_region 1 with fail
 generalize w.alloc (.cells #[.int .i64 x.now, .int .i64 x.events, .int .i64 x.chain.epoch, .slice a3 x.chain.ids.length d3, .slice a4 x.nodes.length d4, .slice a5 x.msgs.length d5, .slice a6 x.history.length d6] 36) = w1 at *
 have z2 := Box.at (uh HX) 2 _ rfl
 have z3 := Box.at (uh HX) 3 _ rfl
 simp only [ga, gb, gc] at z2 z3
 have zl := (uh HX).lt
 go_wp2_with fail
 refine (uh HL).mono ?_
 rintro e w2 ⟨rfl, hb⟩
 replace HX := yh ((uh HX).keep hb)
 replace HRN := yh ((uh HRN).later hb)
 replace HB := yh ((uh HB).trans (hb.mono (uh HB).size))
 clear hb HL z2 z3 zl
 cases q
 ·
  go_wp2_with fail
  go_ret
  exact ⟨by rw [uh HP]; rfl, uh HB⟩
 obtain ⟨k, hk, rfl⟩ := nodeIn_at (uh HM rfl)
 rw [nodeOf_at hk] at HP
 obtain ⟨b, off, rfl, hbl⟩ := Lay.sl_addr (uh HRN) (by omega)
 obtain ⟨row, hcl, hr⟩ := Lay.row_at (uh HRN) hk
 obtain ⟨an, dn, rfl, -⟩ := open_Node hr
 have c0 : w2.cell? ⟨b, off + k * 7, none⟩ = some (.int .i64 (x.nodes[k]).id) := hcl 0 (by decide)
 have c1 : w2.cell? ⟨b, off + k * 7 + 1, none⟩ = some (.bool (x.nodes[k]).up) := hcl 1 (by decide)
 have c2 : w2.cell? ⟨b, off + k * 7 + 2, none⟩ = some (.int .i64 (x.nodes[k]).epoch) := hcl 2 (by decide)
 have c3 : w2.cell? ⟨b, off + k * 7 + 3, none⟩ = some (.int .i64 (x.nodes[k]).lease) := hcl 3 (by decide)
 have c4 : w2.cell? ⟨b, off + k * 7 + 4, none⟩ = some (.slice an (x.nodes[k]).writes.length dn) := hcl 4 (by decide)
 have c5 : w2.cell? ⟨b, off + k * 7 + 5, none⟩ = some (.int .i64 (x.nodes[k]).sure) := hcl 5 (by decide)
 have c6 : w2.cell? ⟨b, off + k * 7 + 6, none⟩ = some (.int .i64 (x.nodes[k]).clean) := hcl 6 (by decide)
 have hw1 : IntKind.i64.wrap (k : Int) = (k : Int) := by
  rw [IntKind.wrap_i64]
  omega
 have hki : (k : Int) < (x.nodes.length : Int) := by omega
 have z4 := Box.at (uh HX) 4 _ rfl
 have z2 := Box.at (uh HX) 2 _ rfl
 simp only [ga, gb, gc] at z4 z2
 have zl := (uh HX).lt
 clear hcl hr HRN HM HX
 generalize x.nodes[k] = n at *
 have nb : Below w2.heap.size w2 (w2.alloc (.cells #[.int .i64 n.id, .bool n.up, .int .i64 n.epoch, .int .i64 n.lease, .slice an n.writes.length dn, .int .i64 n.sure, .int .i64 n.clean] 84)) := (Below.refl _ _).alloc (Nat.le_refl _) _
 replace HB := yh ((uh HB).trans (nb.mono (uh HB).size))
 clear nb
 generalize hu : n.up = u at *
 clear hu
 generalize he : (n.epoch == x.chain.epoch) = v at *
 cases u
 ·
  go_wp2_with fail
  go_ret
  exact ⟨by rw [uh HP]; rfl, uh HB⟩
 cases v
 ·
  go_wp2_with fail
  go_ret
  exact ⟨by rw [uh HP]; rfl, uh HB⟩
 go_wp2_with fail
 go_ret
 exact ⟨by rw [uh HP]; rfl, uh HB⟩
theorem standingFaultC (cs : List Value) (x : DWorld) (id : Int) (w : World) (h : Lay.tWorld.Reads w cs x) (hok : WorldOK x) :
  Calls Tryz.prog 125 #[.agg cs.toArray, .int .i64 id] w fun e w' => e = .returned (.int .i64 (standR x id)) ∧ Below w.heap.size w w' := by
 obtain ⟨a3, d3, a4, d4, a5, d5, a6, d6, rfl, -, -, -, -⟩ := open_World h
 have nb : Below w.heap.size w (w.alloc (.cells #[.int .i64 x.now, .int .i64 x.events, .int .i64 x.chain.epoch, .slice a3 x.chain.ids.length d3, .slice a4 x.nodes.length d4, .slice a5 x.msgs.length d5, .slice a6 x.history.length d6] 36)) := (Below.refl _ _).alloc (Nat.le_refl _) _
 have HX : Hid (Box 0 #[.int .i64 x.now, .int .i64 x.events, .int .i64 x.chain.epoch, .slice a3 x.chain.ids.length d3, .slice a4 x.nodes.length d4, .slice a5 x.msgs.length d5, .slice a6 x.history.length d6] 36 (w.alloc (.cells #[.int .i64 x.now, .int .i64 x.events, .int .i64 x.chain.epoch, .slice a3 x.chain.ids.length d3, .slice a4 x.nodes.length d4, .slice a5 x.msgs.length d5, .slice a6 x.history.length d6] 36)) w.heap.size) := newBox (Nat.zero_le _)
 have HR := yh (h.later nb)
 have HB := yh nb
 have HOK := yh hok
 have HP : Hid (standR x id = if nodeIn x id = false then 4 else if memberB x id = false then 10 else if (nodeOf x id).lease < x.now then 9 else 0) := rfl
 clear nb h hok
 generalize standR x id = r at *
 go_enter Tryz.func125, Tryz.ntmps125
 go_upto_region 1 with fail
 generalize (w.alloc (.cells #[.int .i64 x.now, .int .i64 x.events, .int .i64 x.chain.epoch, .slice a3 x.chain.ids.length d3, .slice a4 x.nodes.length d4, .slice a5 x.msgs.length d5, .slice a6 x.history.length d6] 36)) = W1 at *
 have z0 := Box.at (uh HX) 0 _ rfl
 have z1 := Box.at (uh HX) 1 _ rfl
 have z2 := Box.at (uh HX) 2 _ rfl
 have z3 := Box.at (uh HX) 3 _ rfl
 have z4 := Box.at (uh HX) 4 _ rfl
 have z5 := Box.at (uh HX) 5 _ rfl
 have z6 := Box.at (uh HX) 6 _ rfl
 simp only [ga, gb, gc] at z0 z1 z2 z3 z4 z5 z6
 have zl := (uh HX).lt
 go_wp2_with fail
 refine (hasNodeC _ x id _ (uh HR)).mono ?_
 rintro e wa ⟨rfl, hb⟩
 replace HX := yh ((uh HX).keep hb)
 replace HR := yh ((uh HR).later hb)
 replace HB := yh ((uh HB).trans (hb.mono (uh HB).size))
 clear hb z0 z1 z2 z3 z4 z5 z6 zl
 cases hni : nodeIn x id
 ·
  replace HP := yh ((uh HP).trans (if_pos hni))
  go_wp2_with fail
  go_ret
  exact ⟨by rw [uh HP]; rfl, uh HB⟩
 replace HP := yh ((uh HP).trans (if_neg (by rw [hni]; decide)))
 have z0 := Box.at (uh HX) 0 _ rfl
 have z1 := Box.at (uh HX) 1 _ rfl
 have z2 := Box.at (uh HX) 2 _ rfl
 have z3 := Box.at (uh HX) 3 _ rfl
 have z4 := Box.at (uh HX) 4 _ rfl
 have z5 := Box.at (uh HX) 5 _ rfl
 have z6 := Box.at (uh HX) 6 _ rfl
 simp only [ga, gb, gc] at z0 z1 z2 z3 z4 z5 z6
 have zl := (uh HX).lt
 go_wp2_with fail
 refine (isMemberC _ x id _ (uh HR) (uh HOK).ids (uh HOK).some.2).mono ?_
 rintro e w2 ⟨rfl, hb⟩
 replace HX := yh ((uh HX).keep hb)
 replace HR := yh ((uh HR).later hb)
 replace HB := yh ((uh HB).trans (hb.mono (uh HB).size))
 clear hb z0 z1 z2 z3 z4 z5 z6 zl
 rw [memberW_eq]
 cases hm : memberB x id
 ·
  replace HP := yh ((uh HP).trans (if_pos hm))
  go_wp2_with fail
  go_ret
  exact ⟨by rw [uh HP]; rfl, uh HB⟩
 replace HP := yh ((uh HP).trans (if_neg (by rw [hm]; decide)))
 obtain ⟨k, hk, rfl⟩ := nodeIn_at hni
 rw [nodeOf_at hk] at HP
 obtain ⟨_, _, _, _, _, _, _, _, hq, -, RN, -, -⟩ := open_World (uh HR)
 simp only [List.cons.injEq, Value.slice.injEq, and_true, true_and] at hq
 obtain ⟨-, ⟨rfl, rfl⟩, -, -, -⟩ := hq
 obtain ⟨b, off, rfl, hbl⟩ := Lay.sl_addr RN (by omega)
 obtain ⟨row, hcl, hr⟩ := Lay.row_at RN hk
 obtain ⟨an, dn, rfl, -⟩ := open_Node hr
 have hno := nodeFault_zero ((uh HOK).nodes k hk).1
 have HNE := yh hno.epoch
 have HNL := yh hno.lease
 have HE : Hid (0 ≤ x.chain.epoch ∧ x.chain.epoch ≤ 999) := ⟨by have := (chainFault_zero (uh HOK).chain).epoch; omega, (chainFault_zero (uh HOK).chain).epoch.2⟩
 have HT := yh (uh HOK).now
 have hx := uh HX
 have zl := hx.lt
 have hc0 : w2.cell? ⟨b, off + k * 7, none⟩ = some (.int .i64 (x.nodes[k]).id) := hcl 0 (by decide)
 have hc1 : w2.cell? ⟨b, off + k * 7 + 1, none⟩ = some (.bool (x.nodes[k]).up) := hcl 1 (by decide)
 have hc2 : w2.cell? ⟨b, off + k * 7 + 2, none⟩ = some (.int .i64 (x.nodes[k]).epoch) := hcl 2 (by decide)
 have hc3 : w2.cell? ⟨b, off + k * 7 + 3, none⟩ = some (.int .i64 (x.nodes[k]).lease) := hcl 3 (by decide)
 have hc4 : w2.cell? ⟨b, off + k * 7 + 4, none⟩ = some (.slice an (x.nodes[k]).writes.length dn) := hcl 4 (by decide)
 have hc5 : w2.cell? ⟨b, off + k * 7 + 5, none⟩ = some (.int .i64 (x.nodes[k]).sure) := hcl 5 (by decide)
 have hc6 : w2.cell? ⟨b, off + k * 7 + 6, none⟩ = some (.int .i64 (x.nodes[k]).clean) := hcl 6 (by decide)
 have hw1 : IntKind.i64.wrap (k : Int) = (k : Int) := by
  have := (uh HOK).some.2
  rw [IntKind.wrap_i64]
  omega
 have hki : (k : Int) < (x.nodes.length : Int) := by omega
 have hki0 : (0 : Int) ≤ (k : Int) := by omega
 clear hcl hr RN HR hno hni hm HOK
 go_upto_region 5 with fail
 refine wp_region_noPanic ?_
 refine wp_region_held_drew (S := fun w' => Below w2.heap.size w2 w') (by kernel_rfl) ((Below.refl _ _).drew) (fun zq => ?_)
 generalize w2.drew = wD at zq ⊢
 refine tkH (i := 0) (oi := ⟨some 13, .fieldAddr 36 (.tmp 2) 3, 0, "l14_read.go:76", #[], none⟩) (v := ?vk0) rfl ?hk0 zq ?rk0
 case hk0 => intro _ _; go_simp; try with_reducible rfl
 refine tkH (i := 1) (oi := ⟨some 14, .load 32 (.tmp 13), 32, "l14_read.go:76", #[⟨0, .data⟩], none⟩) (v := ?vk1) rfl ?hk1 zq ?rk1
 case hk1 =>
  intro wS hSw
  have bS := hx.keep hSw
  have q0 := Box.at bS 0 _ rfl
  have q1 := Box.at bS 1 _ rfl
  have q2 := Box.at bS 2 _ rfl
  have q3 := Box.at bS 3 _ rfl
  have q4 := Box.at bS 4 _ rfl
  have q5 := Box.at bS 5 _ rfl
  have q6 := Box.at bS 6 _ rfl
  simp only [ga, gb, gc] at q0 q1 q2 q3 q4 q5 q6
  clear bS hSw
  (try dsimp only at hSw)
  go_simp
  try with_reducible rfl
 refine tkH (i := 2) (oi := ⟨some 15, .move (.tmp 1), 2, "l14_read.go:76", #[], none⟩) (v := ?vk2) rfl ?hk2 zq ?rk2
 case hk2 => intro _ _; go_simp; try with_reducible rfl
 refine tkH (i := 3) (oi := ⟨some 16, .binOp .sub 2 (.tmp 15) (.const (.int .i64 1)) 2, 2, "l14_read.go:76", #[⟨2, .data⟩], none⟩) (v := ?vk3) rfl ?hk3 zq ?rk3
 case hk3 => intro _ _; go_simp; try with_reducible rfl
 refine tkH (i := 4) (oi := ⟨some 17, .indexAddr 32 (.tmp 14) (.tmp 16), 0, "l14_read.go:76", #[⟨1, .data⟩, ⟨3, .data⟩], none⟩) (v := ?vk4) rfl ?hk4 zq ?rk4
 case hk4 => intro _ _; go_simp; try with_reducible rfl
 refine tkH (i := 5) (oi := ⟨some 18, .load 84 (.tmp 17), 84, "l14_read.go:76", #[⟨4, .data⟩], none⟩) (v := ?vk5) rfl ?hk5 zq ?rk5
 case hk5 =>
  intro wS hSw
  have c0 : wS.cell? ⟨b, off + k * 7, none⟩ = some (.int .i64 (x.nodes[k]).id) := cell_keep (hSw.mono (Nat.le_refl _)) hc0
  have c1 : wS.cell? ⟨b, off + k * 7 + 1, none⟩ = some (.bool (x.nodes[k]).up) := cell_keep (hSw.mono (Nat.le_refl _)) hc1
  have c2 : wS.cell? ⟨b, off + k * 7 + 2, none⟩ = some (.int .i64 (x.nodes[k]).epoch) := cell_keep (hSw.mono (Nat.le_refl _)) hc2
  have c3 : wS.cell? ⟨b, off + k * 7 + 3, none⟩ = some (.int .i64 (x.nodes[k]).lease) := cell_keep (hSw.mono (Nat.le_refl _)) hc3
  have c4 : wS.cell? ⟨b, off + k * 7 + 4, none⟩ = some (.slice an (x.nodes[k]).writes.length dn) := cell_keep (hSw.mono (Nat.le_refl _)) hc4
  have c5 : wS.cell? ⟨b, off + k * 7 + 5, none⟩ = some (.int .i64 (x.nodes[k]).sure) := cell_keep (hSw.mono (Nat.le_refl _)) hc5
  have c6 : wS.cell? ⟨b, off + k * 7 + 6, none⟩ = some (.int .i64 (x.nodes[k]).clean) := cell_keep (hSw.mono (Nat.le_refl _)) hc6
  clear hSw
  (try dsimp only at hSw)
  go_simp
  try with_reducible rfl
 refine tkH (i := 6) (oi := ⟨some 19, .load 36 (.tmp 2), 36, "l14_read.go:76", #[], none⟩) (v := ?vk6) rfl ?hk6 zq ?rk6
 case hk6 =>
  intro wS hSw
  have bS := hx.keep hSw
  have q0 := Box.at bS 0 _ rfl
  have q1 := Box.at bS 1 _ rfl
  have q2 := Box.at bS 2 _ rfl
  have q3 := Box.at bS 3 _ rfl
  have q4 := Box.at bS 4 _ rfl
  have q5 := Box.at bS 5 _ rfl
  have q6 := Box.at bS 6 _ rfl
  simp only [ga, gb, gc] at q0 q1 q2 q3 q4 q5 q6
  clear bS hSw
  (try dsimp only at hSw)
  go_simp
  try with_reducible rfl
 refine rdH (i := 7) (oi := ⟨some 20, .call { callee := .value (.func 163), args := #[.tmp 19], argTypes := #[36] }, 183, "l14_read.go:76", #[⟨6, .data⟩], none⟩) rfl (fun K hK => ?_)
 go_simp
 go_at_call 163
 refine (clockOfC x.now x.events x.chain.epoch _ _ _ _ _ (uh HE) ⟨(uh HT).1, by have := (uh HT).2; omega⟩).mono ?_
 rintro e u ⟨rfl, hbu⟩
 dsimp only [mom]
 try go_wp2_with fail
 refine hK.out _ _ (zq.trans (hbu.mono zq.size)) (fun zq => ?_)
 clear hK K
 try simp only [Act.put, pz, py, px]
 refine rdH (i := 8) (oi := ⟨some 21, .call { callee := .value (.func 172), args := #[.tmp 18, .tmp 20], argTypes := #[84, 183] }, 4, "l14_read.go:76", #[⟨5, .data⟩, ⟨7, .data⟩, ⟨7, .chain⟩], none⟩) rfl (fun K hK => ?_)
 go_simp
 go_at_call 172
 refine (isLeasedC x.nodes[k] an dn x.chain.epoch x.now _ (uh HNE) (uh HNL) ⟨(uh HT).1, by have := (uh HT).2; omega⟩).mono ?_
 rintro e u2 ⟨rfl, hbu2⟩
 generalize hle : decide (x.now ≤ x.nodes[k].lease) = le at *
 try go_wp2_with fail
 refine hK.out _ _ (zq.trans (hbu2.mono zq.size)) (fun zq => ?_)
 clear hK K
 try simp only [Act.put, pz, py, px]
 refine tkH (i := 9) (oi := ⟨some 22, .unOp .not 4 (.tmp 21), 4, "l14_read.go:76", #[⟨8, .data⟩], none⟩) (v := ?vk9) rfl ?hk9 zq ?rk9
 case hk9 => intro _ _; go_simp; try with_reducible rfl
 refine wpAnyH_done (by kernel_rfl) ?_ _
 refine NoPanic.normal ?_
 replace HB := yh ((uh HB).trans (zq.mono (uh HB).size))
 have HP2 : Hid (r = if le = true then 0 else 9) := by
  show r = _
  rw [uh HP, ← hle]
  by_cases q : x.nodes[k].lease < x.now
  ·
   rw [if_pos q, if_neg (by simp; omega)]
  rw [if_neg q, if_pos (by simp; omega)]
 clear HP hle zq hx HX hc0 hc1 hc2 hc3 hc4 hc5 hc6
 cases le
 ·
  go_wp2_with fail
  go_ret
  exact ⟨by rw [uh HP2]; rfl, uh HB⟩
 go_wp2_with fail
 go_ret
 exact ⟨by rw [uh HP2]; rfl, uh HB⟩
theorem implMayAnswer (cs : List Value) (x : DWorld) (id : Int) (w : World) (h : Lay.tWorld.Reads w cs x) :
  Calls Tryz.prog 55 #[.agg cs.toArray, .int .i64 id] w fun e w' => e = .returned (.int .i64 (mayR x id)) ∧ Below w.heap.size w w' := by
 obtain ⟨a3, d3, a4, d4, a5, d5, a6, d6, rfl, -, -, -, -⟩ := open_World h
 have nb : Below w.heap.size w (w.alloc (.cells #[.int .i64 x.now, .int .i64 x.events, .int .i64 x.chain.epoch, .slice a3 x.chain.ids.length d3, .slice a4 x.nodes.length d4, .slice a5 x.msgs.length d5, .slice a6 x.history.length d6] 36)) := (Below.refl _ _).alloc (Nat.le_refl _) _
 have HX : Hid (Box 0 #[.int .i64 x.now, .int .i64 x.events, .int .i64 x.chain.epoch, .slice a3 x.chain.ids.length d3, .slice a4 x.nodes.length d4, .slice a5 x.msgs.length d5, .slice a6 x.history.length d6] 36 (w.alloc (.cells #[.int .i64 x.now, .int .i64 x.events, .int .i64 x.chain.epoch, .slice a3 x.chain.ids.length d3, .slice a4 x.nodes.length d4, .slice a5 x.msgs.length d5, .slice a6 x.history.length d6] 36)) w.heap.size) := newBox (Nat.zero_le _)
 have HR := yh (h.later nb)
 have HB := yh nb
 have HP : Hid (mayR x id = if worldFault x ≠ 0 then worldFault x else standR x id) := rfl
 clear nb h
 generalize mayR x id = r at *
 go_enter Tryz.func55, Tryz.ntmps55
 go_upto_region 1 with fail
 generalize (w.alloc (.cells #[.int .i64 x.now, .int .i64 x.events, .int .i64 x.chain.epoch, .slice a3 x.chain.ids.length d3, .slice a4 x.nodes.length d4, .slice a5 x.msgs.length d5, .slice a6 x.history.length d6] 36)) = W1 at *
 have z0 := Box.at (uh HX) 0 _ rfl
 have z1 := Box.at (uh HX) 1 _ rfl
 have z2 := Box.at (uh HX) 2 _ rfl
 have z3 := Box.at (uh HX) 3 _ rfl
 have z4 := Box.at (uh HX) 4 _ rfl
 have z5 := Box.at (uh HX) 5 _ rfl
 have z6 := Box.at (uh HX) 6 _ rfl
 simp only [ga, gb, gc] at z0 z1 z2 z3 z4 z5 z6
 have zl := (uh HX).lt
 go_wp2_with fail
 refine (implWorldFault _ x _ (uh HR)).mono ?_
 rintro e wa ⟨rfl, hb⟩
 replace HX := yh ((uh HX).keep hb)
 replace HR := yh ((uh HR).later hb)
 replace HB := yh ((uh HB).trans (hb.mono (uh HB).size))
 clear hb z0 z1 z2 z3 z4 z5 z6 zl
 by_cases d1 : worldFault x ≠ 0
 ·
  have hd : (worldFault x != 0) = true := by simpa using d1
  replace HP := yh ((uh HP).trans (if_pos d1))
  clear d1
  generalize worldFault x = c at *
  go_wp2_with fail
  go_ret
  exact ⟨by rw [uh HP]; rfl, uh HB⟩
 replace HP := yh ((uh HP).trans (if_neg d1))
 have hd : worldFault x = 0 := by simpa using d1
 have HOK := yh (worldFault_zero hd)
 rw [hd]
 clear d1 hd
 have z0 := Box.at (uh HX) 0 _ rfl
 have z1 := Box.at (uh HX) 1 _ rfl
 have z2 := Box.at (uh HX) 2 _ rfl
 have z3 := Box.at (uh HX) 3 _ rfl
 have z4 := Box.at (uh HX) 4 _ rfl
 have z5 := Box.at (uh HX) 5 _ rfl
 have z6 := Box.at (uh HX) 6 _ rfl
 simp only [ga, gb, gc] at z0 z1 z2 z3 z4 z5 z6
 have zl := (uh HX).lt
 go_wp2_with fail
 refine (standingFaultC _ x id _ (uh HR) (uh HOK)).mono ?_
 rintro e w2 ⟨rfl, hb⟩
 replace HB := yh ((uh HB).trans (hb.mono (uh HB).size))
 clear hb z0 z1 z2 z3 z4 z5 z6 zl
 generalize standR x id = q at *
 go_wp2_with fail
 go_ret
 exact ⟨by rw [uh HP]; rfl, uh HB⟩
theorem lawMayAnswer (cs : List Value) (x : DWorld) (id : Int) (w : World) (h : Lay.tWorld.Reads w cs x) :
  Calls Tryz.prog 14 #[.agg cs.toArray, .int .i64 id] w fun e w' => e = .returned (.bool true) ∧ Below w.heap.size w w' := by
 by_cases hn : Lay.tWorld.sz x ≤ 1048576
 ·
  exact lawx_MayAnswer cs x id (mayR x id) w h hn (fun W a ha => specMayAnswer a x id W ha) (fun W a ha => implMayAnswer a x id W ha)
 exact lawover_MayAnswer cs x id w h (by omega)
theorem opens_Chain : Opens Lay.tChain 24 := by
 intro H enc W base spare held fuel cs x h
 obtain ⟨xs, n, _, _, hlen, hl, hfi⟩ := DataW.trod_struct Tryz.underlying24 h
 rw [show Tryz.prog.cellsOf 24 = 2 by kernel_rfl] at hlen
 match cs, hlen with
 | [c0, c1], _ =>
 match xs, hl with
 | [y0, y1], _ =>
 have z0 : Tryz.prog.cellsOf 2 = 1 := by kernel_rfl
 have z1 : Tryz.prog.cellsOf 22 = 1 := by kernel_rfl
 have f0 : DataW.trod enc Tryz.prog W base spare held n 2 (([c0, c1].drop 0).take (Tryz.prog.cellsOf 2)) = some y0 := hfi 0 _ rfl
 rw [z0] at f0
 obtain ⟨d0, r0⟩ := (opens_int Tryz.underlying2) enc W base spare held n _ _ f0
 have f1 : DataW.trod enc Tryz.prog W base spare held n 22 (([c0, c1].drop 1).take (Tryz.prog.cellsOf 22)) = some y1 := hfi 1 _ rfl
 rw [z1] at f1
 obtain ⟨d1, r1⟩ := (opens_sl Tryz.underlying22 (by kernel_rfl) (by decide) (opens_int Tryz.underlying2)) enc W base spare held n _ _ f1
 exact ⟨⟨d0, d1⟩, (reads_pair r0 r1)⟩
theorem opens_Write : Opens Lay.tWrite 150 := by
 intro H enc W base spare held fuel cs x h
 obtain ⟨xs, n, _, _, hlen, hl, hfi⟩ := DataW.trod_struct Tryz.underlying150 h
 rw [show Tryz.prog.cellsOf 150 = 5 by kernel_rfl] at hlen
 match cs, hlen with
 | [c0, c1, c2, c3, c4], _ =>
 match xs, hl with
 | [y0, y1, y2, y3, y4], _ =>
 have z0 : Tryz.prog.cellsOf 2 = 1 := by kernel_rfl
 have z1 : Tryz.prog.cellsOf 22 = 1 := by kernel_rfl
 have f0 : DataW.trod enc Tryz.prog W base spare held n 2 (([c0, c1, c2, c3, c4].drop 0).take (Tryz.prog.cellsOf 2)) = some y0 := hfi 0 _ rfl
 rw [z0] at f0
 obtain ⟨d0, r0⟩ := (opens_int Tryz.underlying2) enc W base spare held n _ _ f0
 have f1 : DataW.trod enc Tryz.prog W base spare held n 2 (([c0, c1, c2, c3, c4].drop 1).take (Tryz.prog.cellsOf 2)) = some y1 := hfi 1 _ rfl
 rw [z0] at f1
 obtain ⟨d1, r1⟩ := (opens_int Tryz.underlying2) enc W base spare held n _ _ f1
 have f2 : DataW.trod enc Tryz.prog W base spare held n 22 (([c0, c1, c2, c3, c4].drop 2).take (Tryz.prog.cellsOf 22)) = some y2 := hfi 2 _ rfl
 rw [z1] at f2
 obtain ⟨d2, r2⟩ := (opens_sl Tryz.underlying22 (by kernel_rfl) (by decide) (opens_int Tryz.underlying2)) enc W base spare held n _ _ f2
 have f3 : DataW.trod enc Tryz.prog W base spare held n 2 (([c0, c1, c2, c3, c4].drop 3).take (Tryz.prog.cellsOf 2)) = some y3 := hfi 3 _ rfl
 rw [z0] at f3
 obtain ⟨d3, r3⟩ := (opens_int Tryz.underlying2) enc W base spare held n _ _ f3
 have f4 : DataW.trod enc Tryz.prog W base spare held n 2 (([c0, c1, c2, c3, c4].drop 4).take (Tryz.prog.cellsOf 2)) = some y4 := hfi 4 _ rfl
 rw [z0] at f4
 obtain ⟨d4, r4⟩ := (opens_int Tryz.underlying2) enc W base spare held n _ _ f4
 exact ⟨⟨d0, d1, d2, d3, d4⟩, (reads_pair r0 (reads_pair r1 (reads_pair r2 (reads_pair r3 r4))))⟩
theorem opens_Node : Opens Lay.tNode 148 := by
 intro H enc W base spare held fuel cs x h
 obtain ⟨xs, n, _, _, hlen, hl, hfi⟩ := DataW.trod_struct Tryz.underlying148 h
 rw [show Tryz.prog.cellsOf 148 = 7 by kernel_rfl] at hlen
 match cs, hlen with
 | [c0, c1, c2, c3, c4, c5, c6], _ =>
 match xs, hl with
 | [y0, y1, y2, y3, y4, y5, y6], _ =>
 have z0 : Tryz.prog.cellsOf 2 = 1 := by kernel_rfl
 have z1 : Tryz.prog.cellsOf 4 = 1 := by kernel_rfl
 have z2 : Tryz.prog.cellsOf 146 = 1 := by kernel_rfl
 have f0 : DataW.trod enc Tryz.prog W base spare held n 2 (([c0, c1, c2, c3, c4, c5, c6].drop 0).take (Tryz.prog.cellsOf 2)) = some y0 := hfi 0 _ rfl
 rw [z0] at f0
 obtain ⟨d0, r0⟩ := (opens_int Tryz.underlying2) enc W base spare held n _ _ f0
 have f1 : DataW.trod enc Tryz.prog W base spare held n 4 (([c0, c1, c2, c3, c4, c5, c6].drop 1).take (Tryz.prog.cellsOf 4)) = some y1 := hfi 1 _ rfl
 rw [z1] at f1
 obtain ⟨d1, r1⟩ := (opens_bool Tryz.underlying4) enc W base spare held n _ _ f1
 have f2 : DataW.trod enc Tryz.prog W base spare held n 2 (([c0, c1, c2, c3, c4, c5, c6].drop 2).take (Tryz.prog.cellsOf 2)) = some y2 := hfi 2 _ rfl
 rw [z0] at f2
 obtain ⟨d2, r2⟩ := (opens_int Tryz.underlying2) enc W base spare held n _ _ f2
 have f3 : DataW.trod enc Tryz.prog W base spare held n 2 (([c0, c1, c2, c3, c4, c5, c6].drop 3).take (Tryz.prog.cellsOf 2)) = some y3 := hfi 3 _ rfl
 rw [z0] at f3
 obtain ⟨d3, r3⟩ := (opens_int Tryz.underlying2) enc W base spare held n _ _ f3
 have f4 : DataW.trod enc Tryz.prog W base spare held n 146 (([c0, c1, c2, c3, c4, c5, c6].drop 4).take (Tryz.prog.cellsOf 146)) = some y4 := hfi 4 _ rfl
 rw [z2] at f4
 obtain ⟨d4, r4⟩ := (opens_sl Tryz.underlying146 (by kernel_rfl) (by decide) opens_Write) enc W base spare held n _ _ f4
 have f5 : DataW.trod enc Tryz.prog W base spare held n 2 (([c0, c1, c2, c3, c4, c5, c6].drop 5).take (Tryz.prog.cellsOf 2)) = some y5 := hfi 5 _ rfl
 rw [z0] at f5
 obtain ⟨d5, r5⟩ := (opens_int Tryz.underlying2) enc W base spare held n _ _ f5
 have f6 : DataW.trod enc Tryz.prog W base spare held n 2 (([c0, c1, c2, c3, c4, c5, c6].drop 6).take (Tryz.prog.cellsOf 2)) = some y6 := hfi 6 _ rfl
 rw [z0] at f6
 obtain ⟨d6, r6⟩ := (opens_int Tryz.underlying2) enc W base spare held n _ _ f6
 exact ⟨⟨d0, d1, d2, d3, d4, d5, d6⟩, (reads_pair r0 (reads_pair r1 (reads_pair r2 (reads_pair r3 (reads_pair r4 (reads_pair r5 r6))))))⟩
theorem opens_Msg : Opens Lay.tMsg 152 := by
 intro H enc W base spare held fuel cs x h
 obtain ⟨xs, n, _, _, hlen, hl, hfi⟩ := DataW.trod_struct Tryz.underlying152 h
 rw [show Tryz.prog.cellsOf 152 = 10 by kernel_rfl] at hlen
 match cs, hlen with
 | [c0, c1, c2, c3, c4, c5, c6, c7, c8, c9], _ =>
 match xs, hl with
 | [y0, y1, y2, y3, y4, y5], _ =>
 have z0 : Tryz.prog.cellsOf 2 = 1 := by kernel_rfl
 have z1 : Tryz.prog.cellsOf 150 = 5 := by kernel_rfl
 have f0 : DataW.trod enc Tryz.prog W base spare held n 2 (([c0, c1, c2, c3, c4, c5, c6, c7, c8, c9].drop 0).take (Tryz.prog.cellsOf 2)) = some y0 := hfi 0 _ rfl
 rw [z0] at f0
 obtain ⟨d0, r0⟩ := (opens_int Tryz.underlying2) enc W base spare held n _ _ f0
 have f1 : DataW.trod enc Tryz.prog W base spare held n 2 (([c0, c1, c2, c3, c4, c5, c6, c7, c8, c9].drop 1).take (Tryz.prog.cellsOf 2)) = some y1 := hfi 1 _ rfl
 rw [z0] at f1
 obtain ⟨d1, r1⟩ := (opens_int Tryz.underlying2) enc W base spare held n _ _ f1
 have f2 : DataW.trod enc Tryz.prog W base spare held n 2 (([c0, c1, c2, c3, c4, c5, c6, c7, c8, c9].drop 2).take (Tryz.prog.cellsOf 2)) = some y2 := hfi 2 _ rfl
 rw [z0] at f2
 obtain ⟨d2, r2⟩ := (opens_int Tryz.underlying2) enc W base spare held n _ _ f2
 have f3 : DataW.trod enc Tryz.prog W base spare held n 2 (([c0, c1, c2, c3, c4, c5, c6, c7, c8, c9].drop 3).take (Tryz.prog.cellsOf 2)) = some y3 := hfi 3 _ rfl
 rw [z0] at f3
 obtain ⟨d3, r3⟩ := (opens_int Tryz.underlying2) enc W base spare held n _ _ f3
 have f4 : DataW.trod enc Tryz.prog W base spare held n 2 (([c0, c1, c2, c3, c4, c5, c6, c7, c8, c9].drop 4).take (Tryz.prog.cellsOf 2)) = some y4 := hfi 4 _ rfl
 rw [z0] at f4
 obtain ⟨d4, r4⟩ := (opens_int Tryz.underlying2) enc W base spare held n _ _ f4
 have f5 : DataW.trod enc Tryz.prog W base spare held n 150 (([c0, c1, c2, c3, c4, c5, c6, c7, c8, c9].drop 5).take (Tryz.prog.cellsOf 150)) = some y5 := hfi 5 _ rfl
 rw [z1] at f5
 obtain ⟨d5, r5⟩ := (opens_Write) enc W base spare held n _ _ f5
 exact ⟨⟨d0, d1, d2, d3, d4, d5⟩, (reads_pair r0 (reads_pair r1 (reads_pair r2 (reads_pair r3 (reads_pair r4 r5)))))⟩
theorem opens_Hit : Opens Lay.tHit 297 := by
 intro H enc W base spare held fuel cs x h
 obtain ⟨xs, n, _, _, hlen, hl, hfi⟩ := DataW.trod_struct Tryz.underlying297 h
 rw [show Tryz.prog.cellsOf 297 = 2 by kernel_rfl] at hlen
 match cs, hlen with
 | [c0, c1], _ =>
 match xs, hl with
 | [y0, y1], _ =>
 have z0 : Tryz.prog.cellsOf 2 = 1 := by kernel_rfl
 have f0 : DataW.trod enc Tryz.prog W base spare held n 2 (([c0, c1].drop 0).take (Tryz.prog.cellsOf 2)) = some y0 := hfi 0 _ rfl
 rw [z0] at f0
 obtain ⟨d0, r0⟩ := (opens_int Tryz.underlying2) enc W base spare held n _ _ f0
 have f1 : DataW.trod enc Tryz.prog W base spare held n 2 (([c0, c1].drop 1).take (Tryz.prog.cellsOf 2)) = some y1 := hfi 1 _ rfl
 rw [z0] at f1
 obtain ⟨d1, r1⟩ := (opens_int Tryz.underlying2) enc W base spare held n _ _ f1
 exact ⟨⟨d0, d1⟩, (reads_pair r0 r1)⟩
theorem opens_Entry : Opens Lay.tEntry 156 := by
 intro H enc W base spare held fuel cs x h
 obtain ⟨xs, n, _, _, hlen, hl, hfi⟩ := DataW.trod_struct Tryz.underlying156 h
 rw [show Tryz.prog.cellsOf 156 = 11 by kernel_rfl] at hlen
 match cs, hlen with
 | [c0, c1, c2, c3, c4, c5, c6, c7, c8, c9, c10], _ =>
 match xs, hl with
 | [y0, y1, y2, y3, y4, y5, y6, y7, y8, y9, y10], _ =>
 have z0 : Tryz.prog.cellsOf 2 = 1 := by kernel_rfl
 have z1 : Tryz.prog.cellsOf 22 = 1 := by kernel_rfl
 have z2 : Tryz.prog.cellsOf 154 = 1 := by kernel_rfl
 have f0 : DataW.trod enc Tryz.prog W base spare held n 2 (([c0, c1, c2, c3, c4, c5, c6, c7, c8, c9, c10].drop 0).take (Tryz.prog.cellsOf 2)) = some y0 := hfi 0 _ rfl
 rw [z0] at f0
 obtain ⟨d0, r0⟩ := (opens_int Tryz.underlying2) enc W base spare held n _ _ f0
 have f1 : DataW.trod enc Tryz.prog W base spare held n 2 (([c0, c1, c2, c3, c4, c5, c6, c7, c8, c9, c10].drop 1).take (Tryz.prog.cellsOf 2)) = some y1 := hfi 1 _ rfl
 rw [z0] at f1
 obtain ⟨d1, r1⟩ := (opens_int Tryz.underlying2) enc W base spare held n _ _ f1
 have f2 : DataW.trod enc Tryz.prog W base spare held n 2 (([c0, c1, c2, c3, c4, c5, c6, c7, c8, c9, c10].drop 2).take (Tryz.prog.cellsOf 2)) = some y2 := hfi 2 _ rfl
 rw [z0] at f2
 obtain ⟨d2, r2⟩ := (opens_int Tryz.underlying2) enc W base spare held n _ _ f2
 have f3 : DataW.trod enc Tryz.prog W base spare held n 2 (([c0, c1, c2, c3, c4, c5, c6, c7, c8, c9, c10].drop 3).take (Tryz.prog.cellsOf 2)) = some y3 := hfi 3 _ rfl
 rw [z0] at f3
 obtain ⟨d3, r3⟩ := (opens_int Tryz.underlying2) enc W base spare held n _ _ f3
 have f4 : DataW.trod enc Tryz.prog W base spare held n 22 (([c0, c1, c2, c3, c4, c5, c6, c7, c8, c9, c10].drop 4).take (Tryz.prog.cellsOf 22)) = some y4 := hfi 4 _ rfl
 rw [z1] at f4
 obtain ⟨d4, r4⟩ := (opens_sl Tryz.underlying22 (by kernel_rfl) (by decide) (opens_int Tryz.underlying2)) enc W base spare held n _ _ f4
 have f5 : DataW.trod enc Tryz.prog W base spare held n 2 (([c0, c1, c2, c3, c4, c5, c6, c7, c8, c9, c10].drop 5).take (Tryz.prog.cellsOf 2)) = some y5 := hfi 5 _ rfl
 rw [z0] at f5
 obtain ⟨d5, r5⟩ := (opens_int Tryz.underlying2) enc W base spare held n _ _ f5
 have f6 : DataW.trod enc Tryz.prog W base spare held n 2 (([c0, c1, c2, c3, c4, c5, c6, c7, c8, c9, c10].drop 6).take (Tryz.prog.cellsOf 2)) = some y6 := hfi 6 _ rfl
 rw [z0] at f6
 obtain ⟨d6, r6⟩ := (opens_int Tryz.underlying2) enc W base spare held n _ _ f6
 have f7 : DataW.trod enc Tryz.prog W base spare held n 2 (([c0, c1, c2, c3, c4, c5, c6, c7, c8, c9, c10].drop 7).take (Tryz.prog.cellsOf 2)) = some y7 := hfi 7 _ rfl
 rw [z0] at f7
 obtain ⟨d7, r7⟩ := (opens_int Tryz.underlying2) enc W base spare held n _ _ f7
 have f8 : DataW.trod enc Tryz.prog W base spare held n 2 (([c0, c1, c2, c3, c4, c5, c6, c7, c8, c9, c10].drop 8).take (Tryz.prog.cellsOf 2)) = some y8 := hfi 8 _ rfl
 rw [z0] at f8
 obtain ⟨d8, r8⟩ := (opens_int Tryz.underlying2) enc W base spare held n _ _ f8
 have f9 : DataW.trod enc Tryz.prog W base spare held n 22 (([c0, c1, c2, c3, c4, c5, c6, c7, c8, c9, c10].drop 9).take (Tryz.prog.cellsOf 22)) = some y9 := hfi 9 _ rfl
 rw [z1] at f9
 obtain ⟨d9, r9⟩ := (opens_sl Tryz.underlying22 (by kernel_rfl) (by decide) (opens_int Tryz.underlying2)) enc W base spare held n _ _ f9
 have f10 : DataW.trod enc Tryz.prog W base spare held n 154 (([c0, c1, c2, c3, c4, c5, c6, c7, c8, c9, c10].drop 10).take (Tryz.prog.cellsOf 154)) = some y10 := hfi 10 _ rfl
 rw [z2] at f10
 obtain ⟨d10, r10⟩ := (opens_sl Tryz.underlying154 (by kernel_rfl) (by decide) opens_Hit) enc W base spare held n _ _ f10
 exact ⟨⟨d0, d1, d2, d3, d4, d5, d6, d7, d8, d9, d10⟩, (reads_pair r0 (reads_pair r1 (reads_pair r2 (reads_pair r3 (reads_pair r4 (reads_pair r5 (reads_pair r6 (reads_pair r7 (reads_pair r8 (reads_pair r9 r10))))))))))⟩
theorem opens_World : Opens Lay.tWorld 29 := by
 intro H enc W base spare held fuel cs x h
 obtain ⟨xs, n, _, _, hlen, hl, hfi⟩ := DataW.trod_struct Tryz.underlying29 h
 rw [show Tryz.prog.cellsOf 29 = 7 by kernel_rfl] at hlen
 match cs, hlen with
 | [c0, c1, c2, c3, c4, c5, c6], _ =>
 match xs, hl with
 | [y0, y1, y2, y3, y4, y5], _ =>
 have z0 : Tryz.prog.cellsOf 2 = 1 := by kernel_rfl
 have z1 : Tryz.prog.cellsOf 24 = 2 := by kernel_rfl
 have z2 : Tryz.prog.cellsOf 25 = 1 := by kernel_rfl
 have z3 : Tryz.prog.cellsOf 26 = 1 := by kernel_rfl
 have z4 : Tryz.prog.cellsOf 27 = 1 := by kernel_rfl
 have f0 : DataW.trod enc Tryz.prog W base spare held n 2 (([c0, c1, c2, c3, c4, c5, c6].drop 0).take (Tryz.prog.cellsOf 2)) = some y0 := hfi 0 _ rfl
 rw [z0] at f0
 obtain ⟨d0, r0⟩ := (opens_int Tryz.underlying2) enc W base spare held n _ _ f0
 have f1 : DataW.trod enc Tryz.prog W base spare held n 2 (([c0, c1, c2, c3, c4, c5, c6].drop 1).take (Tryz.prog.cellsOf 2)) = some y1 := hfi 1 _ rfl
 rw [z0] at f1
 obtain ⟨d1, r1⟩ := (opens_int Tryz.underlying2) enc W base spare held n _ _ f1
 have f2 : DataW.trod enc Tryz.prog W base spare held n 24 (([c0, c1, c2, c3, c4, c5, c6].drop 2).take (Tryz.prog.cellsOf 24)) = some y2 := hfi 2 _ rfl
 rw [z1] at f2
 obtain ⟨d2, r2⟩ := (opens_Chain) enc W base spare held n _ _ f2
 have f3 : DataW.trod enc Tryz.prog W base spare held n 25 (([c0, c1, c2, c3, c4, c5, c6].drop 4).take (Tryz.prog.cellsOf 25)) = some y3 := hfi 3 _ rfl
 rw [z2] at f3
 obtain ⟨d3, r3⟩ := (opens_sl Tryz.underlying25 (by kernel_rfl) (by decide) opens_Node) enc W base spare held n _ _ f3
 have f4 : DataW.trod enc Tryz.prog W base spare held n 26 (([c0, c1, c2, c3, c4, c5, c6].drop 5).take (Tryz.prog.cellsOf 26)) = some y4 := hfi 4 _ rfl
 rw [z3] at f4
 obtain ⟨d4, r4⟩ := (opens_sl Tryz.underlying26 (by kernel_rfl) (by decide) opens_Msg) enc W base spare held n _ _ f4
 have f5 : DataW.trod enc Tryz.prog W base spare held n 27 (([c0, c1, c2, c3, c4, c5, c6].drop 6).take (Tryz.prog.cellsOf 27)) = some y5 := hfi 5 _ rfl
 rw [z4] at f5
 obtain ⟨d5, r5⟩ := (opens_sl Tryz.underlying27 (by kernel_rfl) (by decide) opens_Entry) enc W base spare held n _ _ f5
 exact ⟨⟨d0, d1, d2, d3, d4, d5⟩, (reads_pair r0 (reads_pair r1 (reads_pair r2 (reads_pair r3 (reads_pair r4 r5)))))⟩
end Go.Proofs.YtoanimpijfijgaaGreat
