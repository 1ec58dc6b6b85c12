/-
  Texts of this proof in one: EqWorld, OwnWorld, OwnChain, LayMark, MaChain, OwnNode, MaWriteS, MaNodeS, OwnMsg, MaMsgS, OwnEntry, MaHitS, MaEntryS, MaWorld, LayWorldResult, EqWorldResult.
  Their conditions stand in their theorems.
-/
import Derived.Test.YtoanimpijfijgaaGreatChecked
import Derived.Test.YtoanimpijfijgaaGreatFi01
import Derived.Test.YtoanimpijfijgaaGreatFi03
import Derived.Test.YtoanimpijfijgaaGreatFi00
set_option maxRecDepth 100000
set_option maxHeartbeats 4000000
namespace Go.Proofs.YtoanimpijfijgaaGreat
open Go.RowKit
theorem eq_World (cs cs2 : List Value) (x : DWorld) (w : World) (h : Lay.tWorld.Reads w cs x) (h2 : Lay.tWorld.Reads w cs2 x) :
  Calls Tryz.prog 20 #[.agg cs.toArray, .agg cs2.toArray] w fun e w' => e = .returned (.bool true) ∧ Below w.heap.size w w' := by
 obtain ⟨a3, d3, a4, d4, a5, d5, a6, d6, rfl, R2, R4, R5, R6⟩ := open_World h
 obtain ⟨a3z, d3z, a4z, d4z, a5z, d5z, a6z, d6z, rfl, R2z, R4z, R5z, R6z⟩ := open_World h2
 clear h h2
 have e0 : (x.now != x.now) = false := by simp
 have e1 : (x.events != x.events) = false := by simp
 have e2 : (x.chain.epoch != x.chain.epoch) = false := by simp
 have HB0 : Below w.heap.size w ((w.alloc (.cells #[.int .i64 x.now, .int .i64 x.events, .int .i64 x.chain.epoch, .slice a3 x.chain.ids.length d3, .slice a4 x.nodes.length d4, .slice a5 x.msgs.length d5, .slice a6 x.history.length d6] 36)).alloc (.cells #[.int .i64 x.now, .int .i64 x.events, .int .i64 x.chain.epoch, .slice a3z x.chain.ids.length d3z, .slice a4z x.nodes.length d4z, .slice a5z x.msgs.length d5z, .slice a6z x.history.length d6z] 36)) := ((Below.refl _ _).alloc (Nat.le_refl _) _).alloc (by simp) _
 have bA : Box w.heap.size #[.int .i64 x.now, .int .i64 x.events, .int .i64 x.chain.epoch, .slice a3 x.chain.ids.length d3, .slice a4 x.nodes.length d4, .slice a5 x.msgs.length d5, .slice a6 x.history.length d6] 36 ((w.alloc (.cells #[.int .i64 x.now, .int .i64 x.events, .int .i64 x.chain.epoch, .slice a3 x.chain.ids.length d3, .slice a4 x.nodes.length d4, .slice a5 x.msgs.length d5, .slice a6 x.history.length d6] 36)).alloc (.cells #[.int .i64 x.now, .int .i64 x.events, .int .i64 x.chain.epoch, .slice a3z x.chain.ids.length d3z, .slice a4z x.nodes.length d4z, .slice a5z x.msgs.length d5z, .slice a6z x.history.length d6z] 36)) w.heap.size := (newBox (Nat.le_refl _)).grow _
 have bC : Box w.heap.size #[.int .i64 x.now, .int .i64 x.events, .int .i64 x.chain.epoch, .slice a3z x.chain.ids.length d3z, .slice a4z x.nodes.length d4z, .slice a5z x.msgs.length d5z, .slice a6z x.history.length d6z] 36 ((w.alloc (.cells #[.int .i64 x.now, .int .i64 x.events, .int .i64 x.chain.epoch, .slice a3 x.chain.ids.length d3, .slice a4 x.nodes.length d4, .slice a5 x.msgs.length d5, .slice a6 x.history.length d6] 36)).alloc (.cells #[.int .i64 x.now, .int .i64 x.events, .int .i64 x.chain.epoch, .slice a3z x.chain.ids.length d3z, .slice a4z x.nodes.length d4z, .slice a5z x.msgs.length d5z, .slice a6z x.history.length d6z] 36)) (w.heap.size + 1) := newBoxAt (by omega) (by simp)
 go_enter Tryz.func20, Tryz.ntmps20
 go_wp2_with fail
 generalize (w.alloc (.cells #[.int .i64 x.now, .int .i64 x.events, .int .i64 x.chain.epoch, .slice a3 x.chain.ids.length d3, .slice a4 x.nodes.length d4, .slice a5 x.msgs.length d5, .slice a6 x.history.length d6] 36)).alloc (.cells #[.int .i64 x.now, .int .i64 x.events, .int .i64 x.chain.epoch, .slice a3z x.chain.ids.length d3z, .slice a4z x.nodes.length d4z, .slice a5z x.msgs.length d5z, .slice a6z x.history.length d6z] 36) = W0 at *
 replace R2 := R2.later HB0
 replace R2z := R2z.later HB0
 replace R4 := R4.later HB0
 replace R4z := R4z.later HB0
 replace R5 := R5.later HB0
 replace R5z := R5z.later HB0
 replace R6 := R6.later HB0
 replace R6z := R6z.later HB0
 refine (eq_Chain _ _ x.chain _ R2 R2z).mono ?_
 rintro e w1 ⟨rfl, hb⟩
 replace bA := bA.keep hb
 replace bC := bC.keep hb
 replace HB0 := HB0.trans (hb.mono HB0.size)
 replace R4 := R4.later hb
 replace R4z := R4z.later hb
 replace R5 := R5.later hb
 replace R5z := R5z.later hb
 replace R6 := R6.later hb
 replace R6z := R6z.later hb
 have p4 := bA.at 4 _ rfl
 have q4 := bC.at 4 _ rfl
 have p5 := bA.at 5 _ rfl
 have q5 := bC.at 5 _ rfl
 have p6 := bA.at 6 _ rfl
 have q6 := bC.at 6 _ rfl
 clear hb
 have HB := yh HB0
 have HA := yh bA
 have HC := yh bC
 clear HB0 bA bC
 have S4 := yh R4
 have S4z := yh R4z
 clear R4 R4z
 have S5 := yh R5
 have S5z := yh R5z
 clear R5 R5z
 have S6 := yh R6
 have S6z := yh R6z
 clear R6 R6z
 go_wp2_with fail
 have HB0 := uh HB
 have bA := uh HA
 have bC := uh HC
 clear HB HA HC
 clear p4 q4
 clear p5 q5
 clear p6 q6
 have R4 := uh S4
 have R4z := uh S4z
 clear S4 S4z
 have R5 := uh S5
 have R5z := uh S5z
 clear S5 S5z
 have R6 := uh S6
 have R6z := uh S6z
 clear S6 S6z
 refine (eq_NodeS _ _ x.nodes _ R4 R4z).mono ?_
 rintro e w2 ⟨rfl, hb⟩
 replace bA := bA.keep hb
 replace bC := bC.keep hb
 replace HB0 := HB0.trans (hb.mono HB0.size)
 replace R5 := R5.later hb
 replace R5z := R5z.later hb
 replace R6 := R6.later hb
 replace R6z := R6z.later hb
 have p5 := bA.at 5 _ rfl
 have q5 := bC.at 5 _ rfl
 have p6 := bA.at 6 _ rfl
 have q6 := bC.at 6 _ rfl
 clear hb
 have HB := yh HB0
 have HA := yh bA
 have HC := yh bC
 clear HB0 bA bC
 have S5 := yh R5
 have S5z := yh R5z
 clear R5 R5z
 have S6 := yh R6
 have S6z := yh R6z
 clear R6 R6z
 go_wp2_with fail
 have HB0 := uh HB
 have bA := uh HA
 have bC := uh HC
 clear HB HA HC
 clear p5 q5
 clear p6 q6
 have R5 := uh S5
 have R5z := uh S5z
 clear S5 S5z
 have R6 := uh S6
 have R6z := uh S6z
 clear S6 S6z
 refine (eq_MsgS _ _ x.msgs _ R5 R5z).mono ?_
 rintro e w3 ⟨rfl, hb⟩
 replace bA := bA.keep hb
 replace bC := bC.keep hb
 replace HB0 := HB0.trans (hb.mono HB0.size)
 replace R6 := R6.later hb
 replace R6z := R6z.later hb
 have p6 := bA.at 6 _ rfl
 have q6 := bC.at 6 _ rfl
 clear hb
 have HB := yh HB0
 have HA := yh bA
 have HC := yh bC
 clear HB0 bA bC
 have S6 := yh R6
 have S6z := yh R6z
 clear R6 R6z
 go_wp2_with fail
 have HB0 := uh HB
 have bA := uh HA
 have bC := uh HC
 clear HB HA HC
 clear p6 q6
 have R6 := uh S6
 have R6z := uh S6z
 clear S6 S6z
 refine (eq_EntryS _ _ x.history _ R6 R6z).mono ?_
 rintro e w4 ⟨rfl, hb⟩
 replace bA := bA.keep hb
 replace bC := bC.keep hb
 replace HB0 := HB0.trans (hb.mono HB0.size)
 clear hb
 have HB := yh HB0
 have HA := yh bA
 have HC := yh bC
 clear HB0 bA bC
 go_wp2_with fail
 go_ret
 exact ⟨rfl, uh HB⟩
theorem vcnt_World (x : DWorld) : Lay.tWorld.vcnt x = Lay.tChain.vcnt x.chain + (Lay.sl Lay.tNode).vcnt x.nodes + (Lay.sl Lay.tMsg).vcnt x.msgs + (Lay.sl Lay.tEntry).vcnt x.history := by
 show 0 + (0 + (Lay.tChain.vcnt x.chain + ((Lay.sl Lay.tNode).vcnt x.nodes + ((Lay.sl Lay.tMsg).vcnt x.msgs + ((Lay.sl Lay.tEntry).vcnt x.history))))) = Lay.tChain.vcnt x.chain + (Lay.sl Lay.tNode).vcnt x.nodes + (Lay.sl Lay.tMsg).vcnt x.msgs + (Lay.sl Lay.tEntry).vcnt x.history
 omega
theorem mkv_World (k : Int) (x : DWorld) : Lay.tWorld.mkv k x = ⟨x.now, x.events, Lay.tChain.mkv (k) x.chain, (Lay.sl Lay.tNode).mkv (k + (Lay.tChain.vcnt x.chain : Int)) x.nodes, (Lay.sl Lay.tMsg).mkv (k + (Lay.tChain.vcnt x.chain : Int) + ((Lay.sl Lay.tNode).vcnt x.nodes : Int)) x.msgs, (Lay.sl Lay.tEntry).mkv (k + (Lay.tChain.vcnt x.chain : Int) + ((Lay.sl Lay.tNode).vcnt x.nodes : Int) + ((Lay.sl Lay.tMsg).vcnt x.msgs : Int)) x.history⟩ := by
 simp [Lay.tWorld, Lay.via, Lay.pair, Lay.int]
theorem own_World {w : World} {cs : List Value} {x : DWorld} {bl : List Nat} (h : Lay.tWorld.Own w cs x bl) : ∃ (a3 : Option Addr) (d3 : Nat) (a4 : Option Addr) (d4 : Nat) (a5 : Option Addr) (d5 : Nat) (a6 : Option Addr) (d6 : Nat) (g2 : List Nat) (g4 : List Nat) (g5 : List Nat) (g6 : List Nat), cs = [.int .i64 x.now, .int .i64 x.events, .int .i64 x.chain.epoch, .slice a3 x.chain.ids.length d3, .slice a4 x.nodes.length d4, .slice a5 x.msgs.length d5, .slice a6 x.history.length d6] ∧ bl = g2 ++ (g4 ++ (g5 ++ g6)) ∧ Lay.tChain.Own w [.int .i64 x.chain.epoch, .slice a3 x.chain.ids.length d3] x.chain g2 ∧ (Lay.sl Lay.tNode).Own w [.slice a4 x.nodes.length d4] x.nodes g4 ∧ (Lay.sl Lay.tMsg).Own w [.slice a5 x.msgs.length d5] x.msgs g5 ∧ (Lay.sl Lay.tEntry).Own w [.slice a6 x.history.length d6] x.history g6 ∧ (Lit.int .i64 x.now).wf = true ∧ (Lit.int .i64 x.events).wf = true := by
 obtain ⟨hl, hn, hf⟩ := h
 obtain ⟨a3, d3, b3, a4, d4, b4, a5, d5, b5, a6, d6, b6, rfl, hbl, w0, w1, w2, l3, l4, l5, l6⟩ := lies_World.1 hl
 rw [hbl] at hn hf
 simp only [List.nodup_append, List.mem_append] at hn hf
 exact ⟨a3, d3, a4, d4, a5, d5, a6, d6, b3, b4, b5, b6, rfl, hbl, ⟨lies_Chain.2 ⟨a3, d3, b3, rfl, rfl, w2, l3⟩, by simp_all, fun b hb => hf b (by simp_all)⟩, ⟨l4, by simp_all, fun b hb => hf b (by simp_all)⟩, ⟨l5, by simp_all, fun b hb => hf b (by simp_all)⟩, ⟨l6, by simp_all, fun b hb => hf b (by simp_all)⟩, w0, w1⟩
theorem mkOwn_World {w : World} {x : DWorld} {c2 : List Value} {c4 : List Value} {c5 : List Value} {c6 : List Value} {g2 : List Nat} {g4 : List Nat} {g5 : List Nat} {g6 : List Nat} (O2 : Lay.tChain.Own w c2 x.chain g2) (O4 : (Lay.sl Lay.tNode).Own w c4 x.nodes g4) (O5 : (Lay.sl Lay.tMsg).Own w c5 x.msgs g5) (O6 : (Lay.sl Lay.tEntry).Own w c6 x.history g6) (v0 : (Lit.int .i64 x.now).wf = true) (v1 : (Lit.int .i64 x.events).wf = true) (hn : (g2 ++ (g4 ++ (g5 ++ g6))).Nodup) : Lay.tWorld.Own w ([.int .i64 x.now] ++ ([.int .i64 x.events] ++ (c2 ++ (c4 ++ (c5 ++ c6))))) x (g2 ++ (g4 ++ (g5 ++ g6))) := by
 refine ⟨⟨[.int .i64 x.now], [.int .i64 x.events] ++ (c2 ++ (c4 ++ (c5 ++ c6))), [], [] ++ (g2 ++ (g4 ++ (g5 ++ g6))), rfl, by simp, ⟨rfl, v0, rfl⟩, ⟨[.int .i64 x.events], c2 ++ (c4 ++ (c5 ++ c6)), [], g2 ++ (g4 ++ (g5 ++ g6)), rfl, rfl, ⟨rfl, v1, rfl⟩, ⟨c2, c4 ++ (c5 ++ c6), g2, g4 ++ (g5 ++ g6), rfl, rfl, O2.1, ⟨c4, c5 ++ c6, g4, g5 ++ g6, rfl, rfl, O4.1, ⟨c5, c6, g5, g6, rfl, rfl, O5.1, O6.1⟩⟩⟩⟩⟩, hn, ?_⟩
 intro b hb o
 simp only [List.mem_append] at hb
 rcases hb with hb | hb | hb | hb
 ·
  exact O2.2.2 b hb o
 ·
  exact O4.2.2 b hb o
 ·
  exact O5.2.2 b hb o
 exact O6.2.2 b hb o
theorem vcnt_Chain (x : DChain) : Lay.tChain.vcnt x = (Lay.sl Lay.int).vcnt x.ids := by
 show 0 + ((Lay.sl Lay.int).vcnt x.ids) = (Lay.sl Lay.int).vcnt x.ids
 omega
theorem mkv_Chain (k : Int) (x : DChain) : Lay.tChain.mkv k x = ⟨x.epoch, (Lay.sl Lay.int).mkv (k) x.ids⟩ := by
 simp [Lay.tChain, Lay.via, Lay.pair, Lay.int]
theorem own_Chain {w : World} {cs : List Value} {x : DChain} {bl : List Nat} (h : Lay.tChain.Own w cs x bl) : ∃ (a1 : Option Addr) (d1 : Nat) (g1 : List Nat), cs = [.int .i64 x.epoch, .slice a1 x.ids.length d1] ∧ bl = g1 ∧ (Lay.sl Lay.int).Own w [.slice a1 x.ids.length d1] x.ids g1 ∧ (Lit.int .i64 x.epoch).wf = true := by
 obtain ⟨hl, hn, hf⟩ := h
 obtain ⟨a1, d1, b1, rfl, hbl, w0, l1⟩ := lies_Chain.1 hl
 rw [hbl] at hn hf
 exact ⟨a1, d1, b1, rfl, hbl, ⟨l1, hn, hf⟩, w0⟩
theorem mkOwn_Chain {w : World} {x : DChain} {c1 : List Value} {g1 : List Nat} (O1 : (Lay.sl Lay.int).Own w c1 x.ids g1) (v0 : (Lit.int .i64 x.epoch).wf = true) (hn : (g1).Nodup) : Lay.tChain.Own w ([.int .i64 x.epoch] ++ c1) x (g1) := by
 refine ⟨⟨[.int .i64 x.epoch], c1, [], g1, rfl, by simp, ⟨rfl, v0, rfl⟩, O1.1⟩, hn, ?_⟩
 intro b hb o
 exact O1.2.2 b hb o
theorem cnt_ints (zs : List Int) : (Lay.sl Lay.int).cnt zs = zs.length := by
 show cntAll (fun _ => 1) zs = zs.length
 induction zs with
 | nil => rfl
 | cons z zs ih => simp [cntAll, ih]; omega
theorem vcnt_ints (zs : List Int) : (Lay.sl Lay.int).vcnt zs = zs.length := cnt_ints zs
theorem mkAll_len {α : Type} (cnt : α → Nat) (mk : Int → α → α) (k : Int) (xs : List α) : (mkAll cnt mk k xs).length = xs.length := by
 induction xs generalizing k with
 | nil => rfl
 | cons x xs ih => simp [mkAll, ih]
theorem mk_ints_at (k : Int) (zs : List Int) (j : Nat) (h : j < zs.length) : ((Lay.sl Lay.int).mkv k zs).getD j 0 = k + j := by
 show (mkAll (fun _ => 1) (fun k _ => k) k zs).getD j 0 = k + j
 induction zs generalizing k j with
 | nil => simp at h
 | cons z zs ih =>
  match j with
  | 0 => simp [mkAll]
  | j + 1 =>
   have := ih (k + 1) j (by simpa using h)
   simp only [mkAll, List.getD_cons_succ]
   rw [show ((1 : Nat) : Int) = 1 from rfl, this]
   omega
theorem mk_ints_len (k : Int) (zs : List Int) : ((Lay.sl Lay.int).mkv k zs).length = zs.length := mkAll_len _ _ _ _
theorem mk_ints_wf (k : Int) (zs : List Int) (hk : 0 ≤ k) (hk2 : k + zs.length ≤ 1000000000) : ∀ z ∈ (Lay.sl Lay.int).mkv k zs, (Lit.int .i64 z).wf = true := by
 intro z hz
 obtain ⟨j, hj, rfl⟩ := List.mem_iff_getElem.1 hz
 have hj' := hj
 rw [mk_ints_len] at hj'
 have := mk_ints_at k zs j hj'
 have e : ((Lay.sl Lay.int).mkv k zs)[j] = k + j := by simpa [List.getD, hj] using this
 rw [e]
 exact wf_of_bd (by omega)
theorem markI_pos (b off cap : Nat) (zs : List Int) (k : Int) (w : World) (hk : 0 ≤ k) (hk2 : k + zs.length ≤ 1000000000) (hc : ∀ j, j < zs.length → w.cell? ⟨b, off + j, none⟩ = some (.int .i64 (zs.getD j 0)))
  (hf : ∀ o, w.frozen? ⟨b, o, none⟩ = false) :
  Calls Tryz.prog 46 #[.slice (some ⟨b, off, none⟩) zs.length cap, .int .i64 k] w fun e w' => e = .returned (.int .i64 (k + zs.length)) ∧
   (∀ j, j < zs.length → w'.cell? ⟨b, off + j, none⟩ = some (.int .i64 (k + j))) ∧ (∀ o, w'.frozen? ⟨b, o, none⟩ = false) ∧ (∀ o, (o < off ∨ off + zs.length ≤ o) → w'.cell? ⟨b, o, none⟩ = w.cell? ⟨b, o, none⟩) ∧ Ext (fun q => q = b) w w' := by
 go_enter Tryz.func46, Tryz.ntmps46
 go_wp2
 go_loopw [1, 5] (fun kk i wr => ∃ j : Nat, j ≤ zs.length ∧ i = .int .i64 j ∧ kk = .int .i64 (k + j) ∧ (∀ m, m < j → wr.cell? ⟨b, off + m, none⟩ = some (.int .i64 (k + m))) ∧ (∀ o, wr.frozen? ⟨b, o, none⟩ = false) ∧ (∀ o, (o < off ∨ off + j ≤ o) → wr.cell? ⟨b, o, none⟩ = w.cell? ⟨b, o, none⟩) ∧ Ext (fun q => q = b) w wr)
  (fun _ i _ => zs.length - (intOf i).toNat)
 case atStart => exact ⟨0, Nat.zero_le _, rfl, by simp, fun m hm => by omega, hf, fun _ _ => rfl, Ext.refl _ _⟩
 case round =>
  obtain ⟨j, hj, rfl, rfl, hm, hfz, ho, hx⟩ := hrel
  by_cases hlt : j < zs.length
  ·
   have hcd : wr.cell? ⟨b, off + j, none⟩ = some (.int .i64 (zs.getD j 0)) := (ho (off + j) (by omega)).trans (hc j hlt)
   have hfj := hfz (off + j)
   have HM : Hid (∀ m, m < j + 1 → (wr.setCell ⟨b, off + j, none⟩ (.int .i64 (k + j))).cell? ⟨b, off + m, none⟩ = some (.int .i64 (k + m))) := by
    intro m hm1
    by_cases e : m = j
    ·
     subst e
     exact World.cell?_setCell_same _ _ _ hcd
    rw [World.cell?_setCell_other _ _ _ _ (fun q => by have := congrArg Addr.off q; simp only at this; omega)]
    exact hm m (by omega)
   have HF : Hid (∀ o, (wr.setCell ⟨b, off + j, none⟩ (.int .i64 (k + j))).frozen? ⟨b, o, none⟩ = false) := fun o => by simpa using hfz o
   have HO : Hid (∀ o, (o < off ∨ off + (j + 1) ≤ o) → (wr.setCell ⟨b, off + j, none⟩ (.int .i64 (k + j))).cell? ⟨b, o, none⟩ = w.cell? ⟨b, o, none⟩) := by
    intro o hoo
    rw [World.cell?_setCell_other _ _ _ _ (fun q => by have := congrArg Addr.off q; simp only at this; omega)]
    exact ho o (by omega)
   have HX := yh (hx.setCell ⟨b, off + j, none⟩ (.int .i64 (k + j)) rfl)
   clear hm hfz ho hx hc hf
   go_wp2
   go_roundw
   case rel => exact ⟨j + 1, by omega, by go_num, by go_num, uh HM, uh HF, uh HO, uh HX⟩
   case measure => simp [intOf]; omega
  obtain rfl : j = zs.length := by omega
  have HM := yh hm
  have HF := yh hfz
  have HO := yh ho
  have HX := yh hx
  clear hm hfz ho hx hc hf
  go_wp2
  go_ret
  exact ⟨rfl, uh HM, uh HF, uh HO, uh HX⟩
theorem markI_zero (ao : Option Addr) (cap : Nat) (k : Int) (w : World) :
  Calls Tryz.prog 46 #[.slice ao 0 cap, .int .i64 k] w fun e w' => e = .returned (.int .i64 k) ∧ w' = w := by
 go_enter Tryz.func46, Tryz.ntmps46
 go_wp2
 refine wp_loop_rounds 1 ?_
 rw [rounds_succ]
 go_wp2
 go_ret
 exact ⟨rfl, rfl⟩
theorem mark_Int64S (v : Value) (zs : List Int) (bl : List Nat) (k : Int) (w : World) (h : (Lay.sl Lay.int).Own w [v] zs bl) (hk : 0 ≤ k) (hk2 : k + (Lay.sl Lay.int).vcnt zs ≤ 1000000000) :
  Calls Tryz.prog 46 #[v, .int .i64 k] w fun e w' => e = .returned (.int .i64 (k + (Lay.sl Lay.int).vcnt zs)) ∧ (Lay.sl Lay.int).Own w' [v] ((Lay.sl Lay.int).mkv k zs) bl ∧ Ext (fun q => q ∈ bl) w w' := by
 obtain ⟨hl, hn, hf⟩ := h
 rw [vcnt_ints] at hk2 ⊢
 rcases Lay.lies_ints.1 hl with ⟨ao, cap, rfl, hbig, hwf, ⟨rfl, rfl⟩ | ⟨b, off, rfl, hb, rfl, hc⟩⟩
 ·
  refine (markI_zero ao cap k w).mono ?_
  rintro e w' ⟨rfl, rfl⟩
  exact ⟨by simp, ⟨hl, hn, hf⟩, Ext.refl _ _⟩
 refine (markI_pos b off cap zs k w hk hk2 hc (hf b (by simp))).mono ?_
 rintro e w' ⟨rfl, hm, hfz, -, hx⟩
 refine ⟨rfl, ⟨Lay.lies_ints.2 ⟨_, cap, by rw [mk_ints_len], by rw [mk_ints_len]; exact hbig, mk_ints_wf k zs hk hk2, Or.inr ⟨b, off, rfl, Nat.lt_of_lt_of_le hb hx.size, rfl, fun j hj => ?_⟩⟩, hn, ?_⟩, hx.mono fun q _ e => by simp [e]⟩
 ·
  rw [mk_ints_len] at hj
  rw [hm j hj, mk_ints_at k zs j hj]
 intro b' hb' o
 obtain rfl : b' = b := by simpa using hb'
 exact hfz o
theorem heldI_pos (b off cap n : Nat) (k : Int) (w : World) (hk : 0 ≤ k) (hk2 : k + n ≤ 1000000000) (hc : ∀ j, j < n → w.cell? ⟨b, off + j, none⟩ = some (.int .i64 (k + j))) :
  Calls Tryz.prog 108 #[.slice (some ⟨b, off, none⟩) n cap, .int .i64 k] w fun e w' => e = .returned (.int .i64 (k + n)) ∧ w' = w := by
 go_enter Tryz.func108, Tryz.ntmps108
 go_wp2
 go_loop [1, 5] (fun kk i => ∃ j : Nat, j ≤ n ∧ i = .int .i64 j ∧ kk = .int .i64 (k + j)) (fun _ i => n - (intOf i).toNat)
 case atStart => exact ⟨0, Nat.zero_le _, rfl, by simp⟩
 case round =>
  obtain ⟨j, hj, rfl, rfl⟩ := hrel
  by_cases hlt : j < n
  ·
   have hcx := hc j hlt
   have hne : ((k + (j : Int)) != (k + (j : Int))) = false := by simp
   clear hc
   go_wp2
   go_round
   case rel => exact ⟨j + 1, by omega, by go_num, by go_num⟩
   case measure => simp [intOf]; omega
  obtain rfl : j = n := by omega
  clear hc
  go_wp2
  go_ret
  exact ⟨rfl, rfl⟩
theorem heldI_zero (ao : Option Addr) (cap : Nat) (k : Int) (w : World) :
  Calls Tryz.prog 108 #[.slice ao 0 cap, .int .i64 k] w fun e w' => e = .returned (.int .i64 k) ∧ w' = w := by
 go_enter Tryz.func108, Tryz.ntmps108
 go_wp2
 refine wp_loop_rounds 1 ?_
 rw [rounds_succ]
 go_wp2
 go_ret
 exact ⟨rfl, rfl⟩
theorem held_Int64S (v : Value) (zs : List Int) (k : Int) (w : World) (h : (Lay.sl Lay.int).Reads w [v] ((Lay.sl Lay.int).mkv k zs)) (hk : 0 ≤ k) (hk2 : k + (Lay.sl Lay.int).vcnt zs ≤ 1000000000) :
  Calls Tryz.prog 108 #[v, .int .i64 k] w fun e w' => e = .returned (.int .i64 (k + (Lay.sl Lay.int).vcnt zs)) ∧ Below w.heap.size w w' := by
 rw [vcnt_ints] at hk2 ⊢
 obtain ⟨ao, cap, rfl, hwf, hc⟩ := Lay.ints_reads h
 rw [mk_ints_len] at hc ⊢
 by_cases hp : 0 < zs.length
 ·
  obtain ⟨b, off, rfl, hc1⟩ := hc hp
  refine (heldI_pos b off cap zs.length k w hk hk2 fun j hj => by rw [hc1 j hj, mk_ints_at k zs j hj]).mono ?_
  rintro e w' ⟨rfl, rfl⟩
  exact ⟨rfl, Below.refl _ _⟩
 have e0 : zs.length = 0 := by omega
 rw [e0]
 refine (heldI_zero ao cap k w).mono ?_
 rintro e w' ⟨rfl, rfl⟩
 exact ⟨by simp, Below.refl _ _⟩
theorem mark_Chain (cs : List Value) (x : DChain) (bl : List Nat) (k : Int) (w : World) (h : Lay.tChain.Own w cs x bl) (hk : 0 ≤ k) (hk2 : k + Lay.tChain.vcnt x ≤ 1000000000) :
  Calls Tryz.prog 77 #[.agg cs.toArray, .int .i64 k] w fun e w' => e = .returned (.int .i64 (k + Lay.tChain.vcnt x)) ∧ Lay.tChain.Own w' cs (Lay.tChain.mkv k x) bl ∧ Ext (fun q => q ∈ bl) w w' := by
 have hlt := h.lt
 have hnd := h.2.1
 rw [vcnt_Chain] at hk2
 obtain ⟨a1, d1, g1, rfl, hbl, O1, v0⟩ := own_Chain h
 clear h
 have HB0 : Below w.heap.size w (w.alloc (.cells #[.int .i64 x.epoch, .slice a1 x.ids.length d1] 31)) := (Below.refl _ _).alloc (Nat.le_refl _) _
 have bA : Box w.heap.size #[.int .i64 x.epoch, .slice a1 x.ids.length d1] 31 (w.alloc (.cells #[.int .i64 x.epoch, .slice a1 x.ids.length d1] 31)) w.heap.size := newBox (Nat.le_refl _)
 have HN := yh hnd
 have HV := yh (vcnt_Chain x)
 have HM := yh (mkv_Chain k x)
 clear hnd
 go_enter Tryz.func77, Tryz.ntmps77
 go_wp2_with fail
 generalize w.alloc (.cells #[.int .i64 x.epoch, .slice a1 x.ids.length d1] 31) = W0 at *
 replace O1 := O1.later HB0
 have hsz := HB0.size
 have EX : Ext (fun q => q ∈ bl) w W0 := ext_of_below HB0 _
 have hs0 := bA.lt
 refine (mark_Int64S _ x.ids g1 (k) _ O1 (by omega) (by omega)).mono ?_
 rintro e w1 ⟨rfl, Q1, E1⟩
 replace EX := EX.trans (E1.mono fun b _ hb => by rw [hbl]; simp [hb])
 replace bA := bA.ext E1 (fun hm => by have := hlt w.heap.size (by rw [hbl]; simp [hm]); omega)
 clear E1
 have HA := yh bA
 have HX := yh EX
 have HL := yh hlt
 have HBL := yh hbl
 clear bA EX hlt hbl
 have P1 := yh Q1
 clear Q1
 clear O1
 go_wp2_with fail
 go_ret
 refine ⟨?_, ?_, uh HX⟩
 ·
  rw [show k + (Lay.tChain.vcnt x : Int) = k + ((Lay.sl Lay.int).vcnt x.ids : Int) by rw [uh HV]]
  rfl
 have e := uh HBL
 subst e
 rw [uh HM]
 exact mkOwn_Chain (x := ⟨x.epoch, (Lay.sl Lay.int).mkv (k) x.ids⟩) (uh P1) v0 (uh HN)
theorem own_Node {w : World} {cs : List Value} {x : DNode} {bl : List Nat} (h : Lay.tNode.Own w cs x bl) : ∃ (a4 : Option Addr) (d4 : Nat) (g4 : List Nat), cs = [.int .i64 x.id, .bool x.up, .int .i64 x.epoch, .int .i64 x.lease, .slice a4 x.writes.length d4, .int .i64 x.sure, .int .i64 x.clean] ∧ bl = g4 ∧ (Lay.sl Lay.tWrite).Own w [.slice a4 x.writes.length d4] x.writes g4 ∧ (Lit.int .i64 x.id).wf = true ∧ (Lit.int .i64 x.epoch).wf = true ∧ (Lit.int .i64 x.lease).wf = true ∧ (Lit.int .i64 x.sure).wf = true ∧ (Lit.int .i64 x.clean).wf = true := by
 obtain ⟨hl, hn, hf⟩ := h
 obtain ⟨a4, d4, b4, rfl, hbl, w0, w2, w3, l4, w5, w6⟩ := lies_Node.1 hl
 rw [hbl] at hn hf
 exact ⟨a4, d4, b4, rfl, hbl, ⟨l4, hn, hf⟩, w0, w2, w3, w5, w6⟩
theorem mkOwn_Node {w : World} {x : DNode} {c4 : List Value} {g4 : List Nat} (O4 : (Lay.sl Lay.tWrite).Own w c4 x.writes g4) (v0 : (Lit.int .i64 x.id).wf = true) (v2 : (Lit.int .i64 x.epoch).wf = true) (v3 : (Lit.int .i64 x.lease).wf = true) (v5 : (Lit.int .i64 x.sure).wf = true) (v6 : (Lit.int .i64 x.clean).wf = true) (hn : (g4).Nodup) : Lay.tNode.Own w ([.int .i64 x.id] ++ ([.bool x.up] ++ ([.int .i64 x.epoch] ++ ([.int .i64 x.lease] ++ (c4 ++ ([.int .i64 x.sure] ++ ([.int .i64 x.clean]))))))) x (g4) := by
 refine ⟨⟨[.int .i64 x.id], [.bool x.up] ++ ([.int .i64 x.epoch] ++ ([.int .i64 x.lease] ++ (c4 ++ ([.int .i64 x.sure] ++ ([.int .i64 x.clean]))))), [], [] ++ ([] ++ ([] ++ (g4 ++ ([] ++ [])))), rfl, by simp, ⟨rfl, v0, rfl⟩, ⟨[.bool x.up], [.int .i64 x.epoch] ++ ([.int .i64 x.lease] ++ (c4 ++ ([.int .i64 x.sure] ++ ([.int .i64 x.clean])))), [], [] ++ ([] ++ (g4 ++ ([] ++ []))), rfl, rfl, ⟨rfl, rfl⟩, ⟨[.int .i64 x.epoch], [.int .i64 x.lease] ++ (c4 ++ ([.int .i64 x.sure] ++ ([.int .i64 x.clean]))), [], [] ++ (g4 ++ ([] ++ [])), rfl, rfl, ⟨rfl, v2, rfl⟩, ⟨[.int .i64 x.lease], c4 ++ ([.int .i64 x.sure] ++ ([.int .i64 x.clean])), [], g4 ++ ([] ++ []), rfl, rfl, ⟨rfl, v3, rfl⟩, ⟨c4, [.int .i64 x.sure] ++ ([.int .i64 x.clean]), g4, [] ++ [], rfl, rfl, O4.1, ⟨[.int .i64 x.sure], [.int .i64 x.clean], [], [], rfl, rfl, ⟨rfl, v5, rfl⟩, ⟨rfl, v6, rfl⟩⟩⟩⟩⟩⟩⟩, hn, ?_⟩
 intro b hb o
 exact O4.2.2 b hb o
theorem cnt_Write (x : DWrite) : Lay.tWrite.cnt x = 4 + (Lay.sl Lay.int).vcnt x.vec := by
 show 1 + (1 + ((Lay.sl Lay.int).vcnt x.vec + (1 + (1)))) = 4 + (Lay.sl Lay.int).vcnt x.vec
 omega
theorem mkd_Write (k : Int) (x : DWrite) : Lay.tWrite.mkd k x = ⟨k, k + 1, (Lay.sl Lay.int).mkv (k + 1 + 1) x.vec, k + 1 + 1 + ((Lay.sl Lay.int).vcnt x.vec : Nat), k + 1 + 1 + ((Lay.sl Lay.int).vcnt x.vec : Nat) + 1⟩ := rfl
theorem vcnt_WriteS (xs : List DWrite) : (Lay.sl Lay.tWrite).vcnt xs = cntAll Lay.tWrite.cnt xs := rfl
theorem mkv_WriteS (k : Int) (xs : List DWrite) : (Lay.sl Lay.tWrite).mkv k xs = mkAll Lay.tWrite.cnt Lay.tWrite.mkd k xs := rfl
theorem markWrite_pos (b off cap : Nat) (xs : List DWrite) (bl : List Nat) (k : Int) (w : World) (h : (Lay.sl Lay.tWrite).Own w [.slice (some ⟨b, off, none⟩) xs.length cap] xs bl) (hk : 0 ≤ k) (hk2 : k + (cntAll Lay.tWrite.cnt xs : Nat) ≤ 1000000000) :
  Calls Tryz.prog 146 #[.slice (some ⟨b, off, none⟩) xs.length cap, .int .i64 k] w fun e w' => e = .returned (.int .i64 (k + (cntAll Lay.tWrite.cnt xs : Nat))) ∧ (Lay.sl Lay.tWrite).Own w' [.slice (some ⟨b, off, none⟩) xs.length cap] (mkAll Lay.tWrite.cnt Lay.tWrite.mkd k xs) bl ∧ Ext (fun q => q ∈ bl) w w' := by
 have hbig := h.reads.big
 have H := yh h
 clear h
 go_enter Tryz.func146, Tryz.ntmps146
 go_wp2_with fail
 go_loopw [1, 5] (fun kk i wr => ∃ (j : Nat) (kj : Int), j ≤ xs.length ∧ i = .int .i64 j ∧ kj = k + (cntAll Lay.tWrite.cnt (xs.take j) : Nat) ∧ kk = .int .i64 kj ∧ (Lay.sl Lay.tWrite).Own wr [.slice (some ⟨b, off, none⟩) xs.length cap] (mkPre Lay.tWrite.cnt Lay.tWrite.mkd k xs j) bl ∧ Ext (fun q => q ∈ bl) w wr) (fun _ i _ => xs.length - (intOf i).toNat)
 case atStart => exact ⟨0, k, Nat.zero_le _, rfl, by simp [cntAll], rfl, by rw [mkPre_zero]; exact uh H, Ext.refl _ _⟩
 case round =>
  obtain ⟨j, kj, hj, rfl, hkj, rfl, hO, hX⟩ := hrel
  clear H
  by_cases hlt : j < xs.length
  ·
   have hj2 : j < (mkPre Lay.tWrite.cnt Lay.tWrite.mkd k xs j).length := by rw [mkPre_len _ _ _ _ _ hj]; exact hlt
   obtain ⟨row, blk, R, O, hbk, hin, hfin⟩ := Lay.own_upd hO hj2
   rw [mkPre_get _ _ _ _ _ hlt] at O
   have HT := yh (Lay.cntAll_take (f := Lay.tWrite.cnt) hlt)
   have hle := Lay.cntAll_take_le (f := Lay.tWrite.cnt) (xs := xs) (k := j + 1)
   rw [uh HT] at hle
   have HM : Hid (∀ y, y = Lay.tWrite.mkd kj xs[j] → (mkPre Lay.tWrite.cnt Lay.tWrite.mkd k xs j).set j y = mkPre Lay.tWrite.cnt Lay.tWrite.mkd k xs (j + 1)) := fun y e => by rw [e, hkj]; exact mkPre_set _ _ _ _ _ hlt
   have HF := yh hfin
   have HX := yh hX
   have HI := yh hin
   clear hO hfin hX hin hj2
   generalize hx : xs[j] = x at *
   clear hx
   have hcn := cnt_Write x
   have HD := yh (mkd_Write kj x)
   have hb1 : 0 ≤ kj := by omega
   have hb2 : kj + (Lay.tWrite.cnt x : Int) ≤ 1000000000 := by omega
   have HK := yh hkj
   clear hkj hle
   have hnd := O.2.1
   obtain ⟨a2, d2, g2, rfl, hbl, O2, v0, v1, v3, v4⟩ := own_Write O
   clear O
   subst hbl
   have HN := yh hnd
   clear hnd
   have l1 : b < wr.heap.size := R.lt
   have c0 : wr.cell? ⟨b, off + j * 5, none⟩ = some (.int .i64 x.kind) := R.at 0 _ rfl
   have f0 : wr.frozen? ⟨b, off + j * 5, none⟩ = false := R.soft _
   have c1 : wr.cell? ⟨b, off + j * 5 + 1, none⟩ = some (.int .i64 x.id) := R.at 1 _ rfl
   have f1 : wr.frozen? ⟨b, off + j * 5 + 1, none⟩ = false := R.soft _
   have c2 : wr.cell? ⟨b, off + j * 5 + 2, none⟩ = some (.slice a2 x.vec.length d2) := R.at 2 _ rfl
   have R0_ : RowAt wr ((wr.setCell ⟨b, off + j * 5, none⟩ (.int .i64 kj)).setCell ⟨b, off + j * 5 + 1, none⟩ (.int .i64 (kj + 1))) b (off + j * 5) 5 [.int .i64 kj, .int .i64 (kj + 1), .slice a2 x.vec.length d2, .int .i64 x.session, .int .i64 x.seq] blk := ((R.set 0 (.int .i64 kj) (by decide)).set 1 (.int .i64 (kj + 1)) (by decide))
   have E0_ : Ext (fun q => q = b) wr ((wr.setCell ⟨b, off + j * 5, none⟩ (.int .i64 kj)).setCell ⟨b, off + j * 5 + 1, none⟩ (.int .i64 (kj + 1))) := (((Ext.refl (fun q => q = b) _).setCell ⟨b, off + j * 5, none⟩ (.int .i64 kj) rfl).setCell ⟨b, off + j * 5 + 1, none⟩ (.int .i64 (kj + 1)) rfl)
   have O2_ := O2.ext E0_ (fun c hc e => hbk (e ▸ hc))
   clear O2
   have O2 := O2_
   clear O2_
   clear R E0_
   have R := R0_
   clear R0_
   have HR := yh R
   clear R
   go_wp2_with fail
   refine (mark_Int64S _ x.vec blk (kj + 1 + 1) _ O2 (by omega) (by omega)).mono ?_
   rintro e w2 ⟨rfl, Q2, E2⟩
   have R := (uh HR).call E2 (fun _ h => h) hbk
   clear E2 O2 HR c0 c1 c2 f0 f1
   clear l1
   have l1 : b < w2.heap.size := R.lt
   have c3 : w2.cell? ⟨b, off + j * 5 + 3, none⟩ = some (.int .i64 x.session) := R.at 3 _ rfl
   have f3 : w2.frozen? ⟨b, off + j * 5 + 3, none⟩ = false := R.soft _
   have c4 : w2.cell? ⟨b, off + j * 5 + 4, none⟩ = some (.int .i64 x.seq) := R.at 4 _ rfl
   have f4 : w2.frozen? ⟨b, off + j * 5 + 4, none⟩ = false := R.soft _
   have R1_ : RowAt wr ((w2.setCell ⟨b, off + j * 5 + 3, none⟩ (.int .i64 (kj + 1 + 1 + ((Lay.sl Lay.int).vcnt x.vec : Nat)))).setCell ⟨b, off + j * 5 + 4, none⟩ (.int .i64 (kj + 1 + 1 + ((Lay.sl Lay.int).vcnt x.vec : Nat) + 1))) b (off + j * 5) 5 [.int .i64 kj, .int .i64 (kj + 1), .slice a2 x.vec.length d2, .int .i64 (kj + 1 + 1 + ((Lay.sl Lay.int).vcnt x.vec : Nat)), .int .i64 (kj + 1 + 1 + ((Lay.sl Lay.int).vcnt x.vec : Nat) + 1)] blk := ((R.set 3 (.int .i64 (kj + 1 + 1 + ((Lay.sl Lay.int).vcnt x.vec : Nat))) (by decide)).set 4 (.int .i64 (kj + 1 + 1 + ((Lay.sl Lay.int).vcnt x.vec : Nat) + 1)) (by decide))
   have E1_ : Ext (fun q => q = b) w2 ((w2.setCell ⟨b, off + j * 5 + 3, none⟩ (.int .i64 (kj + 1 + 1 + ((Lay.sl Lay.int).vcnt x.vec : Nat)))).setCell ⟨b, off + j * 5 + 4, none⟩ (.int .i64 (kj + 1 + 1 + ((Lay.sl Lay.int).vcnt x.vec : Nat) + 1))) := (((Ext.refl (fun q => q = b) _).setCell ⟨b, off + j * 5 + 3, none⟩ (.int .i64 (kj + 1 + 1 + ((Lay.sl Lay.int).vcnt x.vec : Nat))) rfl).setCell ⟨b, off + j * 5 + 4, none⟩ (.int .i64 (kj + 1 + 1 + ((Lay.sl Lay.int).vcnt x.vec : Nat) + 1)) rfl)
   have Q2_ := Q2.ext E1_ (fun c hc e => hbk (e ▸ hc))
   clear Q2
   have Q2 := yh Q2_
   clear Q2_
   clear R E1_
   have R := R1_
   clear R1_
   have HR := yh R
   clear R
   have HQ := yh (uh Q2)
   clear Q2
   go_wp2_with fail
   go_roundw
   case rel =>
    refine ⟨j + 1, _, by omega, by go_num, ?_, rfl, ?_, ?_⟩
    ·
     rw [uh HT, hcn]
     have := uh HK
     omega
    ·
     rw [← uh HM _ (uh HD).symm]
     exact uh HF _ _ _ (uh HR) (mkOwn_Write (x := ⟨kj, kj + 1, (Lay.sl Lay.int).mkv (kj + 1 + 1) x.vec, kj + 1 + 1 + ((Lay.sl Lay.int).vcnt x.vec : Nat), kj + 1 + 1 + ((Lay.sl Lay.int).vcnt x.vec : Nat) + 1⟩) (uh HQ) (show (Lit.int .i64 (kj)).wf = true from wf_of_bd (by omega)) (show (Lit.int .i64 (kj + 1)).wf = true from wf_of_bd (by omega)) (show (Lit.int .i64 (kj + 1 + 1 + ((Lay.sl Lay.int).vcnt x.vec : Nat))).wf = true from wf_of_bd (by omega)) (show (Lit.int .i64 (kj + 1 + 1 + ((Lay.sl Lay.int).vcnt x.vec : Nat) + 1)).wf = true from wf_of_bd (by omega)) (uh HN))
    exact (uh HX).trans ((uh HR).ext.mono fun q _ hq => uh HI q (by rcases hq with h | h; exact Or.inl h.symm; exact Or.inr h))
   case measure => simp [intOf]; omega
  obtain rfl : j = xs.length := by omega
  rw [mkPre_all] at hO
  rw [List.take_length] at hkj
  have HK := yh hkj
  clear hkj
  have HO := yh hO
  have HX := yh hX
  clear hO hX
  go_wp2_with fail
  go_ret
  exact ⟨by rw [← uh HK]; rfl, uh HO, uh HX⟩
theorem markWrite_zero (ao : Option Addr) (cap : Nat) (k : Int) (w : World) :
  Calls Tryz.prog 146 #[.slice ao 0 cap, .int .i64 k] w fun e w' => e = .returned (.int .i64 k) ∧ w' = w := by
 go_enter Tryz.func146, Tryz.ntmps146
 go_wp2_with fail
 refine wp_loop_rounds 1 ?_
 rw [rounds_succ]
 go_wp2_with fail
 go_ret
 exact ⟨rfl, rfl⟩
theorem mark_WriteS (v : Value) (xs : List DWrite) (bl : List Nat) (k : Int) (w : World) (h : (Lay.sl Lay.tWrite).Own w [v] xs bl) (hk : 0 ≤ k) (hk2 : k + (Lay.sl Lay.tWrite).vcnt xs ≤ 1000000000) :
  Calls Tryz.prog 146 #[v, .int .i64 k] w fun e w' => e = .returned (.int .i64 (k + (Lay.sl Lay.tWrite).vcnt xs)) ∧ (Lay.sl Lay.tWrite).Own w' [v] ((Lay.sl Lay.tWrite).mkv k xs) bl ∧ Ext (fun q => q ∈ bl) w w' := by
 obtain ⟨ao, cap, rfl⟩ := open_sl h.reads
 by_cases hp : 0 < xs.length
 ·
  obtain ⟨b, off, rfl, hbl⟩ := Lay.sl_addr h.reads hp
  exact markWrite_pos b off cap xs bl k w h hk hk2
 obtain rfl : xs = [] := List.eq_nil_of_length_eq_zero (by omega)
 refine (markWrite_zero ao cap k w).mono ?_
 rintro e w' ⟨rfl, rfl⟩
 exact ⟨by rw [vcnt_WriteS]; simp [cntAll], h, Ext.refl _ _⟩
theorem cnt_Node (x : DNode) : Lay.tNode.cnt x = 6 + (Lay.sl Lay.tWrite).vcnt x.writes := by
 show 1 + (1 + (1 + (1 + ((Lay.sl Lay.tWrite).vcnt x.writes + (1 + (1)))))) = 6 + (Lay.sl Lay.tWrite).vcnt x.writes
 omega
theorem mkd_Node (k : Int) (x : DNode) : Lay.tNode.mkd k x = ⟨k, ((k + 1).tmod 3 == 0), k + 1 + 1, k + 1 + 1 + 1, (Lay.sl Lay.tWrite).mkv (k + 1 + 1 + 1 + 1) x.writes, k + 1 + 1 + 1 + 1 + ((Lay.sl Lay.tWrite).vcnt x.writes : Nat), k + 1 + 1 + 1 + 1 + ((Lay.sl Lay.tWrite).vcnt x.writes : Nat) + 1⟩ := rfl
theorem vcnt_NodeS (xs : List DNode) : (Lay.sl Lay.tNode).vcnt xs = cntAll Lay.tNode.cnt xs := rfl
theorem mkv_NodeS (k : Int) (xs : List DNode) : (Lay.sl Lay.tNode).mkv k xs = mkAll Lay.tNode.cnt Lay.tNode.mkd k xs := rfl
theorem markNode_pos (b off cap : Nat) (xs : List DNode) (bl : List Nat) (k : Int) (w : World) (h : (Lay.sl Lay.tNode).Own w [.slice (some ⟨b, off, none⟩) xs.length cap] xs bl) (hk : 0 ≤ k) (hk2 : k + (cntAll Lay.tNode.cnt xs : Nat) ≤ 1000000000) :
  Calls Tryz.prog 78 #[.slice (some ⟨b, off, none⟩) xs.length cap, .int .i64 k] w fun e w' => e = .returned (.int .i64 (k + (cntAll Lay.tNode.cnt xs : Nat))) ∧ (Lay.sl Lay.tNode).Own w' [.slice (some ⟨b, off, none⟩) xs.length cap] (mkAll Lay.tNode.cnt Lay.tNode.mkd k xs) bl ∧ Ext (fun q => q ∈ bl) w w' := by
 have hbig := h.reads.big
 have H := yh h
 clear h
 go_enter Tryz.func78, Tryz.ntmps78
 go_wp2_with fail
 go_loopw [1, 5] (fun kk i wr => ∃ (j : Nat) (kj : Int), j ≤ xs.length ∧ i = .int .i64 j ∧ kj = k + (cntAll Lay.tNode.cnt (xs.take j) : Nat) ∧ kk = .int .i64 kj ∧ (Lay.sl Lay.tNode).Own wr [.slice (some ⟨b, off, none⟩) xs.length cap] (mkPre Lay.tNode.cnt Lay.tNode.mkd k xs j) bl ∧ Ext (fun q => q ∈ bl) w wr) (fun _ i _ => xs.length - (intOf i).toNat)
 case atStart => exact ⟨0, k, Nat.zero_le _, rfl, by simp [cntAll], rfl, by rw [mkPre_zero]; exact uh H, Ext.refl _ _⟩
 case round =>
  obtain ⟨j, kj, hj, rfl, hkj, rfl, hO, hX⟩ := hrel
  clear H
  by_cases hlt : j < xs.length
  ·
   have hj2 : j < (mkPre Lay.tNode.cnt Lay.tNode.mkd k xs j).length := by rw [mkPre_len _ _ _ _ _ hj]; exact hlt
   obtain ⟨row, blk, R, O, hbk, hin, hfin⟩ := Lay.own_upd hO hj2
   rw [mkPre_get _ _ _ _ _ hlt] at O
   have HT := yh (Lay.cntAll_take (f := Lay.tNode.cnt) hlt)
   have hle := Lay.cntAll_take_le (f := Lay.tNode.cnt) (xs := xs) (k := j + 1)
   rw [uh HT] at hle
   have HM : Hid (∀ y, y = Lay.tNode.mkd kj xs[j] → (mkPre Lay.tNode.cnt Lay.tNode.mkd k xs j).set j y = mkPre Lay.tNode.cnt Lay.tNode.mkd k xs (j + 1)) := fun y e => by rw [e, hkj]; exact mkPre_set _ _ _ _ _ hlt
   have HF := yh hfin
   have HX := yh hX
   have HI := yh hin
   clear hO hfin hX hin hj2
   generalize hx : xs[j] = x at *
   clear hx
   have hcn := cnt_Node x
   have HD0 := mkd_Node kj x
   have hb1 : 0 ≤ kj := by omega
   have hb2 : kj + (Lay.tNode.cnt x : Int) ≤ 1000000000 := by omega
   have HK := yh hkj
   clear hkj hle
   rw [Int.tmod_eq_emod_of_nonneg (show (0 : Int) ≤ kj + 1 by omega)] at HD0
   have HD := yh HD0
   clear HD0
   have hnd := O.2.1
   obtain ⟨a4, d4, g4, rfl, hbl, O4, v0, v2, v3, v5, v6⟩ := own_Node O
   clear O
   have HN : Hid ((g4).Nodup) := by rw [hbl] at hnd; exact hnd
   have HBL := yh hbl
   have hm4 : ∀ c ∈ g4, c ∈ blk := fun c hc => by rw [hbl]; simp [hc]
   have HM4 := yh hm4
   have HB4 : Hid (b ∉ g4) := fun hc => hbk (hm4 b hc)
   clear hm4
   clear hnd hbl
   have P4 := yh O4
   clear O4
   have HR := yh R
   have l1 : b < wr.heap.size := R.lt
   clear R
   have c0 : wr.cell? ⟨b, off + j * 7, none⟩ = some (.int .i64 x.id) := (uh HR).at 0 _ rfl
   have f0 : wr.frozen? ⟨b, off + j * 7, none⟩ = false := (uh HR).soft _
   have c1 : wr.cell? ⟨b, off + j * 7 + 1, none⟩ = some (.bool x.up) := (uh HR).at 1 _ rfl
   have f1 : wr.frozen? ⟨b, off + j * 7 + 1, none⟩ = false := (uh HR).soft _
   have c2 : wr.cell? ⟨b, off + j * 7 + 2, none⟩ = some (.int .i64 x.epoch) := (uh HR).at 2 _ rfl
   have f2 : wr.frozen? ⟨b, off + j * 7 + 2, none⟩ = false := (uh HR).soft _
   have c3 : wr.cell? ⟨b, off + j * 7 + 3, none⟩ = some (.int .i64 x.lease) := (uh HR).at 3 _ rfl
   have f3 : wr.frozen? ⟨b, off + j * 7 + 3, none⟩ = false := (uh HR).soft _
   have c4 : wr.cell? ⟨b, off + j * 7 + 4, none⟩ = some (.slice a4 x.writes.length d4) := (uh HR).at 4 _ rfl
   have E0_ : Ext (fun q => q = b) wr ((((wr.setCell ⟨b, off + j * 7, none⟩ (.int .i64 kj)).setCell ⟨b, off + j * 7 + 1, none⟩ (.bool ((kj + 1) % 3 == 0))).setCell ⟨b, off + j * 7 + 2, none⟩ (.int .i64 (kj + 1 + 1))).setCell ⟨b, off + j * 7 + 3, none⟩ (.int .i64 (kj + 1 + 1 + 1))) := (((((Ext.refl (fun q => q = b) _).setCell ⟨b, off + j * 7, none⟩ (.int .i64 kj) rfl).setCell ⟨b, off + j * 7 + 1, none⟩ (.bool ((kj + 1) % 3 == 0)) rfl).setCell ⟨b, off + j * 7 + 2, none⟩ (.int .i64 (kj + 1 + 1)) rfl).setCell ⟨b, off + j * 7 + 3, none⟩ (.int .i64 (kj + 1 + 1 + 1)) rfl)
   have HR0_ : Hid (RowAt wr ((((wr.setCell ⟨b, off + j * 7, none⟩ (.int .i64 kj)).setCell ⟨b, off + j * 7 + 1, none⟩ (.bool ((kj + 1) % 3 == 0))).setCell ⟨b, off + j * 7 + 2, none⟩ (.int .i64 (kj + 1 + 1))).setCell ⟨b, off + j * 7 + 3, none⟩ (.int .i64 (kj + 1 + 1 + 1))) b (off + j * 7) 7 [.int .i64 kj, .bool ((kj + 1) % 3 == 0), .int .i64 (kj + 1 + 1), .int .i64 (kj + 1 + 1 + 1), .slice a4 x.writes.length d4, .int .i64 x.sure, .int .i64 x.clean] blk) := (((((uh HR).set 0 (.int .i64 kj) (by decide)).set 1 (.bool ((kj + 1) % 3 == 0)) (by decide)).set 2 (.int .i64 (kj + 1 + 1)) (by decide)).set 3 (.int .i64 (kj + 1 + 1 + 1)) (by decide))
   replace P4 := yh ((uh P4).ext E0_ (fun c hc e => uh HB4 (e ▸ hc)))
   clear HR E0_
   have HR := HR0_
   clear HR0_
   go_wp2_with fail
   refine (mark_WriteS _ x.writes g4 (kj + 1 + 1 + 1 + 1) _ (uh P4) (by omega) (by omega)).mono ?_
   rintro e u0 ⟨rfl, Q, E2⟩
   replace HR := yh ((uh HR).call E2 (uh HM4) (uh HB4))
   clear P4
   have P4 := yh Q
   clear Q E2 l1 c0 f0 c1 f1 c2 f2 c3 f3 c4
   have l1 : b < u0.heap.size := (uh HR).lt
   have c5 : u0.cell? ⟨b, off + j * 7 + 5, none⟩ = some (.int .i64 x.sure) := (uh HR).at 5 _ rfl
   have f5 : u0.frozen? ⟨b, off + j * 7 + 5, none⟩ = false := (uh HR).soft _
   have c6 : u0.cell? ⟨b, off + j * 7 + 6, none⟩ = some (.int .i64 x.clean) := (uh HR).at 6 _ rfl
   have f6 : u0.frozen? ⟨b, off + j * 7 + 6, none⟩ = false := (uh HR).soft _
   have E1_ : Ext (fun q => q = b) u0 ((u0.setCell ⟨b, off + j * 7 + 5, none⟩ (.int .i64 (kj + 1 + 1 + 1 + 1 + ((Lay.sl Lay.tWrite).vcnt x.writes : Nat)))).setCell ⟨b, off + j * 7 + 6, none⟩ (.int .i64 (kj + 1 + 1 + 1 + 1 + ((Lay.sl Lay.tWrite).vcnt x.writes : Nat) + 1))) := (((Ext.refl (fun q => q = b) _).setCell ⟨b, off + j * 7 + 5, none⟩ (.int .i64 (kj + 1 + 1 + 1 + 1 + ((Lay.sl Lay.tWrite).vcnt x.writes : Nat))) rfl).setCell ⟨b, off + j * 7 + 6, none⟩ (.int .i64 (kj + 1 + 1 + 1 + 1 + ((Lay.sl Lay.tWrite).vcnt x.writes : Nat) + 1)) rfl)
   have HR1_ : Hid (RowAt wr ((u0.setCell ⟨b, off + j * 7 + 5, none⟩ (.int .i64 (kj + 1 + 1 + 1 + 1 + ((Lay.sl Lay.tWrite).vcnt x.writes : Nat)))).setCell ⟨b, off + j * 7 + 6, none⟩ (.int .i64 (kj + 1 + 1 + 1 + 1 + ((Lay.sl Lay.tWrite).vcnt x.writes : Nat) + 1))) b (off + j * 7) 7 [.int .i64 kj, .bool ((kj + 1) % 3 == 0), .int .i64 (kj + 1 + 1), .int .i64 (kj + 1 + 1 + 1), .slice a4 x.writes.length d4, .int .i64 (kj + 1 + 1 + 1 + 1 + ((Lay.sl Lay.tWrite).vcnt x.writes : Nat)), .int .i64 (kj + 1 + 1 + 1 + 1 + ((Lay.sl Lay.tWrite).vcnt x.writes : Nat) + 1)] blk) := (((uh HR).set 5 (.int .i64 (kj + 1 + 1 + 1 + 1 + ((Lay.sl Lay.tWrite).vcnt x.writes : Nat))) (by decide)).set 6 (.int .i64 (kj + 1 + 1 + 1 + 1 + ((Lay.sl Lay.tWrite).vcnt x.writes : Nat) + 1)) (by decide))
   replace P4 := yh ((uh P4).ext E1_ (fun c hc e => uh HB4 (e ▸ hc)))
   clear HR E1_
   have HR := HR1_
   clear HR1_
   go_wp2_with fail
   go_roundw
   case rel =>
    refine ⟨j + 1, _, by omega, by go_num, ?_, rfl, ?_, ?_⟩
    ·
     rw [uh HT, hcn]
     have := uh HK
     omega
    ·
     rw [← uh HM _ (uh HD).symm]
     exact uh HF _ _ _ (uh HR) (by rw [uh HBL]; exact mkOwn_Node (x := ⟨kj, ((kj + 1) % 3 == 0), kj + 1 + 1, kj + 1 + 1 + 1, (Lay.sl Lay.tWrite).mkv (kj + 1 + 1 + 1 + 1) x.writes, kj + 1 + 1 + 1 + 1 + ((Lay.sl Lay.tWrite).vcnt x.writes : Nat), kj + 1 + 1 + 1 + 1 + ((Lay.sl Lay.tWrite).vcnt x.writes : Nat) + 1⟩) (uh P4) (show (Lit.int .i64 (kj)).wf = true from wf_of_bd (by omega)) (show (Lit.int .i64 (kj + 1 + 1)).wf = true from wf_of_bd (by omega)) (show (Lit.int .i64 (kj + 1 + 1 + 1)).wf = true from wf_of_bd (by omega)) (show (Lit.int .i64 (kj + 1 + 1 + 1 + 1 + ((Lay.sl Lay.tWrite).vcnt x.writes : Nat))).wf = true from wf_of_bd (by omega)) (show (Lit.int .i64 (kj + 1 + 1 + 1 + 1 + ((Lay.sl Lay.tWrite).vcnt x.writes : Nat) + 1)).wf = true from wf_of_bd (by omega)) (uh HN))
    exact (uh HX).trans ((uh HR).ext.mono fun q _ hq => uh HI q (by rcases hq with h | h; exact Or.inl h.symm; exact Or.inr h))
   case measure => simp [intOf]; omega
  obtain rfl : j = xs.length := by omega
  rw [mkPre_all] at hO
  rw [List.take_length] at hkj
  have HK := yh hkj
  clear hkj
  have HO := yh hO
  have HX := yh hX
  clear hO hX
  go_wp2_with fail
  go_ret
  exact ⟨by rw [← uh HK]; rfl, uh HO, uh HX⟩
theorem markNode_zero (ao : Option Addr) (cap : Nat) (k : Int) (w : World) :
  Calls Tryz.prog 78 #[.slice ao 0 cap, .int .i64 k] w fun e w' => e = .returned (.int .i64 k) ∧ w' = w := by
 go_enter Tryz.func78, Tryz.ntmps78
 go_wp2_with fail
 refine wp_loop_rounds 1 ?_
 rw [rounds_succ]
 go_wp2_with fail
 go_ret
 exact ⟨rfl, rfl⟩
theorem mark_NodeS (v : Value) (xs : List DNode) (bl : List Nat) (k : Int) (w : World) (h : (Lay.sl Lay.tNode).Own w [v] xs bl) (hk : 0 ≤ k) (hk2 : k + (Lay.sl Lay.tNode).vcnt xs ≤ 1000000000) :
  Calls Tryz.prog 78 #[v, .int .i64 k] w fun e w' => e = .returned (.int .i64 (k + (Lay.sl Lay.tNode).vcnt xs)) ∧ (Lay.sl Lay.tNode).Own w' [v] ((Lay.sl Lay.tNode).mkv k xs) bl ∧ Ext (fun q => q ∈ bl) w w' := by
 obtain ⟨ao, cap, rfl⟩ := open_sl h.reads
 by_cases hp : 0 < xs.length
 ·
  obtain ⟨b, off, rfl, hbl⟩ := Lay.sl_addr h.reads hp
  exact markNode_pos b off cap xs bl k w h hk hk2
 obtain rfl : xs = [] := List.eq_nil_of_length_eq_zero (by omega)
 refine (markNode_zero ao cap k w).mono ?_
 rintro e w' ⟨rfl, rfl⟩
 exact ⟨by rw [vcnt_NodeS]; simp [cntAll], h, Ext.refl _ _⟩
theorem own_Msg {w : World} {cs : List Value} {x : DMsg} {bl : List Nat} (h : Lay.tMsg.Own w cs x bl) : ∃ (a7 : Option Addr) (d7 : Nat) (g5 : List Nat), cs = [.int .i64 x.kind, .int .i64 x.epoch, .int .i64 x.src, .int .i64 x.dst, .int .i64 x.index, .int .i64 x.write.kind, .int .i64 x.write.id, .slice a7 x.write.vec.length d7, .int .i64 x.write.session, .int .i64 x.write.seq] ∧ bl = g5 ∧ Lay.tWrite.Own w [.int .i64 x.write.kind, .int .i64 x.write.id, .slice a7 x.write.vec.length d7, .int .i64 x.write.session, .int .i64 x.write.seq] x.write g5 ∧ (Lit.int .i64 x.kind).wf = true ∧ (Lit.int .i64 x.epoch).wf = true ∧ (Lit.int .i64 x.src).wf = true ∧ (Lit.int .i64 x.dst).wf = true ∧ (Lit.int .i64 x.index).wf = true := by
 obtain ⟨hl, hn, hf⟩ := h
 obtain ⟨a7, d7, b7, rfl, hbl, w0, w1, w2, w3, w4, w5, w6, l7, w8, w9⟩ := lies_Msg.1 hl
 rw [hbl] at hn hf
 exact ⟨a7, d7, b7, rfl, hbl, ⟨lies_Write.2 ⟨a7, d7, b7, rfl, rfl, w5, w6, l7, w8, w9⟩, hn, hf⟩, w0, w1, w2, w3, w4⟩
theorem mkOwn_Msg {w : World} {x : DMsg} {c5 : List Value} {g5 : List Nat} (O5 : Lay.tWrite.Own w c5 x.write g5) (v0 : (Lit.int .i64 x.kind).wf = true) (v1 : (Lit.int .i64 x.epoch).wf = true) (v2 : (Lit.int .i64 x.src).wf = true) (v3 : (Lit.int .i64 x.dst).wf = true) (v4 : (Lit.int .i64 x.index).wf = true) (hn : (g5).Nodup) : Lay.tMsg.Own w ([.int .i64 x.kind] ++ ([.int .i64 x.epoch] ++ ([.int .i64 x.src] ++ ([.int .i64 x.dst] ++ ([.int .i64 x.index] ++ c5))))) x (g5) := by
 refine ⟨⟨[.int .i64 x.kind], [.int .i64 x.epoch] ++ ([.int .i64 x.src] ++ ([.int .i64 x.dst] ++ ([.int .i64 x.index] ++ c5))), [], [] ++ ([] ++ ([] ++ ([] ++ g5))), rfl, by simp, ⟨rfl, v0, rfl⟩, ⟨[.int .i64 x.epoch], [.int .i64 x.src] ++ ([.int .i64 x.dst] ++ ([.int .i64 x.index] ++ c5)), [], [] ++ ([] ++ ([] ++ g5)), rfl, rfl, ⟨rfl, v1, rfl⟩, ⟨[.int .i64 x.src], [.int .i64 x.dst] ++ ([.int .i64 x.index] ++ c5), [], [] ++ ([] ++ g5), rfl, rfl, ⟨rfl, v2, rfl⟩, ⟨[.int .i64 x.dst], [.int .i64 x.index] ++ c5, [], [] ++ g5, rfl, rfl, ⟨rfl, v3, rfl⟩, ⟨[.int .i64 x.index], c5, [], g5, rfl, rfl, ⟨rfl, v4, rfl⟩, O5.1⟩⟩⟩⟩⟩, hn, ?_⟩
 intro b hb o
 exact O5.2.2 b hb o
theorem cnt_Msg (x : DMsg) : Lay.tMsg.cnt x = 9 + (Lay.sl Lay.int).vcnt x.write.vec := by
 show 1 + (1 + (1 + (1 + (1 + (1 + (1 + ((Lay.sl Lay.int).vcnt x.write.vec + (1 + (1))))))))) = 9 + (Lay.sl Lay.int).vcnt x.write.vec
 omega
theorem mkd_Msg (k : Int) (x : DMsg) : Lay.tMsg.mkd k x = ⟨k, k + 1, k + 1 + 1, k + 1 + 1 + 1, k + 1 + 1 + 1 + 1, ⟨k + 1 + 1 + 1 + 1 + 1, k + 1 + 1 + 1 + 1 + 1 + 1, (Lay.sl Lay.int).mkv (k + 1 + 1 + 1 + 1 + 1 + 1 + 1) x.write.vec, k + 1 + 1 + 1 + 1 + 1 + 1 + 1 + ((Lay.sl Lay.int).vcnt x.write.vec : Nat), k + 1 + 1 + 1 + 1 + 1 + 1 + 1 + ((Lay.sl Lay.int).vcnt x.write.vec : Nat) + 1⟩⟩ := rfl
theorem vcnt_MsgS (xs : List DMsg) : (Lay.sl Lay.tMsg).vcnt xs = cntAll Lay.tMsg.cnt xs := rfl
theorem mkv_MsgS (k : Int) (xs : List DMsg) : (Lay.sl Lay.tMsg).mkv k xs = mkAll Lay.tMsg.cnt Lay.tMsg.mkd k xs := rfl
theorem markMsg_pos (b off cap : Nat) (xs : List DMsg) (bl : List Nat) (k : Int) (w : World) (h : (Lay.sl Lay.tMsg).Own w [.slice (some ⟨b, off, none⟩) xs.length cap] xs bl) (hk : 0 ≤ k) (hk2 : k + (cntAll Lay.tMsg.cnt xs : Nat) ≤ 1000000000) :
  Calls Tryz.prog 79 #[.slice (some ⟨b, off, none⟩) xs.length cap, .int .i64 k] w fun e w' => e = .returned (.int .i64 (k + (cntAll Lay.tMsg.cnt xs : Nat))) ∧ (Lay.sl Lay.tMsg).Own w' [.slice (some ⟨b, off, none⟩) xs.length cap] (mkAll Lay.tMsg.cnt Lay.tMsg.mkd k xs) bl ∧ Ext (fun q => q ∈ bl) w w' := by
 have hbig := h.reads.big
 have H := yh h
 clear h
 go_enter Tryz.func79, Tryz.ntmps79
 go_wp2_with fail
 go_loopw [1, 5] (fun kk i wr => ∃ (j : Nat) (kj : Int), j ≤ xs.length ∧ i = .int .i64 j ∧ kj = k + (cntAll Lay.tMsg.cnt (xs.take j) : Nat) ∧ kk = .int .i64 kj ∧ (Lay.sl Lay.tMsg).Own wr [.slice (some ⟨b, off, none⟩) xs.length cap] (mkPre Lay.tMsg.cnt Lay.tMsg.mkd k xs j) bl ∧ Ext (fun q => q ∈ bl) w wr) (fun _ i _ => xs.length - (intOf i).toNat)
 case atStart => exact ⟨0, k, Nat.zero_le _, rfl, by simp [cntAll], rfl, by rw [mkPre_zero]; exact uh H, Ext.refl _ _⟩
 case round =>
  obtain ⟨j, kj, hj, rfl, hkj, rfl, hO, hX⟩ := hrel
  clear H
  by_cases hlt : j < xs.length
  ·
   have hj2 : j < (mkPre Lay.tMsg.cnt Lay.tMsg.mkd k xs j).length := by rw [mkPre_len _ _ _ _ _ hj]; exact hlt
   obtain ⟨row, blk, R, O, hbk, hin, hfin⟩ := Lay.own_upd hO hj2
   rw [mkPre_get _ _ _ _ _ hlt] at O
   have HT := yh (Lay.cntAll_take (f := Lay.tMsg.cnt) hlt)
   have hle := Lay.cntAll_take_le (f := Lay.tMsg.cnt) (xs := xs) (k := j + 1)
   rw [uh HT] at hle
   have HM : Hid (∀ y, y = Lay.tMsg.mkd kj xs[j] → (mkPre Lay.tMsg.cnt Lay.tMsg.mkd k xs j).set j y = mkPre Lay.tMsg.cnt Lay.tMsg.mkd k xs (j + 1)) := fun y e => by rw [e, hkj]; exact mkPre_set _ _ _ _ _ hlt
   have HF := yh hfin
   have HX := yh hX
   have HI := yh hin
   clear hO hfin hX hin hj2
   generalize hx : xs[j] = x at *
   clear hx
   have hcn := cnt_Msg x
   have HD := yh (mkd_Msg kj x)
   have hb1 : 0 ≤ kj := by omega
   have hb2 : kj + (Lay.tMsg.cnt x : Int) ≤ 1000000000 := by omega
   have HK := yh hkj
   clear hkj hle
   have hnd := O.2.1
   obtain ⟨a7, d7, g7, rfl, hbl, OW, v0, v1, v2, v3, v4⟩ := own_Msg O
   obtain ⟨_, _, _, e9, hbl9, O7, v5, v6, v8, v9⟩ := own_Write OW
   simp only [List.cons.injEq, Value.slice.injEq, true_and, and_true] at e9
   obtain ⟨rfl, rfl⟩ := e9
   clear O OW
   subst hbl9
   subst hbl
   have HN := yh hnd
   clear hnd
   have l1 : b < wr.heap.size := R.lt
   have c0 : wr.cell? ⟨b, off + j * 10, none⟩ = some (.int .i64 x.kind) := R.at 0 _ rfl
   have f0 : wr.frozen? ⟨b, off + j * 10, none⟩ = false := R.soft _
   have c1 : wr.cell? ⟨b, off + j * 10 + 1, none⟩ = some (.int .i64 x.epoch) := R.at 1 _ rfl
   have f1 : wr.frozen? ⟨b, off + j * 10 + 1, none⟩ = false := R.soft _
   have c2 : wr.cell? ⟨b, off + j * 10 + 2, none⟩ = some (.int .i64 x.src) := R.at 2 _ rfl
   have f2 : wr.frozen? ⟨b, off + j * 10 + 2, none⟩ = false := R.soft _
   have c3 : wr.cell? ⟨b, off + j * 10 + 3, none⟩ = some (.int .i64 x.dst) := R.at 3 _ rfl
   have f3 : wr.frozen? ⟨b, off + j * 10 + 3, none⟩ = false := R.soft _
   have c4 : wr.cell? ⟨b, off + j * 10 + 4, none⟩ = some (.int .i64 x.index) := R.at 4 _ rfl
   have f4 : wr.frozen? ⟨b, off + j * 10 + 4, none⟩ = false := R.soft _
   have c5 : wr.cell? ⟨b, off + j * 10 + 5, none⟩ = some (.int .i64 x.write.kind) := R.at 5 _ rfl
   have f5 : wr.frozen? ⟨b, off + j * 10 + 5, none⟩ = false := R.soft _
   have c6 : wr.cell? ⟨b, off + j * 10 + 6, none⟩ = some (.int .i64 x.write.id) := R.at 6 _ rfl
   have f6 : wr.frozen? ⟨b, off + j * 10 + 6, none⟩ = false := R.soft _
   have c7 : wr.cell? ⟨b, off + j * 10 + 7, none⟩ = some (.slice a7 x.write.vec.length d7) := R.at 7 _ rfl
   have R0_ : RowAt wr (((((((wr.setCell ⟨b, off + j * 10, none⟩ (.int .i64 kj)).setCell ⟨b, off + j * 10 + 1, none⟩ (.int .i64 (kj + 1))).setCell ⟨b, off + j * 10 + 2, none⟩ (.int .i64 (kj + 1 + 1))).setCell ⟨b, off + j * 10 + 3, none⟩ (.int .i64 (kj + 1 + 1 + 1))).setCell ⟨b, off + j * 10 + 4, none⟩ (.int .i64 (kj + 1 + 1 + 1 + 1))).setCell ⟨b, off + j * 10 + 5, none⟩ (.int .i64 (kj + 1 + 1 + 1 + 1 + 1))).setCell ⟨b, off + j * 10 + 6, none⟩ (.int .i64 (kj + 1 + 1 + 1 + 1 + 1 + 1))) b (off + j * 10) 10 [.int .i64 kj, .int .i64 (kj + 1), .int .i64 (kj + 1 + 1), .int .i64 (kj + 1 + 1 + 1), .int .i64 (kj + 1 + 1 + 1 + 1), .int .i64 (kj + 1 + 1 + 1 + 1 + 1), .int .i64 (kj + 1 + 1 + 1 + 1 + 1 + 1), .slice a7 x.write.vec.length d7, .int .i64 x.write.session, .int .i64 x.write.seq] blk := (((((((R.set 0 (.int .i64 kj) (by decide)).set 1 (.int .i64 (kj + 1)) (by decide)).set 2 (.int .i64 (kj + 1 + 1)) (by decide)).set 3 (.int .i64 (kj + 1 + 1 + 1)) (by decide)).set 4 (.int .i64 (kj + 1 + 1 + 1 + 1)) (by decide)).set 5 (.int .i64 (kj + 1 + 1 + 1 + 1 + 1)) (by decide)).set 6 (.int .i64 (kj + 1 + 1 + 1 + 1 + 1 + 1)) (by decide))
   have E0_ : Ext (fun q => q = b) wr (((((((wr.setCell ⟨b, off + j * 10, none⟩ (.int .i64 kj)).setCell ⟨b, off + j * 10 + 1, none⟩ (.int .i64 (kj + 1))).setCell ⟨b, off + j * 10 + 2, none⟩ (.int .i64 (kj + 1 + 1))).setCell ⟨b, off + j * 10 + 3, none⟩ (.int .i64 (kj + 1 + 1 + 1))).setCell ⟨b, off + j * 10 + 4, none⟩ (.int .i64 (kj + 1 + 1 + 1 + 1))).setCell ⟨b, off + j * 10 + 5, none⟩ (.int .i64 (kj + 1 + 1 + 1 + 1 + 1))).setCell ⟨b, off + j * 10 + 6, none⟩ (.int .i64 (kj + 1 + 1 + 1 + 1 + 1 + 1))) := ((((((((Ext.refl (fun q => q = b) _).setCell ⟨b, off + j * 10, none⟩ (.int .i64 kj) rfl).setCell ⟨b, off + j * 10 + 1, none⟩ (.int .i64 (kj + 1)) rfl).setCell ⟨b, off + j * 10 + 2, none⟩ (.int .i64 (kj + 1 + 1)) rfl).setCell ⟨b, off + j * 10 + 3, none⟩ (.int .i64 (kj + 1 + 1 + 1)) rfl).setCell ⟨b, off + j * 10 + 4, none⟩ (.int .i64 (kj + 1 + 1 + 1 + 1)) rfl).setCell ⟨b, off + j * 10 + 5, none⟩ (.int .i64 (kj + 1 + 1 + 1 + 1 + 1)) rfl).setCell ⟨b, off + j * 10 + 6, none⟩ (.int .i64 (kj + 1 + 1 + 1 + 1 + 1 + 1)) rfl)
   have O7_ := O7.ext E0_ (fun c hc e => hbk (e ▸ hc))
   clear O7
   have O7 := O7_
   clear O7_
   clear R E0_
   have R := R0_
   clear R0_
   have HR := yh R
   clear R
   go_wp2_with fail
   refine (mark_Int64S _ x.write.vec blk (kj + 1 + 1 + 1 + 1 + 1 + 1 + 1) _ O7 (by omega) (by omega)).mono ?_
   rintro e w2 ⟨rfl, Q7, E2⟩
   have R := (uh HR).call E2 (fun _ h => h) hbk
   clear E2 O7 HR c0 c1 c2 c3 c4 c5 c6 c7 f0 f1 f2 f3 f4 f5 f6
   clear l1
   have l1 : b < w2.heap.size := R.lt
   have c8 : w2.cell? ⟨b, off + j * 10 + 8, none⟩ = some (.int .i64 x.write.session) := R.at 8 _ rfl
   have f8 : w2.frozen? ⟨b, off + j * 10 + 8, none⟩ = false := R.soft _
   have c9 : w2.cell? ⟨b, off + j * 10 + 9, none⟩ = some (.int .i64 x.write.seq) := R.at 9 _ rfl
   have f9 : w2.frozen? ⟨b, off + j * 10 + 9, none⟩ = false := R.soft _
   have R1_ : RowAt wr ((w2.setCell ⟨b, off + j * 10 + 8, none⟩ (.int .i64 (kj + 1 + 1 + 1 + 1 + 1 + 1 + 1 + ((Lay.sl Lay.int).vcnt x.write.vec : Nat)))).setCell ⟨b, off + j * 10 + 9, none⟩ (.int .i64 (kj + 1 + 1 + 1 + 1 + 1 + 1 + 1 + ((Lay.sl Lay.int).vcnt x.write.vec : Nat) + 1))) b (off + j * 10) 10 [.int .i64 kj, .int .i64 (kj + 1), .int .i64 (kj + 1 + 1), .int .i64 (kj + 1 + 1 + 1), .int .i64 (kj + 1 + 1 + 1 + 1), .int .i64 (kj + 1 + 1 + 1 + 1 + 1), .int .i64 (kj + 1 + 1 + 1 + 1 + 1 + 1), .slice a7 x.write.vec.length d7, .int .i64 (kj + 1 + 1 + 1 + 1 + 1 + 1 + 1 + ((Lay.sl Lay.int).vcnt x.write.vec : Nat)), .int .i64 (kj + 1 + 1 + 1 + 1 + 1 + 1 + 1 + ((Lay.sl Lay.int).vcnt x.write.vec : Nat) + 1)] blk := ((R.set 8 (.int .i64 (kj + 1 + 1 + 1 + 1 + 1 + 1 + 1 + ((Lay.sl Lay.int).vcnt x.write.vec : Nat))) (by decide)).set 9 (.int .i64 (kj + 1 + 1 + 1 + 1 + 1 + 1 + 1 + ((Lay.sl Lay.int).vcnt x.write.vec : Nat) + 1)) (by decide))
   have E1_ : Ext (fun q => q = b) w2 ((w2.setCell ⟨b, off + j * 10 + 8, none⟩ (.int .i64 (kj + 1 + 1 + 1 + 1 + 1 + 1 + 1 + ((Lay.sl Lay.int).vcnt x.write.vec : Nat)))).setCell ⟨b, off + j * 10 + 9, none⟩ (.int .i64 (kj + 1 + 1 + 1 + 1 + 1 + 1 + 1 + ((Lay.sl Lay.int).vcnt x.write.vec : Nat) + 1))) := (((Ext.refl (fun q => q = b) _).setCell ⟨b, off + j * 10 + 8, none⟩ (.int .i64 (kj + 1 + 1 + 1 + 1 + 1 + 1 + 1 + ((Lay.sl Lay.int).vcnt x.write.vec : Nat))) rfl).setCell ⟨b, off + j * 10 + 9, none⟩ (.int .i64 (kj + 1 + 1 + 1 + 1 + 1 + 1 + 1 + ((Lay.sl Lay.int).vcnt x.write.vec : Nat) + 1)) rfl)
   have Q7_ := Q7.ext E1_ (fun c hc e => hbk (e ▸ hc))
   clear Q7
   have Q7 := yh Q7_
   clear Q7_
   clear R E1_
   have R := R1_
   clear R1_
   have HR := yh R
   clear R
   have HQ := yh (uh Q7)
   clear Q7
   go_wp2_with fail
   go_roundw
   case rel =>
    refine ⟨j + 1, _, by omega, by go_num, ?_, rfl, ?_, ?_⟩
    ·
     rw [uh HT, hcn]
     have := uh HK
     omega
    ·
     rw [← uh HM _ (uh HD).symm]
     exact uh HF _ _ _ (uh HR) (mkOwn_Msg (x := ⟨kj, kj + 1, kj + 1 + 1, kj + 1 + 1 + 1, kj + 1 + 1 + 1 + 1, ⟨kj + 1 + 1 + 1 + 1 + 1, kj + 1 + 1 + 1 + 1 + 1 + 1, (Lay.sl Lay.int).mkv (kj + 1 + 1 + 1 + 1 + 1 + 1 + 1) x.write.vec, kj + 1 + 1 + 1 + 1 + 1 + 1 + 1 + ((Lay.sl Lay.int).vcnt x.write.vec : Nat), kj + 1 + 1 + 1 + 1 + 1 + 1 + 1 + ((Lay.sl Lay.int).vcnt x.write.vec : Nat) + 1⟩⟩) (mkOwn_Write (x := ⟨kj + 1 + 1 + 1 + 1 + 1, kj + 1 + 1 + 1 + 1 + 1 + 1, (Lay.sl Lay.int).mkv (kj + 1 + 1 + 1 + 1 + 1 + 1 + 1) x.write.vec, kj + 1 + 1 + 1 + 1 + 1 + 1 + 1 + ((Lay.sl Lay.int).vcnt x.write.vec : Nat), kj + 1 + 1 + 1 + 1 + 1 + 1 + 1 + ((Lay.sl Lay.int).vcnt x.write.vec : Nat) + 1⟩) (uh HQ) (show (Lit.int .i64 (kj + 1 + 1 + 1 + 1 + 1)).wf = true from wf_of_bd (by omega)) (show (Lit.int .i64 (kj + 1 + 1 + 1 + 1 + 1 + 1)).wf = true from wf_of_bd (by omega)) (show (Lit.int .i64 (kj + 1 + 1 + 1 + 1 + 1 + 1 + 1 + ((Lay.sl Lay.int).vcnt x.write.vec : Nat))).wf = true from wf_of_bd (by omega)) (show (Lit.int .i64 (kj + 1 + 1 + 1 + 1 + 1 + 1 + 1 + ((Lay.sl Lay.int).vcnt x.write.vec : Nat) + 1)).wf = true from wf_of_bd (by omega)) (uh HN)) (show (Lit.int .i64 (kj)).wf = true from wf_of_bd (by omega)) (show (Lit.int .i64 (kj + 1)).wf = true from wf_of_bd (by omega)) (show (Lit.int .i64 (kj + 1 + 1)).wf = true from wf_of_bd (by omega)) (show (Lit.int .i64 (kj + 1 + 1 + 1)).wf = true from wf_of_bd (by omega)) (show (Lit.int .i64 (kj + 1 + 1 + 1 + 1)).wf = true from wf_of_bd (by omega)) (uh HN))
    exact (uh HX).trans ((uh HR).ext.mono fun q _ hq => uh HI q (by rcases hq with h | h; exact Or.inl h.symm; exact Or.inr h))
   case measure => simp [intOf]; omega
  obtain rfl : j = xs.length := by omega
  rw [mkPre_all] at hO
  rw [List.take_length] at hkj
  have HK := yh hkj
  clear hkj
  have HO := yh hO
  have HX := yh hX
  clear hO hX
  go_wp2_with fail
  go_ret
  exact ⟨by rw [← uh HK]; rfl, uh HO, uh HX⟩
theorem markMsg_zero (ao : Option Addr) (cap : Nat) (k : Int) (w : World) :
  Calls Tryz.prog 79 #[.slice ao 0 cap, .int .i64 k] w fun e w' => e = .returned (.int .i64 k) ∧ w' = w := by
 go_enter Tryz.func79, Tryz.ntmps79
 go_wp2_with fail
 refine wp_loop_rounds 1 ?_
 rw [rounds_succ]
 go_wp2_with fail
 go_ret
 exact ⟨rfl, rfl⟩
theorem mark_MsgS (v : Value) (xs : List DMsg) (bl : List Nat) (k : Int) (w : World) (h : (Lay.sl Lay.tMsg).Own w [v] xs bl) (hk : 0 ≤ k) (hk2 : k + (Lay.sl Lay.tMsg).vcnt xs ≤ 1000000000) :
  Calls Tryz.prog 79 #[v, .int .i64 k] w fun e w' => e = .returned (.int .i64 (k + (Lay.sl Lay.tMsg).vcnt xs)) ∧ (Lay.sl Lay.tMsg).Own w' [v] ((Lay.sl Lay.tMsg).mkv k xs) bl ∧ Ext (fun q => q ∈ bl) w w' := by
 obtain ⟨ao, cap, rfl⟩ := open_sl h.reads
 by_cases hp : 0 < xs.length
 ·
  obtain ⟨b, off, rfl, hbl⟩ := Lay.sl_addr h.reads hp
  exact markMsg_pos b off cap xs bl k w h hk hk2
 obtain rfl : xs = [] := List.eq_nil_of_length_eq_zero (by omega)
 refine (markMsg_zero ao cap k w).mono ?_
 rintro e w' ⟨rfl, rfl⟩
 exact ⟨by rw [vcnt_MsgS]; simp [cntAll], h, Ext.refl _ _⟩
theorem own_Entry {w : World} {cs : List Value} {x : DEntry} {bl : List Nat} (h : Lay.tEntry.Own w cs x bl) : ∃ (a4 : Option Addr) (d4 : Nat) (a9 : Option Addr) (d9 : Nat) (a10 : Option Addr) (d10 : Nat) (g4 : List Nat) (g9 : List Nat) (g10 : List Nat), cs = [.int .i64 x.kind, .int .i64 x.session, .int .i64 x.seq, .int .i64 x.id, .slice a4 x.query.length d4, .int .i64 x.k, .int .i64 x.start, .int .i64 x.fin, .int .i64 x.place, .slice a9 x.vec.length d9, .slice a10 x.hits.length d10] ∧ bl = g4 ++ (g9 ++ g10) ∧ (Lay.sl Lay.int).Own w [.slice a4 x.query.length d4] x.query g4 ∧ (Lay.sl Lay.int).Own w [.slice a9 x.vec.length d9] x.vec g9 ∧ (Lay.sl Lay.tHit).Own w [.slice a10 x.hits.length d10] x.hits g10 ∧ (Lit.int .i64 x.kind).wf = true ∧ (Lit.int .i64 x.session).wf = true ∧ (Lit.int .i64 x.seq).wf = true ∧ (Lit.int .i64 x.id).wf = true ∧ (Lit.int .i64 x.k).wf = true ∧ (Lit.int .i64 x.start).wf = true ∧ (Lit.int .i64 x.fin).wf = true ∧ (Lit.int .i64 x.place).wf = true := by
 obtain ⟨hl, hn, hf⟩ := h
 obtain ⟨a4, d4, b4, a9, d9, b9, a10, d10, b10, rfl, hbl, w0, w1, w2, w3, l4, w5, w6, w7, w8, l9, l10⟩ := lies_Entry.1 hl
 rw [hbl] at hn hf
 simp only [List.nodup_append, List.mem_append] at hn hf
 exact ⟨a4, d4, a9, d9, a10, d10, b4, b9, b10, rfl, hbl, ⟨l4, by simp_all, fun b hb => hf b (by simp_all)⟩, ⟨l9, by simp_all, fun b hb => hf b (by simp_all)⟩, ⟨l10, by simp_all, fun b hb => hf b (by simp_all)⟩, w0, w1, w2, w3, w5, w6, w7, w8⟩
theorem mkOwn_Entry {w : World} {x : DEntry} {c4 : List Value} {c9 : List Value} {c10 : List Value} {g4 : List Nat} {g9 : List Nat} {g10 : List Nat} (O4 : (Lay.sl Lay.int).Own w c4 x.query g4) (O9 : (Lay.sl Lay.int).Own w c9 x.vec g9) (O10 : (Lay.sl Lay.tHit).Own w c10 x.hits g10) (v0 : (Lit.int .i64 x.kind).wf = true) (v1 : (Lit.int .i64 x.session).wf = true) (v2 : (Lit.int .i64 x.seq).wf = true) (v3 : (Lit.int .i64 x.id).wf = true) (v5 : (Lit.int .i64 x.k).wf = true) (v6 : (Lit.int .i64 x.start).wf = true) (v7 : (Lit.int .i64 x.fin).wf = true) (v8 : (Lit.int .i64 x.place).wf = true) (hn : (g4 ++ (g9 ++ g10)).Nodup) : Lay.tEntry.Own w ([.int .i64 x.kind] ++ ([.int .i64 x.session] ++ ([.int .i64 x.seq] ++ ([.int .i64 x.id] ++ (c4 ++ ([.int .i64 x.k] ++ ([.int .i64 x.start] ++ ([.int .i64 x.fin] ++ ([.int .i64 x.place] ++ (c9 ++ c10)))))))))) x (g4 ++ (g9 ++ g10)) := by
 refine ⟨⟨[.int .i64 x.kind], [.int .i64 x.session] ++ ([.int .i64 x.seq] ++ ([.int .i64 x.id] ++ (c4 ++ ([.int .i64 x.k] ++ ([.int .i64 x.start] ++ ([.int .i64 x.fin] ++ ([.int .i64 x.place] ++ (c9 ++ c10)))))))), [], [] ++ ([] ++ ([] ++ (g4 ++ ([] ++ ([] ++ ([] ++ ([] ++ (g9 ++ g10)))))))), rfl, by simp, ⟨rfl, v0, rfl⟩, ⟨[.int .i64 x.session], [.int .i64 x.seq] ++ ([.int .i64 x.id] ++ (c4 ++ ([.int .i64 x.k] ++ ([.int .i64 x.start] ++ ([.int .i64 x.fin] ++ ([.int .i64 x.place] ++ (c9 ++ c10))))))), [], [] ++ ([] ++ (g4 ++ ([] ++ ([] ++ ([] ++ ([] ++ (g9 ++ g10))))))), rfl, rfl, ⟨rfl, v1, rfl⟩, ⟨[.int .i64 x.seq], [.int .i64 x.id] ++ (c4 ++ ([.int .i64 x.k] ++ ([.int .i64 x.start] ++ ([.int .i64 x.fin] ++ ([.int .i64 x.place] ++ (c9 ++ c10)))))), [], [] ++ (g4 ++ ([] ++ ([] ++ ([] ++ ([] ++ (g9 ++ g10)))))), rfl, rfl, ⟨rfl, v2, rfl⟩, ⟨[.int .i64 x.id], c4 ++ ([.int .i64 x.k] ++ ([.int .i64 x.start] ++ ([.int .i64 x.fin] ++ ([.int .i64 x.place] ++ (c9 ++ c10))))), [], g4 ++ ([] ++ ([] ++ ([] ++ ([] ++ (g9 ++ g10))))), rfl, rfl, ⟨rfl, v3, rfl⟩, ⟨c4, [.int .i64 x.k] ++ ([.int .i64 x.start] ++ ([.int .i64 x.fin] ++ ([.int .i64 x.place] ++ (c9 ++ c10)))), g4, [] ++ ([] ++ ([] ++ ([] ++ (g9 ++ g10)))), rfl, rfl, O4.1, ⟨[.int .i64 x.k], [.int .i64 x.start] ++ ([.int .i64 x.fin] ++ ([.int .i64 x.place] ++ (c9 ++ c10))), [], [] ++ ([] ++ ([] ++ (g9 ++ g10))), rfl, rfl, ⟨rfl, v5, rfl⟩, ⟨[.int .i64 x.start], [.int .i64 x.fin] ++ ([.int .i64 x.place] ++ (c9 ++ c10)), [], [] ++ ([] ++ (g9 ++ g10)), rfl, rfl, ⟨rfl, v6, rfl⟩, ⟨[.int .i64 x.fin], [.int .i64 x.place] ++ (c9 ++ c10), [], [] ++ (g9 ++ g10), rfl, rfl, ⟨rfl, v7, rfl⟩, ⟨[.int .i64 x.place], c9 ++ c10, [], g9 ++ g10, rfl, rfl, ⟨rfl, v8, rfl⟩, ⟨c9, c10, g9, g10, rfl, rfl, O9.1, O10.1⟩⟩⟩⟩⟩⟩⟩⟩⟩⟩, hn, ?_⟩
 intro b hb o
 simp only [List.mem_append] at hb
 rcases hb with hb | hb | hb
 ·
  exact O4.2.2 b hb o
 ·
  exact O9.2.2 b hb o
 exact O10.2.2 b hb o
theorem cnt_Hit (x : DHit) : Lay.tHit.cnt x = 2 := by
 show 1 + (1) = 2
 omega
theorem mkd_Hit (k : Int) (x : DHit) : Lay.tHit.mkd k x = ⟨k, k + 1⟩ := rfl
theorem vcnt_HitS (xs : List DHit) : (Lay.sl Lay.tHit).vcnt xs = cntAll Lay.tHit.cnt xs := rfl
theorem mkv_HitS (k : Int) (xs : List DHit) : (Lay.sl Lay.tHit).mkv k xs = mkAll Lay.tHit.cnt Lay.tHit.mkd k xs := rfl
theorem markHit_pos (b off cap : Nat) (xs : List DHit) (bl : List Nat) (k : Int) (w : World) (h : (Lay.sl Lay.tHit).Own w [.slice (some ⟨b, off, none⟩) xs.length cap] xs bl) (hk : 0 ≤ k) (hk2 : k + (cntAll Lay.tHit.cnt xs : Nat) ≤ 1000000000) :
  Calls Tryz.prog 107 #[.slice (some ⟨b, off, none⟩) xs.length cap, .int .i64 k] w fun e w' => e = .returned (.int .i64 (k + (cntAll Lay.tHit.cnt xs : Nat))) ∧ (Lay.sl Lay.tHit).Own w' [.slice (some ⟨b, off, none⟩) xs.length cap] (mkAll Lay.tHit.cnt Lay.tHit.mkd k xs) bl ∧ Ext (fun q => q ∈ bl) w w' := by
 have hbig := h.reads.big
 have H := yh h
 clear h
 go_enter Tryz.func107, Tryz.ntmps107
 go_wp2_with fail
 go_loopw [1, 5] (fun kk i wr => ∃ (j : Nat) (kj : Int), j ≤ xs.length ∧ i = .int .i64 j ∧ kj = k + (cntAll Lay.tHit.cnt (xs.take j) : Nat) ∧ kk = .int .i64 kj ∧ (Lay.sl Lay.tHit).Own wr [.slice (some ⟨b, off, none⟩) xs.length cap] (mkPre Lay.tHit.cnt Lay.tHit.mkd k xs j) bl ∧ Ext (fun q => q ∈ bl) w wr) (fun _ i _ => xs.length - (intOf i).toNat)
 case atStart => exact ⟨0, k, Nat.zero_le _, rfl, by simp [cntAll], rfl, by rw [mkPre_zero]; exact uh H, Ext.refl _ _⟩
 case round =>
  obtain ⟨j, kj, hj, rfl, hkj, rfl, hO, hX⟩ := hrel
  clear H
  by_cases hlt : j < xs.length
  ·
   have hj2 : j < (mkPre Lay.tHit.cnt Lay.tHit.mkd k xs j).length := by rw [mkPre_len _ _ _ _ _ hj]; exact hlt
   obtain ⟨row, blk, R, O, hbk, hin, hfin⟩ := Lay.own_upd hO hj2
   rw [mkPre_get _ _ _ _ _ hlt] at O
   have HT := yh (Lay.cntAll_take (f := Lay.tHit.cnt) hlt)
   have hle := Lay.cntAll_take_le (f := Lay.tHit.cnt) (xs := xs) (k := j + 1)
   rw [uh HT] at hle
   have HM : Hid (∀ y, y = Lay.tHit.mkd kj xs[j] → (mkPre Lay.tHit.cnt Lay.tHit.mkd k xs j).set j y = mkPre Lay.tHit.cnt Lay.tHit.mkd k xs (j + 1)) := fun y e => by rw [e, hkj]; exact mkPre_set _ _ _ _ _ hlt
   have HF := yh hfin
   have HX := yh hX
   have HI := yh hin
   clear hO hfin hX hin hj2
   generalize hx : xs[j] = x at *
   clear hx
   have hcn := cnt_Hit x
   have HD := yh (mkd_Hit kj x)
   have hb1 : 0 ≤ kj := by omega
   have hb2 : kj + (Lay.tHit.cnt x : Int) ≤ 1000000000 := by omega
   have HK := yh hkj
   clear hkj hle
   have hbl0 : blk = [] := by have := (lies_Hit.1 O.1).2.1; exact this
   obtain ⟨rfl, -, -⟩ := lies_Hit.1 O.1
   clear O
   have l1 : b < wr.heap.size := R.lt
   have c0 : wr.cell? ⟨b, off + j * 2, none⟩ = some (.int .i64 x.id) := R.at 0 _ rfl
   have f0 : wr.frozen? ⟨b, off + j * 2, none⟩ = false := R.soft _
   have c1 : wr.cell? ⟨b, off + j * 2 + 1, none⟩ = some (.int .i64 x.score) := R.at 1 _ rfl
   have f1 : wr.frozen? ⟨b, off + j * 2 + 1, none⟩ = false := R.soft _
   have R0_ : RowAt wr ((wr.setCell ⟨b, off + j * 2, none⟩ (.int .i64 kj)).setCell ⟨b, off + j * 2 + 1, none⟩ (.int .i64 (kj + 1))) b (off + j * 2) 2 [.int .i64 kj, .int .i64 (kj + 1)] blk := ((R.set 0 (.int .i64 kj) (by decide)).set 1 (.int .i64 (kj + 1)) (by decide))
   have E0_ : Ext (fun q => q = b) wr ((wr.setCell ⟨b, off + j * 2, none⟩ (.int .i64 kj)).setCell ⟨b, off + j * 2 + 1, none⟩ (.int .i64 (kj + 1))) := (((Ext.refl (fun q => q = b) _).setCell ⟨b, off + j * 2, none⟩ (.int .i64 kj) rfl).setCell ⟨b, off + j * 2 + 1, none⟩ (.int .i64 (kj + 1)) rfl)
   clear R E0_
   have R := R0_
   clear R0_
   have HR := yh R
   clear R
   go_wp2_with fail
   go_roundw
   case rel =>
    refine ⟨j + 1, _, by omega, by go_num, ?_, rfl, ?_, ?_⟩
    ·
     rw [uh HT, hcn]
     have := uh HK
     omega
    ·
     rw [← uh HM _ (uh HD).symm]
     exact uh HF _ _ _ (uh HR) ⟨lies_Hit.2 ⟨rfl, hbl0, (show (Lit.int .i64 (kj)).wf = true from wf_of_bd (by omega)), (show (Lit.int .i64 (kj + 1)).wf = true from wf_of_bd (by omega))⟩, by rw [hbl0]; exact List.nodup_nil, by rw [hbl0]; simp⟩
    exact (uh HX).trans ((uh HR).ext.mono fun q _ hq => uh HI q (by rcases hq with h | h; exact Or.inl h.symm; exact Or.inr h))
   case measure => simp [intOf]; omega
  obtain rfl : j = xs.length := by omega
  rw [mkPre_all] at hO
  rw [List.take_length] at hkj
  have HK := yh hkj
  clear hkj
  have HO := yh hO
  have HX := yh hX
  clear hO hX
  go_wp2_with fail
  go_ret
  exact ⟨by rw [← uh HK]; rfl, uh HO, uh HX⟩
theorem markHit_zero (ao : Option Addr) (cap : Nat) (k : Int) (w : World) :
  Calls Tryz.prog 107 #[.slice ao 0 cap, .int .i64 k] w fun e w' => e = .returned (.int .i64 k) ∧ w' = w := by
 go_enter Tryz.func107, Tryz.ntmps107
 go_wp2_with fail
 refine wp_loop_rounds 1 ?_
 rw [rounds_succ]
 go_wp2_with fail
 go_ret
 exact ⟨rfl, rfl⟩
theorem mark_HitS (v : Value) (xs : List DHit) (bl : List Nat) (k : Int) (w : World) (h : (Lay.sl Lay.tHit).Own w [v] xs bl) (hk : 0 ≤ k) (hk2 : k + (Lay.sl Lay.tHit).vcnt xs ≤ 1000000000) :
  Calls Tryz.prog 107 #[v, .int .i64 k] w fun e w' => e = .returned (.int .i64 (k + (Lay.sl Lay.tHit).vcnt xs)) ∧ (Lay.sl Lay.tHit).Own w' [v] ((Lay.sl Lay.tHit).mkv k xs) bl ∧ Ext (fun q => q ∈ bl) w w' := by
 obtain ⟨ao, cap, rfl⟩ := open_sl h.reads
 by_cases hp : 0 < xs.length
 ·
  obtain ⟨b, off, rfl, hbl⟩ := Lay.sl_addr h.reads hp
  exact markHit_pos b off cap xs bl k w h hk hk2
 obtain rfl : xs = [] := List.eq_nil_of_length_eq_zero (by omega)
 refine (markHit_zero ao cap k w).mono ?_
 rintro e w' ⟨rfl, rfl⟩
 exact ⟨by rw [vcnt_HitS]; simp [cntAll], h, Ext.refl _ _⟩
theorem cnt_Entry (x : DEntry) : Lay.tEntry.cnt x = 8 + (Lay.sl Lay.int).vcnt x.query + (Lay.sl Lay.int).vcnt x.vec + (Lay.sl Lay.tHit).vcnt x.hits := by
 show 1 + (1 + (1 + (1 + ((Lay.sl Lay.int).vcnt x.query + (1 + (1 + (1 + (1 + ((Lay.sl Lay.int).vcnt x.vec + ((Lay.sl Lay.tHit).vcnt x.hits)))))))))) = 8 + (Lay.sl Lay.int).vcnt x.query + (Lay.sl Lay.int).vcnt x.vec + (Lay.sl Lay.tHit).vcnt x.hits
 omega
theorem mkd_Entry (k : Int) (x : DEntry) : Lay.tEntry.mkd k x = ⟨k, k + 1, k + 1 + 1, k + 1 + 1 + 1, (Lay.sl Lay.int).mkv (k + 1 + 1 + 1 + 1) x.query, k + 1 + 1 + 1 + 1 + ((Lay.sl Lay.int).vcnt x.query : Nat), k + 1 + 1 + 1 + 1 + ((Lay.sl Lay.int).vcnt x.query : Nat) + 1, k + 1 + 1 + 1 + 1 + ((Lay.sl Lay.int).vcnt x.query : Nat) + 1 + 1, k + 1 + 1 + 1 + 1 + ((Lay.sl Lay.int).vcnt x.query : Nat) + 1 + 1 + 1, (Lay.sl Lay.int).mkv (k + 1 + 1 + 1 + 1 + ((Lay.sl Lay.int).vcnt x.query : Nat) + 1 + 1 + 1 + 1) x.vec, (Lay.sl Lay.tHit).mkv (k + 1 + 1 + 1 + 1 + ((Lay.sl Lay.int).vcnt x.query : Nat) + 1 + 1 + 1 + 1 + ((Lay.sl Lay.int).vcnt x.vec : Nat)) x.hits⟩ := rfl
theorem vcnt_EntryS (xs : List DEntry) : (Lay.sl Lay.tEntry).vcnt xs = cntAll Lay.tEntry.cnt xs := rfl
theorem mkv_EntryS (k : Int) (xs : List DEntry) : (Lay.sl Lay.tEntry).mkv k xs = mkAll Lay.tEntry.cnt Lay.tEntry.mkd k xs := rfl
theorem markEntry_pos (b off cap : Nat) (xs : List DEntry) (bl : List Nat) (k : Int) (w : World) (h : (Lay.sl Lay.tEntry).Own w [.slice (some ⟨b, off, none⟩) xs.length cap] xs bl) (hk : 0 ≤ k) (hk2 : k + (cntAll Lay.tEntry.cnt xs : Nat) ≤ 1000000000) :
  Calls Tryz.prog 80 #[.slice (some ⟨b, off, none⟩) xs.length cap, .int .i64 k] w fun e w' => e = .returned (.int .i64 (k + (cntAll Lay.tEntry.cnt xs : Nat))) ∧ (Lay.sl Lay.tEntry).Own w' [.slice (some ⟨b, off, none⟩) xs.length cap] (mkAll Lay.tEntry.cnt Lay.tEntry.mkd k xs) bl ∧ Ext (fun q => q ∈ bl) w w' := by
 have hbig := h.reads.big
 have H := yh h
 clear h
 go_enter Tryz.func80, Tryz.ntmps80
 go_wp2_with fail
 go_loopw [1, 5] (fun kk i wr => ∃ (j : Nat) (kj : Int), j ≤ xs.length ∧ i = .int .i64 j ∧ kj = k + (cntAll Lay.tEntry.cnt (xs.take j) : Nat) ∧ kk = .int .i64 kj ∧ (Lay.sl Lay.tEntry).Own wr [.slice (some ⟨b, off, none⟩) xs.length cap] (mkPre Lay.tEntry.cnt Lay.tEntry.mkd k xs j) bl ∧ Ext (fun q => q ∈ bl) w wr) (fun _ i _ => xs.length - (intOf i).toNat)
 case atStart => exact ⟨0, k, Nat.zero_le _, rfl, by simp [cntAll], rfl, by rw [mkPre_zero]; exact uh H, Ext.refl _ _⟩
 case round =>
  obtain ⟨j, kj, hj, rfl, hkj, rfl, hO, hX⟩ := hrel
  clear H
  by_cases hlt : j < xs.length
  ·
   have hj2 : j < (mkPre Lay.tEntry.cnt Lay.tEntry.mkd k xs j).length := by rw [mkPre_len _ _ _ _ _ hj]; exact hlt
   obtain ⟨row, blk, R, O, hbk, hin, hfin⟩ := Lay.own_upd hO hj2
   rw [mkPre_get _ _ _ _ _ hlt] at O
   have HT := yh (Lay.cntAll_take (f := Lay.tEntry.cnt) hlt)
   have hle := Lay.cntAll_take_le (f := Lay.tEntry.cnt) (xs := xs) (k := j + 1)
   rw [uh HT] at hle
   have HM : Hid (∀ y, y = Lay.tEntry.mkd kj xs[j] → (mkPre Lay.tEntry.cnt Lay.tEntry.mkd k xs j).set j y = mkPre Lay.tEntry.cnt Lay.tEntry.mkd k xs (j + 1)) := fun y e => by rw [e, hkj]; exact mkPre_set _ _ _ _ _ hlt
   have HF := yh hfin
   have HX := yh hX
   have HI := yh hin
   clear hO hfin hX hin hj2
   generalize hx : xs[j] = x at *
   clear hx
   have hcn := cnt_Entry x
   have HD0 := mkd_Entry kj x
   have hb1 : 0 ≤ kj := by omega
   have hb2 : kj + (Lay.tEntry.cnt x : Int) ≤ 1000000000 := by omega
   have HK := yh hkj
   clear hkj hle
   have HD := yh HD0
   clear HD0
   have hnd := O.2.1
   obtain ⟨a4, d4, a9, d9, a10, d10, g4, g9, g10, rfl, hbl, O4, O9, O10, v0, v1, v2, v3, v5, v6, v7, v8⟩ := own_Entry O
   clear O
   have HN : Hid ((g4 ++ (g9 ++ g10)).Nodup) := by rw [hbl] at hnd; exact hnd
   have HBL := yh hbl
   have hm4 : ∀ c ∈ g4, c ∈ blk := fun c hc => by rw [hbl]; simp [hc]
   have HM4 := yh hm4
   have HB4 : Hid (b ∉ g4) := fun hc => hbk (hm4 b hc)
   clear hm4
   have hm9 : ∀ c ∈ g9, c ∈ blk := fun c hc => by rw [hbl]; simp [hc]
   have HM9 := yh hm9
   have HB9 : Hid (b ∉ g9) := fun hc => hbk (hm9 b hc)
   clear hm9
   have hm10 : ∀ c ∈ g10, c ∈ blk := fun c hc => by rw [hbl]; simp [hc]
   have HM10 := yh hm10
   have HB10 : Hid (b ∉ g10) := fun hc => hbk (hm10 b hc)
   clear hm10
   have HJ4_9 : Hid (∀ c ∈ g4, c ∉ g9) := fun c h1 h2 => (List.nodup_append.1 (uh HN)).2.2 c h1 c (List.mem_append_left _ h2) rfl
   have HJ4_10 : Hid (∀ c ∈ g4, c ∉ g10) := fun c h1 h2 => (List.nodup_append.1 (uh HN)).2.2 c h1 c (List.mem_append_right _ h2) rfl
   have HJ9_10 : Hid (∀ c ∈ g9, c ∉ g10) := fun c h1 h2 => (List.nodup_append.1 (List.nodup_append.1 (uh HN)).2.1).2.2 c h1 c h2 rfl
   clear hnd hbl
   have P4 := yh O4
   clear O4
   have P9 := yh O9
   clear O9
   have P10 := yh O10
   clear O10
   have HR := yh R
   have l1 : b < wr.heap.size := R.lt
   clear R
   have c0 : wr.cell? ⟨b, off + j * 11, none⟩ = some (.int .i64 x.kind) := (uh HR).at 0 _ rfl
   have f0 : wr.frozen? ⟨b, off + j * 11, none⟩ = false := (uh HR).soft _
   have c1 : wr.cell? ⟨b, off + j * 11 + 1, none⟩ = some (.int .i64 x.session) := (uh HR).at 1 _ rfl
   have f1 : wr.frozen? ⟨b, off + j * 11 + 1, none⟩ = false := (uh HR).soft _
   have c2 : wr.cell? ⟨b, off + j * 11 + 2, none⟩ = some (.int .i64 x.seq) := (uh HR).at 2 _ rfl
   have f2 : wr.frozen? ⟨b, off + j * 11 + 2, none⟩ = false := (uh HR).soft _
   have c3 : wr.cell? ⟨b, off + j * 11 + 3, none⟩ = some (.int .i64 x.id) := (uh HR).at 3 _ rfl
   have f3 : wr.frozen? ⟨b, off + j * 11 + 3, none⟩ = false := (uh HR).soft _
   have c4 : wr.cell? ⟨b, off + j * 11 + 4, none⟩ = some (.slice a4 x.query.length d4) := (uh HR).at 4 _ rfl
   have E0_ : Ext (fun q => q = b) wr ((((wr.setCell ⟨b, off + j * 11, none⟩ (.int .i64 kj)).setCell ⟨b, off + j * 11 + 1, none⟩ (.int .i64 (kj + 1))).setCell ⟨b, off + j * 11 + 2, none⟩ (.int .i64 (kj + 1 + 1))).setCell ⟨b, off + j * 11 + 3, none⟩ (.int .i64 (kj + 1 + 1 + 1))) := (((((Ext.refl (fun q => q = b) _).setCell ⟨b, off + j * 11, none⟩ (.int .i64 kj) rfl).setCell ⟨b, off + j * 11 + 1, none⟩ (.int .i64 (kj + 1)) rfl).setCell ⟨b, off + j * 11 + 2, none⟩ (.int .i64 (kj + 1 + 1)) rfl).setCell ⟨b, off + j * 11 + 3, none⟩ (.int .i64 (kj + 1 + 1 + 1)) rfl)
   have HR0_ : Hid (RowAt wr ((((wr.setCell ⟨b, off + j * 11, none⟩ (.int .i64 kj)).setCell ⟨b, off + j * 11 + 1, none⟩ (.int .i64 (kj + 1))).setCell ⟨b, off + j * 11 + 2, none⟩ (.int .i64 (kj + 1 + 1))).setCell ⟨b, off + j * 11 + 3, none⟩ (.int .i64 (kj + 1 + 1 + 1))) b (off + j * 11) 11 [.int .i64 kj, .int .i64 (kj + 1), .int .i64 (kj + 1 + 1), .int .i64 (kj + 1 + 1 + 1), .slice a4 x.query.length d4, .int .i64 x.k, .int .i64 x.start, .int .i64 x.fin, .int .i64 x.place, .slice a9 x.vec.length d9, .slice a10 x.hits.length d10] blk) := (((((uh HR).set 0 (.int .i64 kj) (by decide)).set 1 (.int .i64 (kj + 1)) (by decide)).set 2 (.int .i64 (kj + 1 + 1)) (by decide)).set 3 (.int .i64 (kj + 1 + 1 + 1)) (by decide))
   replace P4 := yh ((uh P4).ext E0_ (fun c hc e => uh HB4 (e ▸ hc)))
   replace P9 := yh ((uh P9).ext E0_ (fun c hc e => uh HB9 (e ▸ hc)))
   replace P10 := yh ((uh P10).ext E0_ (fun c hc e => uh HB10 (e ▸ hc)))
   clear HR E0_
   have HR := HR0_
   clear HR0_
   go_wp2_with fail
   refine (mark_Int64S _ x.query g4 (kj + 1 + 1 + 1 + 1) _ (uh P4) (by omega) (by omega)).mono ?_
   rintro e u0 ⟨rfl, Q, E2⟩
   replace HR := yh ((uh HR).call E2 (uh HM4) (uh HB4))
   replace P9 := yh ((uh P9).ext E2 (fun c hc h2 => uh HJ4_9 c h2 hc))
   replace P10 := yh ((uh P10).ext E2 (fun c hc h2 => uh HJ4_10 c h2 hc))
   clear P4
   have P4 := yh Q
   clear Q E2 l1 c0 f0 c1 f1 c2 f2 c3 f3 c4
   have l1 : b < u0.heap.size := (uh HR).lt
   have c5 : u0.cell? ⟨b, off + j * 11 + 5, none⟩ = some (.int .i64 x.k) := (uh HR).at 5 _ rfl
   have f5 : u0.frozen? ⟨b, off + j * 11 + 5, none⟩ = false := (uh HR).soft _
   have c6 : u0.cell? ⟨b, off + j * 11 + 6, none⟩ = some (.int .i64 x.start) := (uh HR).at 6 _ rfl
   have f6 : u0.frozen? ⟨b, off + j * 11 + 6, none⟩ = false := (uh HR).soft _
   have c7 : u0.cell? ⟨b, off + j * 11 + 7, none⟩ = some (.int .i64 x.fin) := (uh HR).at 7 _ rfl
   have f7 : u0.frozen? ⟨b, off + j * 11 + 7, none⟩ = false := (uh HR).soft _
   have c8 : u0.cell? ⟨b, off + j * 11 + 8, none⟩ = some (.int .i64 x.place) := (uh HR).at 8 _ rfl
   have f8 : u0.frozen? ⟨b, off + j * 11 + 8, none⟩ = false := (uh HR).soft _
   have c9 : u0.cell? ⟨b, off + j * 11 + 9, none⟩ = some (.slice a9 x.vec.length d9) := (uh HR).at 9 _ rfl
   have E1_ : Ext (fun q => q = b) u0 ((((u0.setCell ⟨b, off + j * 11 + 5, none⟩ (.int .i64 (kj + 1 + 1 + 1 + 1 + ((Lay.sl Lay.int).vcnt x.query : Nat)))).setCell ⟨b, off + j * 11 + 6, none⟩ (.int .i64 (kj + 1 + 1 + 1 + 1 + ((Lay.sl Lay.int).vcnt x.query : Nat) + 1))).setCell ⟨b, off + j * 11 + 7, none⟩ (.int .i64 (kj + 1 + 1 + 1 + 1 + ((Lay.sl Lay.int).vcnt x.query : Nat) + 1 + 1))).setCell ⟨b, off + j * 11 + 8, none⟩ (.int .i64 (kj + 1 + 1 + 1 + 1 + ((Lay.sl Lay.int).vcnt x.query : Nat) + 1 + 1 + 1))) := (((((Ext.refl (fun q => q = b) _).setCell ⟨b, off + j * 11 + 5, none⟩ (.int .i64 (kj + 1 + 1 + 1 + 1 + ((Lay.sl Lay.int).vcnt x.query : Nat))) rfl).setCell ⟨b, off + j * 11 + 6, none⟩ (.int .i64 (kj + 1 + 1 + 1 + 1 + ((Lay.sl Lay.int).vcnt x.query : Nat) + 1)) rfl).setCell ⟨b, off + j * 11 + 7, none⟩ (.int .i64 (kj + 1 + 1 + 1 + 1 + ((Lay.sl Lay.int).vcnt x.query : Nat) + 1 + 1)) rfl).setCell ⟨b, off + j * 11 + 8, none⟩ (.int .i64 (kj + 1 + 1 + 1 + 1 + ((Lay.sl Lay.int).vcnt x.query : Nat) + 1 + 1 + 1)) rfl)
   have HR1_ : Hid (RowAt wr ((((u0.setCell ⟨b, off + j * 11 + 5, none⟩ (.int .i64 (kj + 1 + 1 + 1 + 1 + ((Lay.sl Lay.int).vcnt x.query : Nat)))).setCell ⟨b, off + j * 11 + 6, none⟩ (.int .i64 (kj + 1 + 1 + 1 + 1 + ((Lay.sl Lay.int).vcnt x.query : Nat) + 1))).setCell ⟨b, off + j * 11 + 7, none⟩ (.int .i64 (kj + 1 + 1 + 1 + 1 + ((Lay.sl Lay.int).vcnt x.query : Nat) + 1 + 1))).setCell ⟨b, off + j * 11 + 8, none⟩ (.int .i64 (kj + 1 + 1 + 1 + 1 + ((Lay.sl Lay.int).vcnt x.query : Nat) + 1 + 1 + 1))) b (off + j * 11) 11 [.int .i64 kj, .int .i64 (kj + 1), .int .i64 (kj + 1 + 1), .int .i64 (kj + 1 + 1 + 1), .slice a4 x.query.length d4, .int .i64 (kj + 1 + 1 + 1 + 1 + ((Lay.sl Lay.int).vcnt x.query : Nat)), .int .i64 (kj + 1 + 1 + 1 + 1 + ((Lay.sl Lay.int).vcnt x.query : Nat) + 1), .int .i64 (kj + 1 + 1 + 1 + 1 + ((Lay.sl Lay.int).vcnt x.query : Nat) + 1 + 1), .int .i64 (kj + 1 + 1 + 1 + 1 + ((Lay.sl Lay.int).vcnt x.query : Nat) + 1 + 1 + 1), .slice a9 x.vec.length d9, .slice a10 x.hits.length d10] blk) := (((((uh HR).set 5 (.int .i64 (kj + 1 + 1 + 1 + 1 + ((Lay.sl Lay.int).vcnt x.query : Nat))) (by decide)).set 6 (.int .i64 (kj + 1 + 1 + 1 + 1 + ((Lay.sl Lay.int).vcnt x.query : Nat) + 1)) (by decide)).set 7 (.int .i64 (kj + 1 + 1 + 1 + 1 + ((Lay.sl Lay.int).vcnt x.query : Nat) + 1 + 1)) (by decide)).set 8 (.int .i64 (kj + 1 + 1 + 1 + 1 + ((Lay.sl Lay.int).vcnt x.query : Nat) + 1 + 1 + 1)) (by decide))
   replace P4 := yh ((uh P4).ext E1_ (fun c hc e => uh HB4 (e ▸ hc)))
   replace P9 := yh ((uh P9).ext E1_ (fun c hc e => uh HB9 (e ▸ hc)))
   replace P10 := yh ((uh P10).ext E1_ (fun c hc e => uh HB10 (e ▸ hc)))
   clear HR E1_
   have HR := HR1_
   clear HR1_
   go_wp2_with fail
   refine (mark_Int64S _ x.vec g9 (kj + 1 + 1 + 1 + 1 + ((Lay.sl Lay.int).vcnt x.query : Nat) + 1 + 1 + 1 + 1) _ (uh P9) (by omega) (by omega)).mono ?_
   rintro e u1 ⟨rfl, Q, E2⟩
   replace HR := yh ((uh HR).call E2 (uh HM9) (uh HB9))
   replace P4 := yh ((uh P4).ext E2 (fun c hc h2 => uh HJ4_9 c hc h2))
   replace P10 := yh ((uh P10).ext E2 (fun c hc h2 => uh HJ9_10 c h2 hc))
   clear P9
   have P9 := yh Q
   clear Q E2 l1 c5 f5 c6 f6 c7 f7 c8 f8 c9
   have l1 : b < u1.heap.size := (uh HR).lt
   have c10 : u1.cell? ⟨b, off + j * 11 + 10, none⟩ = some (.slice a10 x.hits.length d10) := (uh HR).at 10 _ rfl
   go_wp2_with fail
   refine (mark_HitS _ x.hits g10 (kj + 1 + 1 + 1 + 1 + ((Lay.sl Lay.int).vcnt x.query : Nat) + 1 + 1 + 1 + 1 + ((Lay.sl Lay.int).vcnt x.vec : Nat)) _ (uh P10) (by omega) (by omega)).mono ?_
   rintro e u2 ⟨rfl, Q, E2⟩
   replace HR := yh ((uh HR).call E2 (uh HM10) (uh HB10))
   replace P4 := yh ((uh P4).ext E2 (fun c hc h2 => uh HJ4_10 c hc h2))
   replace P9 := yh ((uh P9).ext E2 (fun c hc h2 => uh HJ9_10 c hc h2))
   clear P10
   have P10 := yh Q
   clear Q E2 l1 c10
   have l1 : b < u2.heap.size := (uh HR).lt
   go_wp2_with fail
   go_roundw
   case rel =>
    refine ⟨j + 1, _, by omega, by go_num, ?_, rfl, ?_, ?_⟩
    ·
     rw [uh HT, hcn]
     have := uh HK
     omega
    ·
     rw [← uh HM _ (uh HD).symm]
     exact uh HF _ _ _ (uh HR) (by rw [uh HBL]; exact mkOwn_Entry (x := ⟨kj, kj + 1, kj + 1 + 1, kj + 1 + 1 + 1, (Lay.sl Lay.int).mkv (kj + 1 + 1 + 1 + 1) x.query, kj + 1 + 1 + 1 + 1 + ((Lay.sl Lay.int).vcnt x.query : Nat), kj + 1 + 1 + 1 + 1 + ((Lay.sl Lay.int).vcnt x.query : Nat) + 1, kj + 1 + 1 + 1 + 1 + ((Lay.sl Lay.int).vcnt x.query : Nat) + 1 + 1, kj + 1 + 1 + 1 + 1 + ((Lay.sl Lay.int).vcnt x.query : Nat) + 1 + 1 + 1, (Lay.sl Lay.int).mkv (kj + 1 + 1 + 1 + 1 + ((Lay.sl Lay.int).vcnt x.query : Nat) + 1 + 1 + 1 + 1) x.vec, (Lay.sl Lay.tHit).mkv (kj + 1 + 1 + 1 + 1 + ((Lay.sl Lay.int).vcnt x.query : Nat) + 1 + 1 + 1 + 1 + ((Lay.sl Lay.int).vcnt x.vec : Nat)) x.hits⟩) (uh P4) (uh P9) (uh P10) (show (Lit.int .i64 (kj)).wf = true from wf_of_bd (by omega)) (show (Lit.int .i64 (kj + 1)).wf = true from wf_of_bd (by omega)) (show (Lit.int .i64 (kj + 1 + 1)).wf = true from wf_of_bd (by omega)) (show (Lit.int .i64 (kj + 1 + 1 + 1)).wf = true from wf_of_bd (by omega)) (show (Lit.int .i64 (kj + 1 + 1 + 1 + 1 + ((Lay.sl Lay.int).vcnt x.query : Nat))).wf = true from wf_of_bd (by omega)) (show (Lit.int .i64 (kj + 1 + 1 + 1 + 1 + ((Lay.sl Lay.int).vcnt x.query : Nat) + 1)).wf = true from wf_of_bd (by omega)) (show (Lit.int .i64 (kj + 1 + 1 + 1 + 1 + ((Lay.sl Lay.int).vcnt x.query : Nat) + 1 + 1)).wf = true from wf_of_bd (by omega)) (show (Lit.int .i64 (kj + 1 + 1 + 1 + 1 + ((Lay.sl Lay.int).vcnt x.query : Nat) + 1 + 1 + 1)).wf = true from wf_of_bd (by omega)) (uh HN))
    exact (uh HX).trans ((uh HR).ext.mono fun q _ hq => uh HI q (by rcases hq with h | h; exact Or.inl h.symm; exact Or.inr h))
   case measure => simp [intOf]; omega
  obtain rfl : j = xs.length := by omega
  rw [mkPre_all] at hO
  rw [List.take_length] at hkj
  have HK := yh hkj
  clear hkj
  have HO := yh hO
  have HX := yh hX
  clear hO hX
  go_wp2_with fail
  go_ret
  exact ⟨by rw [← uh HK]; rfl, uh HO, uh HX⟩
theorem markEntry_zero (ao : Option Addr) (cap : Nat) (k : Int) (w : World) :
  Calls Tryz.prog 80 #[.slice ao 0 cap, .int .i64 k] w fun e w' => e = .returned (.int .i64 k) ∧ w' = w := by
 go_enter Tryz.func80, Tryz.ntmps80
 go_wp2_with fail
 refine wp_loop_rounds 1 ?_
 rw [rounds_succ]
 go_wp2_with fail
 go_ret
 exact ⟨rfl, rfl⟩
theorem mark_EntryS (v : Value) (xs : List DEntry) (bl : List Nat) (k : Int) (w : World) (h : (Lay.sl Lay.tEntry).Own w [v] xs bl) (hk : 0 ≤ k) (hk2 : k + (Lay.sl Lay.tEntry).vcnt xs ≤ 1000000000) :
  Calls Tryz.prog 80 #[v, .int .i64 k] w fun e w' => e = .returned (.int .i64 (k + (Lay.sl Lay.tEntry).vcnt xs)) ∧ (Lay.sl Lay.tEntry).Own w' [v] ((Lay.sl Lay.tEntry).mkv k xs) bl ∧ Ext (fun q => q ∈ bl) w w' := by
 obtain ⟨ao, cap, rfl⟩ := open_sl h.reads
 by_cases hp : 0 < xs.length
 ·
  obtain ⟨b, off, rfl, hbl⟩ := Lay.sl_addr h.reads hp
  exact markEntry_pos b off cap xs bl k w h hk hk2
 obtain rfl : xs = [] := List.eq_nil_of_length_eq_zero (by omega)
 refine (markEntry_zero ao cap k w).mono ?_
 rintro e w' ⟨rfl, rfl⟩
 exact ⟨by rw [vcnt_EntryS]; simp [cntAll], h, Ext.refl _ _⟩
theorem mark_World (cs : List Value) (x : DWorld) (bl : List Nat) (k : Int) (w : World) (h : Lay.tWorld.Own w cs x bl) (hk : 0 ≤ k) (hk2 : k + Lay.tWorld.vcnt x ≤ 1000000000) :
  Calls Tryz.prog 21 #[.agg cs.toArray, .int .i64 k] w fun e w' => e = .returned (.int .i64 (k + Lay.tWorld.vcnt x)) ∧ Lay.tWorld.Own w' cs (Lay.tWorld.mkv k x) bl ∧ Ext (fun q => q ∈ bl) w w' := by
 have hlt := h.lt
 have hnd := h.2.1
 rw [vcnt_World] at hk2
 obtain ⟨a3, d3, a4, d4, a5, d5, a6, d6, g2, g4, g5, g6, rfl, hbl, O2, O4, O5, O6, v0, v1⟩ := own_World h
 clear h
 have HB0 : Below w.heap.size w (w.alloc (.cells #[.int .i64 x.now, .int .i64 x.events, .int .i64 x.chain.epoch, .slice a3 x.chain.ids.length d3, .slice a4 x.nodes.length d4, .slice a5 x.msgs.length d5, .slice a6 x.history.length d6] 36)) := (Below.refl _ _).alloc (Nat.le_refl _) _
 have bA : Box w.heap.size #[.int .i64 x.now, .int .i64 x.events, .int .i64 x.chain.epoch, .slice a3 x.chain.ids.length d3, .slice a4 x.nodes.length d4, .slice a5 x.msgs.length d5, .slice a6 x.history.length d6] 36 (w.alloc (.cells #[.int .i64 x.now, .int .i64 x.events, .int .i64 x.chain.epoch, .slice a3 x.chain.ids.length d3, .slice a4 x.nodes.length d4, .slice a5 x.msgs.length d5, .slice a6 x.history.length d6] 36)) w.heap.size := newBox (Nat.le_refl _)
 have HN := yh hnd
 have HV := yh (vcnt_World x)
 have HM := yh (mkv_World k x)
 clear hnd
 go_enter Tryz.func21, Tryz.ntmps21
 go_wp2_with fail
 generalize w.alloc (.cells #[.int .i64 x.now, .int .i64 x.events, .int .i64 x.chain.epoch, .slice a3 x.chain.ids.length d3, .slice a4 x.nodes.length d4, .slice a5 x.msgs.length d5, .slice a6 x.history.length d6] 36) = W0 at *
 replace O2 := O2.later HB0
 replace O4 := O4.later HB0
 replace O5 := O5.later HB0
 replace O6 := O6.later HB0
 have hsz := HB0.size
 have EX : Ext (fun q => q ∈ bl) w W0 := ext_of_below HB0 _
 have hs0 := bA.lt
 refine (mark_Chain _ x.chain g2 (k) _ O2 (by omega) (by omega)).mono ?_
 rintro e w1 ⟨rfl, Q2, E2⟩
 replace O4 := O4.ext E2 (fun b hb hb2 => by subst hbl; exact absurd rfl ((by have := uh HN; simp_all [List.nodup_append] : ∀ p ∈ g2, ∀ q ∈ g4, p ≠ q) b hb2 b hb))
 replace O5 := O5.ext E2 (fun b hb hb2 => by subst hbl; exact absurd rfl ((by have := uh HN; simp_all [List.nodup_append] : ∀ p ∈ g2, ∀ q ∈ g5, p ≠ q) b hb2 b hb))
 replace O6 := O6.ext E2 (fun b hb hb2 => by subst hbl; exact absurd rfl ((by have := uh HN; simp_all [List.nodup_append] : ∀ p ∈ g2, ∀ q ∈ g6, p ≠ q) b hb2 b hb))
 replace EX := EX.trans (E2.mono fun b _ hb => by rw [hbl]; simp [hb])
 replace bA := bA.ext E2 (fun hm => by have := hlt w.heap.size (by rw [hbl]; simp [hm]); omega)
 clear E2
 have p4 := bA.at 4 _ rfl
 have p5 := bA.at 5 _ rfl
 have p6 := bA.at 6 _ rfl
 have HA := yh bA
 have HX := yh EX
 have HL := yh hlt
 have HBL := yh hbl
 clear bA EX hlt hbl
 have P2 := yh Q2
 clear Q2
 have P4 := yh O4
 clear O4
 have P5 := yh O5
 clear O5
 have P6 := yh O6
 clear O6
 clear O2
 go_wp2_with fail
 have bA := uh HA
 have EX := uh HX
 have hlt := uh HL
 have hbl := uh HBL
 clear HA HX HL HBL
 have Q2 := uh P2
 clear P2
 have O4 := uh P4
 clear P4
 have O5 := uh P5
 clear P5
 have O6 := uh P6
 clear P6
 clear p4
 clear p5
 clear p6
 refine (mark_NodeS _ x.nodes g4 (k + (Lay.tChain.vcnt x.chain : Int)) _ O4 (by omega) (by omega)).mono ?_
 rintro e w2 ⟨rfl, Q4, E4⟩
 replace Q2 := Q2.ext E4 (fun b hb hb2 => by subst hbl; exact absurd rfl ((by have := uh HN; simp_all [List.nodup_append] : ∀ p ∈ g2, ∀ q ∈ g4, p ≠ q) b hb b hb2))
 replace O5 := O5.ext E4 (fun b hb hb2 => by subst hbl; exact absurd rfl ((by have := uh HN; simp_all [List.nodup_append] : ∀ p ∈ g4, ∀ q ∈ g5, p ≠ q) b hb2 b hb))
 replace O6 := O6.ext E4 (fun b hb hb2 => by subst hbl; exact absurd rfl ((by have := uh HN; simp_all [List.nodup_append] : ∀ p ∈ g4, ∀ q ∈ g6, p ≠ q) b hb2 b hb))
 replace EX := EX.trans (E4.mono fun b _ hb => by rw [hbl]; simp [hb])
 replace bA := bA.ext E4 (fun hm => by have := hlt w.heap.size (by rw [hbl]; simp [hm]); omega)
 clear E4
 have p5 := bA.at 5 _ rfl
 have p6 := bA.at 6 _ rfl
 have HA := yh bA
 have HX := yh EX
 have HL := yh hlt
 have HBL := yh hbl
 clear bA EX hlt hbl
 have P2 := yh Q2
 clear Q2
 have P4 := yh Q4
 clear Q4
 have P5 := yh O5
 clear O5
 have P6 := yh O6
 clear O6
 clear O4
 go_wp2_with fail
 have bA := uh HA
 have EX := uh HX
 have hlt := uh HL
 have hbl := uh HBL
 clear HA HX HL HBL
 have Q2 := uh P2
 clear P2
 have Q4 := uh P4
 clear P4
 have O5 := uh P5
 clear P5
 have O6 := uh P6
 clear P6
 clear p5
 clear p6
 refine (mark_MsgS _ x.msgs g5 (k + (Lay.tChain.vcnt x.chain : Int) + ((Lay.sl Lay.tNode).vcnt x.nodes : Int)) _ O5 (by omega) (by omega)).mono ?_
 rintro e w3 ⟨rfl, Q5, E5⟩
 replace Q2 := Q2.ext E5 (fun b hb hb2 => by subst hbl; exact absurd rfl ((by have := uh HN; simp_all [List.nodup_append] : ∀ p ∈ g2, ∀ q ∈ g5, p ≠ q) b hb b hb2))
 replace Q4 := Q4.ext E5 (fun b hb hb2 => by subst hbl; exact absurd rfl ((by have := uh HN; simp_all [List.nodup_append] : ∀ p ∈ g4, ∀ q ∈ g5, p ≠ q) b hb b hb2))
 replace O6 := O6.ext E5 (fun b hb hb2 => by subst hbl; exact absurd rfl ((by have := uh HN; simp_all [List.nodup_append] : ∀ p ∈ g5, ∀ q ∈ g6, p ≠ q) b hb2 b hb))
 replace EX := EX.trans (E5.mono fun b _ hb => by rw [hbl]; simp [hb])
 replace bA := bA.ext E5 (fun hm => by have := hlt w.heap.size (by rw [hbl]; simp [hm]); omega)
 clear E5
 have p6 := bA.at 6 _ rfl
 have HA := yh bA
 have HX := yh EX
 have HL := yh hlt
 have HBL := yh hbl
 clear bA EX hlt hbl
 have P2 := yh Q2
 clear Q2
 have P4 := yh Q4
 clear Q4
 have P5 := yh Q5
 clear Q5
 have P6 := yh O6
 clear O6
 clear O5
 go_wp2_with fail
 have bA := uh HA
 have EX := uh HX
 have hlt := uh HL
 have hbl := uh HBL
 clear HA HX HL HBL
 have Q2 := uh P2
 clear P2
 have Q4 := uh P4
 clear P4
 have Q5 := uh P5
 clear P5
 have O6 := uh P6
 clear P6
 clear p6
 refine (mark_EntryS _ x.history g6 (k + (Lay.tChain.vcnt x.chain : Int) + ((Lay.sl Lay.tNode).vcnt x.nodes : Int) + ((Lay.sl Lay.tMsg).vcnt x.msgs : Int)) _ O6 (by omega) (by omega)).mono ?_
 rintro e w4 ⟨rfl, Q6, E6⟩
 replace Q2 := Q2.ext E6 (fun b hb hb2 => by subst hbl; exact absurd rfl ((by have := uh HN; simp_all [List.nodup_append] : ∀ p ∈ g2, ∀ q ∈ g6, p ≠ q) b hb b hb2))
 replace Q4 := Q4.ext E6 (fun b hb hb2 => by subst hbl; exact absurd rfl ((by have := uh HN; simp_all [List.nodup_append] : ∀ p ∈ g4, ∀ q ∈ g6, p ≠ q) b hb b hb2))
 replace Q5 := Q5.ext E6 (fun b hb hb2 => by subst hbl; exact absurd rfl ((by have := uh HN; simp_all [List.nodup_append] : ∀ p ∈ g5, ∀ q ∈ g6, p ≠ q) b hb b hb2))
 replace EX := EX.trans (E6.mono fun b _ hb => by rw [hbl]; simp [hb])
 replace bA := bA.ext E6 (fun hm => by have := hlt w.heap.size (by rw [hbl]; simp [hm]); omega)
 clear E6
 have HA := yh bA
 have HX := yh EX
 have HL := yh hlt
 have HBL := yh hbl
 clear bA EX hlt hbl
 have P2 := yh Q2
 clear Q2
 have P4 := yh Q4
 clear Q4
 have P5 := yh Q5
 clear Q5
 have P6 := yh Q6
 clear Q6
 clear O6
 go_wp2_with fail
 go_ret
 refine ⟨?_, ?_, uh HX⟩
 ·
  rw [show k + (Lay.tWorld.vcnt x : Int) = k + (Lay.tChain.vcnt x.chain : Int) + ((Lay.sl Lay.tNode).vcnt x.nodes : Int) + ((Lay.sl Lay.tMsg).vcnt x.msgs : Int) + ((Lay.sl Lay.tEntry).vcnt x.history : Int) by rw [uh HV]; omega]
  rfl
 have e := uh HBL
 subst e
 rw [uh HM]
 exact mkOwn_World (x := ⟨x.now, x.events, Lay.tChain.mkv (k) x.chain, (Lay.sl Lay.tNode).mkv (k + (Lay.tChain.vcnt x.chain : Int)) x.nodes, (Lay.sl Lay.tMsg).mkv (k + (Lay.tChain.vcnt x.chain : Int) + ((Lay.sl Lay.tNode).vcnt x.nodes : Int)) x.msgs, (Lay.sl Lay.tEntry).mkv (k + (Lay.tChain.vcnt x.chain : Int) + ((Lay.sl Lay.tNode).vcnt x.nodes : Int) + ((Lay.sl Lay.tMsg).vcnt x.msgs : Int)) x.history⟩) (uh P2) (uh P4) (uh P5) (uh P6) v0 v1 (uh HN)
structure DWorldResult where
 code : Int
 moved : Bool
 world : DWorld
def Lay.tWorldResult : Lay DWorldResult := Lay.via (Lay.pair Lay.int (Lay.pair Lay.bool Lay.tWorld)) (fun x => (x.code, x.moved, x.world)) (fun p => ⟨p.1, p.2.1, p.2.2⟩)
theorem lies_WorldResult {w : World} {cs : List Value} {x : DWorldResult} {bl : List Nat} : Lay.tWorldResult.lies w cs x bl ↔ ∃ (a5 : Option Addr) (d5 : Nat) (b5 : List Nat) (a6 : Option Addr) (d6 : Nat) (b6 : List Nat) (a7 : Option Addr) (d7 : Nat) (b7 : List Nat) (a8 : Option Addr) (d8 : Nat) (b8 : List Nat), cs = [.int .i64 x.code, .bool x.moved, .int .i64 x.world.now, .int .i64 x.world.events, .int .i64 x.world.chain.epoch, .slice a5 x.world.chain.ids.length d5, .slice a6 x.world.nodes.length d6, .slice a7 x.world.msgs.length d7, .slice a8 x.world.history.length d8] ∧ bl = b5 ++ (b6 ++ (b7 ++ b8)) ∧ (Lit.int .i64 x.code).wf = true ∧ (Lit.int .i64 x.world.now).wf = true ∧ (Lit.int .i64 x.world.events).wf = true ∧ (Lit.int .i64 x.world.chain.epoch).wf = true ∧ (Lay.sl Lay.int).lies w [.slice a5 x.world.chain.ids.length d5] x.world.chain.ids b5 ∧ (Lay.sl Lay.tNode).lies w [.slice a6 x.world.nodes.length d6] x.world.nodes b6 ∧ (Lay.sl Lay.tMsg).lies w [.slice a7 x.world.msgs.length d7] x.world.msgs b7 ∧ (Lay.sl Lay.tEntry).lies w [.slice a8 x.world.history.length d8] x.world.history b8 := by
 constructor
 ·
  intro h
  obtain ⟨c0_, r0_, e0_, s0_, rfl, rfl, h0, ⟨c1_, r1_, e1_, s1_, rfl, rfl, h1, h2⟩⟩ := h
  obtain ⟨rfl, w0, rfl⟩ := h0
  obtain ⟨rfl, rfl⟩ := h1
  obtain ⟨a5, d5, q5, a6, d6, q6, a7, d7, q7, a8, d8, q8, rfl, hq2, w2, w3, w4, l5, l6, l7, l8⟩ := lies_World.1 h2
  exact ⟨a5, d5, q5, a6, d6, q6, a7, d7, q7, a8, d8, q8, by simp, by simp [hq2], w0, w2, w3, w4, l5, l6, l7, l8⟩
 rintro ⟨a5, d5, b5, a6, d6, b6, a7, d7, b7, a8, d8, b8, rfl, hbl, w0, w2, w3, w4, l5, l6, l7, l8⟩
 rw [hbl]
 exact ⟨[.int .i64 x.code], [.bool x.moved] ++ [.int .i64 x.world.now, .int .i64 x.world.events, .int .i64 x.world.chain.epoch, .slice a5 x.world.chain.ids.length d5, .slice a6 x.world.nodes.length d6, .slice a7 x.world.msgs.length d7, .slice a8 x.world.history.length d8], [], [] ++ (b5 ++ (b6 ++ (b7 ++ b8))), rfl, by simp, ⟨rfl, w0, rfl⟩, ⟨[.bool x.moved], [.int .i64 x.world.now, .int .i64 x.world.events, .int .i64 x.world.chain.epoch, .slice a5 x.world.chain.ids.length d5, .slice a6 x.world.nodes.length d6, .slice a7 x.world.msgs.length d7, .slice a8 x.world.history.length d8], [], b5 ++ (b6 ++ (b7 ++ b8)), rfl, by simp, ⟨rfl, rfl⟩, lies_World.2 ⟨a5, d5, b5, a6, d6, b6, a7, d7, b7, a8, d8, b8, rfl, rfl, w2, w3, w4, l5, l6, l7, l8⟩⟩⟩
theorem open_WorldResult {w : World} {cs : List Value} {x : DWorldResult} (h : Lay.tWorldResult.Reads w cs x) : ∃ (a5 : Option Addr) (d5 : Nat) (a6 : Option Addr) (d6 : Nat) (a7 : Option Addr) (d7 : Nat) (a8 : Option Addr) (d8 : Nat), cs = [.int .i64 x.code, .bool x.moved, .int .i64 x.world.now, .int .i64 x.world.events, .int .i64 x.world.chain.epoch, .slice a5 x.world.chain.ids.length d5, .slice a6 x.world.nodes.length d6, .slice a7 x.world.msgs.length d7, .slice a8 x.world.history.length d8] ∧ Lay.tWorld.Reads w [.int .i64 x.world.now, .int .i64 x.world.events, .int .i64 x.world.chain.epoch, .slice a5 x.world.chain.ids.length d5, .slice a6 x.world.nodes.length d6, .slice a7 x.world.msgs.length d7, .slice a8 x.world.history.length d8] x.world := by
 obtain ⟨bl, h⟩ := h
 obtain ⟨a5, d5, b5, a6, d6, b6, a7, d7, b7, a8, d8, b8, rfl, -, w0, w2, w3, w4, l5, l6, l7, l8⟩ := lies_WorldResult.1 h
 exact ⟨a5, d5, a6, d6, a7, d7, a8, d8, rfl, ⟨_, lies_World.2 ⟨a5, d5, _, a6, d6, _, a7, d7, _, a8, d8, _, rfl, rfl, w2, w3, w4, l5, l6, l7, l8⟩⟩⟩
theorem eq_WorldResult (cs cs2 : List Value) (x : DWorldResult) (w : World) (h : Lay.tWorldResult.Reads w cs x) (h2 : Lay.tWorldResult.Reads w cs2 x) :
  Calls Tryz.prog 19 #[.agg cs.toArray, .agg cs2.toArray] w fun e w' => e = .returned (.bool true) ∧ Below w.heap.size w w' := by
 obtain ⟨a5, d5, a6, d6, a7, d7, a8, d8, rfl, R2⟩ := open_WorldResult h
 obtain ⟨a5z, d5z, a6z, d6z, a7z, d7z, a8z, d8z, rfl, R2z⟩ := open_WorldResult h2
 clear h h2
 have e0 : (x.code != x.code) = false := by simp
 have e1 : (x.moved != x.moved) = false := by simp
 have e2 : (x.world.now != x.world.now) = false := by simp
 have e3 : (x.world.events != x.world.events) = false := by simp
 have e4 : (x.world.chain.epoch != x.world.chain.epoch) = false := by simp
 have HB0 : Below w.heap.size w ((w.alloc (.cells #[.int .i64 x.code, .bool x.moved, .int .i64 x.world.now, .int .i64 x.world.events, .int .i64 x.world.chain.epoch, .slice a5 x.world.chain.ids.length d5, .slice a6 x.world.nodes.length d6, .slice a7 x.world.msgs.length d7, .slice a8 x.world.history.length d8] 38)).alloc (.cells #[.int .i64 x.code, .bool x.moved, .int .i64 x.world.now, .int .i64 x.world.events, .int .i64 x.world.chain.epoch, .slice a5z x.world.chain.ids.length d5z, .slice a6z x.world.nodes.length d6z, .slice a7z x.world.msgs.length d7z, .slice a8z x.world.history.length d8z] 38)) := ((Below.refl _ _).alloc (Nat.le_refl _) _).alloc (by simp) _
 have bA : Box w.heap.size #[.int .i64 x.code, .bool x.moved, .int .i64 x.world.now, .int .i64 x.world.events, .int .i64 x.world.chain.epoch, .slice a5 x.world.chain.ids.length d5, .slice a6 x.world.nodes.length d6, .slice a7 x.world.msgs.length d7, .slice a8 x.world.history.length d8] 38 ((w.alloc (.cells #[.int .i64 x.code, .bool x.moved, .int .i64 x.world.now, .int .i64 x.world.events, .int .i64 x.world.chain.epoch, .slice a5 x.world.chain.ids.length d5, .slice a6 x.world.nodes.length d6, .slice a7 x.world.msgs.length d7, .slice a8 x.world.history.length d8] 38)).alloc (.cells #[.int .i64 x.code, .bool x.moved, .int .i64 x.world.now, .int .i64 x.world.events, .int .i64 x.world.chain.epoch, .slice a5z x.world.chain.ids.length d5z, .slice a6z x.world.nodes.length d6z, .slice a7z x.world.msgs.length d7z, .slice a8z x.world.history.length d8z] 38)) w.heap.size := (newBox (Nat.le_refl _)).grow _
 have bC : Box w.heap.size #[.int .i64 x.code, .bool x.moved, .int .i64 x.world.now, .int .i64 x.world.events, .int .i64 x.world.chain.epoch, .slice a5z x.world.chain.ids.length d5z, .slice a6z x.world.nodes.length d6z, .slice a7z x.world.msgs.length d7z, .slice a8z x.world.history.length d8z] 38 ((w.alloc (.cells #[.int .i64 x.code, .bool x.moved, .int .i64 x.world.now, .int .i64 x.world.events, .int .i64 x.world.chain.epoch, .slice a5 x.world.chain.ids.length d5, .slice a6 x.world.nodes.length d6, .slice a7 x.world.msgs.length d7, .slice a8 x.world.history.length d8] 38)).alloc (.cells #[.int .i64 x.code, .bool x.moved, .int .i64 x.world.now, .int .i64 x.world.events, .int .i64 x.world.chain.epoch, .slice a5z x.world.chain.ids.length d5z, .slice a6z x.world.nodes.length d6z, .slice a7z x.world.msgs.length d7z, .slice a8z x.world.history.length d8z] 38)) (w.heap.size + 1) := newBoxAt (by omega) (by simp)
 go_enter Tryz.func19, Tryz.ntmps19
 go_wp2_with fail
 generalize (w.alloc (.cells #[.int .i64 x.code, .bool x.moved, .int .i64 x.world.now, .int .i64 x.world.events, .int .i64 x.world.chain.epoch, .slice a5 x.world.chain.ids.length d5, .slice a6 x.world.nodes.length d6, .slice a7 x.world.msgs.length d7, .slice a8 x.world.history.length d8] 38)).alloc (.cells #[.int .i64 x.code, .bool x.moved, .int .i64 x.world.now, .int .i64 x.world.events, .int .i64 x.world.chain.epoch, .slice a5z x.world.chain.ids.length d5z, .slice a6z x.world.nodes.length d6z, .slice a7z x.world.msgs.length d7z, .slice a8z x.world.history.length d8z] 38) = W0 at *
 replace R2 := R2.later HB0
 replace R2z := R2z.later HB0
 refine (eq_World _ _ x.world _ R2 R2z).mono ?_
 rintro e w1 ⟨rfl, hb⟩
 replace bA := bA.keep hb
 replace bC := bC.keep hb
 replace HB0 := HB0.trans (hb.mono HB0.size)
 clear hb
 have HB := yh HB0
 have HA := yh bA
 have HC := yh bC
 clear HB0 bA bC
 go_wp2_with fail
 go_ret
 exact ⟨rfl, uh HB⟩
end Go.Proofs.YtoanimpijfijgaaGreat
