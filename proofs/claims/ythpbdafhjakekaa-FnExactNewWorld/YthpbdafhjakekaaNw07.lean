/-
  Texts of this proof in one: MaWorld, MaWorldResult, MkChain, MkWriteS, MkNodeS, MkMsgS, MkHitS, MkEntryS, MkWorld, MkWorldResult.
  Their conditions stand in their theorems.
-/
import Derived.Test.YthpbdafhjakekaaChecked
import Derived.Test.YthpbdafhjakekaaNw05
import Derived.Test.YthpbdafhjakekaaNw06

namespace Go.Proofs.Ythpbdafhjakekaa
open Go.RowKit

set_option maxRecDepth 10000 in
set_option maxHeartbeats 1000000 in
theorem mark_World (cs : List Value) (x : DWorld) (bl : List Nat) (k : Int) (w : World) (h : Lay.tWorld.Own w cs x bl) (hk : 0 ≤ k) (hk2 : k + Lay.tWorld.vcnt x ≤ 1000000000) :
    Calls Try.prog 15 #[.agg cs.toArray, .int .i64 k] w fun e w' => e = .returned (.int .i64 (k + Lay.tWorld.vcnt x)) ∧ Lay.tWorld.Own w' cs (Lay.tWorld.mkv k x) bl ∧ Ext (fun q => q ∈ bl) w w' := by
  have hlt := h.lt
  have hnd := h.2.1
  rw [vcnt_World] at hk2
  obtain ⟨a3, d3, a4, d4, a5, d5, a6, d6, g2, g4, g5, g6, rfl, hbl, O2, O4, O5, O6, v0, v1⟩ := own_World h
  clear h
  have HB0 : Below w.heap.size w (w.alloc (.cells #[.int .i64 x.now, .int .i64 x.events, .int .i64 x.chain.epoch, .slice a3 x.chain.ids.length d3, .slice a4 x.nodes.length d4, .slice a5 x.msgs.length d5, .slice a6 x.history.length d6] 29)) := (Below.refl _ _).alloc (Nat.le_refl _) _
  have bA : Box w.heap.size #[.int .i64 x.now, .int .i64 x.events, .int .i64 x.chain.epoch, .slice a3 x.chain.ids.length d3, .slice a4 x.nodes.length d4, .slice a5 x.msgs.length d5, .slice a6 x.history.length d6] 29 (w.alloc (.cells #[.int .i64 x.now, .int .i64 x.events, .int .i64 x.chain.epoch, .slice a3 x.chain.ids.length d3, .slice a4 x.nodes.length d4, .slice a5 x.msgs.length d5, .slice a6 x.history.length d6] 29)) w.heap.size := newBox (Nat.le_refl _)
  have HN := hide hnd
  have HV := hide (vcnt_World x)
  have HM := hide (mkv_World k x)
  clear hnd
  go_enter Try.func15, Try.ntmps15
  go_wp2_with fail
  generalize w.alloc (.cells #[.int .i64 x.now, .int .i64 x.events, .int .i64 x.chain.epoch, .slice a3 x.chain.ids.length d3, .slice a4 x.nodes.length d4, .slice a5 x.msgs.length d5, .slice a6 x.history.length d6] 29) = W0 at *
  replace O2 := O2.later HB0
  replace O4 := O4.later HB0
  replace O5 := O5.later HB0
  replace O6 := O6.later HB0
  have hsz := HB0.size
  have EX : Ext (fun q => q ∈ bl) w W0 := ext_of_below HB0 _
  have hs0 := bA.lt
  refine (mark_Chain _ x.chain g2 (k) _ O2 (by omega) (by omega)).mono ?_
  rintro e w1 ⟨rfl, Q2, E2⟩
  replace O4 := O4.ext E2 (fun b hb hb2 => by subst hbl; exact absurd rfl ((by have := unhide HN; simp_all [List.nodup_append] : ∀ p ∈ g2, ∀ q ∈ g4, p ≠ q) b hb2 b hb))
  replace O5 := O5.ext E2 (fun b hb hb2 => by subst hbl; exact absurd rfl ((by have := unhide HN; simp_all [List.nodup_append] : ∀ p ∈ g2, ∀ q ∈ g5, p ≠ q) b hb2 b hb))
  replace O6 := O6.ext E2 (fun b hb hb2 => by subst hbl; exact absurd rfl ((by have := unhide HN; simp_all [List.nodup_append] : ∀ p ∈ g2, ∀ q ∈ g6, p ≠ q) b hb2 b hb))
  replace EX := EX.trans (E2.mono fun b _ hb => by rw [hbl]; simp [hb])
  replace bA := bA.ext E2 (fun hm => by have := hlt w.heap.size (by rw [hbl]; simp [hm]); omega)
  clear E2
  have p4 := bA.at 4 _ rfl
  have p5 := bA.at 5 _ rfl
  have p6 := bA.at 6 _ rfl
  have HA := hide bA
  have HX := hide EX
  have HL := hide hlt
  have HBL := hide hbl
  clear bA EX hlt hbl
  have P2 := hide Q2
  clear Q2
  have P4 := hide O4
  clear O4
  have P5 := hide O5
  clear O5
  have P6 := hide O6
  clear O6
  clear O2
  go_wp2_with fail
  have bA := unhide HA
  have EX := unhide HX
  have hlt := unhide HL
  have hbl := unhide HBL
  clear HA HX HL HBL
  have Q2 := unhide P2
  clear P2
  have O4 := unhide P4
  clear P4
  have O5 := unhide P5
  clear P5
  have O6 := unhide P6
  clear P6
  clear p4
  clear p5
  clear p6
  refine (mark_NodeS _ x.nodes g4 (k + (Lay.tChain.vcnt x.chain : Int)) _ O4 (by omega) (by omega)).mono ?_
  rintro e w2 ⟨rfl, Q4, E4⟩
  replace Q2 := Q2.ext E4 (fun b hb hb2 => by subst hbl; exact absurd rfl ((by have := unhide HN; simp_all [List.nodup_append] : ∀ p ∈ g2, ∀ q ∈ g4, p ≠ q) b hb b hb2))
  replace O5 := O5.ext E4 (fun b hb hb2 => by subst hbl; exact absurd rfl ((by have := unhide HN; simp_all [List.nodup_append] : ∀ p ∈ g4, ∀ q ∈ g5, p ≠ q) b hb2 b hb))
  replace O6 := O6.ext E4 (fun b hb hb2 => by subst hbl; exact absurd rfl ((by have := unhide HN; simp_all [List.nodup_append] : ∀ p ∈ g4, ∀ q ∈ g6, p ≠ q) b hb2 b hb))
  replace EX := EX.trans (E4.mono fun b _ hb => by rw [hbl]; simp [hb])
  replace bA := bA.ext E4 (fun hm => by have := hlt w.heap.size (by rw [hbl]; simp [hm]); omega)
  clear E4
  have p5 := bA.at 5 _ rfl
  have p6 := bA.at 6 _ rfl
  have HA := hide bA
  have HX := hide EX
  have HL := hide hlt
  have HBL := hide hbl
  clear bA EX hlt hbl
  have P2 := hide Q2
  clear Q2
  have P4 := hide Q4
  clear Q4
  have P5 := hide O5
  clear O5
  have P6 := hide O6
  clear O6
  clear O4
  go_wp2_with fail
  have bA := unhide HA
  have EX := unhide HX
  have hlt := unhide HL
  have hbl := unhide HBL
  clear HA HX HL HBL
  have Q2 := unhide P2
  clear P2
  have Q4 := unhide P4
  clear P4
  have O5 := unhide P5
  clear P5
  have O6 := unhide P6
  clear P6
  clear p5
  clear p6
  refine (mark_MsgS _ x.msgs g5 (k + (Lay.tChain.vcnt x.chain : Int) + ((Lay.sl Lay.tNode).vcnt x.nodes : Int)) _ O5 (by omega) (by omega)).mono ?_
  rintro e w3 ⟨rfl, Q5, E5⟩
  replace Q2 := Q2.ext E5 (fun b hb hb2 => by subst hbl; exact absurd rfl ((by have := unhide HN; simp_all [List.nodup_append] : ∀ p ∈ g2, ∀ q ∈ g5, p ≠ q) b hb b hb2))
  replace Q4 := Q4.ext E5 (fun b hb hb2 => by subst hbl; exact absurd rfl ((by have := unhide HN; simp_all [List.nodup_append] : ∀ p ∈ g4, ∀ q ∈ g5, p ≠ q) b hb b hb2))
  replace O6 := O6.ext E5 (fun b hb hb2 => by subst hbl; exact absurd rfl ((by have := unhide HN; simp_all [List.nodup_append] : ∀ p ∈ g5, ∀ q ∈ g6, p ≠ q) b hb2 b hb))
  replace EX := EX.trans (E5.mono fun b _ hb => by rw [hbl]; simp [hb])
  replace bA := bA.ext E5 (fun hm => by have := hlt w.heap.size (by rw [hbl]; simp [hm]); omega)
  clear E5
  have p6 := bA.at 6 _ rfl
  have HA := hide bA
  have HX := hide EX
  have HL := hide hlt
  have HBL := hide hbl
  clear bA EX hlt hbl
  have P2 := hide Q2
  clear Q2
  have P4 := hide Q4
  clear Q4
  have P5 := hide Q5
  clear Q5
  have P6 := hide O6
  clear O6
  clear O5
  go_wp2_with fail
  have bA := unhide HA
  have EX := unhide HX
  have hlt := unhide HL
  have hbl := unhide HBL
  clear HA HX HL HBL
  have Q2 := unhide P2
  clear P2
  have Q4 := unhide P4
  clear P4
  have Q5 := unhide P5
  clear P5
  have O6 := unhide P6
  clear P6
  clear p6
  refine (mark_EntryS _ x.history g6 (k + (Lay.tChain.vcnt x.chain : Int) + ((Lay.sl Lay.tNode).vcnt x.nodes : Int) + ((Lay.sl Lay.tMsg).vcnt x.msgs : Int)) _ O6 (by omega) (by omega)).mono ?_
  rintro e w4 ⟨rfl, Q6, E6⟩
  replace Q2 := Q2.ext E6 (fun b hb hb2 => by subst hbl; exact absurd rfl ((by have := unhide HN; simp_all [List.nodup_append] : ∀ p ∈ g2, ∀ q ∈ g6, p ≠ q) b hb b hb2))
  replace Q4 := Q4.ext E6 (fun b hb hb2 => by subst hbl; exact absurd rfl ((by have := unhide HN; simp_all [List.nodup_append] : ∀ p ∈ g4, ∀ q ∈ g6, p ≠ q) b hb b hb2))
  replace Q5 := Q5.ext E6 (fun b hb hb2 => by subst hbl; exact absurd rfl ((by have := unhide HN; simp_all [List.nodup_append] : ∀ p ∈ g5, ∀ q ∈ g6, p ≠ q) b hb b hb2))
  replace EX := EX.trans (E6.mono fun b _ hb => by rw [hbl]; simp [hb])
  replace bA := bA.ext E6 (fun hm => by have := hlt w.heap.size (by rw [hbl]; simp [hm]); omega)
  clear E6
  have HA := hide bA
  have HX := hide EX
  have HL := hide hlt
  have HBL := hide hbl
  clear bA EX hlt hbl
  have P2 := hide Q2
  clear Q2
  have P4 := hide Q4
  clear Q4
  have P5 := hide Q5
  clear Q5
  have P6 := hide Q6
  clear Q6
  clear O6
  go_wp2_with fail
  go_ret
  refine ⟨?_, ?_, unhide HX⟩
  · rw [show k + (Lay.tWorld.vcnt x : Int) = k + (Lay.tChain.vcnt x.chain : Int) + ((Lay.sl Lay.tNode).vcnt x.nodes : Int) + ((Lay.sl Lay.tMsg).vcnt x.msgs : Int) + ((Lay.sl Lay.tEntry).vcnt x.history : Int) by rw [unhide HV]; omega]
    rfl
  · have e := unhide HBL
    subst e
    rw [unhide HM]
    exact mkOwn_World (x := ⟨x.now, x.events, Lay.tChain.mkv (k) x.chain, (Lay.sl Lay.tNode).mkv (k + (Lay.tChain.vcnt x.chain : Int)) x.nodes, (Lay.sl Lay.tMsg).mkv (k + (Lay.tChain.vcnt x.chain : Int) + ((Lay.sl Lay.tNode).vcnt x.nodes : Int)) x.msgs, (Lay.sl Lay.tEntry).mkv (k + (Lay.tChain.vcnt x.chain : Int) + ((Lay.sl Lay.tNode).vcnt x.nodes : Int) + ((Lay.sl Lay.tMsg).vcnt x.msgs : Int)) x.history⟩) (unhide P2) (unhide P4) (unhide P5) (unhide P6) v0 v1 (unhide HN)

end Go.Proofs.Ythpbdafhjakekaa

namespace Go.Proofs.Ythpbdafhjakekaa
open Go.RowKit

set_option maxRecDepth 10000 in
set_option maxHeartbeats 1000000 in
theorem mark_WorldResult (cs : List Value) (x : DWorldResult) (bl : List Nat) (k : Int) (w : World) (h : Lay.tWorldResult.Own w cs x bl) (hk : 0 ≤ k) (hk2 : k + Lay.tWorldResult.vcnt x ≤ 1000000000) :
    Calls Try.prog 7 #[.agg cs.toArray, .int .i64 k] w fun e w' => e = .returned (.int .i64 (k + Lay.tWorldResult.vcnt x)) ∧ Lay.tWorldResult.Own w' cs (Lay.tWorldResult.mkv k x) bl ∧ Ext (fun q => q ∈ bl) w w' := by
  have hlt := h.lt
  have hnd := h.2.1
  rw [vcnt_WorldResult] at hk2
  obtain ⟨a5, d5, a6, d6, a7, d7, a8, d8, g2, rfl, hbl, O2, v0⟩ := own_WorldResult h
  clear h
  have HB0 : Below w.heap.size w (w.alloc (.cells #[.int .i64 x.code, .bool x.moved, .int .i64 x.world.now, .int .i64 x.world.events, .int .i64 x.world.chain.epoch, .slice a5 x.world.chain.ids.length d5, .slice a6 x.world.nodes.length d6, .slice a7 x.world.msgs.length d7, .slice a8 x.world.history.length d8] 31)) := (Below.refl _ _).alloc (Nat.le_refl _) _
  have bA : Box w.heap.size #[.int .i64 x.code, .bool x.moved, .int .i64 x.world.now, .int .i64 x.world.events, .int .i64 x.world.chain.epoch, .slice a5 x.world.chain.ids.length d5, .slice a6 x.world.nodes.length d6, .slice a7 x.world.msgs.length d7, .slice a8 x.world.history.length d8] 31 (w.alloc (.cells #[.int .i64 x.code, .bool x.moved, .int .i64 x.world.now, .int .i64 x.world.events, .int .i64 x.world.chain.epoch, .slice a5 x.world.chain.ids.length d5, .slice a6 x.world.nodes.length d6, .slice a7 x.world.msgs.length d7, .slice a8 x.world.history.length d8] 31)) w.heap.size := newBox (Nat.le_refl _)
  have HN := hide hnd
  have HV := hide (vcnt_WorldResult x)
  have HM := hide (mkv_WorldResult k x)
  clear hnd
  go_enter Try.func7, Try.ntmps7
  go_wp2_with fail
  generalize w.alloc (.cells #[.int .i64 x.code, .bool x.moved, .int .i64 x.world.now, .int .i64 x.world.events, .int .i64 x.world.chain.epoch, .slice a5 x.world.chain.ids.length d5, .slice a6 x.world.nodes.length d6, .slice a7 x.world.msgs.length d7, .slice a8 x.world.history.length d8] 31) = W0 at *
  replace O2 := O2.later HB0
  have hsz := HB0.size
  have EX : Ext (fun q => q ∈ bl) w W0 := ext_of_below HB0 _
  have hs0 := bA.lt
  refine (mark_World _ x.world g2 (k) _ O2 (by omega) (by omega)).mono ?_
  rintro e w1 ⟨rfl, Q2, E2⟩
  replace EX := EX.trans (E2.mono fun b _ hb => by rw [hbl]; simp [hb])
  replace bA := bA.ext E2 (fun hm => by have := hlt w.heap.size (by rw [hbl]; simp [hm]); omega)
  clear E2
  have HA := hide bA
  have HX := hide EX
  have HL := hide hlt
  have HBL := hide hbl
  clear bA EX hlt hbl
  have P2 := hide Q2
  clear Q2
  clear O2
  go_wp2_with fail
  go_ret
  refine ⟨?_, ?_, unhide HX⟩
  · rw [show k + (Lay.tWorldResult.vcnt x : Int) = k + (Lay.tWorld.vcnt x.world : Int) by rw [unhide HV]]
    rfl
  · have e := unhide HBL
    subst e
    rw [unhide HM]
    exact mkOwn_WorldResult (x := ⟨x.code, x.moved, Lay.tWorld.mkv (k) x.world⟩) (unhide P2) v0 (unhide HN)

end Go.Proofs.Ythpbdafhjakekaa

namespace Go.Proofs.Ythpbdafhjakekaa
open Go.RowKit

set_option maxRecDepth 10000 in
set_option maxHeartbeats 1000000 in
theorem held_Chain (cs : List Value) (x : DChain) (k : Int) (w : World) (h : Lay.tChain.Reads w cs (Lay.tChain.mkv k x)) (hk : 0 ≤ k) (hk2 : k + Lay.tChain.vcnt x ≤ 1000000000) :
    Calls Try.prog 29 #[.agg cs.toArray, .int .i64 k] w fun e w' => e = .returned (.int .i64 (k + Lay.tChain.vcnt x)) ∧ Below w.heap.size w w' := by
  rw [mkv_Chain] at h
  rw [vcnt_Chain] at hk2
  have HV := hide (vcnt_Chain x)
  obtain ⟨a1, d1, rfl, R1⟩ := open_Chain h
  clear h
  generalize hn1 : (⟨x.epoch, (Lay.sl Lay.int).mkv (k) x.ids⟩ : DChain).ids.length = n1 at *
  clear hn1
  have HB0 : Below w.heap.size w (w.alloc (.cells #[.int .i64 x.epoch, .slice a1 n1 d1] 24)) := (Below.refl _ _).alloc (Nat.le_refl _) _
  have bA : Box w.heap.size #[.int .i64 x.epoch, .slice a1 n1 d1] 24 (w.alloc (.cells #[.int .i64 x.epoch, .slice a1 n1 d1] 24)) w.heap.size := newBox (Nat.le_refl _)
  go_enter Try.func29, Try.ntmps29
  go_wp2_with fail
  generalize w.alloc (.cells #[.int .i64 x.epoch, .slice a1 n1 d1] 24) = W0 at *
  replace R1 := R1.later HB0
  refine (held_Int64S _ x.ids (k) _ R1 (by omega) (by omega)).mono ?_
  rintro e w1 ⟨rfl, hb⟩
  replace HB0 := HB0.trans (hb.mono HB0.size)
  replace bA := bA.keep hb
  have HA := hide bA
  have HX := hide HB0
  clear bA HB0 hb R1
  have hq : decide (k + ((Lay.sl Lay.int).vcnt x.ids : Int) < 0) = false := by simp; omega
  go_wp2_with fail
  clear hq
  go_ret
  refine ⟨?_, unhide HX⟩
  rw [show k + (Lay.tChain.vcnt x : Int) = k + ((Lay.sl Lay.int).vcnt x.ids : Int) by rw [unhide HV]]
  rfl

end Go.Proofs.Ythpbdafhjakekaa

namespace Go.Proofs.Ythpbdafhjakekaa
open Go.RowKit

set_option maxRecDepth 10000 in
set_option maxHeartbeats 2000000 in
theorem heldWrite_pos (b off cap : Nat) (xs : List DWrite) (k : Int) (w : World) (h : (Lay.sl Lay.tWrite).Reads w [.slice (some ⟨b, off, none⟩) (mkAll Lay.tWrite.cnt Lay.tWrite.mkd k xs).length cap] (mkAll Lay.tWrite.cnt Lay.tWrite.mkd k xs)) (hbl : b < w.heap.size) (hk : 0 ≤ k) (hk2 : k + (cntAll Lay.tWrite.cnt xs : Nat) ≤ 1000000000) :
    Calls Try.prog 41 #[.slice (some ⟨b, off, none⟩) xs.length cap, .int .i64 k] w fun e w' => e = .returned (.int .i64 (k + (cntAll Lay.tWrite.cnt xs : Nat))) ∧ Below w.heap.size w w' := by
  have hbig := h.big
  rw [mkAll_size] at hbig
  have H := hide h
  clear h
  go_enter Try.func41, Try.ntmps41
  go_wp2_with fail
  go_loopw [1, 5] (fun kk i wr => ∃ (j : Nat) (kj : Int), j ≤ xs.length ∧ i = .int .i64 j ∧ kj = k + (cntAll Lay.tWrite.cnt (xs.take j) : Nat) ∧ kk = .int .i64 kj ∧ Below w.heap.size w wr) (fun _ i _ => xs.length - (intOf i).toNat)
  case atStart => exact ⟨0, k, Nat.zero_le _, rfl, by simp [cntAll], rfl, Below.refl _ _⟩
  case round =>
    obtain ⟨j, kj, hj, rfl, hkj, rfl, hB⟩ := hrel
    by_cases hlt : j < xs.length
    · have hj2 : j < (mkAll Lay.tWrite.cnt Lay.tWrite.mkd k xs).length := by rw [mkAll_size]; exact hlt
      obtain ⟨row, hc, hr⟩ := Lay.row_at (unhide H) hj2
      rw [mkAll_at _ _ _ _ _ hlt hj2, ← hkj, mkd_Write] at hr
      have HT := hide (Lay.cntAll_take (f := Lay.tWrite.cnt) hlt)
      have hle := Lay.cntAll_take_le (f := Lay.tWrite.cnt) (xs := xs) (k := j + 1)
      rw [unhide HT] at hle
      clear hj2
      generalize hx : xs[j] = x at *
      clear hx
      have hcn := cnt_Write x
      have hb1 : 0 ≤ kj := by omega
      have hb2 : kj + (Lay.tWrite.cnt x : Int) ≤ 1000000000 := by omega
      have HK := hide hkj
      clear hkj hle
      replace hr := hr.later hB
      obtain ⟨a2, d2, rfl, R2⟩ := open_Write hr
      clear hr
      generalize hn : (⟨kj, kj + 1, (Lay.sl Lay.int).mkv (kj + 1 + 1) x.vec, kj + 1 + 1 + ((Lay.sl Lay.int).vcnt x.vec : Nat), kj + 1 + 1 + ((Lay.sl Lay.int).vcnt x.vec : Nat) + 1⟩ : DWrite).vec.length = n1 at *
      clear hn
      have c0 : wr.cell? ⟨b, off + j * 5, none⟩ = some (.int .i64 (kj)) := (hB.cell (p := ⟨b, off + j * 5, none⟩) hbl).trans (hc 0 (by decide))
      have e0 : ((kj : Int) != (kj : Int)) = false := by simp
      have c1 : wr.cell? ⟨b, off + j * 5 + 1, none⟩ = some (.int .i64 (kj + 1)) := (hB.cell (p := ⟨b, off + j * 5 + 1, none⟩) hbl).trans (hc 1 (by decide))
      have e1 : ((kj + 1 : Int) != (kj + 1 : Int)) = false := by simp
      have c2 : wr.cell? ⟨b, off + j * 5 + 2, none⟩ = some (.slice a2 n1 d2) := (hB.cell (p := ⟨b, off + j * 5 + 2, none⟩) hbl).trans (hc 2 (by decide))
      have c3 : wr.cell? ⟨b, off + j * 5 + 3, none⟩ = some (.int .i64 (kj + 1 + 1 + ((Lay.sl Lay.int).vcnt x.vec : Nat))) := (hB.cell (p := ⟨b, off + j * 5 + 3, none⟩) hbl).trans (hc 3 (by decide))
      have e3 : ((kj + 1 + 1 + ((Lay.sl Lay.int).vcnt x.vec : Nat) : Int) != (kj + 1 + 1 + ((Lay.sl Lay.int).vcnt x.vec : Nat) : Int)) = false := by simp
      have c4 : wr.cell? ⟨b, off + j * 5 + 4, none⟩ = some (.int .i64 (kj + 1 + 1 + ((Lay.sl Lay.int).vcnt x.vec : Nat) + 1)) := (hB.cell (p := ⟨b, off + j * 5 + 4, none⟩) hbl).trans (hc 4 (by decide))
      have e4 : ((kj + 1 + 1 + ((Lay.sl Lay.int).vcnt x.vec : Nat) + 1 : Int) != (kj + 1 + 1 + ((Lay.sl Lay.int).vcnt x.vec : Nat) + 1 : Int)) = false := by simp
      have HB := hide hB
      clear hB hc
      go_wp2_with fail
      refine (held_Int64S _ x.vec (kj + 1 + 1) _ R2 (by omega) (by omega)).mono ?_
      rintro e w2 ⟨rfl, hb⟩
      have l1 : b < wr.heap.size := Nat.lt_of_lt_of_le hbl (unhide HB).size
      replace c3 := (hb.cell (p := ⟨b, off + j * 5 + 3, none⟩) l1).trans c3
      replace c4 := (hb.cell (p := ⟨b, off + j * 5 + 4, none⟩) l1).trans c4
      replace HB := hide ((unhide HB).trans (hb.mono (unhide HB).size))
      clear hb R2 l1 c0 c1 c2
      have hq : decide (kj + 1 + 1 + ((Lay.sl Lay.int).vcnt x.vec : Int) < 0) = false := by simp; omega
      go_wp2_with fail
      go_roundw
      case rel => exact ⟨j + 1, _, by omega, by go_num, (by rw [unhide HT, hcn]; have := unhide HK; omega), rfl, unhide HB⟩
      case measure => simp [intOf]; omega
    · obtain rfl : j = xs.length := by omega
      rw [List.take_length] at hkj
      have HK := hide hkj
      have HB := hide hB
      clear hB hkj
      go_wp2_with fail
      go_ret
      exact ⟨by rw [← unhide HK]; rfl, unhide HB⟩

theorem heldWrite_zero (ao : Option Addr) (cap : Nat) (k : Int) (w : World) :
    Calls Try.prog 41 #[.slice ao 0 cap, .int .i64 k] w fun e w' => e = .returned (.int .i64 k) ∧ w' = w := by
  go_enter Try.func41, Try.ntmps41
  go_wp2_with fail
  refine wp_loop_rounds 1 ?_
  rw [rounds_succ]
  go_wp2_with fail
  go_ret
  exact ⟨rfl, rfl⟩

/-- heldWriteS. -/
theorem held_WriteS (v : Value) (xs : List DWrite) (k : Int) (w : World) (h : (Lay.sl Lay.tWrite).Reads w [v] ((Lay.sl Lay.tWrite).mkv k xs)) (hk : 0 ≤ k) (hk2 : k + (Lay.sl Lay.tWrite).vcnt xs ≤ 1000000000) :
    Calls Try.prog 41 #[v, .int .i64 k] w fun e w' => e = .returned (.int .i64 (k + (Lay.sl Lay.tWrite).vcnt xs)) ∧ Below w.heap.size w w' := by
  rw [mkv_WriteS] at h
  obtain ⟨ao, cap, rfl⟩ := open_sl h
  by_cases hp : 0 < xs.length
  · obtain ⟨b, off, rfl, hbl⟩ := Lay.sl_addr h (by rw [mkAll_size]; exact hp)
    have L := heldWrite_pos b off cap xs k w h hbl hk hk2
    rw [mkAll_size]
    exact L
  · obtain rfl : xs = [] := List.eq_nil_of_length_eq_zero (by omega)
    refine (heldWrite_zero ao cap k w).mono ?_
    rintro e w' ⟨rfl, rfl⟩
    exact ⟨by rw [vcnt_WriteS]; simp [cntAll], Below.refl _ _⟩

end Go.Proofs.Ythpbdafhjakekaa

namespace Go.Proofs.Ythpbdafhjakekaa
open Go.RowKit

set_option maxRecDepth 10000 in
set_option maxHeartbeats 4000000 in
theorem heldNode_pos (b off cap : Nat) (xs : List DNode) (k : Int) (w : World) (h : (Lay.sl Lay.tNode).Reads w [.slice (some ⟨b, off, none⟩) (mkAll Lay.tNode.cnt Lay.tNode.mkd k xs).length cap] (mkAll Lay.tNode.cnt Lay.tNode.mkd k xs)) (hbl : b < w.heap.size) (hk : 0 ≤ k) (hk2 : k + (cntAll Lay.tNode.cnt xs : Nat) ≤ 1000000000) :
    Calls Try.prog 30 #[.slice (some ⟨b, off, none⟩) xs.length cap, .int .i64 k] w fun e w' => e = .returned (.int .i64 (k + (cntAll Lay.tNode.cnt xs : Nat))) ∧ Below w.heap.size w w' := by
  have hbig := h.big
  rw [mkAll_size] at hbig
  have H := hide h
  clear h
  go_enter Try.func30, Try.ntmps30
  go_wp2_with fail
  go_loopw [1, 5] (fun kk i wr => ∃ (j : Nat) (kj : Int), j ≤ xs.length ∧ i = .int .i64 j ∧ kj = k + (cntAll Lay.tNode.cnt (xs.take j) : Nat) ∧ kk = .int .i64 kj ∧ Below w.heap.size w wr) (fun _ i _ => xs.length - (intOf i).toNat)
  case atStart => exact ⟨0, k, Nat.zero_le _, rfl, by simp [cntAll], rfl, Below.refl _ _⟩
  case round =>
    obtain ⟨j, kj, hj, rfl, hkj, rfl, hB⟩ := hrel
    by_cases hlt : j < xs.length
    · have hj2 : j < (mkAll Lay.tNode.cnt Lay.tNode.mkd k xs).length := by rw [mkAll_size]; exact hlt
      obtain ⟨row, hc, hr⟩ := Lay.row_at (unhide H) hj2
      rw [mkAll_at _ _ _ _ _ hlt hj2, ← hkj, mkd_Node] at hr
      have HT := hide (Lay.cntAll_take (f := Lay.tNode.cnt) hlt)
      have hle := Lay.cntAll_take_le (f := Lay.tNode.cnt) (xs := xs) (k := j + 1)
      rw [unhide HT] at hle
      clear hj2
      generalize hx : xs[j] = x at *
      clear hx
      have hcn := cnt_Node x
      have hb1 : 0 ≤ kj := by omega
      have hb2 : kj + (Lay.tNode.cnt x : Int) ≤ 1000000000 := by omega
      have HK := hide hkj
      clear hkj hle
      replace hr := hr.later hB
      obtain ⟨a4, d4, rfl, R4⟩ := open_Node hr
      clear hr
      generalize hn4 : (⟨kj, ((kj + 1).tmod 3 == 0), kj + 1 + 1, kj + 1 + 1 + 1, (Lay.sl Lay.tWrite).mkv (kj + 1 + 1 + 1 + 1) x.writes, kj + 1 + 1 + 1 + 1 + ((Lay.sl Lay.tWrite).vcnt x.writes : Nat), kj + 1 + 1 + 1 + 1 + ((Lay.sl Lay.tWrite).vcnt x.writes : Nat) + 1⟩ : DNode).writes.length = n4 at *
      clear hn4
      have c0 : wr.cell? ⟨b, off + j * 7, none⟩ = some (.int .i64 (kj)) := (hB.cell (p := ⟨b, off + j * 7, none⟩) hbl).trans (hc 0 (by decide))
      have e0 : ((kj : Int) != (kj : Int)) = false := by simp
      have c1 : wr.cell? ⟨b, off + j * 7 + 1, none⟩ = some (.bool ((kj + 1) % 3 == 0)) := by rw [← Int.tmod_eq_emod_of_nonneg (show (0 : Int) ≤ kj + 1 by omega)]; exact (hB.cell (p := ⟨b, off + j * 7 + 1, none⟩) hbl).trans (hc 1 (by decide))
      have e1 : (((kj + 1) % 3 == 0) != ((kj + 1) % 3 == 0)) = false := by simp
      have c2 : wr.cell? ⟨b, off + j * 7 + 2, none⟩ = some (.int .i64 (kj + 1 + 1)) := (hB.cell (p := ⟨b, off + j * 7 + 2, none⟩) hbl).trans (hc 2 (by decide))
      have e2 : ((kj + 1 + 1 : Int) != (kj + 1 + 1 : Int)) = false := by simp
      have c3 : wr.cell? ⟨b, off + j * 7 + 3, none⟩ = some (.int .i64 (kj + 1 + 1 + 1)) := (hB.cell (p := ⟨b, off + j * 7 + 3, none⟩) hbl).trans (hc 3 (by decide))
      have e3 : ((kj + 1 + 1 + 1 : Int) != (kj + 1 + 1 + 1 : Int)) = false := by simp
      have c4 : wr.cell? ⟨b, off + j * 7 + 4, none⟩ = some (.slice a4 n4 d4) := (hB.cell (p := ⟨b, off + j * 7 + 4, none⟩) hbl).trans (hc 4 (by decide))
      have c5 : wr.cell? ⟨b, off + j * 7 + 5, none⟩ = some (.int .i64 (kj + 1 + 1 + 1 + 1 + ((Lay.sl Lay.tWrite).vcnt x.writes : Nat))) := (hB.cell (p := ⟨b, off + j * 7 + 5, none⟩) hbl).trans (hc 5 (by decide))
      have e5 : ((kj + 1 + 1 + 1 + 1 + ((Lay.sl Lay.tWrite).vcnt x.writes : Nat) : Int) != (kj + 1 + 1 + 1 + 1 + ((Lay.sl Lay.tWrite).vcnt x.writes : Nat) : Int)) = false := by simp
      have c6 : wr.cell? ⟨b, off + j * 7 + 6, none⟩ = some (.int .i64 (kj + 1 + 1 + 1 + 1 + ((Lay.sl Lay.tWrite).vcnt x.writes : Nat) + 1)) := (hB.cell (p := ⟨b, off + j * 7 + 6, none⟩) hbl).trans (hc 6 (by decide))
      have e6 : ((kj + 1 + 1 + 1 + 1 + ((Lay.sl Lay.tWrite).vcnt x.writes : Nat) + 1 : Int) != (kj + 1 + 1 + 1 + 1 + ((Lay.sl Lay.tWrite).vcnt x.writes : Nat) + 1 : Int)) = false := by simp
      have l1 : b < wr.heap.size := Nat.lt_of_lt_of_le hbl hB.size
      have HB := hide hB
      clear hB hc
      have P4 := hide R4
      clear R4
      go_wp2_with fail
      refine (held_WriteS _ x.writes (kj + 1 + 1 + 1 + 1) _ (unhide P4) (by omega) (by omega)).mono ?_
      rintro e u0 ⟨rfl, hb⟩
      replace c5 := (hb.cell (p := ⟨b, off + j * 7 + 5, none⟩) l1).trans c5
      replace c6 := (hb.cell (p := ⟨b, off + j * 7 + 6, none⟩) l1).trans c6
      replace HB := hide ((unhide HB).trans (hb.mono (unhide HB).size))
      replace l1 := Nat.lt_of_lt_of_le l1 hb.size
      clear hb P4 c4
      have hq : decide (kj + 1 + 1 + 1 + 1 + ((Lay.sl Lay.tWrite).vcnt x.writes : Int) < 0) = false := by simp; omega
      go_wp2_with fail
      go_roundw
      case rel => exact ⟨j + 1, _, by omega, by go_num, (by rw [unhide HT, hcn]; have := unhide HK; omega), rfl, unhide HB⟩
      case measure => simp [intOf]; omega
    · obtain rfl : j = xs.length := by omega
      rw [List.take_length] at hkj
      have HK := hide hkj
      have HB := hide hB
      clear hB hkj
      go_wp2_with fail
      go_ret
      exact ⟨by rw [← unhide HK]; rfl, unhide HB⟩

theorem heldNode_zero (ao : Option Addr) (cap : Nat) (k : Int) (w : World) :
    Calls Try.prog 30 #[.slice ao 0 cap, .int .i64 k] w fun e w' => e = .returned (.int .i64 k) ∧ w' = w := by
  go_enter Try.func30, Try.ntmps30
  go_wp2_with fail
  refine wp_loop_rounds 1 ?_
  rw [rounds_succ]
  go_wp2_with fail
  go_ret
  exact ⟨rfl, rfl⟩

/-- heldNodeS. -/
theorem held_NodeS (v : Value) (xs : List DNode) (k : Int) (w : World) (h : (Lay.sl Lay.tNode).Reads w [v] ((Lay.sl Lay.tNode).mkv k xs)) (hk : 0 ≤ k) (hk2 : k + (Lay.sl Lay.tNode).vcnt xs ≤ 1000000000) :
    Calls Try.prog 30 #[v, .int .i64 k] w fun e w' => e = .returned (.int .i64 (k + (Lay.sl Lay.tNode).vcnt xs)) ∧ Below w.heap.size w w' := by
  rw [mkv_NodeS] at h
  obtain ⟨ao, cap, rfl⟩ := open_sl h
  by_cases hp : 0 < xs.length
  · obtain ⟨b, off, rfl, hbl⟩ := Lay.sl_addr h (by rw [mkAll_size]; exact hp)
    have L := heldNode_pos b off cap xs k w h hbl hk hk2
    rw [mkAll_size]
    exact L
  · obtain rfl : xs = [] := List.eq_nil_of_length_eq_zero (by omega)
    refine (heldNode_zero ao cap k w).mono ?_
    rintro e w' ⟨rfl, rfl⟩
    exact ⟨by rw [vcnt_NodeS]; simp [cntAll], Below.refl _ _⟩

end Go.Proofs.Ythpbdafhjakekaa

namespace Go.Proofs.Ythpbdafhjakekaa
open Go.RowKit

set_option maxRecDepth 10000 in
set_option maxHeartbeats 2000000 in
theorem heldMsg_pos (b off cap : Nat) (xs : List DMsg) (k : Int) (w : World) (h : (Lay.sl Lay.tMsg).Reads w [.slice (some ⟨b, off, none⟩) (mkAll Lay.tMsg.cnt Lay.tMsg.mkd k xs).length cap] (mkAll Lay.tMsg.cnt Lay.tMsg.mkd k xs)) (hbl : b < w.heap.size) (hk : 0 ≤ k) (hk2 : k + (cntAll Lay.tMsg.cnt xs : Nat) ≤ 1000000000) :
    Calls Try.prog 31 #[.slice (some ⟨b, off, none⟩) xs.length cap, .int .i64 k] w fun e w' => e = .returned (.int .i64 (k + (cntAll Lay.tMsg.cnt xs : Nat))) ∧ Below w.heap.size w w' := by
  have hbig := h.big
  rw [mkAll_size] at hbig
  have H := hide h
  clear h
  go_enter Try.func31, Try.ntmps31
  go_wp2_with fail
  go_loopw [1, 5] (fun kk i wr => ∃ (j : Nat) (kj : Int), j ≤ xs.length ∧ i = .int .i64 j ∧ kj = k + (cntAll Lay.tMsg.cnt (xs.take j) : Nat) ∧ kk = .int .i64 kj ∧ Below w.heap.size w wr) (fun _ i _ => xs.length - (intOf i).toNat)
  case atStart => exact ⟨0, k, Nat.zero_le _, rfl, by simp [cntAll], rfl, Below.refl _ _⟩
  case round =>
    obtain ⟨j, kj, hj, rfl, hkj, rfl, hB⟩ := hrel
    by_cases hlt : j < xs.length
    · have hj2 : j < (mkAll Lay.tMsg.cnt Lay.tMsg.mkd k xs).length := by rw [mkAll_size]; exact hlt
      obtain ⟨row, hc, hr⟩ := Lay.row_at (unhide H) hj2
      rw [mkAll_at _ _ _ _ _ hlt hj2, ← hkj, mkd_Msg] at hr
      have HT := hide (Lay.cntAll_take (f := Lay.tMsg.cnt) hlt)
      have hle := Lay.cntAll_take_le (f := Lay.tMsg.cnt) (xs := xs) (k := j + 1)
      rw [unhide HT] at hle
      clear hj2
      generalize hx : xs[j] = x at *
      clear hx
      have hcn := cnt_Msg x
      have hb1 : 0 ≤ kj := by omega
      have hb2 : kj + (Lay.tMsg.cnt x : Int) ≤ 1000000000 := by omega
      have HK := hide hkj
      clear hkj hle
      replace hr := hr.later hB
      obtain ⟨a7, d7, rfl, RW⟩ := open_Msg hr
      obtain ⟨_, _, e9, R7⟩ := open_Write RW
      simp only [List.cons.injEq, Value.slice.injEq, true_and, and_true] at e9
      obtain ⟨rfl, rfl⟩ := e9
      clear hr RW
      generalize hn : (⟨kj, kj + 1, kj + 1 + 1, kj + 1 + 1 + 1, kj + 1 + 1 + 1 + 1, ⟨kj + 1 + 1 + 1 + 1 + 1, kj + 1 + 1 + 1 + 1 + 1 + 1, (Lay.sl Lay.int).mkv (kj + 1 + 1 + 1 + 1 + 1 + 1 + 1) x.write.vec, kj + 1 + 1 + 1 + 1 + 1 + 1 + 1 + ((Lay.sl Lay.int).vcnt x.write.vec : Nat), kj + 1 + 1 + 1 + 1 + 1 + 1 + 1 + ((Lay.sl Lay.int).vcnt x.write.vec : Nat) + 1⟩⟩ : DMsg).write.vec.length = n1 at *
      clear hn
      have c0 : wr.cell? ⟨b, off + j * 10, none⟩ = some (.int .i64 (kj)) := (hB.cell (p := ⟨b, off + j * 10, none⟩) hbl).trans (hc 0 (by decide))
      have e0 : ((kj : Int) != (kj : Int)) = false := by simp
      have c1 : wr.cell? ⟨b, off + j * 10 + 1, none⟩ = some (.int .i64 (kj + 1)) := (hB.cell (p := ⟨b, off + j * 10 + 1, none⟩) hbl).trans (hc 1 (by decide))
      have e1 : ((kj + 1 : Int) != (kj + 1 : Int)) = false := by simp
      have c2 : wr.cell? ⟨b, off + j * 10 + 2, none⟩ = some (.int .i64 (kj + 1 + 1)) := (hB.cell (p := ⟨b, off + j * 10 + 2, none⟩) hbl).trans (hc 2 (by decide))
      have e2 : ((kj + 1 + 1 : Int) != (kj + 1 + 1 : Int)) = false := by simp
      have c3 : wr.cell? ⟨b, off + j * 10 + 3, none⟩ = some (.int .i64 (kj + 1 + 1 + 1)) := (hB.cell (p := ⟨b, off + j * 10 + 3, none⟩) hbl).trans (hc 3 (by decide))
      have e3 : ((kj + 1 + 1 + 1 : Int) != (kj + 1 + 1 + 1 : Int)) = false := by simp
      have c4 : wr.cell? ⟨b, off + j * 10 + 4, none⟩ = some (.int .i64 (kj + 1 + 1 + 1 + 1)) := (hB.cell (p := ⟨b, off + j * 10 + 4, none⟩) hbl).trans (hc 4 (by decide))
      have e4 : ((kj + 1 + 1 + 1 + 1 : Int) != (kj + 1 + 1 + 1 + 1 : Int)) = false := by simp
      have c5 : wr.cell? ⟨b, off + j * 10 + 5, none⟩ = some (.int .i64 (kj + 1 + 1 + 1 + 1 + 1)) := (hB.cell (p := ⟨b, off + j * 10 + 5, none⟩) hbl).trans (hc 5 (by decide))
      have e5 : ((kj + 1 + 1 + 1 + 1 + 1 : Int) != (kj + 1 + 1 + 1 + 1 + 1 : Int)) = false := by simp
      have c6 : wr.cell? ⟨b, off + j * 10 + 6, none⟩ = some (.int .i64 (kj + 1 + 1 + 1 + 1 + 1 + 1)) := (hB.cell (p := ⟨b, off + j * 10 + 6, none⟩) hbl).trans (hc 6 (by decide))
      have e6 : ((kj + 1 + 1 + 1 + 1 + 1 + 1 : Int) != (kj + 1 + 1 + 1 + 1 + 1 + 1 : Int)) = false := by simp
      have c7 : wr.cell? ⟨b, off + j * 10 + 7, none⟩ = some (.slice a7 n1 d7) := (hB.cell (p := ⟨b, off + j * 10 + 7, none⟩) hbl).trans (hc 7 (by decide))
      have c8 : wr.cell? ⟨b, off + j * 10 + 8, none⟩ = some (.int .i64 (kj + 1 + 1 + 1 + 1 + 1 + 1 + 1 + ((Lay.sl Lay.int).vcnt x.write.vec : Nat))) := (hB.cell (p := ⟨b, off + j * 10 + 8, none⟩) hbl).trans (hc 8 (by decide))
      have e8 : ((kj + 1 + 1 + 1 + 1 + 1 + 1 + 1 + ((Lay.sl Lay.int).vcnt x.write.vec : Nat) : Int) != (kj + 1 + 1 + 1 + 1 + 1 + 1 + 1 + ((Lay.sl Lay.int).vcnt x.write.vec : Nat) : Int)) = false := by simp
      have c9 : wr.cell? ⟨b, off + j * 10 + 9, none⟩ = some (.int .i64 (kj + 1 + 1 + 1 + 1 + 1 + 1 + 1 + ((Lay.sl Lay.int).vcnt x.write.vec : Nat) + 1)) := (hB.cell (p := ⟨b, off + j * 10 + 9, none⟩) hbl).trans (hc 9 (by decide))
      have e9 : ((kj + 1 + 1 + 1 + 1 + 1 + 1 + 1 + ((Lay.sl Lay.int).vcnt x.write.vec : Nat) + 1 : Int) != (kj + 1 + 1 + 1 + 1 + 1 + 1 + 1 + ((Lay.sl Lay.int).vcnt x.write.vec : Nat) + 1 : Int)) = false := by simp
      have HB := hide hB
      clear hB hc
      go_wp2_with fail
      refine (held_Int64S _ x.write.vec (kj + 1 + 1 + 1 + 1 + 1 + 1 + 1) _ R7 (by omega) (by omega)).mono ?_
      rintro e w2 ⟨rfl, hb⟩
      have l1 : b < wr.heap.size := Nat.lt_of_lt_of_le hbl (unhide HB).size
      replace c8 := (hb.cell (p := ⟨b, off + j * 10 + 8, none⟩) l1).trans c8
      replace c9 := (hb.cell (p := ⟨b, off + j * 10 + 9, none⟩) l1).trans c9
      replace HB := hide ((unhide HB).trans (hb.mono (unhide HB).size))
      clear hb R7 l1 c0 c1 c2 c3 c4 c5 c6 c7
      have hq : decide (kj + 1 + 1 + 1 + 1 + 1 + 1 + 1 + ((Lay.sl Lay.int).vcnt x.write.vec : Int) < 0) = false := by simp; omega
      go_wp2_with fail
      go_roundw
      case rel => exact ⟨j + 1, _, by omega, by go_num, (by rw [unhide HT, hcn]; have := unhide HK; omega), rfl, unhide HB⟩
      case measure => simp [intOf]; omega
    · obtain rfl : j = xs.length := by omega
      rw [List.take_length] at hkj
      have HK := hide hkj
      have HB := hide hB
      clear hB hkj
      go_wp2_with fail
      go_ret
      exact ⟨by rw [← unhide HK]; rfl, unhide HB⟩

theorem heldMsg_zero (ao : Option Addr) (cap : Nat) (k : Int) (w : World) :
    Calls Try.prog 31 #[.slice ao 0 cap, .int .i64 k] w fun e w' => e = .returned (.int .i64 k) ∧ w' = w := by
  go_enter Try.func31, Try.ntmps31
  go_wp2_with fail
  refine wp_loop_rounds 1 ?_
  rw [rounds_succ]
  go_wp2_with fail
  go_ret
  exact ⟨rfl, rfl⟩

/-- heldMsgS. -/
theorem held_MsgS (v : Value) (xs : List DMsg) (k : Int) (w : World) (h : (Lay.sl Lay.tMsg).Reads w [v] ((Lay.sl Lay.tMsg).mkv k xs)) (hk : 0 ≤ k) (hk2 : k + (Lay.sl Lay.tMsg).vcnt xs ≤ 1000000000) :
    Calls Try.prog 31 #[v, .int .i64 k] w fun e w' => e = .returned (.int .i64 (k + (Lay.sl Lay.tMsg).vcnt xs)) ∧ Below w.heap.size w w' := by
  rw [mkv_MsgS] at h
  obtain ⟨ao, cap, rfl⟩ := open_sl h
  by_cases hp : 0 < xs.length
  · obtain ⟨b, off, rfl, hbl⟩ := Lay.sl_addr h (by rw [mkAll_size]; exact hp)
    have L := heldMsg_pos b off cap xs k w h hbl hk hk2
    rw [mkAll_size]
    exact L
  · obtain rfl : xs = [] := List.eq_nil_of_length_eq_zero (by omega)
    refine (heldMsg_zero ao cap k w).mono ?_
    rintro e w' ⟨rfl, rfl⟩
    exact ⟨by rw [vcnt_MsgS]; simp [cntAll], Below.refl _ _⟩

end Go.Proofs.Ythpbdafhjakekaa

namespace Go.Proofs.Ythpbdafhjakekaa
open Go.RowKit

set_option maxRecDepth 10000 in
set_option maxHeartbeats 2000000 in
theorem heldHit_pos (b off cap : Nat) (xs : List DHit) (k : Int) (w : World) (h : (Lay.sl Lay.tHit).Reads w [.slice (some ⟨b, off, none⟩) (mkAll Lay.tHit.cnt Lay.tHit.mkd k xs).length cap] (mkAll Lay.tHit.cnt Lay.tHit.mkd k xs)) (hbl : b < w.heap.size) (hk : 0 ≤ k) (hk2 : k + (cntAll Lay.tHit.cnt xs : Nat) ≤ 1000000000) :
    Calls Try.prog 42 #[.slice (some ⟨b, off, none⟩) xs.length cap, .int .i64 k] w fun e w' => e = .returned (.int .i64 (k + (cntAll Lay.tHit.cnt xs : Nat))) ∧ Below w.heap.size w w' := by
  have hbig := h.big
  rw [mkAll_size] at hbig
  have H := hide h
  clear h
  go_enter Try.func42, Try.ntmps42
  go_wp2_with fail
  go_loopw [1, 5] (fun kk i wr => ∃ (j : Nat) (kj : Int), j ≤ xs.length ∧ i = .int .i64 j ∧ kj = k + (cntAll Lay.tHit.cnt (xs.take j) : Nat) ∧ kk = .int .i64 kj ∧ Below w.heap.size w wr) (fun _ i _ => xs.length - (intOf i).toNat)
  case atStart => exact ⟨0, k, Nat.zero_le _, rfl, by simp [cntAll], rfl, Below.refl _ _⟩
  case round =>
    obtain ⟨j, kj, hj, rfl, hkj, rfl, hB⟩ := hrel
    by_cases hlt : j < xs.length
    · have hj2 : j < (mkAll Lay.tHit.cnt Lay.tHit.mkd k xs).length := by rw [mkAll_size]; exact hlt
      obtain ⟨row, hc, hr⟩ := Lay.row_at (unhide H) hj2
      rw [mkAll_at _ _ _ _ _ hlt hj2, ← hkj, mkd_Hit] at hr
      have HT := hide (Lay.cntAll_take (f := Lay.tHit.cnt) hlt)
      have hle := Lay.cntAll_take_le (f := Lay.tHit.cnt) (xs := xs) (k := j + 1)
      rw [unhide HT] at hle
      clear hj2
      generalize hx : xs[j] = x at *
      clear hx
      have hcn := cnt_Hit x
      have hb1 : 0 ≤ kj := by omega
      have hb2 : kj + (Lay.tHit.cnt x : Int) ≤ 1000000000 := by omega
      have HK := hide hkj
      clear hkj hle
      replace hr := hr.later hB
      obtain ⟨blo, hlo⟩ := hr
      obtain ⟨rfl, -⟩ := lies_Hit.1 hlo
      clear hlo
      have c0 : wr.cell? ⟨b, off + j * 2, none⟩ = some (.int .i64 (kj)) := (hB.cell (p := ⟨b, off + j * 2, none⟩) hbl).trans (hc 0 (by decide))
      have e0 : ((kj : Int) != (kj : Int)) = false := by simp
      have c1 : wr.cell? ⟨b, off + j * 2 + 1, none⟩ = some (.int .i64 (kj + 1)) := (hB.cell (p := ⟨b, off + j * 2 + 1, none⟩) hbl).trans (hc 1 (by decide))
      have e1 : ((kj + 1 : Int) != (kj + 1 : Int)) = false := by simp
      have HB := hide hB
      clear hB hc
      go_wp2_with fail
      go_roundw
      case rel => exact ⟨j + 1, _, by omega, by go_num, (by rw [unhide HT, hcn]; have := unhide HK; omega), rfl, unhide HB⟩
      case measure => simp [intOf]; omega
    · obtain rfl : j = xs.length := by omega
      rw [List.take_length] at hkj
      have HK := hide hkj
      have HB := hide hB
      clear hB hkj
      go_wp2_with fail
      go_ret
      exact ⟨by rw [← unhide HK]; rfl, unhide HB⟩

theorem heldHit_zero (ao : Option Addr) (cap : Nat) (k : Int) (w : World) :
    Calls Try.prog 42 #[.slice ao 0 cap, .int .i64 k] w fun e w' => e = .returned (.int .i64 k) ∧ w' = w := by
  go_enter Try.func42, Try.ntmps42
  go_wp2_with fail
  refine wp_loop_rounds 1 ?_
  rw [rounds_succ]
  go_wp2_with fail
  go_ret
  exact ⟨rfl, rfl⟩

/-- heldHitS. -/
theorem held_HitS (v : Value) (xs : List DHit) (k : Int) (w : World) (h : (Lay.sl Lay.tHit).Reads w [v] ((Lay.sl Lay.tHit).mkv k xs)) (hk : 0 ≤ k) (hk2 : k + (Lay.sl Lay.tHit).vcnt xs ≤ 1000000000) :
    Calls Try.prog 42 #[v, .int .i64 k] w fun e w' => e = .returned (.int .i64 (k + (Lay.sl Lay.tHit).vcnt xs)) ∧ Below w.heap.size w w' := by
  rw [mkv_HitS] at h
  obtain ⟨ao, cap, rfl⟩ := open_sl h
  by_cases hp : 0 < xs.length
  · obtain ⟨b, off, rfl, hbl⟩ := Lay.sl_addr h (by rw [mkAll_size]; exact hp)
    have L := heldHit_pos b off cap xs k w h hbl hk hk2
    rw [mkAll_size]
    exact L
  · obtain rfl : xs = [] := List.eq_nil_of_length_eq_zero (by omega)
    refine (heldHit_zero ao cap k w).mono ?_
    rintro e w' ⟨rfl, rfl⟩
    exact ⟨by rw [vcnt_HitS]; simp [cntAll], Below.refl _ _⟩

end Go.Proofs.Ythpbdafhjakekaa

namespace Go.Proofs.Ythpbdafhjakekaa
open Go.RowKit

set_option maxRecDepth 10000 in
set_option maxHeartbeats 4000000 in
theorem heldEntry_pos (b off cap : Nat) (xs : List DEntry) (k : Int) (w : World) (h : (Lay.sl Lay.tEntry).Reads w [.slice (some ⟨b, off, none⟩) (mkAll Lay.tEntry.cnt Lay.tEntry.mkd k xs).length cap] (mkAll Lay.tEntry.cnt Lay.tEntry.mkd k xs)) (hbl : b < w.heap.size) (hk : 0 ≤ k) (hk2 : k + (cntAll Lay.tEntry.cnt xs : Nat) ≤ 1000000000) :
    Calls Try.prog 32 #[.slice (some ⟨b, off, none⟩) xs.length cap, .int .i64 k] w fun e w' => e = .returned (.int .i64 (k + (cntAll Lay.tEntry.cnt xs : Nat))) ∧ Below w.heap.size w w' := by
  have hbig := h.big
  rw [mkAll_size] at hbig
  have H := hide h
  clear h
  go_enter Try.func32, Try.ntmps32
  go_wp2_with fail
  go_loopw [1, 5] (fun kk i wr => ∃ (j : Nat) (kj : Int), j ≤ xs.length ∧ i = .int .i64 j ∧ kj = k + (cntAll Lay.tEntry.cnt (xs.take j) : Nat) ∧ kk = .int .i64 kj ∧ Below w.heap.size w wr) (fun _ i _ => xs.length - (intOf i).toNat)
  case atStart => exact ⟨0, k, Nat.zero_le _, rfl, by simp [cntAll], rfl, Below.refl _ _⟩
  case round =>
    obtain ⟨j, kj, hj, rfl, hkj, rfl, hB⟩ := hrel
    by_cases hlt : j < xs.length
    · have hj2 : j < (mkAll Lay.tEntry.cnt Lay.tEntry.mkd k xs).length := by rw [mkAll_size]; exact hlt
      obtain ⟨row, hc, hr⟩ := Lay.row_at (unhide H) hj2
      rw [mkAll_at _ _ _ _ _ hlt hj2, ← hkj, mkd_Entry] at hr
      have HT := hide (Lay.cntAll_take (f := Lay.tEntry.cnt) hlt)
      have hle := Lay.cntAll_take_le (f := Lay.tEntry.cnt) (xs := xs) (k := j + 1)
      rw [unhide HT] at hle
      clear hj2
      generalize hx : xs[j] = x at *
      clear hx
      have hcn := cnt_Entry x
      have hb1 : 0 ≤ kj := by omega
      have hb2 : kj + (Lay.tEntry.cnt x : Int) ≤ 1000000000 := by omega
      have HK := hide hkj
      clear hkj hle
      replace hr := hr.later hB
      obtain ⟨a4, d4, a9, d9, a10, d10, rfl, R4, R9, R10⟩ := open_Entry hr
      clear hr
      generalize hn4 : (⟨kj, kj + 1, kj + 1 + 1, kj + 1 + 1 + 1, (Lay.sl Lay.int).mkv (kj + 1 + 1 + 1 + 1) x.query, kj + 1 + 1 + 1 + 1 + ((Lay.sl Lay.int).vcnt x.query : Nat), kj + 1 + 1 + 1 + 1 + ((Lay.sl Lay.int).vcnt x.query : Nat) + 1, kj + 1 + 1 + 1 + 1 + ((Lay.sl Lay.int).vcnt x.query : Nat) + 1 + 1, kj + 1 + 1 + 1 + 1 + ((Lay.sl Lay.int).vcnt x.query : Nat) + 1 + 1 + 1, (Lay.sl Lay.int).mkv (kj + 1 + 1 + 1 + 1 + ((Lay.sl Lay.int).vcnt x.query : Nat) + 1 + 1 + 1 + 1) x.vec, (Lay.sl Lay.tHit).mkv (kj + 1 + 1 + 1 + 1 + ((Lay.sl Lay.int).vcnt x.query : Nat) + 1 + 1 + 1 + 1 + ((Lay.sl Lay.int).vcnt x.vec : Nat)) x.hits⟩ : DEntry).query.length = n4 at *
      generalize hn9 : (⟨kj, kj + 1, kj + 1 + 1, kj + 1 + 1 + 1, (Lay.sl Lay.int).mkv (kj + 1 + 1 + 1 + 1) x.query, kj + 1 + 1 + 1 + 1 + ((Lay.sl Lay.int).vcnt x.query : Nat), kj + 1 + 1 + 1 + 1 + ((Lay.sl Lay.int).vcnt x.query : Nat) + 1, kj + 1 + 1 + 1 + 1 + ((Lay.sl Lay.int).vcnt x.query : Nat) + 1 + 1, kj + 1 + 1 + 1 + 1 + ((Lay.sl Lay.int).vcnt x.query : Nat) + 1 + 1 + 1, (Lay.sl Lay.int).mkv (kj + 1 + 1 + 1 + 1 + ((Lay.sl Lay.int).vcnt x.query : Nat) + 1 + 1 + 1 + 1) x.vec, (Lay.sl Lay.tHit).mkv (kj + 1 + 1 + 1 + 1 + ((Lay.sl Lay.int).vcnt x.query : Nat) + 1 + 1 + 1 + 1 + ((Lay.sl Lay.int).vcnt x.vec : Nat)) x.hits⟩ : DEntry).vec.length = n9 at *
      generalize hn10 : (⟨kj, kj + 1, kj + 1 + 1, kj + 1 + 1 + 1, (Lay.sl Lay.int).mkv (kj + 1 + 1 + 1 + 1) x.query, kj + 1 + 1 + 1 + 1 + ((Lay.sl Lay.int).vcnt x.query : Nat), kj + 1 + 1 + 1 + 1 + ((Lay.sl Lay.int).vcnt x.query : Nat) + 1, kj + 1 + 1 + 1 + 1 + ((Lay.sl Lay.int).vcnt x.query : Nat) + 1 + 1, kj + 1 + 1 + 1 + 1 + ((Lay.sl Lay.int).vcnt x.query : Nat) + 1 + 1 + 1, (Lay.sl Lay.int).mkv (kj + 1 + 1 + 1 + 1 + ((Lay.sl Lay.int).vcnt x.query : Nat) + 1 + 1 + 1 + 1) x.vec, (Lay.sl Lay.tHit).mkv (kj + 1 + 1 + 1 + 1 + ((Lay.sl Lay.int).vcnt x.query : Nat) + 1 + 1 + 1 + 1 + ((Lay.sl Lay.int).vcnt x.vec : Nat)) x.hits⟩ : DEntry).hits.length = n10 at *
      clear hn4 hn9 hn10
      have c0 : wr.cell? ⟨b, off + j * 11, none⟩ = some (.int .i64 (kj)) := (hB.cell (p := ⟨b, off + j * 11, none⟩) hbl).trans (hc 0 (by decide))
      have e0 : ((kj : Int) != (kj : Int)) = false := by simp
      have c1 : wr.cell? ⟨b, off + j * 11 + 1, none⟩ = some (.int .i64 (kj + 1)) := (hB.cell (p := ⟨b, off + j * 11 + 1, none⟩) hbl).trans (hc 1 (by decide))
      have e1 : ((kj + 1 : Int) != (kj + 1 : Int)) = false := by simp
      have c2 : wr.cell? ⟨b, off + j * 11 + 2, none⟩ = some (.int .i64 (kj + 1 + 1)) := (hB.cell (p := ⟨b, off + j * 11 + 2, none⟩) hbl).trans (hc 2 (by decide))
      have e2 : ((kj + 1 + 1 : Int) != (kj + 1 + 1 : Int)) = false := by simp
      have c3 : wr.cell? ⟨b, off + j * 11 + 3, none⟩ = some (.int .i64 (kj + 1 + 1 + 1)) := (hB.cell (p := ⟨b, off + j * 11 + 3, none⟩) hbl).trans (hc 3 (by decide))
      have e3 : ((kj + 1 + 1 + 1 : Int) != (kj + 1 + 1 + 1 : Int)) = false := by simp
      have c4 : wr.cell? ⟨b, off + j * 11 + 4, none⟩ = some (.slice a4 n4 d4) := (hB.cell (p := ⟨b, off + j * 11 + 4, none⟩) hbl).trans (hc 4 (by decide))
      have c5 : wr.cell? ⟨b, off + j * 11 + 5, none⟩ = some (.int .i64 (kj + 1 + 1 + 1 + 1 + ((Lay.sl Lay.int).vcnt x.query : Nat))) := (hB.cell (p := ⟨b, off + j * 11 + 5, none⟩) hbl).trans (hc 5 (by decide))
      have e5 : ((kj + 1 + 1 + 1 + 1 + ((Lay.sl Lay.int).vcnt x.query : Nat) : Int) != (kj + 1 + 1 + 1 + 1 + ((Lay.sl Lay.int).vcnt x.query : Nat) : Int)) = false := by simp
      have c6 : wr.cell? ⟨b, off + j * 11 + 6, none⟩ = some (.int .i64 (kj + 1 + 1 + 1 + 1 + ((Lay.sl Lay.int).vcnt x.query : Nat) + 1)) := (hB.cell (p := ⟨b, off + j * 11 + 6, none⟩) hbl).trans (hc 6 (by decide))
      have e6 : ((kj + 1 + 1 + 1 + 1 + ((Lay.sl Lay.int).vcnt x.query : Nat) + 1 : Int) != (kj + 1 + 1 + 1 + 1 + ((Lay.sl Lay.int).vcnt x.query : Nat) + 1 : Int)) = false := by simp
      have c7 : wr.cell? ⟨b, off + j * 11 + 7, none⟩ = some (.int .i64 (kj + 1 + 1 + 1 + 1 + ((Lay.sl Lay.int).vcnt x.query : Nat) + 1 + 1)) := (hB.cell (p := ⟨b, off + j * 11 + 7, none⟩) hbl).trans (hc 7 (by decide))
      have e7 : ((kj + 1 + 1 + 1 + 1 + ((Lay.sl Lay.int).vcnt x.query : Nat) + 1 + 1 : Int) != (kj + 1 + 1 + 1 + 1 + ((Lay.sl Lay.int).vcnt x.query : Nat) + 1 + 1 : Int)) = false := by simp
      have c8 : wr.cell? ⟨b, off + j * 11 + 8, none⟩ = some (.int .i64 (kj + 1 + 1 + 1 + 1 + ((Lay.sl Lay.int).vcnt x.query : Nat) + 1 + 1 + 1)) := (hB.cell (p := ⟨b, off + j * 11 + 8, none⟩) hbl).trans (hc 8 (by decide))
      have e8 : ((kj + 1 + 1 + 1 + 1 + ((Lay.sl Lay.int).vcnt x.query : Nat) + 1 + 1 + 1 : Int) != (kj + 1 + 1 + 1 + 1 + ((Lay.sl Lay.int).vcnt x.query : Nat) + 1 + 1 + 1 : Int)) = false := by simp
      have c9 : wr.cell? ⟨b, off + j * 11 + 9, none⟩ = some (.slice a9 n9 d9) := (hB.cell (p := ⟨b, off + j * 11 + 9, none⟩) hbl).trans (hc 9 (by decide))
      have c10 : wr.cell? ⟨b, off + j * 11 + 10, none⟩ = some (.slice a10 n10 d10) := (hB.cell (p := ⟨b, off + j * 11 + 10, none⟩) hbl).trans (hc 10 (by decide))
      have l1 : b < wr.heap.size := Nat.lt_of_lt_of_le hbl hB.size
      have HB := hide hB
      clear hB hc
      have P4 := hide R4
      clear R4
      have P9 := hide R9
      clear R9
      have P10 := hide R10
      clear R10
      go_wp2_with fail
      refine (held_Int64S _ x.query (kj + 1 + 1 + 1 + 1) _ (unhide P4) (by omega) (by omega)).mono ?_
      rintro e u0 ⟨rfl, hb⟩
      replace c5 := (hb.cell (p := ⟨b, off + j * 11 + 5, none⟩) l1).trans c5
      replace c6 := (hb.cell (p := ⟨b, off + j * 11 + 6, none⟩) l1).trans c6
      replace c7 := (hb.cell (p := ⟨b, off + j * 11 + 7, none⟩) l1).trans c7
      replace c8 := (hb.cell (p := ⟨b, off + j * 11 + 8, none⟩) l1).trans c8
      replace c9 := (hb.cell (p := ⟨b, off + j * 11 + 9, none⟩) l1).trans c9
      replace c10 := (hb.cell (p := ⟨b, off + j * 11 + 10, none⟩) l1).trans c10
      replace P9 := hide ((unhide P9).later hb)
      replace P10 := hide ((unhide P10).later hb)
      replace HB := hide ((unhide HB).trans (hb.mono (unhide HB).size))
      replace l1 := Nat.lt_of_lt_of_le l1 hb.size
      clear hb P4 c4
      have hq : decide (kj + 1 + 1 + 1 + 1 + ((Lay.sl Lay.int).vcnt x.query : Int) < 0) = false := by simp; omega
      go_wp2_with fail
      refine (held_Int64S _ x.vec (kj + 1 + 1 + 1 + 1 + ((Lay.sl Lay.int).vcnt x.query : Nat) + 1 + 1 + 1 + 1) _ (unhide P9) (by omega) (by omega)).mono ?_
      rintro e u1 ⟨rfl, hb⟩
      replace c10 := (hb.cell (p := ⟨b, off + j * 11 + 10, none⟩) l1).trans c10
      replace P10 := hide ((unhide P10).later hb)
      replace HB := hide ((unhide HB).trans (hb.mono (unhide HB).size))
      replace l1 := Nat.lt_of_lt_of_le l1 hb.size
      clear hb P9 c9
      have hq : decide (kj + 1 + 1 + 1 + 1 + ((Lay.sl Lay.int).vcnt x.query : Nat) + 1 + 1 + 1 + 1 + ((Lay.sl Lay.int).vcnt x.vec : Int) < 0) = false := by simp; omega
      go_wp2_with fail
      refine (held_HitS _ x.hits (kj + 1 + 1 + 1 + 1 + ((Lay.sl Lay.int).vcnt x.query : Nat) + 1 + 1 + 1 + 1 + ((Lay.sl Lay.int).vcnt x.vec : Nat)) _ (unhide P10) (by omega) (by omega)).mono ?_
      rintro e u2 ⟨rfl, hb⟩
      replace HB := hide ((unhide HB).trans (hb.mono (unhide HB).size))
      replace l1 := Nat.lt_of_lt_of_le l1 hb.size
      clear hb P10 c10
      have hq : decide (kj + 1 + 1 + 1 + 1 + ((Lay.sl Lay.int).vcnt x.query : Nat) + 1 + 1 + 1 + 1 + ((Lay.sl Lay.int).vcnt x.vec : Nat) + ((Lay.sl Lay.tHit).vcnt x.hits : Int) < 0) = false := by simp; omega
      go_wp2_with fail
      go_roundw
      case rel => exact ⟨j + 1, _, by omega, by go_num, (by rw [unhide HT, hcn]; have := unhide HK; omega), rfl, unhide HB⟩
      case measure => simp [intOf]; omega
    · obtain rfl : j = xs.length := by omega
      rw [List.take_length] at hkj
      have HK := hide hkj
      have HB := hide hB
      clear hB hkj
      go_wp2_with fail
      go_ret
      exact ⟨by rw [← unhide HK]; rfl, unhide HB⟩

theorem heldEntry_zero (ao : Option Addr) (cap : Nat) (k : Int) (w : World) :
    Calls Try.prog 32 #[.slice ao 0 cap, .int .i64 k] w fun e w' => e = .returned (.int .i64 k) ∧ w' = w := by
  go_enter Try.func32, Try.ntmps32
  go_wp2_with fail
  refine wp_loop_rounds 1 ?_
  rw [rounds_succ]
  go_wp2_with fail
  go_ret
  exact ⟨rfl, rfl⟩

/-- heldEntryS. -/
theorem held_EntryS (v : Value) (xs : List DEntry) (k : Int) (w : World) (h : (Lay.sl Lay.tEntry).Reads w [v] ((Lay.sl Lay.tEntry).mkv k xs)) (hk : 0 ≤ k) (hk2 : k + (Lay.sl Lay.tEntry).vcnt xs ≤ 1000000000) :
    Calls Try.prog 32 #[v, .int .i64 k] w fun e w' => e = .returned (.int .i64 (k + (Lay.sl Lay.tEntry).vcnt xs)) ∧ Below w.heap.size w w' := by
  rw [mkv_EntryS] at h
  obtain ⟨ao, cap, rfl⟩ := open_sl h
  by_cases hp : 0 < xs.length
  · obtain ⟨b, off, rfl, hbl⟩ := Lay.sl_addr h (by rw [mkAll_size]; exact hp)
    have L := heldEntry_pos b off cap xs k w h hbl hk hk2
    rw [mkAll_size]
    exact L
  · obtain rfl : xs = [] := List.eq_nil_of_length_eq_zero (by omega)
    refine (heldEntry_zero ao cap k w).mono ?_
    rintro e w' ⟨rfl, rfl⟩
    exact ⟨by rw [vcnt_EntryS]; simp [cntAll], Below.refl _ _⟩

end Go.Proofs.Ythpbdafhjakekaa

namespace Go.Proofs.Ythpbdafhjakekaa
open Go.RowKit

set_option maxRecDepth 10000 in
set_option maxHeartbeats 1000000 in
theorem held_World (cs : List Value) (x : DWorld) (k : Int) (w : World) (h : Lay.tWorld.Reads w cs (Lay.tWorld.mkv k x)) (hk : 0 ≤ k) (hk2 : k + Lay.tWorld.vcnt x ≤ 1000000000) :
    Calls Try.prog 16 #[.agg cs.toArray, .int .i64 k] w fun e w' => e = .returned (.int .i64 (k + Lay.tWorld.vcnt x)) ∧ Below w.heap.size w w' := by
  rw [mkv_World] at h
  rw [vcnt_World] at hk2
  have HV := hide (vcnt_World x)
  obtain ⟨a3, d3, a4, d4, a5, d5, a6, d6, rfl, R2, R4, R5, R6⟩ := open_World h
  clear h
  generalize hn3 : (⟨x.now, x.events, Lay.tChain.mkv (k) x.chain, (Lay.sl Lay.tNode).mkv (k + (Lay.tChain.vcnt x.chain : Int)) x.nodes, (Lay.sl Lay.tMsg).mkv (k + (Lay.tChain.vcnt x.chain : Int) + ((Lay.sl Lay.tNode).vcnt x.nodes : Int)) x.msgs, (Lay.sl Lay.tEntry).mkv (k + (Lay.tChain.vcnt x.chain : Int) + ((Lay.sl Lay.tNode).vcnt x.nodes : Int) + ((Lay.sl Lay.tMsg).vcnt x.msgs : Int)) x.history⟩ : DWorld).chain.ids.length = n3 at *
  generalize hn4 : (⟨x.now, x.events, Lay.tChain.mkv (k) x.chain, (Lay.sl Lay.tNode).mkv (k + (Lay.tChain.vcnt x.chain : Int)) x.nodes, (Lay.sl Lay.tMsg).mkv (k + (Lay.tChain.vcnt x.chain : Int) + ((Lay.sl Lay.tNode).vcnt x.nodes : Int)) x.msgs, (Lay.sl Lay.tEntry).mkv (k + (Lay.tChain.vcnt x.chain : Int) + ((Lay.sl Lay.tNode).vcnt x.nodes : Int) + ((Lay.sl Lay.tMsg).vcnt x.msgs : Int)) x.history⟩ : DWorld).nodes.length = n4 at *
  generalize hn5 : (⟨x.now, x.events, Lay.tChain.mkv (k) x.chain, (Lay.sl Lay.tNode).mkv (k + (Lay.tChain.vcnt x.chain : Int)) x.nodes, (Lay.sl Lay.tMsg).mkv (k + (Lay.tChain.vcnt x.chain : Int) + ((Lay.sl Lay.tNode).vcnt x.nodes : Int)) x.msgs, (Lay.sl Lay.tEntry).mkv (k + (Lay.tChain.vcnt x.chain : Int) + ((Lay.sl Lay.tNode).vcnt x.nodes : Int) + ((Lay.sl Lay.tMsg).vcnt x.msgs : Int)) x.history⟩ : DWorld).msgs.length = n5 at *
  generalize hn6 : (⟨x.now, x.events, Lay.tChain.mkv (k) x.chain, (Lay.sl Lay.tNode).mkv (k + (Lay.tChain.vcnt x.chain : Int)) x.nodes, (Lay.sl Lay.tMsg).mkv (k + (Lay.tChain.vcnt x.chain : Int) + ((Lay.sl Lay.tNode).vcnt x.nodes : Int)) x.msgs, (Lay.sl Lay.tEntry).mkv (k + (Lay.tChain.vcnt x.chain : Int) + ((Lay.sl Lay.tNode).vcnt x.nodes : Int) + ((Lay.sl Lay.tMsg).vcnt x.msgs : Int)) x.history⟩ : DWorld).history.length = n6 at *
  clear hn3 hn4 hn5 hn6
  generalize hn2 : (⟨x.now, x.events, Lay.tChain.mkv (k) x.chain, (Lay.sl Lay.tNode).mkv (k + (Lay.tChain.vcnt x.chain : Int)) x.nodes, (Lay.sl Lay.tMsg).mkv (k + (Lay.tChain.vcnt x.chain : Int) + ((Lay.sl Lay.tNode).vcnt x.nodes : Int)) x.msgs, (Lay.sl Lay.tEntry).mkv (k + (Lay.tChain.vcnt x.chain : Int) + ((Lay.sl Lay.tNode).vcnt x.nodes : Int) + ((Lay.sl Lay.tMsg).vcnt x.msgs : Int)) x.history⟩ : DWorld).chain.epoch = n2 at *
  clear hn2
  have HB0 : Below w.heap.size w (w.alloc (.cells #[.int .i64 x.now, .int .i64 x.events, .int .i64 n2, .slice a3 n3 d3, .slice a4 n4 d4, .slice a5 n5 d5, .slice a6 n6 d6] 29)) := (Below.refl _ _).alloc (Nat.le_refl _) _
  have bA : Box w.heap.size #[.int .i64 x.now, .int .i64 x.events, .int .i64 n2, .slice a3 n3 d3, .slice a4 n4 d4, .slice a5 n5 d5, .slice a6 n6 d6] 29 (w.alloc (.cells #[.int .i64 x.now, .int .i64 x.events, .int .i64 n2, .slice a3 n3 d3, .slice a4 n4 d4, .slice a5 n5 d5, .slice a6 n6 d6] 29)) w.heap.size := newBox (Nat.le_refl _)
  go_enter Try.func16, Try.ntmps16
  go_wp2_with fail
  generalize w.alloc (.cells #[.int .i64 x.now, .int .i64 x.events, .int .i64 n2, .slice a3 n3 d3, .slice a4 n4 d4, .slice a5 n5 d5, .slice a6 n6 d6] 29) = W0 at *
  replace R2 := R2.later HB0
  replace R4 := R4.later HB0
  replace R5 := R5.later HB0
  replace R6 := R6.later HB0
  refine (held_Chain _ x.chain (k) _ R2 (by omega) (by omega)).mono ?_
  rintro e w1 ⟨rfl, hb⟩
  replace HB0 := HB0.trans (hb.mono HB0.size)
  replace bA := bA.keep hb
  replace R4 := R4.later hb
  have p4 := bA.at 4 _ rfl
  replace R5 := R5.later hb
  have p5 := bA.at 5 _ rfl
  replace R6 := R6.later hb
  have p6 := bA.at 6 _ rfl
  have HA := hide bA
  have HX := hide HB0
  clear bA HB0 hb R2
  have P4 := hide R4
  clear R4
  have P5 := hide R5
  clear R5
  have P6 := hide R6
  clear R6
  have hq : decide (k + (Lay.tChain.vcnt x.chain : Int) < 0) = false := by simp; omega
  go_wp2_with fail
  clear hq
  have bA := unhide HA
  have HB0 := unhide HX
  clear HA HX
  have R4 := unhide P4
  clear P4
  have R5 := unhide P5
  clear P5
  have R6 := unhide P6
  clear P6
  clear p4
  clear p5
  clear p6
  refine (held_NodeS _ x.nodes (k + (Lay.tChain.vcnt x.chain : Int)) _ R4 (by omega) (by omega)).mono ?_
  rintro e w2 ⟨rfl, hb⟩
  replace HB0 := HB0.trans (hb.mono HB0.size)
  replace bA := bA.keep hb
  replace R5 := R5.later hb
  have p5 := bA.at 5 _ rfl
  replace R6 := R6.later hb
  have p6 := bA.at 6 _ rfl
  have HA := hide bA
  have HX := hide HB0
  clear bA HB0 hb R4
  have P5 := hide R5
  clear R5
  have P6 := hide R6
  clear R6
  have hq : decide (k + (Lay.tChain.vcnt x.chain : Int) + ((Lay.sl Lay.tNode).vcnt x.nodes : Int) < 0) = false := by simp; omega
  go_wp2_with fail
  clear hq
  have bA := unhide HA
  have HB0 := unhide HX
  clear HA HX
  have R5 := unhide P5
  clear P5
  have R6 := unhide P6
  clear P6
  clear p5
  clear p6
  refine (held_MsgS _ x.msgs (k + (Lay.tChain.vcnt x.chain : Int) + ((Lay.sl Lay.tNode).vcnt x.nodes : Int)) _ R5 (by omega) (by omega)).mono ?_
  rintro e w3 ⟨rfl, hb⟩
  replace HB0 := HB0.trans (hb.mono HB0.size)
  replace bA := bA.keep hb
  replace R6 := R6.later hb
  have p6 := bA.at 6 _ rfl
  have HA := hide bA
  have HX := hide HB0
  clear bA HB0 hb R5
  have P6 := hide R6
  clear R6
  have hq : decide (k + (Lay.tChain.vcnt x.chain : Int) + ((Lay.sl Lay.tNode).vcnt x.nodes : Int) + ((Lay.sl Lay.tMsg).vcnt x.msgs : Int) < 0) = false := by simp; omega
  go_wp2_with fail
  clear hq
  have bA := unhide HA
  have HB0 := unhide HX
  clear HA HX
  have R6 := unhide P6
  clear P6
  clear p6
  refine (held_EntryS _ x.history (k + (Lay.tChain.vcnt x.chain : Int) + ((Lay.sl Lay.tNode).vcnt x.nodes : Int) + ((Lay.sl Lay.tMsg).vcnt x.msgs : Int)) _ R6 (by omega) (by omega)).mono ?_
  rintro e w4 ⟨rfl, hb⟩
  replace HB0 := HB0.trans (hb.mono HB0.size)
  replace bA := bA.keep hb
  have HA := hide bA
  have HX := hide HB0
  clear bA HB0 hb R6
  have hq : decide (k + (Lay.tChain.vcnt x.chain : Int) + ((Lay.sl Lay.tNode).vcnt x.nodes : Int) + ((Lay.sl Lay.tMsg).vcnt x.msgs : Int) + ((Lay.sl Lay.tEntry).vcnt x.history : Int) < 0) = false := by simp; omega
  go_wp2_with fail
  clear hq
  go_ret
  refine ⟨?_, unhide HX⟩
  rw [show k + (Lay.tWorld.vcnt x : Int) = k + (Lay.tChain.vcnt x.chain : Int) + ((Lay.sl Lay.tNode).vcnt x.nodes : Int) + ((Lay.sl Lay.tMsg).vcnt x.msgs : Int) + ((Lay.sl Lay.tEntry).vcnt x.history : Int) by rw [unhide HV]; omega]
  rfl

end Go.Proofs.Ythpbdafhjakekaa

namespace Go.Proofs.Ythpbdafhjakekaa
open Go.RowKit

set_option maxRecDepth 10000 in
set_option maxHeartbeats 1000000 in
theorem held_WorldResult (cs : List Value) (x : DWorldResult) (k : Int) (w : World) (h : Lay.tWorldResult.Reads w cs (Lay.tWorldResult.mkv k x)) (hk : 0 ≤ k) (hk2 : k + Lay.tWorldResult.vcnt x ≤ 1000000000) :
    Calls Try.prog 8 #[.agg cs.toArray, .int .i64 k] w fun e w' => e = .returned (.int .i64 (k + Lay.tWorldResult.vcnt x)) ∧ Below w.heap.size w w' := by
  rw [mkv_WorldResult] at h
  rw [vcnt_WorldResult] at hk2
  have HV := hide (vcnt_WorldResult x)
  obtain ⟨a5, d5, a6, d6, a7, d7, a8, d8, rfl, R2⟩ := open_WorldResult h
  clear h
  generalize hn5 : (⟨x.code, x.moved, Lay.tWorld.mkv (k) x.world⟩ : DWorldResult).world.chain.ids.length = n5 at *
  generalize hn6 : (⟨x.code, x.moved, Lay.tWorld.mkv (k) x.world⟩ : DWorldResult).world.nodes.length = n6 at *
  generalize hn7 : (⟨x.code, x.moved, Lay.tWorld.mkv (k) x.world⟩ : DWorldResult).world.msgs.length = n7 at *
  generalize hn8 : (⟨x.code, x.moved, Lay.tWorld.mkv (k) x.world⟩ : DWorldResult).world.history.length = n8 at *
  clear hn5 hn6 hn7 hn8
  generalize hn2 : (⟨x.code, x.moved, Lay.tWorld.mkv (k) x.world⟩ : DWorldResult).world.now = n2 at *
  generalize hn3 : (⟨x.code, x.moved, Lay.tWorld.mkv (k) x.world⟩ : DWorldResult).world.events = n3 at *
  generalize hn4 : (⟨x.code, x.moved, Lay.tWorld.mkv (k) x.world⟩ : DWorldResult).world.chain.epoch = n4 at *
  clear hn2 hn3 hn4
  have HB0 : Below w.heap.size w (w.alloc (.cells #[.int .i64 x.code, .bool x.moved, .int .i64 n2, .int .i64 n3, .int .i64 n4, .slice a5 n5 d5, .slice a6 n6 d6, .slice a7 n7 d7, .slice a8 n8 d8] 31)) := (Below.refl _ _).alloc (Nat.le_refl _) _
  have bA : Box w.heap.size #[.int .i64 x.code, .bool x.moved, .int .i64 n2, .int .i64 n3, .int .i64 n4, .slice a5 n5 d5, .slice a6 n6 d6, .slice a7 n7 d7, .slice a8 n8 d8] 31 (w.alloc (.cells #[.int .i64 x.code, .bool x.moved, .int .i64 n2, .int .i64 n3, .int .i64 n4, .slice a5 n5 d5, .slice a6 n6 d6, .slice a7 n7 d7, .slice a8 n8 d8] 31)) w.heap.size := newBox (Nat.le_refl _)
  go_enter Try.func8, Try.ntmps8
  go_wp2_with fail
  generalize w.alloc (.cells #[.int .i64 x.code, .bool x.moved, .int .i64 n2, .int .i64 n3, .int .i64 n4, .slice a5 n5 d5, .slice a6 n6 d6, .slice a7 n7 d7, .slice a8 n8 d8] 31) = W0 at *
  replace R2 := R2.later HB0
  refine (held_World _ x.world (k) _ R2 (by omega) (by omega)).mono ?_
  rintro e w1 ⟨rfl, hb⟩
  replace HB0 := HB0.trans (hb.mono HB0.size)
  replace bA := bA.keep hb
  have HA := hide bA
  have HX := hide HB0
  clear bA HB0 hb R2
  have hq : decide (k + (Lay.tWorld.vcnt x.world : Int) < 0) = false := by simp; omega
  go_wp2_with fail
  clear hq
  go_ret
  refine ⟨?_, unhide HX⟩
  rw [show k + (Lay.tWorldResult.vcnt x : Int) = k + (Lay.tWorld.vcnt x.world : Int) by rw [unhide HV]]
  rfl

end Go.Proofs.Ythpbdafhjakekaa
