/-
  Texts of this proof in one: ImplPack, ImplPackAll, SpecPackAll, RegIn, ChunkPlain, ImplChunk, AppWriteIn.
  Their conditions stand in their theorems.
-/
import Derived.Test.YtipomhpimmnchaaLq08
import Derived.Test.YtipomhpimmnchaaLq05
import Derived.Test.YtipomhpimmnchaaLq04
import Derived.Test.YtipomhpimmnchaaLq06
import Derived.Deep.RegionHeld3
import Derived.Test.YtipomhpimmnchaaLq07
import Derived.Test.YtipomhpimmnchaaChecked

namespace Go.Proofs.Ytipomhpimmnchaa
open Go.RowKit

theorem assertPut (v : Value) (w : World) : (Instr.typeAssert (.iface 123 v) 106 123 true).run Try.prog w = .ok (.tuple #[v, .bool true]) w := by kernel_rfl
theorem assertDrop (v : Value) (w : World) : (Instr.typeAssert (.iface 119 v) 106 123 true).run Try.prog w = .ok (.tuple #[.agg #[.int .i64 0, .int .i64 0, .int .i64 0], .bool false]) w := by kernel_rfl

theorem partsPut (x y z : Int) (w : World) : Calls Try.prog 85 #[putV x y z] w fun e w' => e = .returned (arr3 x y z) ∧ Below w.heap.size w w' := by
  simp only [putV]
  have a1 := assertPut
  have HB : Hid (∀ o p, Below w.heap.size w ((w.alloc o).alloc p)) := fun o p => ((Below.refl _ _).alloc (Nat.le_refl _) o).alloc (by simp) p
  go_enter Try.func85, Try.ntmps85
  go_wp2
  refine bodyPost_ret (v := arr3 x y z) (by simp [results, Try.results85, go_sem, arr3]) rfl ⟨rfl, ?_⟩
  exact unhide HB _ _
theorem partsDrop (w : World) : Calls Try.prog 85 #[dropV] w fun e w' => e = .returned (arr3 0 0 0) ∧ Below w.heap.size w w' := by
  simp only [dropV]
  have a1 := assertDrop
  go_enter Try.func85, Try.ntmps85
  go_wp2
  refine bodyPost_ret (v := arr3 0 0 0) (by simp [results, Try.results85, go_sem, arr3]) rfl ⟨rfl, ?_⟩
  exact (Below.refl _ _).alloc (Nat.le_refl _) _
set_option maxHeartbeats 1000000 in
theorem sealC (g cap : Nat) (a b c d x y z : Int) (w : World)
    (c0 : w.cell? ⟨g, 0, none⟩ = some (.int .i64 a)) (c1 : w.cell? ⟨g, 1, none⟩ = some (.int .i64 b)) (c2 : w.cell? ⟨g, 2, none⟩ = some (.int .i64 c)) (c3 : w.cell? ⟨g, 3, none⟩ = some (.int .i64 d))
    (c4 : w.cell? ⟨g, 4, none⟩ = some (.int .i64 x)) (c5 : w.cell? ⟨g, 5, none⟩ = some (.int .i64 y)) (c6 : w.cell? ⟨g, 6, none⟩ = some (.int .i64 z))
    (ba : 1 ≤ a ∧ a ≤ 2) (bb : 1 ≤ b ∧ b ≤ 999) (bc : 1 ≤ c ∧ c ≤ 9) (bd : 1 ≤ d ∧ d ≤ 999) (bx : -1000 ≤ x ∧ x ≤ 1000) (bY : -1000 ≤ y ∧ y ≤ 1000) (bz : -1000 ≤ z ∧ z ≤ 1000) :
    Calls Try.prog 86 #[.slice (some ⟨g, 0, none⟩) 7 cap] w fun e w' => e = .returned (.int .i64 (checkOf (packSum a b c d x y z))) ∧ Below w.heap.size w w' := by
  have hgl : g < w.heap.size := World.block_lt_of_cell? _ _ c0
  obtain ⟨a1, a2⟩ := ba
  obtain ⟨b1, b2⟩ := bb
  obtain ⟨e1, e2⟩ := bc
  obtain ⟨d1, d2⟩ := bd
  obtain ⟨m1, m2⟩ := bx
  obtain ⟨m3, m4⟩ := bY
  obtain ⟨m5, m6⟩ := bz
  have x0 : ∀ w : World, (Instr.index 124 (.agg #[.int .i64 1, .int .i64 3, .int .i64 5, .int .i64 7, .int .i64 11, .int .i64 13, .int .i64 17]) (.int .i64 0)).run Try.prog w = .ok (.int .i64 1) w := fun _ => by kernel_rfl
  have x1 : ∀ w : World, (Instr.index 124 (.agg #[.int .i64 1, .int .i64 3, .int .i64 5, .int .i64 7, .int .i64 11, .int .i64 13, .int .i64 17]) (.int .i64 1)).run Try.prog w = .ok (.int .i64 3) w := fun _ => by kernel_rfl
  have x2 : ∀ w : World, (Instr.index 124 (.agg #[.int .i64 1, .int .i64 3, .int .i64 5, .int .i64 7, .int .i64 11, .int .i64 13, .int .i64 17]) (.int .i64 2)).run Try.prog w = .ok (.int .i64 5) w := fun _ => by kernel_rfl
  have x3 : ∀ w : World, (Instr.index 124 (.agg #[.int .i64 1, .int .i64 3, .int .i64 5, .int .i64 7, .int .i64 11, .int .i64 13, .int .i64 17]) (.int .i64 3)).run Try.prog w = .ok (.int .i64 7) w := fun _ => by kernel_rfl
  have x4 : ∀ w : World, (Instr.index 124 (.agg #[.int .i64 1, .int .i64 3, .int .i64 5, .int .i64 7, .int .i64 11, .int .i64 13, .int .i64 17]) (.int .i64 4)).run Try.prog w = .ok (.int .i64 11) w := fun _ => by kernel_rfl
  have x5 : ∀ w : World, (Instr.index 124 (.agg #[.int .i64 1, .int .i64 3, .int .i64 5, .int .i64 7, .int .i64 11, .int .i64 13, .int .i64 17]) (.int .i64 5)).run Try.prog w = .ok (.int .i64 13) w := fun _ => by kernel_rfl
  have x6 : ∀ w : World, (Instr.index 124 (.agg #[.int .i64 1, .int .i64 3, .int .i64 5, .int .i64 7, .int .i64 11, .int .i64 13, .int .i64 17]) (.int .i64 6)).run Try.prog w = .ok (.int .i64 17) w := fun _ => by kernel_rfl
  go_enter Try.func86, Try.ntmps86
  go_wp2
  refine wp_loop_rounds 8 ?_
  rw [rounds_succ]
  go_wp2
  rw [rounds_succ]
  go_wp2
  rw [rounds_succ]
  go_wp2
  rw [rounds_succ]
  go_wp2
  rw [rounds_succ]
  go_wp2
  rw [rounds_succ]
  go_wp2
  rw [rounds_succ]
  go_wp2
  rw [rounds_succ]
  go_wp2
  go_ret
  refine ⟨?_, (Below.refl _ _).alloc (Nat.le_refl _) _⟩
  have hT := tmod_bd (a + 3 * b + 5 * c + 7 * d + 11 * x + 13 * y + 17 * z)
  have hW : wrap64 ((a + 3 * b + 5 * c + 7 * d + 11 * x + 13 * y + 17 * z).tmod 997 + 997) = (a + 3 * b + 5 * c + 7 * d + 11 * x + 13 * y + 17 * z).tmod 997 + 997 := by
    unfold wrap64
    omega
  simp [checkOf, packSum, hW]

theorem partsC (k : Int) (zs : List Int) (w : World) : Calls Try.prog 85 #[deedV k zs] w fun e w' => e = .returned (arr3 ((partsOf k zs).getD 0 0) ((partsOf k zs).getD 1 0) ((partsOf k zs).getD 2 0)) ∧ Below w.heap.size w w' := by
  by_cases hk : k = 1
  · simp only [deedV, partsOf, if_pos hk]
    exact partsPut _ _ _ w
  · simp only [deedV, partsOf, if_neg hk]
    exact partsDrop w

theorem partsBd {k i s q : Int} {zs : List Int} (h : writeFault k i zs s q = 0) : ∀ j, -1000 ≤ (partsOf k zs).getD j 0 ∧ (partsOf k zs).getD j 0 ≤ 1000 := by
  intro j
  obtain ⟨-, -, -, hk⟩ := writeFault_zero h
  rcases hk with ⟨rfl, hv⟩ | ⟨rfl, rfl⟩
  · obtain ⟨hl, -⟩ := vecFault_zero hv
    match zs, hl with
    | [x, y, z], _ =>
    obtain ⟨b1, b2, b3⟩ := fault3 hv
    rw [partsOf, if_pos rfl]
    match j with
    | 0 => exact b1
    | 1 => exact b2
    | 2 => exact b3
    | n + 3 => simp
  · rw [partsOf, if_neg (by omega)]
    match j with
    | 0 => simp
    | 1 => simp
    | 2 => simp
    | n + 3 => simp

set_option maxHeartbeats 2000000 in
theorem packOk (k i : Int) (ao : Option Addr) (cap : Nat) (s q : Int) (zs : List Int) (w : World) (h : IsInts w (.slice ao zs.length cap) zs) (hf : writeFault k i zs s q = 0) :
    Calls Try.prog 55 #[.agg #[.int .i64 k, .int .i64 i, .slice ao zs.length cap, .int .i64 s, .int .i64 q]] w fun e w' => ToldInts w w' e 0 (wordsOf k i zs s q) := by
  have B0 : Below w.heap.size w ((w.alloc (.cells #[.int .i64 k, .int .i64 i, .slice ao zs.length cap, .int .i64 s, .int .i64 q] 58)).alloc (.cells #[.int .i64 0, .slice none 0 0] 26)) := ((Below.refl _ _).alloc (Nat.le_refl _) _).alloc (by simp) _
  have bA : Box w.heap.size #[.int .i64 k, .int .i64 i, .slice ao zs.length cap, .int .i64 s, .int .i64 q] 58 ((w.alloc (.cells #[.int .i64 k, .int .i64 i, .slice ao zs.length cap, .int .i64 s, .int .i64 q] 58)).alloc (.cells #[.int .i64 0, .slice none 0 0] 26)) w.heap.size := (newBox (Nat.le_refl _)).alloc _
  have bR : Box w.heap.size #[.int .i64 0, .slice none 0 0] 26 ((w.alloc (.cells #[.int .i64 k, .int .i64 i, .slice ao zs.length cap, .int .i64 s, .int .i64 q] 58)).alloc (.cells #[.int .i64 0, .slice none 0 0] 26)) (w.heap.size + 1) := by
    have := newBox (lo := w.heap.size) (cs := #[.int .i64 0, .slice none 0 0]) (T := 26) (W := w.alloc (.cells #[.int .i64 k, .int .i64 i, .slice ao zs.length cap, .int .i64 s, .int .i64 q] 58)) (by simp)
    simpa using this
  have hz0 : ((w.alloc (.cells #[.int .i64 k, .int .i64 i, .slice ao zs.length cap, .int .i64 s, .int .i64 q] 58)).alloc (.cells #[.int .i64 0, .slice none 0 0] 26)).heap.size = w.heap.size + 2 := by simp
  have L := hide (implDeed k i _ s q zs _ (h.later B0))
  have hd : deedRes k i zs s q = deedV k zs := by rw [deedRes, if_pos hf]
  have HW : Hid (wordsOf k i zs s q = [k, i, s, q, (partsOf k zs).getD 0 0, (partsOf k zs).getD 1 0, (partsOf k zs).getD 2 0, checkOf (packSum k i s q ((partsOf k zs).getD 0 0) ((partsOf k zs).getD 1 0) ((partsOf k zs).getD 2 0))]) := rfl
  have PB := partsBd hf
  obtain ⟨i1, s1, q1, hk⟩ := writeFault_zero hf
  have k1 : 1 ≤ k ∧ k ≤ 2 := by omega
  have HD := hide hd
  have HF := hide hf
  clear h hd hf hk
  go_enter Try.func55, Try.ntmps55
  go_wp2_with fail
  generalize (w.alloc (.cells #[.int .i64 k, .int .i64 i, .slice ao zs.length cap, .int .i64 s, .int .i64 q] 58)).alloc (.cells #[.int .i64 0, .slice none 0 0] 26) = W0 at *
  refine (unhide L).mono ?_
  rintro e w1 ⟨rfl, hb1⟩
  rw [unhide HD, unhide HF]
  replace bA := bA.keep hb1
  replace bR := bR.keep hb1
  have HB1 := hide (B0.trans (hb1.mono B0.size))
  have hz1 : w.heap.size + 2 ≤ w1.heap.size := by have := hb1.size; omega
  clear hb1 B0 L HD HF
  obtain ⟨⟨a0, a1, a2, a3, a4⟩, -, al⟩ := bA.five
  obtain ⟨r0, r1, r2, r3⟩ := bR.two
  go_wp2_with fail
  have O1 : (w1.alloc (.cells #[.int .i64 k, .int .i64 i, .int .i64 s, .int .i64 q] 2)).ownsRow w1.heap.size 2 1 (.slice (some ⟨w1.heap.size, 0, none⟩) 4 4) 4 ([.int .i64 k, .int .i64 i, .int .i64 s, .int .i64 q]) := World.ownsRow_lit w1 _ 4 (Nat.le_refl _) (by unfold maxLen; omega) rfl
  refine (partsC k zs _).mono ?_
  rintro e w2 ⟨rfl, hb2⟩
  replace O1 := own_below O1 hb2
  have nb1 : Below w1.heap.size w1 (w1.alloc (.cells #[.int .i64 k, .int .i64 i, .int .i64 s, .int .i64 q] 2)) := (Below.refl _ _).alloc (Nat.le_refl _) _
  have HB2 := hide (nb1.trans (hb2.mono nb1.size))
  have hz2 : w1.heap.size < w2.heap.size := by have := hb2.size; simp at this; omega
  clear hb2 nb1 a0 a1 a2 a3 a4 r0 r1 r2 r3 bA
  have P0 := PB 0
  have P1 := PB 1
  have P2 := PB 2
  generalize (partsOf k zs).getD 0 0 = x at *
  generalize (partsOf k zs).getD 1 0 = y at *
  generalize (partsOf k zs).getD 2 0 = z at *
  clear PB
  have j0 : ∀ w : World, (Instr.index 110 (.agg #[.int .i64 x, .int .i64 y, .int .i64 z]) (.int .i64 0)).run Try.prog w = .ok (.int .i64 x) w := fun _ => by kernel_rfl
  have j1 : ∀ w : World, (Instr.index 110 (.agg #[.int .i64 x, .int .i64 y, .int .i64 z]) (.int .i64 1)).run Try.prog w = .ok (.int .i64 y) w := fun _ => by kernel_rfl
  have j2 : ∀ w : World, (Instr.index 110 (.agg #[.int .i64 x, .int .i64 y, .int .i64 z]) (.int .i64 2)).run Try.prog w = .ok (.int .i64 z) w := fun _ => by kernel_rfl
  simp only [arr3]
  go_wp2_with fail
  refine wp_loop_rounds 4 ?_
  rw [rounds_succ]
  go_wp2_with (at_builtin; refine wpList_append_int O1 x rfl _ _ rfl rfl rfl (by omega) (by omega) ?_)
  rintro g1 d1 w3 O2 - hb3 hl3 hz3
  replace HB2 := hide ((unhide HB2).trans hb3)
  clear O1 hb3
  go_wp2_with fail
  rw [rounds_succ]
  go_wp2_with (at_builtin; refine wpList_append_int O2 y rfl _ _ rfl rfl rfl (by omega) (by omega) ?_)
  rintro g2 d2 w4 O3 - hb4 hl4 hz4
  replace HB2 := hide ((unhide HB2).trans hb4)
  clear O2 hb4
  go_wp2_with fail
  rw [rounds_succ]
  go_wp2_with (at_builtin; refine wpList_append_int O3 z rfl _ _ rfl rfl rfl (by omega) (by omega) ?_)
  rintro g3 d3 w5 O4 - hb5 hl5 hz5
  replace HB2 := hide ((unhide HB2).trans hb5)
  clear O3 hb5
  go_wp2_with fail
  rw [rounds_succ]
  go_wp2_with fail
  have Lq := sealC g3 d3 k i s q x y z w5 (by rw [O4.cellAt 0 (by omega)]; rfl) (by rw [O4.cellAt 1 (by omega)]; rfl) (by rw [O4.cellAt 2 (by omega)]; rfl) (by rw [O4.cellAt 3 (by omega)]; rfl) (by rw [O4.cellAt 4 (by omega)]; rfl) (by rw [O4.cellAt 5 (by omega)]; rfl) (by rw [O4.cellAt 6 (by omega)]; rfl) k1 i1 s1 q1 P0 P1 P2
  refine Lq.mono ?_
  rintro e w6 ⟨rfl, hb6⟩
  replace O4 := own_below O4 hb6
  replace HB2 := hide ((unhide HB2).trans (hb6.mono (by omega)))
  have hz6 := hb6.size
  clear hb6 Lq j0 j1 j2
  generalize checkOf (packSum k i s q x y z) = c at *
  go_wp2_with (at_builtin; refine wpList_append_int O4 c rfl _ _ rfl rfl rfl (by omega) (by omega) ?_)
  rintro g4 d4 w7 O5 - hb7 hl7 hz7
  replace HB2 := hide ((unhide HB2).trans hb7)
  clear O4 hb7
  obtain ⟨r0, r1, r2, r3⟩ := (bR.keep (unhide HB2)).two
  go_wp2_with fail
  refine bodyPost_ret (v := intsRes 0 (.slice (some ⟨g4, 0, none⟩) 8 d4)) (by simp [results, Try.results55, go_sem, intsRes, r0, r1]) rfl ?_
  rw [unhide HW]
  refine ⟨_, rfl, own_mono (b := w1.heap.size) (by omega) ?_, (((unhide HB1).trans ((unhide HB2).mono (by omega))).setCell (by simp) _).setCell (by simp) _⟩
  exact own_setC (own_setC O5 (by simp; omega) _) (by simp; omega) _

set_option maxHeartbeats 2000000 in
theorem packBad (k i : Int) (ao : Option Addr) (cap : Nat) (s q : Int) (zs : List Int) (w : World) (h : IsInts w (.slice ao zs.length cap) zs) (hf : writeFault k i zs s q ≠ 0) :
    Calls Try.prog 55 #[.agg #[.int .i64 k, .int .i64 i, .slice ao zs.length cap, .int .i64 s, .int .i64 q]] w fun e w' => ToldInts w w' e (writeFault k i zs s q) [] := by
  have B0 : Below w.heap.size w ((w.alloc (.cells #[.int .i64 k, .int .i64 i, .slice ao zs.length cap, .int .i64 s, .int .i64 q] 58)).alloc (.cells #[.int .i64 0, .slice none 0 0] 26)) := ((Below.refl _ _).alloc (Nat.le_refl _) _).alloc (by simp) _
  have bR : Box w.heap.size #[.int .i64 0, .slice none 0 0] 26 ((w.alloc (.cells #[.int .i64 k, .int .i64 i, .slice ao zs.length cap, .int .i64 s, .int .i64 q] 58)).alloc (.cells #[.int .i64 0, .slice none 0 0] 26)) (w.heap.size + 1) := by
    have := newBox (lo := w.heap.size) (cs := #[.int .i64 0, .slice none 0 0]) (T := 26) (W := w.alloc (.cells #[.int .i64 k, .int .i64 i, .slice ao zs.length cap, .int .i64 s, .int .i64 q] 58)) (by simp)
    simpa using this
  have L := hide (implDeed k i _ s q zs _ (h.later B0))
  have HD : Hid (deedRes k i zs s q = .nilIface) := by
    show deedRes k i zs s q = .nilIface
    rw [deedRes, if_neg hf]
  have hne : (writeFault k i zs s q != 0) = true := by rw [bne_iff_ne]; exact hf
  clear h hf
  go_enter Try.func55, Try.ntmps55
  go_wp2_with fail
  generalize (w.alloc (.cells #[.int .i64 k, .int .i64 i, .slice ao zs.length cap, .int .i64 s, .int .i64 q] 58)).alloc (.cells #[.int .i64 0, .slice none 0 0] 26) = W0 at *
  refine (unhide L).mono ?_
  rintro e w1 ⟨rfl, hb1⟩
  rw [unhide HD]
  replace bR := bR.keep hb1
  have HB1 := hide (B0.trans (hb1.mono B0.size))
  clear hb1 B0 L HD
  obtain ⟨r0, r1, r2, r3⟩ := bR.two
  generalize hF : writeFault k i zs s q = F at *
  have HF := hide hF
  clear hF
  go_wp2_with fail
  refine bodyPost_ret (v := intsRes F (.slice none 0 0)) (by simp [results, Try.results55, go_sem, intsRes, r0, r1]) rfl ?_
  rw [unhide HF]
  refine toldInts_nil ?_
  exact ((unhide HB1).setCell (by simp) _).setCell (by simp) _

/-- PackWrite of the program. -/
theorem implPack (k i : Int) (v : Value) (s q : Int) (zs : List Int) (w : World) (h : IsInts w v zs) :
    Calls Try.prog 55 #[.agg #[.int .i64 k, .int .i64 i, v, .int .i64 s, .int .i64 q]] w fun e w' => ToldInts w w' e (writeFault k i zs s q) (packList k i zs s q) := by
  have h' := h
  obtain ⟨ao, cap, rfl, -⟩ := h'
  by_cases hf : writeFault k i zs s q = 0
  · rw [packList, if_pos hf, hf]
    exact packOk k i ao cap s q zs w h hf
  · rw [packList, if_neg hf]
    exact packBad k i ao cap s q zs w h hf

end Go.Proofs.Ytipomhpimmnchaa

namespace Go.Proofs.Ytipomhpimmnchaa
open Go.RowKit

theorem splice_at (ws : List DWrite) (k : Nat) (hk : k < ws.length) (hf : ∀ x ∈ ws.take (k + 1), wF x = 0) (h : wF ws[k] = 0) :
    splice ((packs (ws.take k)).map (Value.int .i64) ++ List.replicate (8 * (ws.length - k)) (Value.int .i64 0)) (8 * k) ((packD ws[k]).map (Value.int .i64)) = (packs (ws.take (k + 1))).map (Value.int .i64) ++ List.replicate (8 * (ws.length - (k + 1))) (Value.int .i64 0) := by
  have h0 : ∀ x ∈ ws.take k, wF x = 0 := fun x hx => hf x (by rw [List.take_succ_eq_append_getElem hk]; exact List.mem_append_left _ hx)
  have hl : ((packs (ws.take k)).map (Value.int .i64)).length = 8 * k := by rw [List.length_map, packs_len _ h0, List.length_take]; omega
  have h8 : ((packD ws[k]).map (Value.int .i64)).length = 8 := by rw [List.length_map, packD_len h]
  rw [packs_snoc ws k hk, List.map_append, List.append_assoc]
  unfold splice
  rw [h8, List.take_append_of_le_length (by omega), List.take_of_length_le (by omega)]
  congr 2
  rw [List.drop_append, List.drop_eq_nil_of_le (by omega), List.nil_append, hl, List.drop_replicate]
  congr 1
  omega

set_option maxRecDepth 100000 in
set_option maxHeartbeats 8000000 in
theorem implPackAll_few (ao : Option Addr) (cap : Nat) (ws : List DWrite) (w : World) (h : (Lay.sl Lay.tWrite).Reads w [.slice ao ws.length cap] ws) (hn : ws.length ≤ 40) :
    Calls Try.prog 14 #[.slice ao ws.length cap] w fun e w' => ∃ cs, e = .returned (.agg cs.toArray) ∧ Lay.tIntsResult.OwnIn w' cs (packAllR ws) w.heap.size w'.heap.size ∧ Below w.heap.size w w' := by
  have hnn : ¬ 40 < ws.length := by omega
  have nb : Below w.heap.size w (w.alloc (.cells #[.int .i64 0, .slice none 0 0] 26)) := (Below.refl _ _).alloc (Nat.le_refl _) _
  have bR : Box w.heap.size #[.int .i64 0, .slice none 0 0] 26 (w.alloc (.cells #[.int .i64 0, .slice none 0 0] 26)) w.heap.size := newBox (Nat.le_refl _)
  have H := hide h
  have HB := hide nb
  have HR := hide bR
  have hbig := h.big
  obtain ⟨i0, hi, hz0, hz1, hz2⟩ := info_parts info2
  clear h nb bR
  go_enter Try.func14, Try.ntmps14
  go_wp2_with (at_make; refine wpList_make_full _ rfl _ _ 24 rfl w.heap.size 2 i0 (.int .i64 0) 1 Try.underlying24 hi hz0 hz1 _ _ _ _ (8 * ws.length) rfl rfl ?c0 ?c01 ?c1 ?c2 ?c3 ?_)
  case c0 => simp
  case c01 => simp
  case c1 => rw [hz2]; omega
  case c2 => unfold maxLen; omega
  case c3 => simp
  generalize w.alloc (.cells #[.int .i64 0, .slice none 0 0] 26) = W0 at *
  intro w2 hown hgrow
  rw [toList_madeCells_one] at hown
  have hB2 : Below W0.heap.size W0 w2 := (Below.refl _ _).grown hgrow (Nat.le_refl _) (by simp)
  obtain ⟨hh, -, -⟩ := own_full hown
  have HH := hide hh
  have HR2 := hide ((unhide HR).keep hB2)
  have HB2 := hide ((unhide HB).trans (hB2.mono (unhide HB).size))
  obtain ⟨g0, hg0⟩ : ∃ g0, g0 = w.heap.size + 1 := ⟨_, rfl⟩
  have HPG : Hid (w.heap.size < g0) := by show w.heap.size < g0; omega
  rw [← hg0] at HH ⊢
  clear hgrow hi hz0 hz1 hz2 hown hh hB2 HR HB hg0
  go_wp2_with fail
  go_loopw [17] (fun i wr => ∃ k : Nat, k ≤ ws.length ∧ i = .int .i64 k ∧ (∀ j (hj : j < ws.length), j < k → wF ws[j] = 0) ∧ wr.heap[g0]? = some (.cells ((packs (ws.take k)).map (Value.int .i64) ++ List.replicate (8 * (ws.length - k)) (Value.int .i64 0)).toArray 2 (0, 0)) ∧ Box w.heap.size #[.int .i64 0, .slice none 0 0] 26 wr w.heap.size ∧ Below w.heap.size w wr) (fun i _ => ws.length - (intOf i).toNat)
  case atStart => exact ⟨0, Nat.zero_le _, rfl, fun _ _ h => by omega, unhide HH, unhide HR2, unhide HB2⟩
  case round =>
    obtain ⟨k, hk, rfl, hz, hrow, hR, hB⟩ := hrel
    clear HH HR2 HB2
    by_cases hlt : k < ws.length
    · obtain ⟨b, off, rfl, hbl⟩ := Lay.sl_addr (unhide H) (by omega)
      obtain ⟨row, hc, hr⟩ := Lay.row_at ((unhide H).later hB) hlt
      obtain ⟨a2, d2, rfl, R2⟩ := open_Write hr
      have c0 : wr.cell? ⟨b, off + k * 5, none⟩ = some (.int .i64 (ws[k]).kind) := hc 0 (by decide)
      have c1 : wr.cell? ⟨b, off + k * 5 + 1, none⟩ = some (.int .i64 (ws[k]).id) := hc 1 (by decide)
      have c2 : wr.cell? ⟨b, off + k * 5 + 2, none⟩ = some (.slice a2 (ws[k]).vec.length d2) := hc 2 (by decide)
      have c3 : wr.cell? ⟨b, off + k * 5 + 3, none⟩ = some (.int .i64 (ws[k]).session) := hc 3 (by decide)
      have c4 : wr.cell? ⟨b, off + k * 5 + 4, none⟩ = some (.int .i64 (ws[k]).seq) := hc 4 (by decide)
      have hbr : b < wr.heap.size := Nat.lt_of_lt_of_le hbl hB.size
      have HAT := hide (wsFrom_at ws k hlt hz)
      have HNX0 : Hid (wF ws[k] = 0 → ∀ j (hj : j < ws.length), j < k + 1 → wF ws[j] = 0) := by
        intro e j hj h1
        by_cases h2 : j = k
        · subst h2; exact e
        · exact hz j hj (by omega)
      have HSP : Hid ((∀ x ∈ ws.take (k + 1), wF x = 0) → wF ws[k] = 0 → splice ((packs (ws.take k)).map (Value.int .i64) ++ List.replicate (8 * (ws.length - k)) (Value.int .i64 0)) (8 * k) ((packD ws[k]).map (Value.int .i64)) = (packs (ws.take (k + 1))).map (Value.int .i64) ++ List.replicate (8 * (ws.length - (k + 1))) (Value.int .i64 0)) := splice_at ws k hlt
      have HPK : Hid (packList ws[k].kind ws[k].id ws[k].vec ws[k].session ws[k].seq = packD ws[k]) := rfl
      have HWX : Hid (writeFault ws[k].kind ws[k].id ws[k].vec ws[k].session ws[k].seq = wF ws[k]) := rfl
      have hcl : ((packs (ws.take k)).map (Value.int .i64) ++ List.replicate (8 * (ws.length - k)) (Value.int .i64 0)).length = 8 * ws.length := by
        rw [List.length_append, List.length_map, List.length_replicate, packs_len (ws.take k) (fun x hx => by
          obtain ⟨j, hj, rfl⟩ := List.getElem_of_mem hx
          rw [List.getElem_take]
          rw [List.length_take] at hj
          exact hz j (by omega) (by omega)), List.length_take]
        omega
      have HCL := hide hcl
      have HZ := hide hz
      clear hc hr hz hcl
      generalize hx : ws[k] = x at *
      clear hx
      have nb1 : Below wr.heap.size wr (wr.alloc (.cells #[.int .i64 x.kind, .int .i64 x.id, .slice a2 x.vec.length d2, .int .i64 x.session, .int .i64 x.seq] 58)) := (Below.refl _ _).alloc (Nat.le_refl _) _
      have L := hide (implPack x.kind x.id _ x.session x.seq x.vec _ ((Lay.ints_reads R2).later nb1))
      rw [unhide HPK, unhide HWX] at L
      have HN1 := hide nb1
      have HROW := hide hrow
      have HRB := hide hR
      have HBB := hide hB
      clear nb1 R2 hrow hR hB HPK HWX
      go_wp2_with fail
      refine (unhide L).mono ?_
      clear c0 c1 c2 c3 c4
      have HZ1 : Hid ((wr.alloc (.cells #[.int .i64 x.kind, .int .i64 x.id, .slice a2 x.vec.length d2, .int .i64 x.session, .int .i64 x.seq] 58)).heap.size = wr.heap.size + 1) := by show _ = _; simp
      generalize wr.alloc (.cells #[.int .i64 x.kind, .int .i64 x.id, .slice a2 x.vec.length d2, .int .i64 x.session, .int .i64 x.seq] 58) = W1 at *
      rintro e w3 ⟨r3, rfl, O3, hb3⟩
      obtain ⟨a4, c4, rfl⟩ := own_shape O3
      have hOI := Lay.ownInts (zs := packD x) (fun z hz => packList_wf z hz) (Nat.le_trans packList_len (by omega)) O3
      have nb5 : Below w3.heap.size w3 (w3.alloc (.cells #[.int .i64 (wF x), .slice a4 (packD x).length c4] 26)) := (Below.refl _ _).alloc (Nat.le_refl _) _
      have hB13 : Below wr.heap.size wr w3 := (unhide HN1).trans (hb3.mono (unhide HN1).size)
      have hB15 := hB13.trans (nb5.mono hB13.size)
      have HOI := hide (hOI.later nb5)
      have HP5 : Hid (Box 0 #[.int .i64 (wF x), .slice a4 (packD x).length c4] 26 (w3.alloc (.cells #[.int .i64 (wF x), .slice a4 (packD x).length c4] 26)) w3.heap.size) := newBox (Nat.zero_le _)
      have HR5 := hide ((unhide HRB).keep hB15)
      have HB5 := hide ((unhide HBB).trans (hB15.mono (unhide HBB).size))
      have HROW5 := hide ((hB15.block g0 (Array.getElem?_eq_some_iff.1 (unhide HROW)).1).trans (unhide HROW))
      have HG1 : Hid (g0 < W1.heap.size ∧ g0 < w3.heap.size) := by
        have h1 := (Array.getElem?_eq_some_iff.1 (unhide HROW)).1
        have h2 := unhide HZ1
        have h3 := hb3.size
        exact ⟨by omega, by omega⟩
      have HWF := hide (wF_wf x)
      have HPL : Hid ((packD x).length = if wF x = 0 then 8 else 0) := by
        show (packD x).length = _
        by_cases e : wF x = 0
        · rw [if_pos e, packD_len e]
        · rw [if_neg e, packD, packList, if_neg (show ¬ writeFault x.kind x.id x.vec x.session x.seq = 0 from e)]; rfl
      simp only [intsRes]
      clear L O3 hb3 hOI nb5 hB13 hB15 HROW HRB HBB HN1 HZ1
      have p0 := (unhide HP5).at 0 _ rfl
      simp only [List.getElem_toArray, List.getElem_cons_zero] at p0
      by_cases hx0 : wF x = 0
      · have h8 : (packD x).length = 8 := by rw [unhide HPL, if_pos hx0]
        have HNX := hide (unhide HNX0 hx0)
        obtain ⟨CS, hCS⟩ : ∃ CS, CS = (packD x).map (Value.int .i64) := ⟨_, rfl⟩
        have hcs8 : CS.length = 8 := by rw [hCS, List.length_map, h8]
        have K1 : Hid (CS.length = Nat.min 8 (8 * ws.length - 8 * k)) := by show CS.length = _; rw [hcs8]; exact (Nat.min_eq_left (by omega)).symm
        have K3 : Hid (8 * k + CS.length ≤ ((packs (ws.take k)).map (Value.int .i64) ++ List.replicate (8 * (ws.length - k)) (Value.int .i64 0)).length) := by show _ ≤ _; rw [unhide HCL, hcs8]; omega
        have K4 : Hid (∀ v ∈ CS, v.oneCell' = true) := by rw [hCS]; intro v hv; obtain ⟨z, -, rfl⟩ := List.mem_map.1 hv; rfl
        have K5 : Hid (splice ((packs (ws.take k)).map (Value.int .i64) ++ List.replicate (8 * (ws.length - k)) (Value.int .i64 0)) (8 * k) CS = (packs (ws.take (k + 1))).map (Value.int .i64) ++ List.replicate (8 * (ws.length - (k + 1))) (Value.int .i64 0)) := by
          show splice _ _ _ = _
          rw [hCS]
          refine unhide HSP (fun y hy => ?_) hx0
          obtain ⟨j, hj, rfl⟩ := List.getElem_of_mem hy
          rw [List.getElem_take]
          rw [List.length_take] at hj
          exact unhide HNX j (by omega) (by omega)
        have K2 : Hid (∀ W, Ext (fun q => q = g0) (w3.alloc (.cells #[.int .i64 (wF x), .slice a4 (packD x).length c4] 26)) W → 0 < CS.length → ∃ ad, a4 = some ad ∧ ∀ j v, CS[j]? = some v → W.cell? (ad.add j) = some v) := fun W hE hp => by
          rw [hCS]
          exact news_reads ((unhide HOI).lies.ext hE (fun q h1 h2 h3 => by have := (unhide HG1).1; omega)).reads (by omega)
        rw [h8] at HP5 HOI K2 HR5 HB5 HROW5 p0 ⊢
        rw [hx0] at HP5 HOI K2 HR5 HB5 HROW5 p0 ⊢
        clear HAT HNX0 HSP HZ hCS HPL HCL HWF HOI
        go_wp2_with fail
        clear p0
        generalize w3.alloc (.cells #[.int .i64 0, .slice a4 8 c4] 26) = W5 at *
        have hRow : W5.drew.heap[g0]? = some (.cells ((packs (ws.take k)).map (Value.int .i64) ++ List.replicate (8 * (ws.length - k)) (Value.int .i64 0)).toArray 2 (0, 0)) := unhide HROW5
        have HPB : Hid (g0 < w3.heap.size) := (unhide HG1).2
        refine wp_region_noPanic ?_
        refine wp_region_held_drew (S := fun w' => Ext (fun q => q = g0) W5 w') (by kernel_rfl) ⟨rfl, rfl, rfl, Nat.le_refl _, fun _ _ _ => rfl⟩ (fun hHeld => ?_)
        generalize W5.drew = wD at hHeld hRow ⊢
        refine wpAnyH_take (i := 0) (oi := { dst := some 30, op := Go.Op.move (Go.Operand.tmp 3), type := 24, pos := "l08_log.go:112", after := #[], guard := none }) (v := ?v0_1) rfl (by kernel_rfl) (by kernel_rfl) (by kernel_rfl) (fun _ _ _ h => h) (Or.inl ⟨by rfl, ?h0_1⟩) hHeld ?r0_1
        case h0_1 =>
          intro wS hSw
          (try dsimp only at hSw)
          go_simp
          try with_reducible rfl
        case r0_1 =>
        simp only [Act.put, List.setIfInBounds_toArray, List.set_cons_zero, List.set_cons_succ]
        refine wpAnyH_take (i := 1) (oi := { dst := some 31, op := Go.Op.move (Go.Operand.tmp 4), type := 3, pos := "l08_log.go:112", after := #[], guard := none }) (v := ?v1_2) rfl (by kernel_rfl) (by kernel_rfl) (by kernel_rfl) (fun _ _ _ h => h) (Or.inl ⟨by rfl, ?h1_2⟩) hHeld ?r1_2
        case h1_2 =>
          intro wS hSw
          (try dsimp only at hSw)
          go_simp
          try with_reducible rfl
        case r1_2 =>
        simp only [Act.put, List.setIfInBounds_toArray, List.set_cons_zero, List.set_cons_succ]
        refine wpAnyH_take (i := 2) (oi := { dst := some 32, op := Go.Op.binOp Go.BinOp.mul 3 (Go.Operand.const (Go.Value.int Go.IntKind.i64 8)) (Go.Operand.tmp 31) 3, type := 3, pos := "l08_log.go:112", after := #[{ on := 1, ground := Go.Ground.data }], guard := none }) (v := ?v2_3) rfl (by kernel_rfl) (by kernel_rfl) (by kernel_rfl) (fun _ _ _ h => h) (Or.inl ⟨by rfl, ?h2_3⟩) hHeld ?r2_3
        case h2_3 =>
          intro wS hSw
          clear hSw
          have hwr : IntKind.i64.wrap (8 * (k : Int)) = 8 * (k : Int) := by rw [IntKind.wrap_i64]; omega
          (try dsimp only at hSw)
          go_simp
          try with_reducible rfl
        case r2_3 =>
        simp only [Act.put, List.setIfInBounds_toArray, List.set_cons_zero, List.set_cons_succ]
        refine wpAnyH_take (i := 3) (oi := { dst := some 33, op := Go.Op.slice 24 (Go.Operand.tmp 30) (some (Go.Operand.tmp 32)) none none, type := 24, pos := "l08_log.go:112", after := #[{ on := 0, ground := Go.Ground.data }, { on := 2, ground := Go.Ground.data }], guard := none }) (v := ?v3_4) rfl (by kernel_rfl) (by kernel_rfl) (by kernel_rfl) (fun _ _ _ h => h) (Or.inl ⟨by rfl, ?h3_4⟩) hHeld ?r3_4
        case h3_4 =>
          intro wS hSw
          clear hSw
          have hwr : IntKind.i64.wrap (8 * (k : Int)) = 8 * (k : Int) := by rw [IntKind.wrap_i64]; omega
          have s1 : (8 : Int) * (k : Int) ≤ 8 * (ws.length : Int) := by omega
          have s3 : (0 : Int) ≤ 8 * (k : Int) := by omega
          have s4 : (8 * (k : Int)).toNat = 8 * k := by omega
          have s2 : ¬ 8 * ws.length = 8 * k := by omega
          (try dsimp only at hSw)
          go_simp
          try with_reducible rfl
        case r3_4 =>
        simp only [Act.put, List.setIfInBounds_toArray, List.set_cons_zero, List.set_cons_succ]
        refine wpAnyH_take (i := 4) (oi := { dst := some 34, op := Go.Op.fieldAddr 26 (Go.Operand.tmp 6) 1, type := 0, pos := "l08_log.go:112", after := #[], guard := none }) (v := ?v4_5) rfl (by kernel_rfl) (by kernel_rfl) (by kernel_rfl) (fun _ _ _ h => h) (Or.inl ⟨by rfl, ?h4_5⟩) hHeld ?r4_5
        case h4_5 =>
          intro wS hSw
          (try dsimp only at hSw)
          go_simp
          try with_reducible rfl
        case r4_5 =>
        simp only [Act.put, List.setIfInBounds_toArray, List.set_cons_zero, List.set_cons_succ]
        refine wpAnyH_take (i := 5) (oi := { dst := some 35, op := Go.Op.load 24 (Go.Operand.tmp 34), type := 24, pos := "l08_log.go:112", after := #[{ on := 4, ground := Go.Ground.data }], guard := none }) (v := ?v5_6) rfl (by kernel_rfl) (by kernel_rfl) (by kernel_rfl) (fun _ _ _ h => h) (Or.inl ⟨by rfl, ?h5_6⟩) hHeld ?r5_6
        case h5_6 =>
          intro wS hSw
          have y1 := ((unhide HP5).ext hSw (by have := unhide HPB; omega)).at 1 _ rfl
          simp only [List.getElem_toArray, List.getElem_cons_zero, List.getElem_cons_succ] at y1
          clear hSw
          (try dsimp only at hSw)
          go_simp
          try with_reducible rfl
        case r5_6 =>
        simp only [Act.put, List.setIfInBounds_toArray, List.set_cons_zero, List.set_cons_succ]
        refine wpAnyH_ready (rs := [6]) (by kernel_rfl) (by simp) ?_
        refine AllReadyH.cons (o := { dst := some 36, op := Go.Op.call { callee := Go.Callee.builtin Go.Builtin.copy, args := #[Go.Operand.tmp 33, Go.Operand.tmp 35], argTypes := #[24, 24] }, type := 3, pos := "l08_log.go:112", after := #[{ on := 3, ground := Go.Ground.data }, { on := 5, ground := Go.Ground.data }], guard := none }) rfl (fun K hK => ?_) AllReadyH.nil
        refine step_copy_ext rfl _ _ _ _ rfl 2 Try.underlying24 size_int (some ⟨g0, 8 * k, none⟩) a4 (8 * ws.length - 8 * k) (8 * ws.length - 8 * k) 8 c4 (by rfl) (by rfl) g0 (8 * k) _ 2 hRow CS (unhide K1) (fun hp => ⟨rfl, unhide K2 _ hHeld hp⟩) (unhide K3) (unhide K4) ?_
        intro w6 HG6 hE6
        refine hK.out _ _ (hHeld.trans hE6) (fun hHeld => ?_)
        clear hK K
        try simp only [Act.put, List.setIfInBounds_toArray, List.set_cons_zero, List.set_cons_succ]
        refine wpAnyH_done (by kernel_rfl) ?_ _
        refine NoPanic.normal ?_
        have HG9 : Hid (w6.heap[g0]? = some (.cells ((packs (ws.take (k + 1))).map (Value.int .i64) ++ List.replicate (8 * (ws.length - (k + 1))) (Value.int .i64 0)).toArray 2 (0, 0))) := by
          have hg := unhide HG6
          rw [unhide K5] at hg
          exact hg
        have HE9 := hide hHeld
        clear hHeld HG6 hE6 hRow
        go_wp2_with fail
        go_roundw
        case rel => exact ⟨k + 1, by omega, by go_num, unhide HNX, unhide HG9, (unhide HR5).ext (unhide HE9) (by have := unhide HPG; omega), (unhide HB5).trans ((unhide HE9).below (unhide HB5).size (fun q hq e => by have := unhide HPG; omega))⟩
        case measure => simp [intOf]; omega
      · have hd : (wF x != 0) = true := by simpa using hx0
        have hl0 : (packD x).length = 0 := by rw [unhide HPL, if_neg hx0]
        have HY : Hid (packAllR ws = ⟨wF x, []⟩) := by
          have e := unhide HAT hx0
          show packAllR ws = _
          rw [packAllR, if_neg hnn, e, if_neg hx0]
        have bR := unhide HR5
        have z0 := bR.at 0 _ rfl
        have z1 := bR.at 1 _ rfl
        have f0 := bR.soft 0
        have f1 := bR.soft 1
        have l0 := bR.lt
        simp only [List.getElem_toArray, List.getElem_cons_zero, List.getElem_cons_succ] at z0 z1
        clear HAT HNX0 HSP HZ HPL HCL HOI HP5 HROW5 HG1 hx0 bR HR5 hl0
        generalize wF x = c at *
        go_wp2_with fail
        refine bodyPost_ret (v := .agg #[.int .i64 c, .slice none 0 0]) (by simp [results, Try.results14, go_sem, z0, z1]) rfl ?_
        rw [unhide HY]
        exact ⟨[.int .i64 c, .slice none 0 0], rfl, own_isR (unhide HWF) nil_own, below_setAll (unhide HB5) w.heap.size 0 [.int .i64 c, .slice none 0 0] (Nat.le_refl _)⟩
    · obtain rfl : k = ws.length := by omega
      have hall : wsFrom ws = 0 := wsFrom_all ws fun j hj => hz j hj hj
      have HY : Hid (packAllR ws = ⟨0, packs ws⟩) := by show packAllR ws = _; rw [packAllR, if_neg hnn, if_pos hall]
      have hpl := packs_len ws (wsFrom_zero hall)
      rw [List.take_length, Nat.sub_self, Nat.mul_zero, List.replicate_zero, List.append_nil] at hrow
      have hO := full_own (n := 8 * ws.length) (base := g0) hrow (Nat.le_refl _) (by rw [List.length_map, hpl]) (by unfold maxLen; omega)
      have hOI := Lay.ownInts (zs := packs ws) (packs_wf ws) (by omega) (by rw [hpl]; exact hO)
      have HOI := hide hOI
      have HBB := hide hB
      have HRB := hide hR
      have z0 := hR.at 0 _ rfl
      have z1 := hR.at 1 _ rfl
      have f0 := hR.soft 0
      have f1 := hR.soft 1
      have l0 := hR.lt
      simp only [List.getElem_toArray, List.getElem_cons_zero, List.getElem_cons_succ] at z0 z1
      clear hz hrow hO hOI hB hR hall hpl
      go_wp2_with fail
      refine bodyPost_ret (v := .agg #[.int .i64 0, .slice (some ⟨g0, 0, none⟩) (8 * ws.length) (8 * ws.length)]) (by simp [results, Try.results14, go_sem, z0, z1]) rfl ?_
      rw [unhide HY]
      exact ⟨[.int .i64 0, .slice (some ⟨g0, 0, none⟩) (8 * ws.length) (8 * ws.length)], rfl, own_store (vs := [.int .i64 0, .slice (some ⟨g0, 0, none⟩) (8 * ws.length) (8 * ws.length)]) (own_isR (by decide) (unhide HOI)) (unhide HPG) (Nat.le_refl _), below_setAll (unhide HBB) w.heap.size 0 [.int .i64 0, .slice (some ⟨g0, 0, none⟩) (8 * ws.length) (8 * ws.length)] (Nat.le_refl _)⟩

set_option maxHeartbeats 400000 in
/-- PackAll of the program. -/
theorem implPackAll (v : Value) (ws : List DWrite) (w : World) (h : (Lay.sl Lay.tWrite).Reads w [v] ws) :
    Calls Try.prog 14 #[v] w fun e w' => ∃ cs, e = .returned (.agg cs.toArray) ∧ Lay.tIntsResult.OwnIn w' cs (packAllR ws) w.heap.size w'.heap.size ∧ Below w.heap.size w w' := by
  obtain ⟨ao, cap, rfl⟩ := open_sl h
  have hbig := h.big
  by_cases hn : 40 < ws.length
  · have HY : Hid (packAllR ws = ⟨2, []⟩) := by show packAllR ws = _; rw [packAllR, if_pos hn]
    clear h
    go_enter Try.func14, Try.ntmps14
    go_wp2_with fail
    refine bodyPost_ret (v := .agg #[.int .i64 2, .slice none 0 0]) (by simp [results, Try.results14, go_sem]) rfl ?_
    rw [unhide HY]
    exact ⟨[.int .i64 2, .slice none 0 0], rfl, own_isR (by decide) nil_own, (Below.refl _ _).alloc (Nat.le_refl _) _⟩
  · exact implPackAll_few ao cap ws w h (by omega)

end Go.Proofs.Ytipomhpimmnchaa

namespace Go.Proofs.Ytipomhpimmnchaa
open Go.RowKit

set_option maxRecDepth 100000 in
set_option maxHeartbeats 4000000 in
theorem specPackAll (v : Value) (ws : List DWrite) (w : World) (h : (Lay.sl Lay.tWrite).Reads w [v] ws) :
    Calls Try.prog 12 #[v] w fun e w' => ∃ cs, e = .returned (.agg cs.toArray) ∧ Lay.tIntsResult.LiesIn w' cs (packAllR ws) w.heap.size w'.heap.size ∧ Below w.heap.size w w' := by
  have hbig := h.big
  have nb : Below w.heap.size w (w.alloc (.cells #[.int .i64 0, .slice none 0 0] 26)) := (Below.refl _ _).alloc (Nat.le_refl _) _
  have bR : Box w.heap.size #[.int .i64 0, .slice none 0 0] 26 (w.alloc (.cells #[.int .i64 0, .slice none 0 0] 26)) w.heap.size := newBox (Nat.le_refl _)
  by_cases hn : 40 < ws.length
  · have HY : Hid (packAllR ws = ⟨2, []⟩) := by show packAllR ws = _; rw [packAllR, if_pos hn]
    obtain ⟨ao, cap, rfl⟩ := open_sl h
    clear h nb bR
    go_enter Try.func12, Try.ntmps12
    go_wp2_with fail
    refine bodyPost_ret (v := .agg #[.int .i64 2, .slice none 0 0]) (by simp [results, Try.results12, go_sem]) rfl ?_
    rw [unhide HY]
    exact ⟨[.int .i64 2, .slice none 0 0], rfl, (own_isR (by decide) nil_own).lies, (Below.refl _ _).alloc (Nat.le_refl _) _⟩
  · have H := hide (h.later nb)
    obtain ⟨ao, cap, rfl⟩ := open_sl h
    have HB := hide nb
    have HR := hide bR
    clear h nb bR
    go_enter Try.func12, Try.ntmps12
    go_wp2_with fail
    generalize w.alloc (.cells #[.int .i64 0, .slice none 0 0] 26) = W0 at *
    go_loopw [3] (fun i wr => ∃ k : Nat, k ≤ ws.length ∧ i = .int .i64 k ∧ (∀ j (hj : j < ws.length), j < k → wF ws[j] = 0) ∧ wr = W0) (fun i _ => ws.length - (intOf i).toNat)
    case atStart => exact ⟨0, Nat.zero_le _, rfl, fun _ _ h => by omega, rfl⟩
    case round =>
      obtain ⟨k, hk, rfl, hz, rfl⟩ := hrel
      have HZ := hide hz
      clear hz
      by_cases hlt : k < ws.length
      · obtain ⟨b, off, rfl, hbl⟩ := Lay.sl_addr (unhide H) (by omega)
        obtain ⟨row, hc, hr⟩ := Lay.row_at (unhide H) hlt
        obtain ⟨a2, d2, rfl, R2⟩ := open_Write hr
        have HL := hide (l3FaultO b (off + k * 5) _ _ _ _ _ ws[k].vec wr ⟨hc 0 (by decide), hc 1 (by decide), hc 2 (by decide), hc 3 (by decide), hc 4 (by decide)⟩ (Lay.ints_reads R2))
        have HW := hide (wF_wf ws[k])
        have HWX : Hid (wF ws[k] = writeFault ws[k].kind ws[k].id ws[k].vec ws[k].session ws[k].seq) := rfl
        have HAT := hide (wsFrom_at ws k hlt (unhide HZ))
        rw [← unhide HWX] at HL
        clear hc hr R2 HWX
        have HNX : Hid (wF ws[k] = 0 → ∀ j (hj : j < ws.length), j < k + 1 → wF ws[j] = 0) := by
          intro e j hj h1
          by_cases h2 : j = k
          · subst h2; exact e
          · exact unhide HZ j hj (by omega)
        generalize wF ws[k] = c at *
        go_wp2_with fail
        refine (unhide HL).mono ?_
        rintro e w2 ⟨rfl, rfl⟩
        clear HL
        by_cases hc0 : c = 0
        · subst hc0
          have HN2 := hide (unhide HNX rfl)
          clear HNX HAT HW HZ
          go_wp2_with fail
          go_roundw
          case rel => exact ⟨k + 1, by omega, by go_num, unhide HN2, trivial⟩
          case measure => simp [intOf]; omega
        · have hd : (c != 0) = true := by simpa using hc0
          have HY : Hid (packAllR ws = ⟨c, []⟩) := by
            have e := unhide HAT hc0
            show packAllR ws = _
            rw [packAllR, if_neg hn, e, if_neg hc0]
          have bR := unhide HR
          have z0 := bR.at 0 _ rfl
          have z1 := bR.at 1 _ rfl
          have f0 := bR.soft 0
          have f1 := bR.soft 1
          have l0 := bR.lt
          clear HNX HAT HZ bR HR hc0
          go_wp2_with fail
          refine bodyPost_ret (v := .agg #[.int .i64 c, .slice none 0 0]) (by simp [results, Try.results12, go_sem, z0, z1]) rfl ?_
          rw [unhide HY]
          exact ⟨[.int .i64 c, .slice none 0 0], rfl, (own_isR (unhide HW) nil_own).lies, below_setAll (unhide HB) w.heap.size 0 [.int .i64 c, .slice none 0 0] (Nat.le_refl _)⟩
      · obtain rfl : k = ws.length := by omega
        have hall : wsFrom ws = 0 := wsFrom_all ws fun j hj => unhide HZ j hj hj
        have HY : Hid (packAllR ws = ⟨0, packs ws⟩) := by show packAllR ws = _; rw [packAllR, if_neg hn, if_pos hall]
        have HL := hide (pack8C _ ws wr (unhide H) (by omega) (wsFrom_zero hall))
        have HALL := hide hall
        clear hall HZ
        go_wp2_with fail
        refine (unhide HL).mono ?_
        rintro e w2 ⟨v2, rfl, O, hb⟩
        have hOI := Lay.ownInts (packs_wf ws) (by rw [packs_len ws (wsFrom_zero (unhide HALL))]; omega) O
        obtain ⟨a3, c3, rfl⟩ := open_sl hOI.reads
        have bR := (unhide HR).keep hb
        have HLT := hide (unhide HR).lt
        have z0 := bR.at 0 _ rfl
        have z1 := bR.at 1 _ rfl
        have f0 := bR.soft 0
        have f1 := bR.soft 1
        have l0 := bR.lt
        have HB2 := hide ((unhide HB).trans (hb.mono (unhide HB).size))
        have HOI := hide hOI
        clear hOI O hb bR HL HR HB H
        go_wp2_with fail
        refine bodyPost_ret (v := .agg #[.int .i64 0, .slice a3 (packs ws).length c3]) (by simp [results, Try.results12, go_sem, z0, z1]) rfl ?_
        rw [unhide HY]
        exact ⟨[.int .i64 0, .slice a3 (packs ws).length c3], rfl, lies_store (vs := [.int .i64 0, .slice a3 (packs ws).length c3]) (own_isR (by decide) (unhide HOI)).lies (unhide HLT) (Nat.le_refl _), below_setAll (unhide HB2) w.heap.size 0 [.int .i64 0, .slice a3 (packs ws).length c3] (Nat.le_refl _)⟩

end Go.Proofs.Ytipomhpimmnchaa

namespace Go.Proofs.Ytipomhpimmnchaa
open Go.RowKit

variable {P : Program} {ops : Array Oper} {Q : Exit → Act → World → Prop}

def noDefer (o : Oper) : Bool := match o.op with | .defer _ => false | _ => true
theorem upon_in (l n : Nat) {o : Oper} {a : Act} {K : Act → World → Prop} {r : Result Next} (h : o.upon P a K Q r) : o.uponIn (Fence.wide.inRound l) n P a K Q r := by
  cases r with
  | ok x w' =>
    cases x with
    | value v => exact h
    | skip => exact h
    | defer d => exact h
    | enter f args => exact ⟨fun e => by simp [Fence.wide] at e, CallsIn.inRound l (callsIn_wide.2 h)⟩
    | row row args =>
      refine ⟨fun e => by simp [Fence.wide] at e, fun c cs _ => ?_⟩
      obtain ⟨v, w2, h1, h2⟩ := h c cs
      exact ⟨v, w2, h1, stepsIn_wide.2 h2⟩
    | _ => exact h.elim
  | halt x w' =>
    cases x with
    | panic v => exact h
    | _ => exact h.elim
theorem wp_in (l n : Nat) {o : Oper} {a : Act} {w : World} {K : Act → World → Prop} (hd : noDefer o = true) (h : o.wp P a w K Q) : o.wpIn (Fence.wide.inRound l) n P a w K Q := by
  refine ⟨fun _ _ => trivial, ?_⟩
  rw [show (Fence.wide.inRound l).round = some l from rfl, Oper.semAt_some l _ _ (by intro c hc; rw [noDefer, hc] at hd; cases hd)]
  exact upon_in l n h
theorem any_in (l n : Nat) {md : Region.Mode} (hd : ∀ (i : Nat) (o : Oper), ops[i]? = some o → noDefer o = true) (hL : ¬ LetsOut Q) : ∀ (fuel : Nat) (listed : Array Bool) (a : Act) (w : World), wpAny P md ops Q fuel listed a w → wpAnyIn (Fence.wide.inRound l) n P md ops Q fuel listed a w
  | 0, _, _, _, h => h
  | fuel + 1, listed, a, w, h => by
    refine ⟨h.1, fun i hi => ?_⟩
    have h2 := h.2 i hi
    unfold wpOp at h2
    unfold wpOpIn
    cases ho : ops[i]? with
    | none => rw [ho] at h2; exact any_in l n hd hL fuel _ _ _ h2
    | some o =>
      rw [ho] at h2
      simp only at h2 ⊢
      by_cases hw : Region.wanted o (yielded ops a.tmps) = true
      · rw [if_pos hw] at h2 ⊢
        rcases h2 with h2 | h2
        · exact Oper.wpIn_mono (any_in l n hd hL fuel _) (wp_in l n (hd i o ho) h2)
        · exact absurd h2.2 hL
      · rw [if_neg hw] at h2 ⊢
        exact ⟨fun _ _ => trivial, any_in l n hd hL fuel _ _ _ h2⟩
theorem noDefers (h : ops.all noDefer = true) : ∀ (i : Nat) (o : Oper), ops[i]? = some o → noDefer o = true := fun i o ho => by
  obtain ⟨hi, rfl⟩ := Array.getElem?_eq_some_iff.1 ho
  rw [Array.all_eq_true] at h
  exact h i hi
/-- Only the way behind the region. -/
def OnlyN (Q : Exit → Act → World → Prop) : Exit → Act → World → Prop
  | .normal, a, w => Q .normal a w
  | _, _, _ => False
theorem OnlyN.normal {a : Act} {w : World} (h : Q .normal a w) : OnlyN Q .normal a w := h
/-- The first move of a walk through such a region. -/
theorem wpIn_region_np {l n id : Nat} {S : World → Prop} {a : Act} {w : World} (hm : P.follows .mixedOrders = true) (hd : ops.all noDefer = true) (hS : S w.drew)
    (h : S w.drew → wpAnyH P .any ops (OnlyN Q) S ops.size (Array.replicate ops.size false) a w.drew) : (Code.region id ops true).wpIn (Fence.wide.inRound l) n P Q a w := by
  refine wpIn_mono (Q := OnlyN Q) (wpIn_region_any hm (any_in l n (noDefers hd) ?_ _ _ _ _ (wpAny_of_held _ _ _ _ (h hS)))) ?_
  · rintro ⟨a2, w2, h2⟩
    exact (show False from h2)
  · intro e a2 w2 h2
    cases e with
    | normal => exact h2
    | _ => exact (show False from h2).elim

end Go.Proofs.Ytipomhpimmnchaa

namespace Go.Proofs.Ytipomhpimmnchaa
open Go.RowKit

/-- A piece's place. -/
abbrev Pc (m : Nat) := { j : Nat // j < m }
def allPc (m : Nat) : List (Pc m) := (List.range m).pmap (fun j h => ⟨j, h⟩) (fun _ h => List.mem_range.1 h)
theorem allPc_len (m : Nat) : (allPc m).length = m := by simp [allPc]
theorem allPc_at (m i : Nat) (h : i < (allPc m).length) : (allPc m)[i].1 = i := by simp [allPc]
/-- How many pieces there are. -/
def np (zs : List Int) : Nat := (zs.length + 7) / 8
theorem np_lt {zs : List Int} {j : Nat} : j < np zs ↔ 8 * j < zs.length := by unfold np; omega
theorem pre_at {m : Nat} {pre : List (Pc m)} (h : pre <+: allPc m) (i : Nat) (hi : i < pre.length) : pre[i].1 = i := by
  have h2 : i < (allPc m).length := Nat.lt_of_lt_of_le hi h.length_le
  rw [h.getElem hi, allPc_at m i h2]
theorem pre_range {m : Nat} {pre : List (Pc m)} (h : pre <+: allPc m) : pre.map (·.1) = List.range pre.length := by
  refine List.ext_getElem (by simp) fun i h1 h2 => ?_
  rw [List.getElem_map, List.getElem_range]
  exact pre_at h i (by simpa using h1)
/-- The writes of the pieces so far. -/
def wsP (zs : List Int) {m : Nat} (pre : List (Pc m)) : List DWrite := pre.map fun p => wAt zs p.1
theorem wsP_range {zs : List Int} {m : Nat} {pre : List (Pc m)} (h : pre <+: allPc m) : wsP zs pre = (List.range pre.length).map (wAt zs) := by
  rw [← pre_range h, List.map_map]
  rfl
theorem wsP_snoc (zs : List Int) {m : Nat} (pre : List (Pc m)) (p : Pc m) : wsP zs (pre ++ [p]) = wsP zs pre ++ [wAt zs p.1] := by simp [wsP]
theorem wsP_len (zs : List Int) {m : Nat} (pre : List (Pc m)) : (wsP zs pre).length = pre.length := by simp [wsP]
/-- All pieces are writes. -/
theorem read_all {zs : List Int} (h : ∀ p ∈ allPc (np zs), okAt zs p.1 = true) : readL zs = wsP zs (allPc (np zs)) := by
  rw [wsP_range (List.prefix_refl _), allPc_len]
  refine read_of (fun j hj => ?_) (ok_short (by unfold np; omega))
  have h1 : j < (allPc (np zs)).length := by rw [allPc_len]; exact hj
  have := h _ (List.getElem_mem h1)
  rwa [allPc_at] at this
/-- The first pieces are writes, the next is none. -/
theorem read_stop {zs : List Int} {pre : List (Pc (np zs))} {p : Pc (np zs)} (hp : pre ++ [p] <+: allPc (np zs)) (h : ∀ q ∈ pre, okAt zs q.1 = true) (hn : okAt zs p.1 = false) : readL zs = wsP zs pre := by
  have hpre : pre <+: allPc (np zs) := (List.prefix_append _ _).trans hp
  rw [wsP_range hpre]
  refine read_of (fun j hj => ?_) ?_
  · have := h _ (List.getElem_mem hj)
    rwa [pre_at hpre] at this
  · have := pre_at hp pre.length (by simp)
    simp only [List.getElem_append_right (Nat.le_refl _), Nat.sub_self, List.getElem_cons_zero] at this
    rw [← this]
    exact hn
/-- The piece as a slice. -/
def pcV (b off : Nat) (zs : List Int) (j : Nat) : Value := .slice (some ⟨b, off + 8 * j, none⟩) (min 8 (zs.length - 8 * j)) (min 8 (zs.length - 8 * j))
theorem pcV_reads {w : World} {b off cap : Nat} {zs : List Int} (h : (Lay.sl Lay.int).Reads w [.slice (some ⟨b, off, none⟩) zs.length cap] zs) (j : Nat) (hj : 8 * j < zs.length) : (Lay.sl Lay.int).Reads w [pcV b off zs j] (pieceAt zs j) := by
  have := part_reads h (8 * j) (min 8 (zs.length - 8 * j)) (min 8 (zs.length - 8 * j)) (by omega) (Nat.le_refl _)
  have e : (zs.drop (8 * j)).take (min 8 (zs.length - 8 * j)) = pieceAt zs j := by
    rw [pieceAt]
    by_cases h8 : 8 ≤ zs.length - 8 * j
    · rw [Nat.min_eq_left h8]
    · rw [Nat.min_eq_right (by omega), List.take_of_length_le (by simp), List.take_of_length_le (by simp; omega)]
  rw [e] at this
  exact this

end Go.Proofs.Ytipomhpimmnchaa

namespace Go.Proofs.Ytipomhpimmnchaa
open Go.RowKit Go.Shelf
attribute [local go_sem] Oper.semAt_some

set_option maxRecDepth 100000 in
set_option maxHeartbeats 2000000 in
theorem chunk1 (l n Bs Bn b off cap : Nat) (ao : Option Addr) (zs : List Int) (N : Nat) (S : Nat → Prop) (hzs : zs.length ≤ 100000) (hcap : zs.length ≤ cap) (hao : 0 < zs.length → ao = some ⟨b, off, none⟩)
    (k1 : Bs < N ∧ ¬ S Bs) (k2 : Bn < N ∧ ¬ S Bn) (J Jx : List (Pc (np zs)) → World → Prop) (hab : ∀ pre W m, J pre W → J pre (W.drewN m))
    (hY : ∀ pre x W, J pre W → pre.length < np zs → YieldAt Fence.wide (n - 1) Try.prog l #[pcV b off zs x.1] W fun e W' =>
      (e = .returned (.bool true) ∧ J (pre ++ [x]) W' ∧ KpS N S W W') ∨ (e = .returned (.bool false) ∧ Jx (pre ++ [x]) W'))
    (W : World) (hs : W.cell? ⟨Bs, 0, none⟩ = some (.slice ao zs.length cap)) (hn : W.cell? ⟨Bn, 0, none⟩ = some (.int .i64 8)) (h0 : J [] W) :
    CallsIn Fence.wide n Try.prog 88 #[.func (.yield l) #[] #[], .pointer (some ⟨Bs, 0, none⟩), .pointer (some ⟨Bn, 0, none⟩)] W fun e W' => (∃ v, e = .returned v) ∧
      ((∃ ys, ys = allPc (np zs) ∧ J ys W') ∨ (∃ pre, pre <+: allPc (np zs) ∧ Jx pre W')) := by
  refine callsIn_of_wp Try.func88 rfl trivial ?_ rfl
  simp only [Try.ntmps88, List.size_toArray, List.length_cons, List.length_nil, Nat.reduceAdd, Nat.reduceSub, Array.replicate_succ, Array.replicate_zero, List.push_toArray, List.append_toArray, List.nil_append, List.cons_append]
  gi_wp2
  gi_loopw [4] (fun i wr => ∃ k : Nat, k ≤ np zs ∧ i = .int .i64 ((8 * k : Nat) : Int) ∧ J ((allPc (np zs)).take k) wr ∧ wr.cell? ⟨Bs, 0, none⟩ = some (.slice ao zs.length cap) ∧ wr.cell? ⟨Bn, 0, none⟩ = some (.int .i64 8)) (fun i _ => zs.length + 8 - (intOf i).toNat)
  case atStart => exact ⟨0, Nat.zero_le _, rfl, h0, hs, hn⟩
  case round =>
    obtain ⟨k, hk, rfl, hJ, hs1, hn1⟩ := hrel
    clear hs hn h0
    have hlen := allPc_len (np zs)
    by_cases hlt : 8 * k < zs.length
    · have hkn : k < np zs := np_lt.2 hlt
      obtain rfl := hao (by omega)
      obtain ⟨x, hxv, htk⟩ : ∃ x : Pc (np zs), x.1 = k ∧ (allPc (np zs)).take (k + 1) = (allPc (np zs)).take k ++ [x] := ⟨(allPc (np zs))[k]'(by omega), allPc_at (np zs) k (by omega), List.take_succ_eq_append_getElem (by omega)⟩
      have HPL : Hid (((allPc (np zs)).take k).length < np zs) := by show _ < _; rw [List.length_take]; omega
      have HXV := hide hxv
      have hi1 : (8 * k : Nat) ≤ cap := by omega
      have hi2 : ¬ cap = 8 * k := by omega
      have HTK := hide htk
      have HJ := hide hJ
      clear htk hJ hlen hxv
      gi_wp2
      refine wpIn_wide.2 ?_
      go_quiet (fail)
      have hJ2 := hab _ _ nq (unhide HJ)
      have hs2 : (wr.drewN nq).cell? ⟨Bs, 0, none⟩ = some (.slice (some ⟨b, off, none⟩) zs.length cap) := hs1
      have hn2 : (wr.drewN nq).cell? ⟨Bn, 0, none⟩ = some (.int .i64 8) := hn1
      obtain ⟨e, he⟩ : ∃ e, e = min 8 (zs.length - 8 * k) := ⟨_, rfl⟩
      have he1 : e ≤ 8 := by omega
      have he2 : 8 * k + e ≤ zs.length := by omega
      have he3 : 0 < e := by omega
      have he4 : e = 8 ∨ 8 * k + e = zs.length := by omega
      have hE : (if ((zs.length - 8 * k : Nat) : Int) < 8 then ((zs.length - 8 * k : Nat) : Int) else 8) = ((e : Nat) : Int) := by split <;> omega
      rw [hE]
      have HPV : Hid (pcV b off zs x.1 = .slice (some ⟨b, off + 8 * k, none⟩) e e) := by show pcV b off zs x.1 = _; rw [unhide HXV, pcV, he]
      obtain ⟨fn, tmps, assign, body, hy, hR⟩ := hY _ x _ hJ2 (unhide HPL)
      rw [unhide HPV] at hy
      generalize wr.drewN nq = W2 at *
      clear hs1 hn1 HJ hJ2 hE he HPL HPV
      gi_wp2
      refine ⟨fun h => by simp [Fence.wide] at h, hR.mono ?_⟩
      rintro e9 W3 (⟨rfl, hJ3, hk3⟩ | ⟨rfl, hJx3⟩)
      · have s3 : W3.cell? ⟨Bs, 0, none⟩ = some (.slice (some ⟨b, off, none⟩) zs.length cap) := (cell_of_heap (hk3.2 Bs k1.1 k1.2) 0).trans hs2
        have n3 : W3.cell? ⟨Bn, 0, none⟩ = some (.int .i64 8) := (cell_of_heap (hk3.2 Bn k2.1 k2.2) 0).trans hn2
        clear hs2 hn2 hy
        gi_wp2
        go_roundw
        case rel => exact ⟨k + 1, by omega, by go_num, by rw [unhide HTK]; exact hJ3, s3, n3⟩
        case measure => simp [intOf]; omega
      · clear hs2 hn2 hy
        gi_wp2
        refine bodyPost_ret (results_none rfl _ _ _) rfl ?_
        exact ⟨⟨_, rfl⟩, .inr ⟨_, by rw [← unhide HTK]; exact List.take_prefix _ _, hJx3⟩⟩
    · have hkn : k = np zs := by have := np_lt (zs := zs) (j := k); omega
      have hJ2 : J (allPc (np zs)) wr := by
        rw [List.take_of_length_le (by omega)] at hJ
        exact hJ
      clear hJ
      gi_wp2
      go_end0
      exact ⟨⟨_, rfl⟩, .inl ⟨_, rfl, hJ2⟩⟩

/-- What slices.Chunk hands back tells the pieces, all or the first ones. -/
theorem chunk_stops (n Bs Bn b off cap : Nat) (ao : Option Addr) (zs : List Int) (N : Nat) (S : Nat → Prop) (hzs : zs.length ≤ 100000) (hcap : zs.length ≤ cap) (hao : 0 < zs.length → ao = some ⟨b, off, none⟩)
    (k1 : Bs < N ∧ ¬ S Bs) (k2 : Bn < N ∧ ¬ S Bn) (w : World) (l1 : Bs < w.heap.size) (l2 : Bn < w.heap.size) (hs : w.cell? ⟨Bs, 0, none⟩ = some (.slice ao zs.length cap)) (hn : w.cell? ⟨Bn, 0, none⟩ = some (.int .i64 8)) :
    SeqStopsK Fence.wide n Try.prog 88 #[.pointer (some ⟨Bs, 0, none⟩), .pointer (some ⟨Bn, 0, none⟩)] (fun x : Pc (np zs) => #[pcV b off zs x.1]) (KpS N S) (fun ys => ys = allPc (np zs)) (fun pre => pre <+: allPc (np zs)) (np zs) w :=
  fun l J Jx W hW hJ _ hY h0 => chunk1 l n Bs Bn b off cap ao zs N S hzs hcap hao k1 k2 J Jx (fun pre W m h => hJ pre W (W.drewN m) none h ⟨rfl, rfl, rfl, Nat.le_refl _, fun _ _ _ => rfl⟩ (fun r e => by cases e)) hY W ((hW.cell (p := ⟨Bs, 0, none⟩) l1).trans hs) ((hW.cell (p := ⟨Bn, 0, none⟩) l2).trans hn) h0

/-- slices.Chunk: the list and the length of a piece are boxed; the function value captures the boxes. -/
theorem implChunk (ap : Option Addr) (m cp : Nat) (w : World) :
    Calls Try.prog 58 #[.slice ap m cp, .int .i64 8] w fun e w' => e = .returned (.func (.func 88) #[] #[.pointer (some ⟨w.heap.size, 0, none⟩), .pointer (some ⟨w.heap.size + 1, 0, none⟩)]) ∧ w' = (w.alloc (.cells #[.slice ap m cp] 24)).alloc (.cells #[.int .i64 8] 3) := by
  go_enter Try.func58, Try.ntmps58
  go_wp2_with fail
  go_ret
  exact ⟨rfl, rfl⟩

end Go.Proofs.Ytipomhpimmnchaa

namespace Go.Proofs.Ytipomhpimmnchaa
open Go.RowKit

theorem wpListIn_append_Write {l nF : Nat} {w1 : World} {base : Nat} {v : Value} {rows : List (List Value)} {xs : List DWrite} {bls : List (List Nat)} (hG : Grow Lay.tWrite w1 base 58 v rows xs bls) {row : List Value} {x : DWrite} {bl : List Nat} (hl : Lay.tWrite.lies w1 row x bl) (hbl : ∀ b ∈ bl, v.ownBlock ≠ some b) {ops : Array Oper} {rest : List Oper} {o : Oper} {a : Act} {Q : Exit → Act → World → Prop} (hgd : o.guard = none) (s y : Operand)
    (ho : o.op = .call { callee := .builtin .append, args := #[s, y], argTypes := #[28, 28] }) (hs : a.eval s = v) (hy : a.eval y = .slice (some ⟨w1.heap.size, 0, none⟩) 1 1) (hn : xs.length + 1 ≤ 100000000) (hbase : base ≤ w1.heap.size)
    (h : ∀ g cap w', Grow Lay.tWrite w' base 58 (.slice (some ⟨g, 0, none⟩) (xs.length + 1) cap) (rows ++ [row]) (xs ++ [x]) (bls ++ [bl]) → Below base w1 w' → Ext (fun q => v.ownBlock = some q) w1 w' → g < w'.heap.size → w1.heap.size ≤ w'.heap.size → (v.ownBlock = some g ∨ w1.heap.size ≤ g) → wpListIn (Fence.wide.inRound l) nF Try.prog ops Q rest (a.put o.dst (.slice (some ⟨g, 0, none⟩) (xs.length + 1) cap)) w') :
    wpListIn (Fence.wide.inRound l) nF Try.prog ops Q (o :: rest) a (w1.alloc (.cells row.toArray 58)) := by
  refine wpListIn_plain hgd fun K hK => wp_in l nF (by simp [noDefer, ho]) ?_
  have := step_append_Write (ops := ops) (K := K) (Q := Q) (E := True) hG hl hbl hgd s y ho hs hy hn hbase (fun g cap w' q1 q2 q3 q4 q5 q6 => hK _ _ (h g cap w' q1 q2 q3 q4 q5 q6))
  rwa [if_pos (show Region.wanted o (yielded ops a.tmps) = true by simp [Region.wanted, hgd])] at this

theorem wpListIn_append_WriteH {l nF : Nat} {w1 : World} {base : Nat} {v : Value} {rows : List (List Value)} {xs : List DWrite} {bls : List (List Nat)} (hG : Grow Lay.tWrite w1 base 58 v rows xs bls) {row : List Value} {x : DWrite} {bl : List Nat} (hl : Lay.tWrite.lies w1 row x bl) (hbl : ∀ b ∈ bl, v.ownBlock ≠ some b) {ops : Array Oper} {rest : List Oper} {o : Oper} {a : Act} {Q : Exit → Act → World → Prop} (hgd : o.guard = none) (s y : Operand)
    (ho : o.op = .call { callee := .builtin .append, args := #[s, y], argTypes := #[28, 28] }) (hs : a.eval s = v) {H : Nat} (hH : w1.heap.size = H) (hy : a.eval y = .slice (some ⟨H, 0, none⟩) 1 1) (hn : xs.length + 1 ≤ 100000000) (hbase : base ≤ w1.heap.size)
    (h : ∀ g cap w', Grow Lay.tWrite w' base 58 (.slice (some ⟨g, 0, none⟩) (xs.length + 1) cap) (rows ++ [row]) (xs ++ [x]) (bls ++ [bl]) → Below base w1 w' → Ext (fun q => v.ownBlock = some q) w1 w' → g < w'.heap.size → w1.heap.size ≤ w'.heap.size → (v.ownBlock = some g ∨ w1.heap.size ≤ g) → wpListIn (Fence.wide.inRound l) nF Try.prog ops Q rest (a.put o.dst (.slice (some ⟨g, 0, none⟩) (xs.length + 1) cap)) w') :
    wpListIn (Fence.wide.inRound l) nF Try.prog ops Q (o :: rest) a (w1.alloc (.cells row.toArray 58)) :=
  wpListIn_append_Write hG hl hbl hgd s y ho hs (by rw [hH]; exact hy) hn hbase h

end Go.Proofs.Ytipomhpimmnchaa
