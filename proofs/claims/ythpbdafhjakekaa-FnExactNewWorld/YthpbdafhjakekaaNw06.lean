/-
  Texts of this proof in one: MaNodeS, OwnMsg, MaMsgS, OwnEntry, MaHitS, MaEntryS.
  Their conditions stand in their theorems.
-/
import Derived.Test.YthpbdafhjakekaaChecked
import Derived.Test.YthpbdafhjakekaaNw05
import Derived.Test.YthpbdafhjakekaaNw01
import Derived.Test.YthpbdafhjakekaaNw02
import Derived.Test.YthpbdafhjakekaaNw03

namespace Go.Proofs.Ythpbdafhjakekaa
open Go.RowKit

theorem cnt_Node (x : DNode) : Lay.tNode.cnt x = 6 + (Lay.sl Lay.tWrite).vcnt x.writes := by
  show 1 + (1 + (1 + (1 + ((Lay.sl Lay.tWrite).vcnt x.writes + (1 + (1)))))) = 6 + (Lay.sl Lay.tWrite).vcnt x.writes
  omega
theorem mkd_Node (k : Int) (x : DNode) : Lay.tNode.mkd k x = ⟨k, ((k + 1).tmod 3 == 0), k + 1 + 1, k + 1 + 1 + 1, (Lay.sl Lay.tWrite).mkv (k + 1 + 1 + 1 + 1) x.writes, k + 1 + 1 + 1 + 1 + ((Lay.sl Lay.tWrite).vcnt x.writes : Nat), k + 1 + 1 + 1 + 1 + ((Lay.sl Lay.tWrite).vcnt x.writes : Nat) + 1⟩ := rfl
theorem vcnt_NodeS (xs : List DNode) : (Lay.sl Lay.tNode).vcnt xs = cntAll Lay.tNode.cnt xs := rfl
theorem mkv_NodeS (k : Int) (xs : List DNode) : (Lay.sl Lay.tNode).mkv k xs = mkAll Lay.tNode.cnt Lay.tNode.mkd k xs := rfl

set_option maxRecDepth 10000 in
set_option maxHeartbeats 4000000 in
theorem markNode_pos (b off cap : Nat) (xs : List DNode) (bl : List Nat) (k : Int) (w : World) (h : (Lay.sl Lay.tNode).Own w [.slice (some ⟨b, off, none⟩) xs.length cap] xs bl) (hk : 0 ≤ k) (hk2 : k + (cntAll Lay.tNode.cnt xs : Nat) ≤ 1000000000) :
    Calls Try.prog 26 #[.slice (some ⟨b, off, none⟩) xs.length cap, .int .i64 k] w fun e w' => e = .returned (.int .i64 (k + (cntAll Lay.tNode.cnt xs : Nat))) ∧ (Lay.sl Lay.tNode).Own w' [.slice (some ⟨b, off, none⟩) xs.length cap] (mkAll Lay.tNode.cnt Lay.tNode.mkd k xs) bl ∧ Ext (fun q => q ∈ bl) w w' := by
  have hbig := h.reads.big
  have H := hide h
  clear h
  go_enter Try.func26, Try.ntmps26
  go_wp2_with fail
  go_loopw [1, 5] (fun kk i wr => ∃ (j : Nat) (kj : Int), j ≤ xs.length ∧ i = .int .i64 j ∧ kj = k + (cntAll Lay.tNode.cnt (xs.take j) : Nat) ∧ kk = .int .i64 kj ∧ (Lay.sl Lay.tNode).Own wr [.slice (some ⟨b, off, none⟩) xs.length cap] (mkPre Lay.tNode.cnt Lay.tNode.mkd k xs j) bl ∧ Ext (fun q => q ∈ bl) w wr) (fun _ i _ => xs.length - (intOf i).toNat)
  case atStart => exact ⟨0, k, Nat.zero_le _, rfl, by simp [cntAll], rfl, by rw [mkPre_zero]; exact unhide H, Ext.refl _ _⟩
  case round =>
    obtain ⟨j, kj, hj, rfl, hkj, rfl, hO, hX⟩ := hrel
    clear H
    by_cases hlt : j < xs.length
    · have hj2 : j < (mkPre Lay.tNode.cnt Lay.tNode.mkd k xs j).length := by rw [mkPre_len _ _ _ _ _ hj]; exact hlt
      obtain ⟨row, blk, R, O, hbk, hin, hfin⟩ := Lay.own_upd hO hj2
      rw [mkPre_get _ _ _ _ _ hlt] at O
      have HT := hide (Lay.cntAll_take (f := Lay.tNode.cnt) hlt)
      have hle := Lay.cntAll_take_le (f := Lay.tNode.cnt) (xs := xs) (k := j + 1)
      rw [unhide HT] at hle
      have HM : Hid (∀ y, y = Lay.tNode.mkd kj xs[j] → (mkPre Lay.tNode.cnt Lay.tNode.mkd k xs j).set j y = mkPre Lay.tNode.cnt Lay.tNode.mkd k xs (j + 1)) := fun y e => by rw [e, hkj]; exact mkPre_set _ _ _ _ _ hlt
      have HF := hide hfin
      have HX := hide hX
      have HI := hide hin
      clear hO hfin hX hin hj2
      generalize hx : xs[j] = x at *
      clear hx
      have hcn := cnt_Node x
      have HD0 := mkd_Node kj x
      have hb1 : 0 ≤ kj := by omega
      have hb2 : kj + (Lay.tNode.cnt x : Int) ≤ 1000000000 := by omega
      have HK := hide hkj
      clear hkj hle
      rw [Int.tmod_eq_emod_of_nonneg (show (0 : Int) ≤ kj + 1 by omega)] at HD0
      have HD := hide HD0
      clear HD0
      have hnd := O.2.1
      obtain ⟨a4, d4, g4, rfl, hbl, O4, v0, v2, v3, v5, v6⟩ := own_Node O
      clear O
      have HN : Hid ((g4).Nodup) := by rw [hbl] at hnd; exact hnd
      have HBL := hide hbl
      have hm4 : ∀ c ∈ g4, c ∈ blk := fun c hc => by rw [hbl]; simp [hc]
      have HM4 := hide hm4
      have HB4 : Hid (b ∉ g4) := fun hc => hbk (hm4 b hc)
      clear hm4
      clear hnd hbl
      have P4 := hide O4
      clear O4
      have HR := hide R
      have l1 : b < wr.heap.size := R.lt
      clear R
      have c0 : wr.cell? ⟨b, off + j * 7, none⟩ = some (.int .i64 x.id) := (unhide HR).at 0 _ rfl
      have f0 : wr.frozen? ⟨b, off + j * 7, none⟩ = false := (unhide HR).soft _
      have c1 : wr.cell? ⟨b, off + j * 7 + 1, none⟩ = some (.bool x.up) := (unhide HR).at 1 _ rfl
      have f1 : wr.frozen? ⟨b, off + j * 7 + 1, none⟩ = false := (unhide HR).soft _
      have c2 : wr.cell? ⟨b, off + j * 7 + 2, none⟩ = some (.int .i64 x.epoch) := (unhide HR).at 2 _ rfl
      have f2 : wr.frozen? ⟨b, off + j * 7 + 2, none⟩ = false := (unhide HR).soft _
      have c3 : wr.cell? ⟨b, off + j * 7 + 3, none⟩ = some (.int .i64 x.lease) := (unhide HR).at 3 _ rfl
      have f3 : wr.frozen? ⟨b, off + j * 7 + 3, none⟩ = false := (unhide HR).soft _
      have c4 : wr.cell? ⟨b, off + j * 7 + 4, none⟩ = some (.slice a4 x.writes.length d4) := (unhide HR).at 4 _ rfl
      have E0_ : Ext (fun q => q = b) wr ((((wr.setCell ⟨b, off + j * 7, none⟩ (.int .i64 kj)).setCell ⟨b, off + j * 7 + 1, none⟩ (.bool ((kj + 1) % 3 == 0))).setCell ⟨b, off + j * 7 + 2, none⟩ (.int .i64 (kj + 1 + 1))).setCell ⟨b, off + j * 7 + 3, none⟩ (.int .i64 (kj + 1 + 1 + 1))) := (((((Ext.refl (fun q => q = b) _).setCell ⟨b, off + j * 7, none⟩ (.int .i64 kj) rfl).setCell ⟨b, off + j * 7 + 1, none⟩ (.bool ((kj + 1) % 3 == 0)) rfl).setCell ⟨b, off + j * 7 + 2, none⟩ (.int .i64 (kj + 1 + 1)) rfl).setCell ⟨b, off + j * 7 + 3, none⟩ (.int .i64 (kj + 1 + 1 + 1)) rfl)
      have HR0_ : Hid (RowAt wr ((((wr.setCell ⟨b, off + j * 7, none⟩ (.int .i64 kj)).setCell ⟨b, off + j * 7 + 1, none⟩ (.bool ((kj + 1) % 3 == 0))).setCell ⟨b, off + j * 7 + 2, none⟩ (.int .i64 (kj + 1 + 1))).setCell ⟨b, off + j * 7 + 3, none⟩ (.int .i64 (kj + 1 + 1 + 1))) b (off + j * 7) 7 [.int .i64 kj, .bool ((kj + 1) % 3 == 0), .int .i64 (kj + 1 + 1), .int .i64 (kj + 1 + 1 + 1), .slice a4 x.writes.length d4, .int .i64 x.sure, .int .i64 x.clean] blk) := (((((unhide HR).set 0 (.int .i64 kj) (by decide)).set 1 (.bool ((kj + 1) % 3 == 0)) (by decide)).set 2 (.int .i64 (kj + 1 + 1)) (by decide)).set 3 (.int .i64 (kj + 1 + 1 + 1)) (by decide))
      replace P4 := hide ((unhide P4).ext E0_ (fun c hc e => unhide HB4 (e ▸ hc)))
      clear HR E0_
      have HR := HR0_
      clear HR0_
      go_wp2_with fail
      refine (mark_WriteS _ x.writes g4 (kj + 1 + 1 + 1 + 1) _ (unhide P4) (by omega) (by omega)).mono ?_
      rintro e u0 ⟨rfl, Q, E2⟩
      replace HR := hide ((unhide HR).call E2 (unhide HM4) (unhide HB4))
      clear P4
      have P4 := hide Q
      clear Q E2 l1 c0 f0 c1 f1 c2 f2 c3 f3 c4
      have l1 : b < u0.heap.size := (unhide HR).lt
      have c5 : u0.cell? ⟨b, off + j * 7 + 5, none⟩ = some (.int .i64 x.sure) := (unhide HR).at 5 _ rfl
      have f5 : u0.frozen? ⟨b, off + j * 7 + 5, none⟩ = false := (unhide HR).soft _
      have c6 : u0.cell? ⟨b, off + j * 7 + 6, none⟩ = some (.int .i64 x.clean) := (unhide HR).at 6 _ rfl
      have f6 : u0.frozen? ⟨b, off + j * 7 + 6, none⟩ = false := (unhide HR).soft _
      have E1_ : Ext (fun q => q = b) u0 ((u0.setCell ⟨b, off + j * 7 + 5, none⟩ (.int .i64 (kj + 1 + 1 + 1 + 1 + ((Lay.sl Lay.tWrite).vcnt x.writes : Nat)))).setCell ⟨b, off + j * 7 + 6, none⟩ (.int .i64 (kj + 1 + 1 + 1 + 1 + ((Lay.sl Lay.tWrite).vcnt x.writes : Nat) + 1))) := (((Ext.refl (fun q => q = b) _).setCell ⟨b, off + j * 7 + 5, none⟩ (.int .i64 (kj + 1 + 1 + 1 + 1 + ((Lay.sl Lay.tWrite).vcnt x.writes : Nat))) rfl).setCell ⟨b, off + j * 7 + 6, none⟩ (.int .i64 (kj + 1 + 1 + 1 + 1 + ((Lay.sl Lay.tWrite).vcnt x.writes : Nat) + 1)) rfl)
      have HR1_ : Hid (RowAt wr ((u0.setCell ⟨b, off + j * 7 + 5, none⟩ (.int .i64 (kj + 1 + 1 + 1 + 1 + ((Lay.sl Lay.tWrite).vcnt x.writes : Nat)))).setCell ⟨b, off + j * 7 + 6, none⟩ (.int .i64 (kj + 1 + 1 + 1 + 1 + ((Lay.sl Lay.tWrite).vcnt x.writes : Nat) + 1))) b (off + j * 7) 7 [.int .i64 kj, .bool ((kj + 1) % 3 == 0), .int .i64 (kj + 1 + 1), .int .i64 (kj + 1 + 1 + 1), .slice a4 x.writes.length d4, .int .i64 (kj + 1 + 1 + 1 + 1 + ((Lay.sl Lay.tWrite).vcnt x.writes : Nat)), .int .i64 (kj + 1 + 1 + 1 + 1 + ((Lay.sl Lay.tWrite).vcnt x.writes : Nat) + 1)] blk) := (((unhide HR).set 5 (.int .i64 (kj + 1 + 1 + 1 + 1 + ((Lay.sl Lay.tWrite).vcnt x.writes : Nat))) (by decide)).set 6 (.int .i64 (kj + 1 + 1 + 1 + 1 + ((Lay.sl Lay.tWrite).vcnt x.writes : Nat) + 1)) (by decide))
      replace P4 := hide ((unhide P4).ext E1_ (fun c hc e => unhide HB4 (e ▸ hc)))
      clear HR E1_
      have HR := HR1_
      clear HR1_
      go_wp2_with fail
      go_roundw
      case rel =>
        refine ⟨j + 1, _, by omega, by go_num, ?_, rfl, ?_, ?_⟩
        · rw [unhide HT, hcn]
          have := unhide HK
          omega
        · rw [← unhide HM _ (unhide HD).symm]
          exact unhide HF _ _ _ (unhide HR) (by rw [unhide HBL]; exact mkOwn_Node (x := ⟨kj, ((kj + 1) % 3 == 0), kj + 1 + 1, kj + 1 + 1 + 1, (Lay.sl Lay.tWrite).mkv (kj + 1 + 1 + 1 + 1) x.writes, kj + 1 + 1 + 1 + 1 + ((Lay.sl Lay.tWrite).vcnt x.writes : Nat), kj + 1 + 1 + 1 + 1 + ((Lay.sl Lay.tWrite).vcnt x.writes : Nat) + 1⟩) (unhide P4) (show (Lit.int .i64 (kj)).wf = true from wf_of_bd (by omega)) (show (Lit.int .i64 (kj + 1 + 1)).wf = true from wf_of_bd (by omega)) (show (Lit.int .i64 (kj + 1 + 1 + 1)).wf = true from wf_of_bd (by omega)) (show (Lit.int .i64 (kj + 1 + 1 + 1 + 1 + ((Lay.sl Lay.tWrite).vcnt x.writes : Nat))).wf = true from wf_of_bd (by omega)) (show (Lit.int .i64 (kj + 1 + 1 + 1 + 1 + ((Lay.sl Lay.tWrite).vcnt x.writes : Nat) + 1)).wf = true from wf_of_bd (by omega)) (unhide HN))
        · exact (unhide HX).trans ((unhide HR).ext.mono fun q _ hq => unhide HI q (by rcases hq with h | h; exact Or.inl h.symm; exact Or.inr h))
      case measure => simp [intOf]; omega
    · obtain rfl : j = xs.length := by omega
      rw [mkPre_all] at hO
      rw [List.take_length] at hkj
      have HK := hide hkj
      clear hkj
      have HO := hide hO
      have HX := hide hX
      clear hO hX
      go_wp2_with fail
      go_ret
      exact ⟨by rw [← unhide HK]; rfl, unhide HO, unhide HX⟩

theorem markNode_zero (ao : Option Addr) (cap : Nat) (k : Int) (w : World) :
    Calls Try.prog 26 #[.slice ao 0 cap, .int .i64 k] w fun e w' => e = .returned (.int .i64 k) ∧ w' = w := by
  go_enter Try.func26, Try.ntmps26
  go_wp2_with fail
  refine wp_loop_rounds 1 ?_
  rw [rounds_succ]
  go_wp2_with fail
  go_ret
  exact ⟨rfl, rfl⟩

/-- markNodeS. -/
theorem mark_NodeS (v : Value) (xs : List DNode) (bl : List Nat) (k : Int) (w : World) (h : (Lay.sl Lay.tNode).Own w [v] xs bl) (hk : 0 ≤ k) (hk2 : k + (Lay.sl Lay.tNode).vcnt xs ≤ 1000000000) :
    Calls Try.prog 26 #[v, .int .i64 k] w fun e w' => e = .returned (.int .i64 (k + (Lay.sl Lay.tNode).vcnt xs)) ∧ (Lay.sl Lay.tNode).Own w' [v] ((Lay.sl Lay.tNode).mkv k xs) bl ∧ Ext (fun q => q ∈ bl) w w' := by
  obtain ⟨ao, cap, rfl⟩ := open_sl h.reads
  by_cases hp : 0 < xs.length
  · obtain ⟨b, off, rfl, hbl⟩ := Lay.sl_addr h.reads hp
    exact markNode_pos b off cap xs bl k w h hk hk2
  · obtain rfl : xs = [] := List.eq_nil_of_length_eq_zero (by omega)
    refine (markNode_zero ao cap k w).mono ?_
    rintro e w' ⟨rfl, rfl⟩
    exact ⟨by rw [vcnt_NodeS]; simp [cntAll], h, Ext.refl _ _⟩

end Go.Proofs.Ythpbdafhjakekaa

namespace Go.Proofs.Ythpbdafhjakekaa
open Go.RowKit

theorem vcnt_Msg (x : DMsg) : Lay.tMsg.vcnt x = Lay.tWrite.vcnt x.write := by
  show 0 + (0 + (0 + (0 + (0 + (Lay.tWrite.vcnt x.write))))) = Lay.tWrite.vcnt x.write
  omega
theorem mkv_Msg (k : Int) (x : DMsg) : Lay.tMsg.mkv k x = ⟨x.kind, x.epoch, x.src, x.dst, x.index, Lay.tWrite.mkv (k) x.write⟩ := by
  simp [Lay.tMsg, Lay.via, Lay.pair, Lay.int]
theorem own_Msg {w : World} {cs : List Value} {x : DMsg} {bl : List Nat} (h : Lay.tMsg.Own w cs x bl) : ∃ (a7 : Option Addr) (d7 : Nat) (g5 : List Nat), cs = [.int .i64 x.kind, .int .i64 x.epoch, .int .i64 x.src, .int .i64 x.dst, .int .i64 x.index, .int .i64 x.write.kind, .int .i64 x.write.id, .slice a7 x.write.vec.length d7, .int .i64 x.write.session, .int .i64 x.write.seq] ∧ bl = g5 ∧ Lay.tWrite.Own w [.int .i64 x.write.kind, .int .i64 x.write.id, .slice a7 x.write.vec.length d7, .int .i64 x.write.session, .int .i64 x.write.seq] x.write g5 ∧ (Lit.int .i64 x.kind).wf = true ∧ (Lit.int .i64 x.epoch).wf = true ∧ (Lit.int .i64 x.src).wf = true ∧ (Lit.int .i64 x.dst).wf = true ∧ (Lit.int .i64 x.index).wf = true := by
  obtain ⟨hl, hn, hf⟩ := h
  obtain ⟨a7, d7, b7, rfl, hbl, w0, w1, w2, w3, w4, w5, w6, l7, w8, w9⟩ := lies_Msg.1 hl
  rw [hbl] at hn hf
  exact ⟨a7, d7, b7, rfl, hbl, ⟨lies_Write.2 ⟨a7, d7, b7, rfl, rfl, w5, w6, l7, w8, w9⟩, hn, hf⟩, w0, w1, w2, w3, w4⟩
theorem mkOwn_Msg {w : World} {x : DMsg} {c5 : List Value} {g5 : List Nat} (O5 : Lay.tWrite.Own w c5 x.write g5) (v0 : (Lit.int .i64 x.kind).wf = true) (v1 : (Lit.int .i64 x.epoch).wf = true) (v2 : (Lit.int .i64 x.src).wf = true) (v3 : (Lit.int .i64 x.dst).wf = true) (v4 : (Lit.int .i64 x.index).wf = true) (hn : (g5).Nodup) : Lay.tMsg.Own w ([.int .i64 x.kind] ++ ([.int .i64 x.epoch] ++ ([.int .i64 x.src] ++ ([.int .i64 x.dst] ++ ([.int .i64 x.index] ++ c5))))) x (g5) := by
  refine ⟨⟨[.int .i64 x.kind], [.int .i64 x.epoch] ++ ([.int .i64 x.src] ++ ([.int .i64 x.dst] ++ ([.int .i64 x.index] ++ c5))), [], [] ++ ([] ++ ([] ++ ([] ++ g5))), rfl, by simp, ⟨rfl, v0, rfl⟩, ⟨[.int .i64 x.epoch], [.int .i64 x.src] ++ ([.int .i64 x.dst] ++ ([.int .i64 x.index] ++ c5)), [], [] ++ ([] ++ ([] ++ g5)), rfl, rfl, ⟨rfl, v1, rfl⟩, ⟨[.int .i64 x.src], [.int .i64 x.dst] ++ ([.int .i64 x.index] ++ c5), [], [] ++ ([] ++ g5), rfl, rfl, ⟨rfl, v2, rfl⟩, ⟨[.int .i64 x.dst], [.int .i64 x.index] ++ c5, [], [] ++ g5, rfl, rfl, ⟨rfl, v3, rfl⟩, ⟨[.int .i64 x.index], c5, [], g5, rfl, rfl, ⟨rfl, v4, rfl⟩, O5.1⟩⟩⟩⟩⟩, hn, ?_⟩
  intro b hb o
  exact O5.2.2 b hb o

end Go.Proofs.Ythpbdafhjakekaa

namespace Go.Proofs.Ythpbdafhjakekaa
open Go.RowKit

theorem cnt_Msg (x : DMsg) : Lay.tMsg.cnt x = 9 + (Lay.sl Lay.int).vcnt x.write.vec := by
  show 1 + (1 + (1 + (1 + (1 + (1 + (1 + ((Lay.sl Lay.int).vcnt x.write.vec + (1 + (1))))))))) = 9 + (Lay.sl Lay.int).vcnt x.write.vec
  omega
theorem mkd_Msg (k : Int) (x : DMsg) : Lay.tMsg.mkd k x = ⟨k, k + 1, k + 1 + 1, k + 1 + 1 + 1, k + 1 + 1 + 1 + 1, ⟨k + 1 + 1 + 1 + 1 + 1, k + 1 + 1 + 1 + 1 + 1 + 1, (Lay.sl Lay.int).mkv (k + 1 + 1 + 1 + 1 + 1 + 1 + 1) x.write.vec, k + 1 + 1 + 1 + 1 + 1 + 1 + 1 + ((Lay.sl Lay.int).vcnt x.write.vec : Nat), k + 1 + 1 + 1 + 1 + 1 + 1 + 1 + ((Lay.sl Lay.int).vcnt x.write.vec : Nat) + 1⟩⟩ := rfl
theorem vcnt_MsgS (xs : List DMsg) : (Lay.sl Lay.tMsg).vcnt xs = cntAll Lay.tMsg.cnt xs := rfl
theorem mkv_MsgS (k : Int) (xs : List DMsg) : (Lay.sl Lay.tMsg).mkv k xs = mkAll Lay.tMsg.cnt Lay.tMsg.mkd k xs := rfl

set_option maxRecDepth 10000 in
set_option maxHeartbeats 2000000 in
theorem markMsg_pos (b off cap : Nat) (xs : List DMsg) (bl : List Nat) (k : Int) (w : World) (h : (Lay.sl Lay.tMsg).Own w [.slice (some ⟨b, off, none⟩) xs.length cap] xs bl) (hk : 0 ≤ k) (hk2 : k + (cntAll Lay.tMsg.cnt xs : Nat) ≤ 1000000000) :
    Calls Try.prog 27 #[.slice (some ⟨b, off, none⟩) xs.length cap, .int .i64 k] w fun e w' => e = .returned (.int .i64 (k + (cntAll Lay.tMsg.cnt xs : Nat))) ∧ (Lay.sl Lay.tMsg).Own w' [.slice (some ⟨b, off, none⟩) xs.length cap] (mkAll Lay.tMsg.cnt Lay.tMsg.mkd k xs) bl ∧ Ext (fun q => q ∈ bl) w w' := by
  have hbig := h.reads.big
  have H := hide h
  clear h
  go_enter Try.func27, Try.ntmps27
  go_wp2_with fail
  go_loopw [1, 5] (fun kk i wr => ∃ (j : Nat) (kj : Int), j ≤ xs.length ∧ i = .int .i64 j ∧ kj = k + (cntAll Lay.tMsg.cnt (xs.take j) : Nat) ∧ kk = .int .i64 kj ∧ (Lay.sl Lay.tMsg).Own wr [.slice (some ⟨b, off, none⟩) xs.length cap] (mkPre Lay.tMsg.cnt Lay.tMsg.mkd k xs j) bl ∧ Ext (fun q => q ∈ bl) w wr) (fun _ i _ => xs.length - (intOf i).toNat)
  case atStart => exact ⟨0, k, Nat.zero_le _, rfl, by simp [cntAll], rfl, by rw [mkPre_zero]; exact unhide H, Ext.refl _ _⟩
  case round =>
    obtain ⟨j, kj, hj, rfl, hkj, rfl, hO, hX⟩ := hrel
    clear H
    by_cases hlt : j < xs.length
    · have hj2 : j < (mkPre Lay.tMsg.cnt Lay.tMsg.mkd k xs j).length := by rw [mkPre_len _ _ _ _ _ hj]; exact hlt
      obtain ⟨row, blk, R, O, hbk, hin, hfin⟩ := Lay.own_upd hO hj2
      rw [mkPre_get _ _ _ _ _ hlt] at O
      have HT := hide (Lay.cntAll_take (f := Lay.tMsg.cnt) hlt)
      have hle := Lay.cntAll_take_le (f := Lay.tMsg.cnt) (xs := xs) (k := j + 1)
      rw [unhide HT] at hle
      have HM : Hid (∀ y, y = Lay.tMsg.mkd kj xs[j] → (mkPre Lay.tMsg.cnt Lay.tMsg.mkd k xs j).set j y = mkPre Lay.tMsg.cnt Lay.tMsg.mkd k xs (j + 1)) := fun y e => by rw [e, hkj]; exact mkPre_set _ _ _ _ _ hlt
      have HF := hide hfin
      have HX := hide hX
      have HI := hide hin
      clear hO hfin hX hin hj2
      generalize hx : xs[j] = x at *
      clear hx
      have hcn := cnt_Msg x
      have HD := hide (mkd_Msg kj x)
      have hb1 : 0 ≤ kj := by omega
      have hb2 : kj + (Lay.tMsg.cnt x : Int) ≤ 1000000000 := by omega
      have HK := hide hkj
      clear hkj hle
      have hnd := O.2.1
      obtain ⟨a7, d7, g7, rfl, hbl, OW, v0, v1, v2, v3, v4⟩ := own_Msg O
      obtain ⟨_, _, _, e9, hbl9, O7, v5, v6, v8, v9⟩ := own_Write OW
      simp only [List.cons.injEq, Value.slice.injEq, true_and, and_true] at e9
      obtain ⟨rfl, rfl⟩ := e9
      clear O OW
      subst hbl9
      subst hbl
      have HN := hide hnd
      clear hnd
      have l1 : b < wr.heap.size := R.lt
      have c0 : wr.cell? ⟨b, off + j * 10, none⟩ = some (.int .i64 x.kind) := R.at 0 _ rfl
      have f0 : wr.frozen? ⟨b, off + j * 10, none⟩ = false := R.soft _
      have c1 : wr.cell? ⟨b, off + j * 10 + 1, none⟩ = some (.int .i64 x.epoch) := R.at 1 _ rfl
      have f1 : wr.frozen? ⟨b, off + j * 10 + 1, none⟩ = false := R.soft _
      have c2 : wr.cell? ⟨b, off + j * 10 + 2, none⟩ = some (.int .i64 x.src) := R.at 2 _ rfl
      have f2 : wr.frozen? ⟨b, off + j * 10 + 2, none⟩ = false := R.soft _
      have c3 : wr.cell? ⟨b, off + j * 10 + 3, none⟩ = some (.int .i64 x.dst) := R.at 3 _ rfl
      have f3 : wr.frozen? ⟨b, off + j * 10 + 3, none⟩ = false := R.soft _
      have c4 : wr.cell? ⟨b, off + j * 10 + 4, none⟩ = some (.int .i64 x.index) := R.at 4 _ rfl
      have f4 : wr.frozen? ⟨b, off + j * 10 + 4, none⟩ = false := R.soft _
      have c5 : wr.cell? ⟨b, off + j * 10 + 5, none⟩ = some (.int .i64 x.write.kind) := R.at 5 _ rfl
      have f5 : wr.frozen? ⟨b, off + j * 10 + 5, none⟩ = false := R.soft _
      have c6 : wr.cell? ⟨b, off + j * 10 + 6, none⟩ = some (.int .i64 x.write.id) := R.at 6 _ rfl
      have f6 : wr.frozen? ⟨b, off + j * 10 + 6, none⟩ = false := R.soft _
      have c7 : wr.cell? ⟨b, off + j * 10 + 7, none⟩ = some (.slice a7 x.write.vec.length d7) := R.at 7 _ rfl
      have R0_ : RowAt wr (((((((wr.setCell ⟨b, off + j * 10, none⟩ (.int .i64 kj)).setCell ⟨b, off + j * 10 + 1, none⟩ (.int .i64 (kj + 1))).setCell ⟨b, off + j * 10 + 2, none⟩ (.int .i64 (kj + 1 + 1))).setCell ⟨b, off + j * 10 + 3, none⟩ (.int .i64 (kj + 1 + 1 + 1))).setCell ⟨b, off + j * 10 + 4, none⟩ (.int .i64 (kj + 1 + 1 + 1 + 1))).setCell ⟨b, off + j * 10 + 5, none⟩ (.int .i64 (kj + 1 + 1 + 1 + 1 + 1))).setCell ⟨b, off + j * 10 + 6, none⟩ (.int .i64 (kj + 1 + 1 + 1 + 1 + 1 + 1))) b (off + j * 10) 10 [.int .i64 kj, .int .i64 (kj + 1), .int .i64 (kj + 1 + 1), .int .i64 (kj + 1 + 1 + 1), .int .i64 (kj + 1 + 1 + 1 + 1), .int .i64 (kj + 1 + 1 + 1 + 1 + 1), .int .i64 (kj + 1 + 1 + 1 + 1 + 1 + 1), .slice a7 x.write.vec.length d7, .int .i64 x.write.session, .int .i64 x.write.seq] blk := (((((((R.set 0 (.int .i64 kj) (by decide)).set 1 (.int .i64 (kj + 1)) (by decide)).set 2 (.int .i64 (kj + 1 + 1)) (by decide)).set 3 (.int .i64 (kj + 1 + 1 + 1)) (by decide)).set 4 (.int .i64 (kj + 1 + 1 + 1 + 1)) (by decide)).set 5 (.int .i64 (kj + 1 + 1 + 1 + 1 + 1)) (by decide)).set 6 (.int .i64 (kj + 1 + 1 + 1 + 1 + 1 + 1)) (by decide))
      have E0_ : Ext (fun q => q = b) wr (((((((wr.setCell ⟨b, off + j * 10, none⟩ (.int .i64 kj)).setCell ⟨b, off + j * 10 + 1, none⟩ (.int .i64 (kj + 1))).setCell ⟨b, off + j * 10 + 2, none⟩ (.int .i64 (kj + 1 + 1))).setCell ⟨b, off + j * 10 + 3, none⟩ (.int .i64 (kj + 1 + 1 + 1))).setCell ⟨b, off + j * 10 + 4, none⟩ (.int .i64 (kj + 1 + 1 + 1 + 1))).setCell ⟨b, off + j * 10 + 5, none⟩ (.int .i64 (kj + 1 + 1 + 1 + 1 + 1))).setCell ⟨b, off + j * 10 + 6, none⟩ (.int .i64 (kj + 1 + 1 + 1 + 1 + 1 + 1))) := ((((((((Ext.refl (fun q => q = b) _).setCell ⟨b, off + j * 10, none⟩ (.int .i64 kj) rfl).setCell ⟨b, off + j * 10 + 1, none⟩ (.int .i64 (kj + 1)) rfl).setCell ⟨b, off + j * 10 + 2, none⟩ (.int .i64 (kj + 1 + 1)) rfl).setCell ⟨b, off + j * 10 + 3, none⟩ (.int .i64 (kj + 1 + 1 + 1)) rfl).setCell ⟨b, off + j * 10 + 4, none⟩ (.int .i64 (kj + 1 + 1 + 1 + 1)) rfl).setCell ⟨b, off + j * 10 + 5, none⟩ (.int .i64 (kj + 1 + 1 + 1 + 1 + 1)) rfl).setCell ⟨b, off + j * 10 + 6, none⟩ (.int .i64 (kj + 1 + 1 + 1 + 1 + 1 + 1)) rfl)
      have O7_ := O7.ext E0_ (fun c hc e => hbk (e ▸ hc))
      clear O7
      have O7 := O7_
      clear O7_
      clear R E0_
      have R := R0_
      clear R0_
      have HR := hide R
      clear R
      go_wp2_with fail
      refine (mark_Int64S _ x.write.vec blk (kj + 1 + 1 + 1 + 1 + 1 + 1 + 1) _ O7 (by omega) (by omega)).mono ?_
      rintro e w2 ⟨rfl, Q7, E2⟩
      have R := (unhide HR).call E2 (fun _ h => h) hbk
      clear E2 O7 HR c0 c1 c2 c3 c4 c5 c6 c7 f0 f1 f2 f3 f4 f5 f6
      clear l1
      have l1 : b < w2.heap.size := R.lt
      have c8 : w2.cell? ⟨b, off + j * 10 + 8, none⟩ = some (.int .i64 x.write.session) := R.at 8 _ rfl
      have f8 : w2.frozen? ⟨b, off + j * 10 + 8, none⟩ = false := R.soft _
      have c9 : w2.cell? ⟨b, off + j * 10 + 9, none⟩ = some (.int .i64 x.write.seq) := R.at 9 _ rfl
      have f9 : w2.frozen? ⟨b, off + j * 10 + 9, none⟩ = false := R.soft _
      have R1_ : RowAt wr ((w2.setCell ⟨b, off + j * 10 + 8, none⟩ (.int .i64 (kj + 1 + 1 + 1 + 1 + 1 + 1 + 1 + ((Lay.sl Lay.int).vcnt x.write.vec : Nat)))).setCell ⟨b, off + j * 10 + 9, none⟩ (.int .i64 (kj + 1 + 1 + 1 + 1 + 1 + 1 + 1 + ((Lay.sl Lay.int).vcnt x.write.vec : Nat) + 1))) b (off + j * 10) 10 [.int .i64 kj, .int .i64 (kj + 1), .int .i64 (kj + 1 + 1), .int .i64 (kj + 1 + 1 + 1), .int .i64 (kj + 1 + 1 + 1 + 1), .int .i64 (kj + 1 + 1 + 1 + 1 + 1), .int .i64 (kj + 1 + 1 + 1 + 1 + 1 + 1), .slice a7 x.write.vec.length d7, .int .i64 (kj + 1 + 1 + 1 + 1 + 1 + 1 + 1 + ((Lay.sl Lay.int).vcnt x.write.vec : Nat)), .int .i64 (kj + 1 + 1 + 1 + 1 + 1 + 1 + 1 + ((Lay.sl Lay.int).vcnt x.write.vec : Nat) + 1)] blk := ((R.set 8 (.int .i64 (kj + 1 + 1 + 1 + 1 + 1 + 1 + 1 + ((Lay.sl Lay.int).vcnt x.write.vec : Nat))) (by decide)).set 9 (.int .i64 (kj + 1 + 1 + 1 + 1 + 1 + 1 + 1 + ((Lay.sl Lay.int).vcnt x.write.vec : Nat) + 1)) (by decide))
      have E1_ : Ext (fun q => q = b) w2 ((w2.setCell ⟨b, off + j * 10 + 8, none⟩ (.int .i64 (kj + 1 + 1 + 1 + 1 + 1 + 1 + 1 + ((Lay.sl Lay.int).vcnt x.write.vec : Nat)))).setCell ⟨b, off + j * 10 + 9, none⟩ (.int .i64 (kj + 1 + 1 + 1 + 1 + 1 + 1 + 1 + ((Lay.sl Lay.int).vcnt x.write.vec : Nat) + 1))) := (((Ext.refl (fun q => q = b) _).setCell ⟨b, off + j * 10 + 8, none⟩ (.int .i64 (kj + 1 + 1 + 1 + 1 + 1 + 1 + 1 + ((Lay.sl Lay.int).vcnt x.write.vec : Nat))) rfl).setCell ⟨b, off + j * 10 + 9, none⟩ (.int .i64 (kj + 1 + 1 + 1 + 1 + 1 + 1 + 1 + ((Lay.sl Lay.int).vcnt x.write.vec : Nat) + 1)) rfl)
      have Q7_ := Q7.ext E1_ (fun c hc e => hbk (e ▸ hc))
      clear Q7
      have Q7 := hide Q7_
      clear Q7_
      clear R E1_
      have R := R1_
      clear R1_
      have HR := hide R
      clear R
      have HQ := hide (unhide Q7)
      clear Q7
      go_wp2_with fail
      go_roundw
      case rel =>
        refine ⟨j + 1, _, by omega, by go_num, ?_, rfl, ?_, ?_⟩
        · rw [unhide HT, hcn]
          have := unhide HK
          omega
        · rw [← unhide HM _ (unhide HD).symm]
          exact unhide HF _ _ _ (unhide HR) (mkOwn_Msg (x := ⟨kj, kj + 1, kj + 1 + 1, kj + 1 + 1 + 1, kj + 1 + 1 + 1 + 1, ⟨kj + 1 + 1 + 1 + 1 + 1, kj + 1 + 1 + 1 + 1 + 1 + 1, (Lay.sl Lay.int).mkv (kj + 1 + 1 + 1 + 1 + 1 + 1 + 1) x.write.vec, kj + 1 + 1 + 1 + 1 + 1 + 1 + 1 + ((Lay.sl Lay.int).vcnt x.write.vec : Nat), kj + 1 + 1 + 1 + 1 + 1 + 1 + 1 + ((Lay.sl Lay.int).vcnt x.write.vec : Nat) + 1⟩⟩) (mkOwn_Write (x := ⟨kj + 1 + 1 + 1 + 1 + 1, kj + 1 + 1 + 1 + 1 + 1 + 1, (Lay.sl Lay.int).mkv (kj + 1 + 1 + 1 + 1 + 1 + 1 + 1) x.write.vec, kj + 1 + 1 + 1 + 1 + 1 + 1 + 1 + ((Lay.sl Lay.int).vcnt x.write.vec : Nat), kj + 1 + 1 + 1 + 1 + 1 + 1 + 1 + ((Lay.sl Lay.int).vcnt x.write.vec : Nat) + 1⟩) (unhide HQ) (show (Lit.int .i64 (kj + 1 + 1 + 1 + 1 + 1)).wf = true from wf_of_bd (by omega)) (show (Lit.int .i64 (kj + 1 + 1 + 1 + 1 + 1 + 1)).wf = true from wf_of_bd (by omega)) (show (Lit.int .i64 (kj + 1 + 1 + 1 + 1 + 1 + 1 + 1 + ((Lay.sl Lay.int).vcnt x.write.vec : Nat))).wf = true from wf_of_bd (by omega)) (show (Lit.int .i64 (kj + 1 + 1 + 1 + 1 + 1 + 1 + 1 + ((Lay.sl Lay.int).vcnt x.write.vec : Nat) + 1)).wf = true from wf_of_bd (by omega)) (unhide HN)) (show (Lit.int .i64 (kj)).wf = true from wf_of_bd (by omega)) (show (Lit.int .i64 (kj + 1)).wf = true from wf_of_bd (by omega)) (show (Lit.int .i64 (kj + 1 + 1)).wf = true from wf_of_bd (by omega)) (show (Lit.int .i64 (kj + 1 + 1 + 1)).wf = true from wf_of_bd (by omega)) (show (Lit.int .i64 (kj + 1 + 1 + 1 + 1)).wf = true from wf_of_bd (by omega)) (unhide HN))
        · exact (unhide HX).trans ((unhide HR).ext.mono fun q _ hq => unhide HI q (by rcases hq with h | h; exact Or.inl h.symm; exact Or.inr h))
      case measure => simp [intOf]; omega
    · obtain rfl : j = xs.length := by omega
      rw [mkPre_all] at hO
      rw [List.take_length] at hkj
      have HK := hide hkj
      clear hkj
      have HO := hide hO
      have HX := hide hX
      clear hO hX
      go_wp2_with fail
      go_ret
      exact ⟨by rw [← unhide HK]; rfl, unhide HO, unhide HX⟩

theorem markMsg_zero (ao : Option Addr) (cap : Nat) (k : Int) (w : World) :
    Calls Try.prog 27 #[.slice ao 0 cap, .int .i64 k] w fun e w' => e = .returned (.int .i64 k) ∧ w' = w := by
  go_enter Try.func27, Try.ntmps27
  go_wp2_with fail
  refine wp_loop_rounds 1 ?_
  rw [rounds_succ]
  go_wp2_with fail
  go_ret
  exact ⟨rfl, rfl⟩

/-- markMsgS. -/
theorem mark_MsgS (v : Value) (xs : List DMsg) (bl : List Nat) (k : Int) (w : World) (h : (Lay.sl Lay.tMsg).Own w [v] xs bl) (hk : 0 ≤ k) (hk2 : k + (Lay.sl Lay.tMsg).vcnt xs ≤ 1000000000) :
    Calls Try.prog 27 #[v, .int .i64 k] w fun e w' => e = .returned (.int .i64 (k + (Lay.sl Lay.tMsg).vcnt xs)) ∧ (Lay.sl Lay.tMsg).Own w' [v] ((Lay.sl Lay.tMsg).mkv k xs) bl ∧ Ext (fun q => q ∈ bl) w w' := by
  obtain ⟨ao, cap, rfl⟩ := open_sl h.reads
  by_cases hp : 0 < xs.length
  · obtain ⟨b, off, rfl, hbl⟩ := Lay.sl_addr h.reads hp
    exact markMsg_pos b off cap xs bl k w h hk hk2
  · obtain rfl : xs = [] := List.eq_nil_of_length_eq_zero (by omega)
    refine (markMsg_zero ao cap k w).mono ?_
    rintro e w' ⟨rfl, rfl⟩
    exact ⟨by rw [vcnt_MsgS]; simp [cntAll], h, Ext.refl _ _⟩

end Go.Proofs.Ythpbdafhjakekaa

namespace Go.Proofs.Ythpbdafhjakekaa
open Go.RowKit

theorem vcnt_Entry (x : DEntry) : Lay.tEntry.vcnt x = (Lay.sl Lay.int).vcnt x.query + (Lay.sl Lay.int).vcnt x.vec + (Lay.sl Lay.tHit).vcnt x.hits := by
  show 0 + (0 + (0 + (0 + ((Lay.sl Lay.int).vcnt x.query + (0 + (0 + (0 + (0 + ((Lay.sl Lay.int).vcnt x.vec + ((Lay.sl Lay.tHit).vcnt x.hits)))))))))) = (Lay.sl Lay.int).vcnt x.query + (Lay.sl Lay.int).vcnt x.vec + (Lay.sl Lay.tHit).vcnt x.hits
  omega
theorem mkv_Entry (k : Int) (x : DEntry) : Lay.tEntry.mkv k x = ⟨x.kind, x.session, x.seq, x.id, (Lay.sl Lay.int).mkv (k) x.query, x.k, x.start, x.fin, x.place, (Lay.sl Lay.int).mkv (k + ((Lay.sl Lay.int).vcnt x.query : Int)) x.vec, (Lay.sl Lay.tHit).mkv (k + ((Lay.sl Lay.int).vcnt x.query : Int) + ((Lay.sl Lay.int).vcnt x.vec : Int)) x.hits⟩ := by
  simp [Lay.tEntry, Lay.via, Lay.pair, Lay.int]
theorem own_Entry {w : World} {cs : List Value} {x : DEntry} {bl : List Nat} (h : Lay.tEntry.Own w cs x bl) : ∃ (a4 : Option Addr) (d4 : Nat) (a9 : Option Addr) (d9 : Nat) (a10 : Option Addr) (d10 : Nat) (g4 : List Nat) (g9 : List Nat) (g10 : List Nat), cs = [.int .i64 x.kind, .int .i64 x.session, .int .i64 x.seq, .int .i64 x.id, .slice a4 x.query.length d4, .int .i64 x.k, .int .i64 x.start, .int .i64 x.fin, .int .i64 x.place, .slice a9 x.vec.length d9, .slice a10 x.hits.length d10] ∧ bl = g4 ++ (g9 ++ g10) ∧ (Lay.sl Lay.int).Own w [.slice a4 x.query.length d4] x.query g4 ∧ (Lay.sl Lay.int).Own w [.slice a9 x.vec.length d9] x.vec g9 ∧ (Lay.sl Lay.tHit).Own w [.slice a10 x.hits.length d10] x.hits g10 ∧ (Lit.int .i64 x.kind).wf = true ∧ (Lit.int .i64 x.session).wf = true ∧ (Lit.int .i64 x.seq).wf = true ∧ (Lit.int .i64 x.id).wf = true ∧ (Lit.int .i64 x.k).wf = true ∧ (Lit.int .i64 x.start).wf = true ∧ (Lit.int .i64 x.fin).wf = true ∧ (Lit.int .i64 x.place).wf = true := by
  obtain ⟨hl, hn, hf⟩ := h
  obtain ⟨a4, d4, b4, a9, d9, b9, a10, d10, b10, rfl, hbl, w0, w1, w2, w3, l4, w5, w6, w7, w8, l9, l10⟩ := lies_Entry.1 hl
  rw [hbl] at hn hf
  simp only [List.nodup_append, List.mem_append] at hn hf
  exact ⟨a4, d4, a9, d9, a10, d10, b4, b9, b10, rfl, hbl, ⟨l4, by simp_all, fun b hb => hf b (by simp_all)⟩, ⟨l9, by simp_all, fun b hb => hf b (by simp_all)⟩, ⟨l10, by simp_all, fun b hb => hf b (by simp_all)⟩, w0, w1, w2, w3, w5, w6, w7, w8⟩
theorem mkOwn_Entry {w : World} {x : DEntry} {c4 : List Value} {c9 : List Value} {c10 : List Value} {g4 : List Nat} {g9 : List Nat} {g10 : List Nat} (O4 : (Lay.sl Lay.int).Own w c4 x.query g4) (O9 : (Lay.sl Lay.int).Own w c9 x.vec g9) (O10 : (Lay.sl Lay.tHit).Own w c10 x.hits g10) (v0 : (Lit.int .i64 x.kind).wf = true) (v1 : (Lit.int .i64 x.session).wf = true) (v2 : (Lit.int .i64 x.seq).wf = true) (v3 : (Lit.int .i64 x.id).wf = true) (v5 : (Lit.int .i64 x.k).wf = true) (v6 : (Lit.int .i64 x.start).wf = true) (v7 : (Lit.int .i64 x.fin).wf = true) (v8 : (Lit.int .i64 x.place).wf = true) (hn : (g4 ++ (g9 ++ g10)).Nodup) : Lay.tEntry.Own w ([.int .i64 x.kind] ++ ([.int .i64 x.session] ++ ([.int .i64 x.seq] ++ ([.int .i64 x.id] ++ (c4 ++ ([.int .i64 x.k] ++ ([.int .i64 x.start] ++ ([.int .i64 x.fin] ++ ([.int .i64 x.place] ++ (c9 ++ c10)))))))))) x (g4 ++ (g9 ++ g10)) := by
  refine ⟨⟨[.int .i64 x.kind], [.int .i64 x.session] ++ ([.int .i64 x.seq] ++ ([.int .i64 x.id] ++ (c4 ++ ([.int .i64 x.k] ++ ([.int .i64 x.start] ++ ([.int .i64 x.fin] ++ ([.int .i64 x.place] ++ (c9 ++ c10)))))))), [], [] ++ ([] ++ ([] ++ (g4 ++ ([] ++ ([] ++ ([] ++ ([] ++ (g9 ++ g10)))))))), rfl, by simp, ⟨rfl, v0, rfl⟩, ⟨[.int .i64 x.session], [.int .i64 x.seq] ++ ([.int .i64 x.id] ++ (c4 ++ ([.int .i64 x.k] ++ ([.int .i64 x.start] ++ ([.int .i64 x.fin] ++ ([.int .i64 x.place] ++ (c9 ++ c10))))))), [], [] ++ ([] ++ (g4 ++ ([] ++ ([] ++ ([] ++ ([] ++ (g9 ++ g10))))))), rfl, rfl, ⟨rfl, v1, rfl⟩, ⟨[.int .i64 x.seq], [.int .i64 x.id] ++ (c4 ++ ([.int .i64 x.k] ++ ([.int .i64 x.start] ++ ([.int .i64 x.fin] ++ ([.int .i64 x.place] ++ (c9 ++ c10)))))), [], [] ++ (g4 ++ ([] ++ ([] ++ ([] ++ ([] ++ (g9 ++ g10)))))), rfl, rfl, ⟨rfl, v2, rfl⟩, ⟨[.int .i64 x.id], c4 ++ ([.int .i64 x.k] ++ ([.int .i64 x.start] ++ ([.int .i64 x.fin] ++ ([.int .i64 x.place] ++ (c9 ++ c10))))), [], g4 ++ ([] ++ ([] ++ ([] ++ ([] ++ (g9 ++ g10))))), rfl, rfl, ⟨rfl, v3, rfl⟩, ⟨c4, [.int .i64 x.k] ++ ([.int .i64 x.start] ++ ([.int .i64 x.fin] ++ ([.int .i64 x.place] ++ (c9 ++ c10)))), g4, [] ++ ([] ++ ([] ++ ([] ++ (g9 ++ g10)))), rfl, rfl, O4.1, ⟨[.int .i64 x.k], [.int .i64 x.start] ++ ([.int .i64 x.fin] ++ ([.int .i64 x.place] ++ (c9 ++ c10))), [], [] ++ ([] ++ ([] ++ (g9 ++ g10))), rfl, rfl, ⟨rfl, v5, rfl⟩, ⟨[.int .i64 x.start], [.int .i64 x.fin] ++ ([.int .i64 x.place] ++ (c9 ++ c10)), [], [] ++ ([] ++ (g9 ++ g10)), rfl, rfl, ⟨rfl, v6, rfl⟩, ⟨[.int .i64 x.fin], [.int .i64 x.place] ++ (c9 ++ c10), [], [] ++ (g9 ++ g10), rfl, rfl, ⟨rfl, v7, rfl⟩, ⟨[.int .i64 x.place], c9 ++ c10, [], g9 ++ g10, rfl, rfl, ⟨rfl, v8, rfl⟩, ⟨c9, c10, g9, g10, rfl, rfl, O9.1, O10.1⟩⟩⟩⟩⟩⟩⟩⟩⟩⟩, hn, ?_⟩
  intro b hb o
  simp only [List.mem_append] at hb
  rcases hb with hb | hb | hb
  · exact O4.2.2 b hb o
  · exact O9.2.2 b hb o
  · exact O10.2.2 b hb o

end Go.Proofs.Ythpbdafhjakekaa

namespace Go.Proofs.Ythpbdafhjakekaa
open Go.RowKit

theorem cnt_Hit (x : DHit) : Lay.tHit.cnt x = 2 := by
  show 1 + (1) = 2
  omega
theorem mkd_Hit (k : Int) (x : DHit) : Lay.tHit.mkd k x = ⟨k, k + 1⟩ := rfl
theorem vcnt_HitS (xs : List DHit) : (Lay.sl Lay.tHit).vcnt xs = cntAll Lay.tHit.cnt xs := rfl
theorem mkv_HitS (k : Int) (xs : List DHit) : (Lay.sl Lay.tHit).mkv k xs = mkAll Lay.tHit.cnt Lay.tHit.mkd k xs := rfl

set_option maxRecDepth 10000 in
set_option maxHeartbeats 2000000 in
theorem markHit_pos (b off cap : Nat) (xs : List DHit) (bl : List Nat) (k : Int) (w : World) (h : (Lay.sl Lay.tHit).Own w [.slice (some ⟨b, off, none⟩) xs.length cap] xs bl) (hk : 0 ≤ k) (hk2 : k + (cntAll Lay.tHit.cnt xs : Nat) ≤ 1000000000) :
    Calls Try.prog 39 #[.slice (some ⟨b, off, none⟩) xs.length cap, .int .i64 k] w fun e w' => e = .returned (.int .i64 (k + (cntAll Lay.tHit.cnt xs : Nat))) ∧ (Lay.sl Lay.tHit).Own w' [.slice (some ⟨b, off, none⟩) xs.length cap] (mkAll Lay.tHit.cnt Lay.tHit.mkd k xs) bl ∧ Ext (fun q => q ∈ bl) w w' := by
  have hbig := h.reads.big
  have H := hide h
  clear h
  go_enter Try.func39, Try.ntmps39
  go_wp2_with fail
  go_loopw [1, 5] (fun kk i wr => ∃ (j : Nat) (kj : Int), j ≤ xs.length ∧ i = .int .i64 j ∧ kj = k + (cntAll Lay.tHit.cnt (xs.take j) : Nat) ∧ kk = .int .i64 kj ∧ (Lay.sl Lay.tHit).Own wr [.slice (some ⟨b, off, none⟩) xs.length cap] (mkPre Lay.tHit.cnt Lay.tHit.mkd k xs j) bl ∧ Ext (fun q => q ∈ bl) w wr) (fun _ i _ => xs.length - (intOf i).toNat)
  case atStart => exact ⟨0, k, Nat.zero_le _, rfl, by simp [cntAll], rfl, by rw [mkPre_zero]; exact unhide H, Ext.refl _ _⟩
  case round =>
    obtain ⟨j, kj, hj, rfl, hkj, rfl, hO, hX⟩ := hrel
    clear H
    by_cases hlt : j < xs.length
    · have hj2 : j < (mkPre Lay.tHit.cnt Lay.tHit.mkd k xs j).length := by rw [mkPre_len _ _ _ _ _ hj]; exact hlt
      obtain ⟨row, blk, R, O, hbk, hin, hfin⟩ := Lay.own_upd hO hj2
      rw [mkPre_get _ _ _ _ _ hlt] at O
      have HT := hide (Lay.cntAll_take (f := Lay.tHit.cnt) hlt)
      have hle := Lay.cntAll_take_le (f := Lay.tHit.cnt) (xs := xs) (k := j + 1)
      rw [unhide HT] at hle
      have HM : Hid (∀ y, y = Lay.tHit.mkd kj xs[j] → (mkPre Lay.tHit.cnt Lay.tHit.mkd k xs j).set j y = mkPre Lay.tHit.cnt Lay.tHit.mkd k xs (j + 1)) := fun y e => by rw [e, hkj]; exact mkPre_set _ _ _ _ _ hlt
      have HF := hide hfin
      have HX := hide hX
      have HI := hide hin
      clear hO hfin hX hin hj2
      generalize hx : xs[j] = x at *
      clear hx
      have hcn := cnt_Hit x
      have HD := hide (mkd_Hit kj x)
      have hb1 : 0 ≤ kj := by omega
      have hb2 : kj + (Lay.tHit.cnt x : Int) ≤ 1000000000 := by omega
      have HK := hide hkj
      clear hkj hle
      have hbl0 : blk = [] := by have := (lies_Hit.1 O.1).2.1; exact this
      obtain ⟨rfl, -, -⟩ := lies_Hit.1 O.1
      clear O
      have l1 : b < wr.heap.size := R.lt
      have c0 : wr.cell? ⟨b, off + j * 2, none⟩ = some (.int .i64 x.id) := R.at 0 _ rfl
      have f0 : wr.frozen? ⟨b, off + j * 2, none⟩ = false := R.soft _
      have c1 : wr.cell? ⟨b, off + j * 2 + 1, none⟩ = some (.int .i64 x.score) := R.at 1 _ rfl
      have f1 : wr.frozen? ⟨b, off + j * 2 + 1, none⟩ = false := R.soft _
      have R0_ : RowAt wr ((wr.setCell ⟨b, off + j * 2, none⟩ (.int .i64 kj)).setCell ⟨b, off + j * 2 + 1, none⟩ (.int .i64 (kj + 1))) b (off + j * 2) 2 [.int .i64 kj, .int .i64 (kj + 1)] blk := ((R.set 0 (.int .i64 kj) (by decide)).set 1 (.int .i64 (kj + 1)) (by decide))
      have E0_ : Ext (fun q => q = b) wr ((wr.setCell ⟨b, off + j * 2, none⟩ (.int .i64 kj)).setCell ⟨b, off + j * 2 + 1, none⟩ (.int .i64 (kj + 1))) := (((Ext.refl (fun q => q = b) _).setCell ⟨b, off + j * 2, none⟩ (.int .i64 kj) rfl).setCell ⟨b, off + j * 2 + 1, none⟩ (.int .i64 (kj + 1)) rfl)
      clear R E0_
      have R := R0_
      clear R0_
      have HR := hide R
      clear R
      go_wp2_with fail
      go_roundw
      case rel =>
        refine ⟨j + 1, _, by omega, by go_num, ?_, rfl, ?_, ?_⟩
        · rw [unhide HT, hcn]
          have := unhide HK
          omega
        · rw [← unhide HM _ (unhide HD).symm]
          exact unhide HF _ _ _ (unhide HR) ⟨lies_Hit.2 ⟨rfl, hbl0, (show (Lit.int .i64 (kj)).wf = true from wf_of_bd (by omega)), (show (Lit.int .i64 (kj + 1)).wf = true from wf_of_bd (by omega))⟩, by rw [hbl0]; exact List.nodup_nil, by rw [hbl0]; simp⟩
        · exact (unhide HX).trans ((unhide HR).ext.mono fun q _ hq => unhide HI q (by rcases hq with h | h; exact Or.inl h.symm; exact Or.inr h))
      case measure => simp [intOf]; omega
    · obtain rfl : j = xs.length := by omega
      rw [mkPre_all] at hO
      rw [List.take_length] at hkj
      have HK := hide hkj
      clear hkj
      have HO := hide hO
      have HX := hide hX
      clear hO hX
      go_wp2_with fail
      go_ret
      exact ⟨by rw [← unhide HK]; rfl, unhide HO, unhide HX⟩

theorem markHit_zero (ao : Option Addr) (cap : Nat) (k : Int) (w : World) :
    Calls Try.prog 39 #[.slice ao 0 cap, .int .i64 k] w fun e w' => e = .returned (.int .i64 k) ∧ w' = w := by
  go_enter Try.func39, Try.ntmps39
  go_wp2_with fail
  refine wp_loop_rounds 1 ?_
  rw [rounds_succ]
  go_wp2_with fail
  go_ret
  exact ⟨rfl, rfl⟩

/-- markHitS. -/
theorem mark_HitS (v : Value) (xs : List DHit) (bl : List Nat) (k : Int) (w : World) (h : (Lay.sl Lay.tHit).Own w [v] xs bl) (hk : 0 ≤ k) (hk2 : k + (Lay.sl Lay.tHit).vcnt xs ≤ 1000000000) :
    Calls Try.prog 39 #[v, .int .i64 k] w fun e w' => e = .returned (.int .i64 (k + (Lay.sl Lay.tHit).vcnt xs)) ∧ (Lay.sl Lay.tHit).Own w' [v] ((Lay.sl Lay.tHit).mkv k xs) bl ∧ Ext (fun q => q ∈ bl) w w' := by
  obtain ⟨ao, cap, rfl⟩ := open_sl h.reads
  by_cases hp : 0 < xs.length
  · obtain ⟨b, off, rfl, hbl⟩ := Lay.sl_addr h.reads hp
    exact markHit_pos b off cap xs bl k w h hk hk2
  · obtain rfl : xs = [] := List.eq_nil_of_length_eq_zero (by omega)
    refine (markHit_zero ao cap k w).mono ?_
    rintro e w' ⟨rfl, rfl⟩
    exact ⟨by rw [vcnt_HitS]; simp [cntAll], h, Ext.refl _ _⟩

end Go.Proofs.Ythpbdafhjakekaa

namespace Go.Proofs.Ythpbdafhjakekaa
open Go.RowKit

theorem cnt_Entry (x : DEntry) : Lay.tEntry.cnt x = 8 + (Lay.sl Lay.int).vcnt x.query + (Lay.sl Lay.int).vcnt x.vec + (Lay.sl Lay.tHit).vcnt x.hits := by
  show 1 + (1 + (1 + (1 + ((Lay.sl Lay.int).vcnt x.query + (1 + (1 + (1 + (1 + ((Lay.sl Lay.int).vcnt x.vec + ((Lay.sl Lay.tHit).vcnt x.hits)))))))))) = 8 + (Lay.sl Lay.int).vcnt x.query + (Lay.sl Lay.int).vcnt x.vec + (Lay.sl Lay.tHit).vcnt x.hits
  omega
theorem mkd_Entry (k : Int) (x : DEntry) : Lay.tEntry.mkd k x = ⟨k, k + 1, k + 1 + 1, k + 1 + 1 + 1, (Lay.sl Lay.int).mkv (k + 1 + 1 + 1 + 1) x.query, k + 1 + 1 + 1 + 1 + ((Lay.sl Lay.int).vcnt x.query : Nat), k + 1 + 1 + 1 + 1 + ((Lay.sl Lay.int).vcnt x.query : Nat) + 1, k + 1 + 1 + 1 + 1 + ((Lay.sl Lay.int).vcnt x.query : Nat) + 1 + 1, k + 1 + 1 + 1 + 1 + ((Lay.sl Lay.int).vcnt x.query : Nat) + 1 + 1 + 1, (Lay.sl Lay.int).mkv (k + 1 + 1 + 1 + 1 + ((Lay.sl Lay.int).vcnt x.query : Nat) + 1 + 1 + 1 + 1) x.vec, (Lay.sl Lay.tHit).mkv (k + 1 + 1 + 1 + 1 + ((Lay.sl Lay.int).vcnt x.query : Nat) + 1 + 1 + 1 + 1 + ((Lay.sl Lay.int).vcnt x.vec : Nat)) x.hits⟩ := rfl
theorem vcnt_EntryS (xs : List DEntry) : (Lay.sl Lay.tEntry).vcnt xs = cntAll Lay.tEntry.cnt xs := rfl
theorem mkv_EntryS (k : Int) (xs : List DEntry) : (Lay.sl Lay.tEntry).mkv k xs = mkAll Lay.tEntry.cnt Lay.tEntry.mkd k xs := rfl

set_option maxRecDepth 10000 in
set_option maxHeartbeats 4000000 in
theorem markEntry_pos (b off cap : Nat) (xs : List DEntry) (bl : List Nat) (k : Int) (w : World) (h : (Lay.sl Lay.tEntry).Own w [.slice (some ⟨b, off, none⟩) xs.length cap] xs bl) (hk : 0 ≤ k) (hk2 : k + (cntAll Lay.tEntry.cnt xs : Nat) ≤ 1000000000) :
    Calls Try.prog 28 #[.slice (some ⟨b, off, none⟩) xs.length cap, .int .i64 k] w fun e w' => e = .returned (.int .i64 (k + (cntAll Lay.tEntry.cnt xs : Nat))) ∧ (Lay.sl Lay.tEntry).Own w' [.slice (some ⟨b, off, none⟩) xs.length cap] (mkAll Lay.tEntry.cnt Lay.tEntry.mkd k xs) bl ∧ Ext (fun q => q ∈ bl) w w' := by
  have hbig := h.reads.big
  have H := hide h
  clear h
  go_enter Try.func28, Try.ntmps28
  go_wp2_with fail
  go_loopw [1, 5] (fun kk i wr => ∃ (j : Nat) (kj : Int), j ≤ xs.length ∧ i = .int .i64 j ∧ kj = k + (cntAll Lay.tEntry.cnt (xs.take j) : Nat) ∧ kk = .int .i64 kj ∧ (Lay.sl Lay.tEntry).Own wr [.slice (some ⟨b, off, none⟩) xs.length cap] (mkPre Lay.tEntry.cnt Lay.tEntry.mkd k xs j) bl ∧ Ext (fun q => q ∈ bl) w wr) (fun _ i _ => xs.length - (intOf i).toNat)
  case atStart => exact ⟨0, k, Nat.zero_le _, rfl, by simp [cntAll], rfl, by rw [mkPre_zero]; exact unhide H, Ext.refl _ _⟩
  case round =>
    obtain ⟨j, kj, hj, rfl, hkj, rfl, hO, hX⟩ := hrel
    clear H
    by_cases hlt : j < xs.length
    · have hj2 : j < (mkPre Lay.tEntry.cnt Lay.tEntry.mkd k xs j).length := by rw [mkPre_len _ _ _ _ _ hj]; exact hlt
      obtain ⟨row, blk, R, O, hbk, hin, hfin⟩ := Lay.own_upd hO hj2
      rw [mkPre_get _ _ _ _ _ hlt] at O
      have HT := hide (Lay.cntAll_take (f := Lay.tEntry.cnt) hlt)
      have hle := Lay.cntAll_take_le (f := Lay.tEntry.cnt) (xs := xs) (k := j + 1)
      rw [unhide HT] at hle
      have HM : Hid (∀ y, y = Lay.tEntry.mkd kj xs[j] → (mkPre Lay.tEntry.cnt Lay.tEntry.mkd k xs j).set j y = mkPre Lay.tEntry.cnt Lay.tEntry.mkd k xs (j + 1)) := fun y e => by rw [e, hkj]; exact mkPre_set _ _ _ _ _ hlt
      have HF := hide hfin
      have HX := hide hX
      have HI := hide hin
      clear hO hfin hX hin hj2
      generalize hx : xs[j] = x at *
      clear hx
      have hcn := cnt_Entry x
      have HD0 := mkd_Entry kj x
      have hb1 : 0 ≤ kj := by omega
      have hb2 : kj + (Lay.tEntry.cnt x : Int) ≤ 1000000000 := by omega
      have HK := hide hkj
      clear hkj hle
      have HD := hide HD0
      clear HD0
      have hnd := O.2.1
      obtain ⟨a4, d4, a9, d9, a10, d10, g4, g9, g10, rfl, hbl, O4, O9, O10, v0, v1, v2, v3, v5, v6, v7, v8⟩ := own_Entry O
      clear O
      have HN : Hid ((g4 ++ (g9 ++ g10)).Nodup) := by rw [hbl] at hnd; exact hnd
      have HBL := hide hbl
      have hm4 : ∀ c ∈ g4, c ∈ blk := fun c hc => by rw [hbl]; simp [hc]
      have HM4 := hide hm4
      have HB4 : Hid (b ∉ g4) := fun hc => hbk (hm4 b hc)
      clear hm4
      have hm9 : ∀ c ∈ g9, c ∈ blk := fun c hc => by rw [hbl]; simp [hc]
      have HM9 := hide hm9
      have HB9 : Hid (b ∉ g9) := fun hc => hbk (hm9 b hc)
      clear hm9
      have hm10 : ∀ c ∈ g10, c ∈ blk := fun c hc => by rw [hbl]; simp [hc]
      have HM10 := hide hm10
      have HB10 : Hid (b ∉ g10) := fun hc => hbk (hm10 b hc)
      clear hm10
      have HJ4_9 : Hid (∀ c ∈ g4, c ∉ g9) := fun c h1 h2 => (List.nodup_append.1 (unhide HN)).2.2 c h1 c (List.mem_append_left _ h2) rfl
      have HJ4_10 : Hid (∀ c ∈ g4, c ∉ g10) := fun c h1 h2 => (List.nodup_append.1 (unhide HN)).2.2 c h1 c (List.mem_append_right _ h2) rfl
      have HJ9_10 : Hid (∀ c ∈ g9, c ∉ g10) := fun c h1 h2 => (List.nodup_append.1 (List.nodup_append.1 (unhide HN)).2.1).2.2 c h1 c h2 rfl
      clear hnd hbl
      have P4 := hide O4
      clear O4
      have P9 := hide O9
      clear O9
      have P10 := hide O10
      clear O10
      have HR := hide R
      have l1 : b < wr.heap.size := R.lt
      clear R
      have c0 : wr.cell? ⟨b, off + j * 11, none⟩ = some (.int .i64 x.kind) := (unhide HR).at 0 _ rfl
      have f0 : wr.frozen? ⟨b, off + j * 11, none⟩ = false := (unhide HR).soft _
      have c1 : wr.cell? ⟨b, off + j * 11 + 1, none⟩ = some (.int .i64 x.session) := (unhide HR).at 1 _ rfl
      have f1 : wr.frozen? ⟨b, off + j * 11 + 1, none⟩ = false := (unhide HR).soft _
      have c2 : wr.cell? ⟨b, off + j * 11 + 2, none⟩ = some (.int .i64 x.seq) := (unhide HR).at 2 _ rfl
      have f2 : wr.frozen? ⟨b, off + j * 11 + 2, none⟩ = false := (unhide HR).soft _
      have c3 : wr.cell? ⟨b, off + j * 11 + 3, none⟩ = some (.int .i64 x.id) := (unhide HR).at 3 _ rfl
      have f3 : wr.frozen? ⟨b, off + j * 11 + 3, none⟩ = false := (unhide HR).soft _
      have c4 : wr.cell? ⟨b, off + j * 11 + 4, none⟩ = some (.slice a4 x.query.length d4) := (unhide HR).at 4 _ rfl
      have E0_ : Ext (fun q => q = b) wr ((((wr.setCell ⟨b, off + j * 11, none⟩ (.int .i64 kj)).setCell ⟨b, off + j * 11 + 1, none⟩ (.int .i64 (kj + 1))).setCell ⟨b, off + j * 11 + 2, none⟩ (.int .i64 (kj + 1 + 1))).setCell ⟨b, off + j * 11 + 3, none⟩ (.int .i64 (kj + 1 + 1 + 1))) := (((((Ext.refl (fun q => q = b) _).setCell ⟨b, off + j * 11, none⟩ (.int .i64 kj) rfl).setCell ⟨b, off + j * 11 + 1, none⟩ (.int .i64 (kj + 1)) rfl).setCell ⟨b, off + j * 11 + 2, none⟩ (.int .i64 (kj + 1 + 1)) rfl).setCell ⟨b, off + j * 11 + 3, none⟩ (.int .i64 (kj + 1 + 1 + 1)) rfl)
      have HR0_ : Hid (RowAt wr ((((wr.setCell ⟨b, off + j * 11, none⟩ (.int .i64 kj)).setCell ⟨b, off + j * 11 + 1, none⟩ (.int .i64 (kj + 1))).setCell ⟨b, off + j * 11 + 2, none⟩ (.int .i64 (kj + 1 + 1))).setCell ⟨b, off + j * 11 + 3, none⟩ (.int .i64 (kj + 1 + 1 + 1))) b (off + j * 11) 11 [.int .i64 kj, .int .i64 (kj + 1), .int .i64 (kj + 1 + 1), .int .i64 (kj + 1 + 1 + 1), .slice a4 x.query.length d4, .int .i64 x.k, .int .i64 x.start, .int .i64 x.fin, .int .i64 x.place, .slice a9 x.vec.length d9, .slice a10 x.hits.length d10] blk) := (((((unhide HR).set 0 (.int .i64 kj) (by decide)).set 1 (.int .i64 (kj + 1)) (by decide)).set 2 (.int .i64 (kj + 1 + 1)) (by decide)).set 3 (.int .i64 (kj + 1 + 1 + 1)) (by decide))
      replace P4 := hide ((unhide P4).ext E0_ (fun c hc e => unhide HB4 (e ▸ hc)))
      replace P9 := hide ((unhide P9).ext E0_ (fun c hc e => unhide HB9 (e ▸ hc)))
      replace P10 := hide ((unhide P10).ext E0_ (fun c hc e => unhide HB10 (e ▸ hc)))
      clear HR E0_
      have HR := HR0_
      clear HR0_
      go_wp2_with fail
      refine (mark_Int64S _ x.query g4 (kj + 1 + 1 + 1 + 1) _ (unhide P4) (by omega) (by omega)).mono ?_
      rintro e u0 ⟨rfl, Q, E2⟩
      replace HR := hide ((unhide HR).call E2 (unhide HM4) (unhide HB4))
      replace P9 := hide ((unhide P9).ext E2 (fun c hc h2 => unhide HJ4_9 c h2 hc))
      replace P10 := hide ((unhide P10).ext E2 (fun c hc h2 => unhide HJ4_10 c h2 hc))
      clear P4
      have P4 := hide Q
      clear Q E2 l1 c0 f0 c1 f1 c2 f2 c3 f3 c4
      have l1 : b < u0.heap.size := (unhide HR).lt
      have c5 : u0.cell? ⟨b, off + j * 11 + 5, none⟩ = some (.int .i64 x.k) := (unhide HR).at 5 _ rfl
      have f5 : u0.frozen? ⟨b, off + j * 11 + 5, none⟩ = false := (unhide HR).soft _
      have c6 : u0.cell? ⟨b, off + j * 11 + 6, none⟩ = some (.int .i64 x.start) := (unhide HR).at 6 _ rfl
      have f6 : u0.frozen? ⟨b, off + j * 11 + 6, none⟩ = false := (unhide HR).soft _
      have c7 : u0.cell? ⟨b, off + j * 11 + 7, none⟩ = some (.int .i64 x.fin) := (unhide HR).at 7 _ rfl
      have f7 : u0.frozen? ⟨b, off + j * 11 + 7, none⟩ = false := (unhide HR).soft _
      have c8 : u0.cell? ⟨b, off + j * 11 + 8, none⟩ = some (.int .i64 x.place) := (unhide HR).at 8 _ rfl
      have f8 : u0.frozen? ⟨b, off + j * 11 + 8, none⟩ = false := (unhide HR).soft _
      have c9 : u0.cell? ⟨b, off + j * 11 + 9, none⟩ = some (.slice a9 x.vec.length d9) := (unhide HR).at 9 _ rfl
      have E1_ : Ext (fun q => q = b) u0 ((((u0.setCell ⟨b, off + j * 11 + 5, none⟩ (.int .i64 (kj + 1 + 1 + 1 + 1 + ((Lay.sl Lay.int).vcnt x.query : Nat)))).setCell ⟨b, off + j * 11 + 6, none⟩ (.int .i64 (kj + 1 + 1 + 1 + 1 + ((Lay.sl Lay.int).vcnt x.query : Nat) + 1))).setCell ⟨b, off + j * 11 + 7, none⟩ (.int .i64 (kj + 1 + 1 + 1 + 1 + ((Lay.sl Lay.int).vcnt x.query : Nat) + 1 + 1))).setCell ⟨b, off + j * 11 + 8, none⟩ (.int .i64 (kj + 1 + 1 + 1 + 1 + ((Lay.sl Lay.int).vcnt x.query : Nat) + 1 + 1 + 1))) := (((((Ext.refl (fun q => q = b) _).setCell ⟨b, off + j * 11 + 5, none⟩ (.int .i64 (kj + 1 + 1 + 1 + 1 + ((Lay.sl Lay.int).vcnt x.query : Nat))) rfl).setCell ⟨b, off + j * 11 + 6, none⟩ (.int .i64 (kj + 1 + 1 + 1 + 1 + ((Lay.sl Lay.int).vcnt x.query : Nat) + 1)) rfl).setCell ⟨b, off + j * 11 + 7, none⟩ (.int .i64 (kj + 1 + 1 + 1 + 1 + ((Lay.sl Lay.int).vcnt x.query : Nat) + 1 + 1)) rfl).setCell ⟨b, off + j * 11 + 8, none⟩ (.int .i64 (kj + 1 + 1 + 1 + 1 + ((Lay.sl Lay.int).vcnt x.query : Nat) + 1 + 1 + 1)) rfl)
      have HR1_ : Hid (RowAt wr ((((u0.setCell ⟨b, off + j * 11 + 5, none⟩ (.int .i64 (kj + 1 + 1 + 1 + 1 + ((Lay.sl Lay.int).vcnt x.query : Nat)))).setCell ⟨b, off + j * 11 + 6, none⟩ (.int .i64 (kj + 1 + 1 + 1 + 1 + ((Lay.sl Lay.int).vcnt x.query : Nat) + 1))).setCell ⟨b, off + j * 11 + 7, none⟩ (.int .i64 (kj + 1 + 1 + 1 + 1 + ((Lay.sl Lay.int).vcnt x.query : Nat) + 1 + 1))).setCell ⟨b, off + j * 11 + 8, none⟩ (.int .i64 (kj + 1 + 1 + 1 + 1 + ((Lay.sl Lay.int).vcnt x.query : Nat) + 1 + 1 + 1))) b (off + j * 11) 11 [.int .i64 kj, .int .i64 (kj + 1), .int .i64 (kj + 1 + 1), .int .i64 (kj + 1 + 1 + 1), .slice a4 x.query.length d4, .int .i64 (kj + 1 + 1 + 1 + 1 + ((Lay.sl Lay.int).vcnt x.query : Nat)), .int .i64 (kj + 1 + 1 + 1 + 1 + ((Lay.sl Lay.int).vcnt x.query : Nat) + 1), .int .i64 (kj + 1 + 1 + 1 + 1 + ((Lay.sl Lay.int).vcnt x.query : Nat) + 1 + 1), .int .i64 (kj + 1 + 1 + 1 + 1 + ((Lay.sl Lay.int).vcnt x.query : Nat) + 1 + 1 + 1), .slice a9 x.vec.length d9, .slice a10 x.hits.length d10] blk) := (((((unhide HR).set 5 (.int .i64 (kj + 1 + 1 + 1 + 1 + ((Lay.sl Lay.int).vcnt x.query : Nat))) (by decide)).set 6 (.int .i64 (kj + 1 + 1 + 1 + 1 + ((Lay.sl Lay.int).vcnt x.query : Nat) + 1)) (by decide)).set 7 (.int .i64 (kj + 1 + 1 + 1 + 1 + ((Lay.sl Lay.int).vcnt x.query : Nat) + 1 + 1)) (by decide)).set 8 (.int .i64 (kj + 1 + 1 + 1 + 1 + ((Lay.sl Lay.int).vcnt x.query : Nat) + 1 + 1 + 1)) (by decide))
      replace P4 := hide ((unhide P4).ext E1_ (fun c hc e => unhide HB4 (e ▸ hc)))
      replace P9 := hide ((unhide P9).ext E1_ (fun c hc e => unhide HB9 (e ▸ hc)))
      replace P10 := hide ((unhide P10).ext E1_ (fun c hc e => unhide HB10 (e ▸ hc)))
      clear HR E1_
      have HR := HR1_
      clear HR1_
      go_wp2_with fail
      refine (mark_Int64S _ x.vec g9 (kj + 1 + 1 + 1 + 1 + ((Lay.sl Lay.int).vcnt x.query : Nat) + 1 + 1 + 1 + 1) _ (unhide P9) (by omega) (by omega)).mono ?_
      rintro e u1 ⟨rfl, Q, E2⟩
      replace HR := hide ((unhide HR).call E2 (unhide HM9) (unhide HB9))
      replace P4 := hide ((unhide P4).ext E2 (fun c hc h2 => unhide HJ4_9 c hc h2))
      replace P10 := hide ((unhide P10).ext E2 (fun c hc h2 => unhide HJ9_10 c h2 hc))
      clear P9
      have P9 := hide Q
      clear Q E2 l1 c5 f5 c6 f6 c7 f7 c8 f8 c9
      have l1 : b < u1.heap.size := (unhide HR).lt
      have c10 : u1.cell? ⟨b, off + j * 11 + 10, none⟩ = some (.slice a10 x.hits.length d10) := (unhide HR).at 10 _ rfl
      go_wp2_with fail
      refine (mark_HitS _ x.hits g10 (kj + 1 + 1 + 1 + 1 + ((Lay.sl Lay.int).vcnt x.query : Nat) + 1 + 1 + 1 + 1 + ((Lay.sl Lay.int).vcnt x.vec : Nat)) _ (unhide P10) (by omega) (by omega)).mono ?_
      rintro e u2 ⟨rfl, Q, E2⟩
      replace HR := hide ((unhide HR).call E2 (unhide HM10) (unhide HB10))
      replace P4 := hide ((unhide P4).ext E2 (fun c hc h2 => unhide HJ4_10 c hc h2))
      replace P9 := hide ((unhide P9).ext E2 (fun c hc h2 => unhide HJ9_10 c hc h2))
      clear P10
      have P10 := hide Q
      clear Q E2 l1 c10
      have l1 : b < u2.heap.size := (unhide HR).lt
      go_wp2_with fail
      go_roundw
      case rel =>
        refine ⟨j + 1, _, by omega, by go_num, ?_, rfl, ?_, ?_⟩
        · rw [unhide HT, hcn]
          have := unhide HK
          omega
        · rw [← unhide HM _ (unhide HD).symm]
          exact unhide HF _ _ _ (unhide HR) (by rw [unhide HBL]; exact mkOwn_Entry (x := ⟨kj, kj + 1, kj + 1 + 1, kj + 1 + 1 + 1, (Lay.sl Lay.int).mkv (kj + 1 + 1 + 1 + 1) x.query, kj + 1 + 1 + 1 + 1 + ((Lay.sl Lay.int).vcnt x.query : Nat), kj + 1 + 1 + 1 + 1 + ((Lay.sl Lay.int).vcnt x.query : Nat) + 1, kj + 1 + 1 + 1 + 1 + ((Lay.sl Lay.int).vcnt x.query : Nat) + 1 + 1, kj + 1 + 1 + 1 + 1 + ((Lay.sl Lay.int).vcnt x.query : Nat) + 1 + 1 + 1, (Lay.sl Lay.int).mkv (kj + 1 + 1 + 1 + 1 + ((Lay.sl Lay.int).vcnt x.query : Nat) + 1 + 1 + 1 + 1) x.vec, (Lay.sl Lay.tHit).mkv (kj + 1 + 1 + 1 + 1 + ((Lay.sl Lay.int).vcnt x.query : Nat) + 1 + 1 + 1 + 1 + ((Lay.sl Lay.int).vcnt x.vec : Nat)) x.hits⟩) (unhide P4) (unhide P9) (unhide P10) (show (Lit.int .i64 (kj)).wf = true from wf_of_bd (by omega)) (show (Lit.int .i64 (kj + 1)).wf = true from wf_of_bd (by omega)) (show (Lit.int .i64 (kj + 1 + 1)).wf = true from wf_of_bd (by omega)) (show (Lit.int .i64 (kj + 1 + 1 + 1)).wf = true from wf_of_bd (by omega)) (show (Lit.int .i64 (kj + 1 + 1 + 1 + 1 + ((Lay.sl Lay.int).vcnt x.query : Nat))).wf = true from wf_of_bd (by omega)) (show (Lit.int .i64 (kj + 1 + 1 + 1 + 1 + ((Lay.sl Lay.int).vcnt x.query : Nat) + 1)).wf = true from wf_of_bd (by omega)) (show (Lit.int .i64 (kj + 1 + 1 + 1 + 1 + ((Lay.sl Lay.int).vcnt x.query : Nat) + 1 + 1)).wf = true from wf_of_bd (by omega)) (show (Lit.int .i64 (kj + 1 + 1 + 1 + 1 + ((Lay.sl Lay.int).vcnt x.query : Nat) + 1 + 1 + 1)).wf = true from wf_of_bd (by omega)) (unhide HN))
        · exact (unhide HX).trans ((unhide HR).ext.mono fun q _ hq => unhide HI q (by rcases hq with h | h; exact Or.inl h.symm; exact Or.inr h))
      case measure => simp [intOf]; omega
    · obtain rfl : j = xs.length := by omega
      rw [mkPre_all] at hO
      rw [List.take_length] at hkj
      have HK := hide hkj
      clear hkj
      have HO := hide hO
      have HX := hide hX
      clear hO hX
      go_wp2_with fail
      go_ret
      exact ⟨by rw [← unhide HK]; rfl, unhide HO, unhide HX⟩

theorem markEntry_zero (ao : Option Addr) (cap : Nat) (k : Int) (w : World) :
    Calls Try.prog 28 #[.slice ao 0 cap, .int .i64 k] w fun e w' => e = .returned (.int .i64 k) ∧ w' = w := by
  go_enter Try.func28, Try.ntmps28
  go_wp2_with fail
  refine wp_loop_rounds 1 ?_
  rw [rounds_succ]
  go_wp2_with fail
  go_ret
  exact ⟨rfl, rfl⟩

/-- markEntryS. -/
theorem mark_EntryS (v : Value) (xs : List DEntry) (bl : List Nat) (k : Int) (w : World) (h : (Lay.sl Lay.tEntry).Own w [v] xs bl) (hk : 0 ≤ k) (hk2 : k + (Lay.sl Lay.tEntry).vcnt xs ≤ 1000000000) :
    Calls Try.prog 28 #[v, .int .i64 k] w fun e w' => e = .returned (.int .i64 (k + (Lay.sl Lay.tEntry).vcnt xs)) ∧ (Lay.sl Lay.tEntry).Own w' [v] ((Lay.sl Lay.tEntry).mkv k xs) bl ∧ Ext (fun q => q ∈ bl) w w' := by
  obtain ⟨ao, cap, rfl⟩ := open_sl h.reads
  by_cases hp : 0 < xs.length
  · obtain ⟨b, off, rfl, hbl⟩ := Lay.sl_addr h.reads hp
    exact markEntry_pos b off cap xs bl k w h hk hk2
  · obtain rfl : xs = [] := List.eq_nil_of_length_eq_zero (by omega)
    refine (markEntry_zero ao cap k w).mono ?_
    rintro e w' ⟨rfl, rfl⟩
    exact ⟨by rw [vcnt_EntryS]; simp [cntAll], h, Ext.refl _ _⟩

end Go.Proofs.Ythpbdafhjakekaa
