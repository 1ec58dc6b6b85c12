/-
  Texts of this proof in one: MaMsgS, OwnEntry, MaHitS, MaEntryS, MaWorld, EqItem, EqItemS, EqTableResult, MaItemS, MaTableResult, MkItemS, MkTableResult.
  Their conditions stand in their theorems.
-/
import Derived.Test.YtoanimpijfijgaaGreatChecked
import Derived.Test.YtoanimpijfijgaaGreatSi04
import Derived.Test.YtoanimpijfijgaaGreatSi01
import Derived.Test.YtoanimpijfijgaaGreatSi00
import Derived.Test.YtoanimpijfijgaaGreatSi02
import Derived.Deep.RegionHeld3
set_option maxRecDepth 100000
set_option maxHeartbeats 4000000
namespace Go.Proofs.YtoanimpijfijgaaGreat
open Go.RowKit
theorem cnt_Msg (x : DMsg) : Lay.tMsg.cnt x = 9 + (Lay.sl Lay.int).vcnt x.write.vec := by
 show 1 + (1 + (1 + (1 + (1 + (1 + (1 + ((Lay.sl Lay.int).vcnt x.write.vec + (1 + (1))))))))) = 9 + (Lay.sl Lay.int).vcnt x.write.vec
 omega
theorem mkd_Msg (k : Int) (x : DMsg) : Lay.tMsg.mkd k x = ⟨k, k + 1, k + 1 + 1, k + 1 + 1 + 1, k + 1 + 1 + 1 + 1, ⟨k + 1 + 1 + 1 + 1 + 1, k + 1 + 1 + 1 + 1 + 1 + 1, (Lay.sl Lay.int).mkv (k + 1 + 1 + 1 + 1 + 1 + 1 + 1) x.write.vec, k + 1 + 1 + 1 + 1 + 1 + 1 + 1 + ((Lay.sl Lay.int).vcnt x.write.vec : Nat), k + 1 + 1 + 1 + 1 + 1 + 1 + 1 + ((Lay.sl Lay.int).vcnt x.write.vec : Nat) + 1⟩⟩ := rfl
theorem vcnt_MsgS (xs : List DMsg) : (Lay.sl Lay.tMsg).vcnt xs = cntAll Lay.tMsg.cnt xs := rfl
theorem markMsg_pos (b off cap : Nat) (xs : List DMsg) (bl : List Nat) (k : Int) (w : World) (h : (Lay.sl Lay.tMsg).Own w [.slice (some ⟨b, off, none⟩) xs.length cap] xs bl) (hk : 0 ≤ k) (hk2 : k + (cntAll Lay.tMsg.cnt xs : Nat) ≤ 1000000000) :
  Calls Tryz.prog 79 #[.slice (some ⟨b, off, none⟩) xs.length cap, .int .i64 k] w fun e w' => e = .returned (.int .i64 (k + (cntAll Lay.tMsg.cnt xs : Nat))) ∧ (Lay.sl Lay.tMsg).Own w' [.slice (some ⟨b, off, none⟩) xs.length cap] (mkAll Lay.tMsg.cnt Lay.tMsg.mkd k xs) bl ∧ Ext (fun q => q ∈ bl) w w' := by
 have hbig := h.reads.big
 have H := yh h
 clear h
 go_enter Tryz.func79, Tryz.ntmps79
 go_wp2_with fail
 go_loopw [1, 5] (fun kk i wr => ∃ (j : Nat) (kj : Int), j ≤ xs.length ∧ i = .int .i64 j ∧ kj = k + (cntAll Lay.tMsg.cnt (xs.take j) : Nat) ∧ kk = .int .i64 kj ∧ (Lay.sl Lay.tMsg).Own wr [.slice (some ⟨b, off, none⟩) xs.length cap] (mkPre Lay.tMsg.cnt Lay.tMsg.mkd k xs j) bl ∧ Ext (fun q => q ∈ bl) w wr) (fun _ i _ => xs.length - (intOf i).toNat)
 case atStart => exact ⟨0, k, Nat.zero_le _, rfl, by simp [cntAll], rfl, by rw [mkPre_zero]; exact uh H, Ext.refl _ _⟩
 case round =>
  obtain ⟨j, kj, hj, rfl, hkj, rfl, hO, hX⟩ := hrel
  clear H
  by_cases hlt : j < xs.length
  ·
   have hj2 : j < (mkPre Lay.tMsg.cnt Lay.tMsg.mkd k xs j).length := by rw [mkPre_len _ _ _ _ _ hj]; exact hlt
   obtain ⟨row, blk, R, O, hbk, hin, hfin⟩ := Lay.own_upd hO hj2
   rw [mkPre_get _ _ _ _ _ hlt] at O
   have HT := yh (Lay.cntAll_take (f := Lay.tMsg.cnt) hlt)
   have hle := Lay.cntAll_take_le (f := Lay.tMsg.cnt) (xs := xs) (k := j + 1)
   rw [uh HT] at hle
   have HM : Hid (∀ y, y = Lay.tMsg.mkd kj xs[j] → (mkPre Lay.tMsg.cnt Lay.tMsg.mkd k xs j).set j y = mkPre Lay.tMsg.cnt Lay.tMsg.mkd k xs (j + 1)) := fun y e => by rw [e, hkj]; exact mkPre_set _ _ _ _ _ hlt
   have HF := yh hfin
   have HX := yh hX
   have HI := yh hin
   clear hO hfin hX hin hj2
   generalize hx : xs[j] = x at *
   clear hx
   have hcn := cnt_Msg x
   have HD := yh (mkd_Msg kj x)
   have hb1 : 0 ≤ kj := by omega
   have hb2 : kj + (Lay.tMsg.cnt x : Int) ≤ 1000000000 := by omega
   have HK := yh hkj
   clear hkj hle
   have hnd := O.2.1
   obtain ⟨a7, d7, g7, rfl, hbl, OW, v0, v1, v2, v3, v4⟩ := own_Msg O
   obtain ⟨_, _, _, e9, hbl9, O7, v5, v6, v8, v9⟩ := own_Write OW
   simp only [List.cons.injEq, Value.slice.injEq, true_and, and_true] at e9
   obtain ⟨rfl, rfl⟩ := e9
   clear O OW
   subst hbl9
   subst hbl
   have HN := yh hnd
   clear hnd
   have l1 : b < wr.heap.size := R.lt
   have c0 : wr.cell? ⟨b, off + j * 10, none⟩ = some (.int .i64 x.kind) := R.at 0 _ rfl
   have f0 : wr.frozen? ⟨b, off + j * 10, none⟩ = false := R.soft _
   have c1 : wr.cell? ⟨b, off + j * 10 + 1, none⟩ = some (.int .i64 x.epoch) := R.at 1 _ rfl
   have f1 : wr.frozen? ⟨b, off + j * 10 + 1, none⟩ = false := R.soft _
   have c2 : wr.cell? ⟨b, off + j * 10 + 2, none⟩ = some (.int .i64 x.src) := R.at 2 _ rfl
   have f2 : wr.frozen? ⟨b, off + j * 10 + 2, none⟩ = false := R.soft _
   have c3 : wr.cell? ⟨b, off + j * 10 + 3, none⟩ = some (.int .i64 x.dst) := R.at 3 _ rfl
   have f3 : wr.frozen? ⟨b, off + j * 10 + 3, none⟩ = false := R.soft _
   have c4 : wr.cell? ⟨b, off + j * 10 + 4, none⟩ = some (.int .i64 x.index) := R.at 4 _ rfl
   have f4 : wr.frozen? ⟨b, off + j * 10 + 4, none⟩ = false := R.soft _
   have c5 : wr.cell? ⟨b, off + j * 10 + 5, none⟩ = some (.int .i64 x.write.kind) := R.at 5 _ rfl
   have f5 : wr.frozen? ⟨b, off + j * 10 + 5, none⟩ = false := R.soft _
   have c6 : wr.cell? ⟨b, off + j * 10 + 6, none⟩ = some (.int .i64 x.write.id) := R.at 6 _ rfl
   have f6 : wr.frozen? ⟨b, off + j * 10 + 6, none⟩ = false := R.soft _
   have c7 : wr.cell? ⟨b, off + j * 10 + 7, none⟩ = some (.slice a7 x.write.vec.length d7) := R.at 7 _ rfl
   have R0_ : RowAt wr (((((((wr.setCell ⟨b, off + j * 10, none⟩ (.int .i64 kj)).setCell ⟨b, off + j * 10 + 1, none⟩ (.int .i64 (kj + 1))).setCell ⟨b, off + j * 10 + 2, none⟩ (.int .i64 (kj + 1 + 1))).setCell ⟨b, off + j * 10 + 3, none⟩ (.int .i64 (kj + 1 + 1 + 1))).setCell ⟨b, off + j * 10 + 4, none⟩ (.int .i64 (kj + 1 + 1 + 1 + 1))).setCell ⟨b, off + j * 10 + 5, none⟩ (.int .i64 (kj + 1 + 1 + 1 + 1 + 1))).setCell ⟨b, off + j * 10 + 6, none⟩ (.int .i64 (kj + 1 + 1 + 1 + 1 + 1 + 1))) b (off + j * 10) 10 [.int .i64 kj, .int .i64 (kj + 1), .int .i64 (kj + 1 + 1), .int .i64 (kj + 1 + 1 + 1), .int .i64 (kj + 1 + 1 + 1 + 1), .int .i64 (kj + 1 + 1 + 1 + 1 + 1), .int .i64 (kj + 1 + 1 + 1 + 1 + 1 + 1), .slice a7 x.write.vec.length d7, .int .i64 x.write.session, .int .i64 x.write.seq] blk := (((((((R.set 0 (.int .i64 kj) (by decide)).set 1 (.int .i64 (kj + 1)) (by decide)).set 2 (.int .i64 (kj + 1 + 1)) (by decide)).set 3 (.int .i64 (kj + 1 + 1 + 1)) (by decide)).set 4 (.int .i64 (kj + 1 + 1 + 1 + 1)) (by decide)).set 5 (.int .i64 (kj + 1 + 1 + 1 + 1 + 1)) (by decide)).set 6 (.int .i64 (kj + 1 + 1 + 1 + 1 + 1 + 1)) (by decide))
   have E0_ : Ext (fun q => q = b) wr (((((((wr.setCell ⟨b, off + j * 10, none⟩ (.int .i64 kj)).setCell ⟨b, off + j * 10 + 1, none⟩ (.int .i64 (kj + 1))).setCell ⟨b, off + j * 10 + 2, none⟩ (.int .i64 (kj + 1 + 1))).setCell ⟨b, off + j * 10 + 3, none⟩ (.int .i64 (kj + 1 + 1 + 1))).setCell ⟨b, off + j * 10 + 4, none⟩ (.int .i64 (kj + 1 + 1 + 1 + 1))).setCell ⟨b, off + j * 10 + 5, none⟩ (.int .i64 (kj + 1 + 1 + 1 + 1 + 1))).setCell ⟨b, off + j * 10 + 6, none⟩ (.int .i64 (kj + 1 + 1 + 1 + 1 + 1 + 1))) := ((((((((Ext.refl (fun q => q = b) _).setCell ⟨b, off + j * 10, none⟩ (.int .i64 kj) rfl).setCell ⟨b, off + j * 10 + 1, none⟩ (.int .i64 (kj + 1)) rfl).setCell ⟨b, off + j * 10 + 2, none⟩ (.int .i64 (kj + 1 + 1)) rfl).setCell ⟨b, off + j * 10 + 3, none⟩ (.int .i64 (kj + 1 + 1 + 1)) rfl).setCell ⟨b, off + j * 10 + 4, none⟩ (.int .i64 (kj + 1 + 1 + 1 + 1)) rfl).setCell ⟨b, off + j * 10 + 5, none⟩ (.int .i64 (kj + 1 + 1 + 1 + 1 + 1)) rfl).setCell ⟨b, off + j * 10 + 6, none⟩ (.int .i64 (kj + 1 + 1 + 1 + 1 + 1 + 1)) rfl)
   have O7_ := O7.ext E0_ (fun c hc e => hbk (e ▸ hc))
   clear O7
   have O7 := O7_
   clear O7_
   clear R E0_
   have R := R0_
   clear R0_
   have HR := yh R
   clear R
   go_wp2_with fail
   refine (mark_Int64S _ x.write.vec blk (kj + 1 + 1 + 1 + 1 + 1 + 1 + 1) _ O7 (by omega) (by omega)).mono ?_
   rintro e w2 ⟨rfl, Q7, E2⟩
   have R := (uh HR).call E2 (fun _ h => h) hbk
   clear E2 O7 HR c0 c1 c2 c3 c4 c5 c6 c7 f0 f1 f2 f3 f4 f5 f6
   clear l1
   have l1 : b < w2.heap.size := R.lt
   have c8 : w2.cell? ⟨b, off + j * 10 + 8, none⟩ = some (.int .i64 x.write.session) := R.at 8 _ rfl
   have f8 : w2.frozen? ⟨b, off + j * 10 + 8, none⟩ = false := R.soft _
   have c9 : w2.cell? ⟨b, off + j * 10 + 9, none⟩ = some (.int .i64 x.write.seq) := R.at 9 _ rfl
   have f9 : w2.frozen? ⟨b, off + j * 10 + 9, none⟩ = false := R.soft _
   have R1_ : RowAt wr ((w2.setCell ⟨b, off + j * 10 + 8, none⟩ (.int .i64 (kj + 1 + 1 + 1 + 1 + 1 + 1 + 1 + ((Lay.sl Lay.int).vcnt x.write.vec : Nat)))).setCell ⟨b, off + j * 10 + 9, none⟩ (.int .i64 (kj + 1 + 1 + 1 + 1 + 1 + 1 + 1 + ((Lay.sl Lay.int).vcnt x.write.vec : Nat) + 1))) b (off + j * 10) 10 [.int .i64 kj, .int .i64 (kj + 1), .int .i64 (kj + 1 + 1), .int .i64 (kj + 1 + 1 + 1), .int .i64 (kj + 1 + 1 + 1 + 1), .int .i64 (kj + 1 + 1 + 1 + 1 + 1), .int .i64 (kj + 1 + 1 + 1 + 1 + 1 + 1), .slice a7 x.write.vec.length d7, .int .i64 (kj + 1 + 1 + 1 + 1 + 1 + 1 + 1 + ((Lay.sl Lay.int).vcnt x.write.vec : Nat)), .int .i64 (kj + 1 + 1 + 1 + 1 + 1 + 1 + 1 + ((Lay.sl Lay.int).vcnt x.write.vec : Nat) + 1)] blk := ((R.set 8 (.int .i64 (kj + 1 + 1 + 1 + 1 + 1 + 1 + 1 + ((Lay.sl Lay.int).vcnt x.write.vec : Nat))) (by decide)).set 9 (.int .i64 (kj + 1 + 1 + 1 + 1 + 1 + 1 + 1 + ((Lay.sl Lay.int).vcnt x.write.vec : Nat) + 1)) (by decide))
   have E1_ : Ext (fun q => q = b) w2 ((w2.setCell ⟨b, off + j * 10 + 8, none⟩ (.int .i64 (kj + 1 + 1 + 1 + 1 + 1 + 1 + 1 + ((Lay.sl Lay.int).vcnt x.write.vec : Nat)))).setCell ⟨b, off + j * 10 + 9, none⟩ (.int .i64 (kj + 1 + 1 + 1 + 1 + 1 + 1 + 1 + ((Lay.sl Lay.int).vcnt x.write.vec : Nat) + 1))) := (((Ext.refl (fun q => q = b) _).setCell ⟨b, off + j * 10 + 8, none⟩ (.int .i64 (kj + 1 + 1 + 1 + 1 + 1 + 1 + 1 + ((Lay.sl Lay.int).vcnt x.write.vec : Nat))) rfl).setCell ⟨b, off + j * 10 + 9, none⟩ (.int .i64 (kj + 1 + 1 + 1 + 1 + 1 + 1 + 1 + ((Lay.sl Lay.int).vcnt x.write.vec : Nat) + 1)) rfl)
   have Q7_ := Q7.ext E1_ (fun c hc e => hbk (e ▸ hc))
   clear Q7
   have Q7 := yh Q7_
   clear Q7_
   clear R E1_
   have R := R1_
   clear R1_
   have HR := yh R
   clear R
   have HQ := yh (uh Q7)
   clear Q7
   go_wp2_with fail
   go_roundw
   case rel =>
    refine ⟨j + 1, _, by omega, by go_num, ?_, rfl, ?_, ?_⟩
    ·
     rw [uh HT, hcn]
     have := uh HK
     omega
    ·
     rw [← uh HM _ (uh HD).symm]
     exact uh HF _ _ _ (uh HR) (mkOwn_Msg (x := ⟨kj, kj + 1, kj + 1 + 1, kj + 1 + 1 + 1, kj + 1 + 1 + 1 + 1, ⟨kj + 1 + 1 + 1 + 1 + 1, kj + 1 + 1 + 1 + 1 + 1 + 1, (Lay.sl Lay.int).mkv (kj + 1 + 1 + 1 + 1 + 1 + 1 + 1) x.write.vec, kj + 1 + 1 + 1 + 1 + 1 + 1 + 1 + ((Lay.sl Lay.int).vcnt x.write.vec : Nat), kj + 1 + 1 + 1 + 1 + 1 + 1 + 1 + ((Lay.sl Lay.int).vcnt x.write.vec : Nat) + 1⟩⟩) (mkOwn_Write (x := ⟨kj + 1 + 1 + 1 + 1 + 1, kj + 1 + 1 + 1 + 1 + 1 + 1, (Lay.sl Lay.int).mkv (kj + 1 + 1 + 1 + 1 + 1 + 1 + 1) x.write.vec, kj + 1 + 1 + 1 + 1 + 1 + 1 + 1 + ((Lay.sl Lay.int).vcnt x.write.vec : Nat), kj + 1 + 1 + 1 + 1 + 1 + 1 + 1 + ((Lay.sl Lay.int).vcnt x.write.vec : Nat) + 1⟩) (uh HQ) (show (Lit.int .i64 (kj + 1 + 1 + 1 + 1 + 1)).wf = true from wf_of_bd (by omega)) (show (Lit.int .i64 (kj + 1 + 1 + 1 + 1 + 1 + 1)).wf = true from wf_of_bd (by omega)) (show (Lit.int .i64 (kj + 1 + 1 + 1 + 1 + 1 + 1 + 1 + ((Lay.sl Lay.int).vcnt x.write.vec : Nat))).wf = true from wf_of_bd (by omega)) (show (Lit.int .i64 (kj + 1 + 1 + 1 + 1 + 1 + 1 + 1 + ((Lay.sl Lay.int).vcnt x.write.vec : Nat) + 1)).wf = true from wf_of_bd (by omega)) (uh HN)) (show (Lit.int .i64 (kj)).wf = true from wf_of_bd (by omega)) (show (Lit.int .i64 (kj + 1)).wf = true from wf_of_bd (by omega)) (show (Lit.int .i64 (kj + 1 + 1)).wf = true from wf_of_bd (by omega)) (show (Lit.int .i64 (kj + 1 + 1 + 1)).wf = true from wf_of_bd (by omega)) (show (Lit.int .i64 (kj + 1 + 1 + 1 + 1)).wf = true from wf_of_bd (by omega)) (uh HN))
    exact (uh HX).trans ((uh HR).ext.mono fun q _ hq => uh HI q (by rcases hq with h | h; exact Or.inl h.symm; exact Or.inr h))
   case measure => simp [intOf]; omega
  obtain rfl : j = xs.length := by omega
  rw [mkPre_all] at hO
  rw [List.take_length] at hkj
  have HK := yh hkj
  clear hkj
  have HO := yh hO
  have HX := yh hX
  clear hO hX
  go_wp2_with fail
  go_ret
  exact ⟨by rw [← uh HK]; rfl, uh HO, uh HX⟩
theorem markMsg_zero (ao : Option Addr) (cap : Nat) (k : Int) (w : World) :
  Calls Tryz.prog 79 #[.slice ao 0 cap, .int .i64 k] w fun e w' => e = .returned (.int .i64 k) ∧ w' = w := by
 go_enter Tryz.func79, Tryz.ntmps79
 go_wp2_with fail
 refine wp_loop_rounds 1 ?_
 rw [rounds_succ]
 go_wp2_with fail
 go_ret
 exact ⟨rfl, rfl⟩
theorem mark_MsgS (v : Value) (xs : List DMsg) (bl : List Nat) (k : Int) (w : World) (h : (Lay.sl Lay.tMsg).Own w [v] xs bl) (hk : 0 ≤ k) (hk2 : k + (Lay.sl Lay.tMsg).vcnt xs ≤ 1000000000) :
  Calls Tryz.prog 79 #[v, .int .i64 k] w fun e w' => e = .returned (.int .i64 (k + (Lay.sl Lay.tMsg).vcnt xs)) ∧ (Lay.sl Lay.tMsg).Own w' [v] ((Lay.sl Lay.tMsg).mkv k xs) bl ∧ Ext (fun q => q ∈ bl) w w' := by
 obtain ⟨ao, cap, rfl⟩ := open_sl h.reads
 by_cases hp : 0 < xs.length
 ·
  obtain ⟨b, off, rfl, hbl⟩ := Lay.sl_addr h.reads hp
  exact markMsg_pos b off cap xs bl k w h hk hk2
 obtain rfl : xs = [] := List.eq_nil_of_length_eq_zero (by omega)
 refine (markMsg_zero ao cap k w).mono ?_
 rintro e w' ⟨rfl, rfl⟩
 exact ⟨by rw [vcnt_MsgS]; simp [cntAll], h, Ext.refl _ _⟩
theorem own_Entry {w : World} {cs : List Value} {x : DEntry} {bl : List Nat} (h : Lay.tEntry.Own w cs x bl) : ∃ (a4 : Option Addr) (d4 : Nat) (a9 : Option Addr) (d9 : Nat) (a10 : Option Addr) (d10 : Nat) (g4 : List Nat) (g9 : List Nat) (g10 : List Nat), cs = [.int .i64 x.kind, .int .i64 x.session, .int .i64 x.seq, .int .i64 x.id, .slice a4 x.query.length d4, .int .i64 x.k, .int .i64 x.start, .int .i64 x.fin, .int .i64 x.place, .slice a9 x.vec.length d9, .slice a10 x.hits.length d10] ∧ bl = g4 ++ (g9 ++ g10) ∧ (Lay.sl Lay.int).Own w [.slice a4 x.query.length d4] x.query g4 ∧ (Lay.sl Lay.int).Own w [.slice a9 x.vec.length d9] x.vec g9 ∧ (Lay.sl Lay.tHit).Own w [.slice a10 x.hits.length d10] x.hits g10 ∧ (Lit.int .i64 x.kind).wf = true ∧ (Lit.int .i64 x.session).wf = true ∧ (Lit.int .i64 x.seq).wf = true ∧ (Lit.int .i64 x.id).wf = true ∧ (Lit.int .i64 x.k).wf = true ∧ (Lit.int .i64 x.start).wf = true ∧ (Lit.int .i64 x.fin).wf = true ∧ (Lit.int .i64 x.place).wf = true := by
 obtain ⟨hl, hn, hf⟩ := h
 obtain ⟨a4, d4, b4, a9, d9, b9, a10, d10, b10, rfl, hbl, w0, w1, w2, w3, l4, w5, w6, w7, w8, l9, l10⟩ := lies_Entry.1 hl
 rw [hbl] at hn hf
 simp only [List.nodup_append, List.mem_append] at hn hf
 exact ⟨a4, d4, a9, d9, a10, d10, b4, b9, b10, rfl, hbl, ⟨l4, by simp_all, fun b hb => hf b (by simp_all)⟩, ⟨l9, by simp_all, fun b hb => hf b (by simp_all)⟩, ⟨l10, by simp_all, fun b hb => hf b (by simp_all)⟩, w0, w1, w2, w3, w5, w6, w7, w8⟩
theorem mkOwn_Entry {w : World} {x : DEntry} {c4 : List Value} {c9 : List Value} {c10 : List Value} {g4 : List Nat} {g9 : List Nat} {g10 : List Nat} (O4 : (Lay.sl Lay.int).Own w c4 x.query g4) (O9 : (Lay.sl Lay.int).Own w c9 x.vec g9) (O10 : (Lay.sl Lay.tHit).Own w c10 x.hits g10) (v0 : (Lit.int .i64 x.kind).wf = true) (v1 : (Lit.int .i64 x.session).wf = true) (v2 : (Lit.int .i64 x.seq).wf = true) (v3 : (Lit.int .i64 x.id).wf = true) (v5 : (Lit.int .i64 x.k).wf = true) (v6 : (Lit.int .i64 x.start).wf = true) (v7 : (Lit.int .i64 x.fin).wf = true) (v8 : (Lit.int .i64 x.place).wf = true) (hn : (g4 ++ (g9 ++ g10)).Nodup) : Lay.tEntry.Own w ([.int .i64 x.kind] ++ ([.int .i64 x.session] ++ ([.int .i64 x.seq] ++ ([.int .i64 x.id] ++ (c4 ++ ([.int .i64 x.k] ++ ([.int .i64 x.start] ++ ([.int .i64 x.fin] ++ ([.int .i64 x.place] ++ (c9 ++ c10)))))))))) x (g4 ++ (g9 ++ g10)) := by
 refine ⟨⟨[.int .i64 x.kind], [.int .i64 x.session] ++ ([.int .i64 x.seq] ++ ([.int .i64 x.id] ++ (c4 ++ ([.int .i64 x.k] ++ ([.int .i64 x.start] ++ ([.int .i64 x.fin] ++ ([.int .i64 x.place] ++ (c9 ++ c10)))))))), [], [] ++ ([] ++ ([] ++ (g4 ++ ([] ++ ([] ++ ([] ++ ([] ++ (g9 ++ g10)))))))), rfl, by simp, ⟨rfl, v0, rfl⟩, ⟨[.int .i64 x.session], [.int .i64 x.seq] ++ ([.int .i64 x.id] ++ (c4 ++ ([.int .i64 x.k] ++ ([.int .i64 x.start] ++ ([.int .i64 x.fin] ++ ([.int .i64 x.place] ++ (c9 ++ c10))))))), [], [] ++ ([] ++ (g4 ++ ([] ++ ([] ++ ([] ++ ([] ++ (g9 ++ g10))))))), rfl, rfl, ⟨rfl, v1, rfl⟩, ⟨[.int .i64 x.seq], [.int .i64 x.id] ++ (c4 ++ ([.int .i64 x.k] ++ ([.int .i64 x.start] ++ ([.int .i64 x.fin] ++ ([.int .i64 x.place] ++ (c9 ++ c10)))))), [], [] ++ (g4 ++ ([] ++ ([] ++ ([] ++ ([] ++ (g9 ++ g10)))))), rfl, rfl, ⟨rfl, v2, rfl⟩, ⟨[.int .i64 x.id], c4 ++ ([.int .i64 x.k] ++ ([.int .i64 x.start] ++ ([.int .i64 x.fin] ++ ([.int .i64 x.place] ++ (c9 ++ c10))))), [], g4 ++ ([] ++ ([] ++ ([] ++ ([] ++ (g9 ++ g10))))), rfl, rfl, ⟨rfl, v3, rfl⟩, ⟨c4, [.int .i64 x.k] ++ ([.int .i64 x.start] ++ ([.int .i64 x.fin] ++ ([.int .i64 x.place] ++ (c9 ++ c10)))), g4, [] ++ ([] ++ ([] ++ ([] ++ (g9 ++ g10)))), rfl, rfl, O4.1, ⟨[.int .i64 x.k], [.int .i64 x.start] ++ ([.int .i64 x.fin] ++ ([.int .i64 x.place] ++ (c9 ++ c10))), [], [] ++ ([] ++ ([] ++ (g9 ++ g10))), rfl, rfl, ⟨rfl, v5, rfl⟩, ⟨[.int .i64 x.start], [.int .i64 x.fin] ++ ([.int .i64 x.place] ++ (c9 ++ c10)), [], [] ++ ([] ++ (g9 ++ g10)), rfl, rfl, ⟨rfl, v6, rfl⟩, ⟨[.int .i64 x.fin], [.int .i64 x.place] ++ (c9 ++ c10), [], [] ++ (g9 ++ g10), rfl, rfl, ⟨rfl, v7, rfl⟩, ⟨[.int .i64 x.place], c9 ++ c10, [], g9 ++ g10, rfl, rfl, ⟨rfl, v8, rfl⟩, ⟨c9, c10, g9, g10, rfl, rfl, O9.1, O10.1⟩⟩⟩⟩⟩⟩⟩⟩⟩⟩, hn, ?_⟩
 intro b hb o
 simp only [List.mem_append] at hb
 rcases hb with hb | hb | hb
 ·
  exact O4.2.2 b hb o
 ·
  exact O9.2.2 b hb o
 exact O10.2.2 b hb o
theorem cnt_Hit (x : DHit) : Lay.tHit.cnt x = 2 := by
 show 1 + (1) = 2
 omega
theorem mkd_Hit (k : Int) (x : DHit) : Lay.tHit.mkd k x = ⟨k, k + 1⟩ := rfl
theorem vcnt_HitS (xs : List DHit) : (Lay.sl Lay.tHit).vcnt xs = cntAll Lay.tHit.cnt xs := rfl
theorem markHit_pos (b off cap : Nat) (xs : List DHit) (bl : List Nat) (k : Int) (w : World) (h : (Lay.sl Lay.tHit).Own w [.slice (some ⟨b, off, none⟩) xs.length cap] xs bl) (hk : 0 ≤ k) (hk2 : k + (cntAll Lay.tHit.cnt xs : Nat) ≤ 1000000000) :
  Calls Tryz.prog 107 #[.slice (some ⟨b, off, none⟩) xs.length cap, .int .i64 k] w fun e w' => e = .returned (.int .i64 (k + (cntAll Lay.tHit.cnt xs : Nat))) ∧ (Lay.sl Lay.tHit).Own w' [.slice (some ⟨b, off, none⟩) xs.length cap] (mkAll Lay.tHit.cnt Lay.tHit.mkd k xs) bl ∧ Ext (fun q => q ∈ bl) w w' := by
 have hbig := h.reads.big
 have H := yh h
 clear h
 go_enter Tryz.func107, Tryz.ntmps107
 go_wp2_with fail
 go_loopw [1, 5] (fun kk i wr => ∃ (j : Nat) (kj : Int), j ≤ xs.length ∧ i = .int .i64 j ∧ kj = k + (cntAll Lay.tHit.cnt (xs.take j) : Nat) ∧ kk = .int .i64 kj ∧ (Lay.sl Lay.tHit).Own wr [.slice (some ⟨b, off, none⟩) xs.length cap] (mkPre Lay.tHit.cnt Lay.tHit.mkd k xs j) bl ∧ Ext (fun q => q ∈ bl) w wr) (fun _ i _ => xs.length - (intOf i).toNat)
 case atStart => exact ⟨0, k, Nat.zero_le _, rfl, by simp [cntAll], rfl, by rw [mkPre_zero]; exact uh H, Ext.refl _ _⟩
 case round =>
  obtain ⟨j, kj, hj, rfl, hkj, rfl, hO, hX⟩ := hrel
  clear H
  by_cases hlt : j < xs.length
  ·
   have hj2 : j < (mkPre Lay.tHit.cnt Lay.tHit.mkd k xs j).length := by rw [mkPre_len _ _ _ _ _ hj]; exact hlt
   obtain ⟨row, blk, R, O, hbk, hin, hfin⟩ := Lay.own_upd hO hj2
   rw [mkPre_get _ _ _ _ _ hlt] at O
   have HT := yh (Lay.cntAll_take (f := Lay.tHit.cnt) hlt)
   have hle := Lay.cntAll_take_le (f := Lay.tHit.cnt) (xs := xs) (k := j + 1)
   rw [uh HT] at hle
   have HM : Hid (∀ y, y = Lay.tHit.mkd kj xs[j] → (mkPre Lay.tHit.cnt Lay.tHit.mkd k xs j).set j y = mkPre Lay.tHit.cnt Lay.tHit.mkd k xs (j + 1)) := fun y e => by rw [e, hkj]; exact mkPre_set _ _ _ _ _ hlt
   have HF := yh hfin
   have HX := yh hX
   have HI := yh hin
   clear hO hfin hX hin hj2
   generalize hx : xs[j] = x at *
   clear hx
   have hcn := cnt_Hit x
   have HD := yh (mkd_Hit kj x)
   have hb1 : 0 ≤ kj := by omega
   have hb2 : kj + (Lay.tHit.cnt x : Int) ≤ 1000000000 := by omega
   have HK := yh hkj
   clear hkj hle
   have hbl0 : blk = [] := by have := (lies_Hit.1 O.1).2.1; exact this
   obtain ⟨rfl, -, -⟩ := lies_Hit.1 O.1
   clear O
   have l1 : b < wr.heap.size := R.lt
   have c0 : wr.cell? ⟨b, off + j * 2, none⟩ = some (.int .i64 x.id) := R.at 0 _ rfl
   have f0 : wr.frozen? ⟨b, off + j * 2, none⟩ = false := R.soft _
   have c1 : wr.cell? ⟨b, off + j * 2 + 1, none⟩ = some (.int .i64 x.score) := R.at 1 _ rfl
   have f1 : wr.frozen? ⟨b, off + j * 2 + 1, none⟩ = false := R.soft _
   have R0_ : RowAt wr ((wr.setCell ⟨b, off + j * 2, none⟩ (.int .i64 kj)).setCell ⟨b, off + j * 2 + 1, none⟩ (.int .i64 (kj + 1))) b (off + j * 2) 2 [.int .i64 kj, .int .i64 (kj + 1)] blk := ((R.set 0 (.int .i64 kj) (by decide)).set 1 (.int .i64 (kj + 1)) (by decide))
   have E0_ : Ext (fun q => q = b) wr ((wr.setCell ⟨b, off + j * 2, none⟩ (.int .i64 kj)).setCell ⟨b, off + j * 2 + 1, none⟩ (.int .i64 (kj + 1))) := (((Ext.refl (fun q => q = b) _).setCell ⟨b, off + j * 2, none⟩ (.int .i64 kj) rfl).setCell ⟨b, off + j * 2 + 1, none⟩ (.int .i64 (kj + 1)) rfl)
   clear R E0_
   have R := R0_
   clear R0_
   have HR := yh R
   clear R
   go_wp2_with fail
   go_roundw
   case rel =>
    refine ⟨j + 1, _, by omega, by go_num, ?_, rfl, ?_, ?_⟩
    ·
     rw [uh HT, hcn]
     have := uh HK
     omega
    ·
     rw [← uh HM _ (uh HD).symm]
     exact uh HF _ _ _ (uh HR) ⟨lies_Hit.2 ⟨rfl, hbl0, (show (Lit.int .i64 (kj)).wf = true from wf_of_bd (by omega)), (show (Lit.int .i64 (kj + 1)).wf = true from wf_of_bd (by omega))⟩, by rw [hbl0]; exact List.nodup_nil, by rw [hbl0]; simp⟩
    exact (uh HX).trans ((uh HR).ext.mono fun q _ hq => uh HI q (by rcases hq with h | h; exact Or.inl h.symm; exact Or.inr h))
   case measure => simp [intOf]; omega
  obtain rfl : j = xs.length := by omega
  rw [mkPre_all] at hO
  rw [List.take_length] at hkj
  have HK := yh hkj
  clear hkj
  have HO := yh hO
  have HX := yh hX
  clear hO hX
  go_wp2_with fail
  go_ret
  exact ⟨by rw [← uh HK]; rfl, uh HO, uh HX⟩
theorem markHit_zero (ao : Option Addr) (cap : Nat) (k : Int) (w : World) :
  Calls Tryz.prog 107 #[.slice ao 0 cap, .int .i64 k] w fun e w' => e = .returned (.int .i64 k) ∧ w' = w := by
 go_enter Tryz.func107, Tryz.ntmps107
 go_wp2_with fail
 refine wp_loop_rounds 1 ?_
 rw [rounds_succ]
 go_wp2_with fail
 go_ret
 exact ⟨rfl, rfl⟩
theorem mark_HitS (v : Value) (xs : List DHit) (bl : List Nat) (k : Int) (w : World) (h : (Lay.sl Lay.tHit).Own w [v] xs bl) (hk : 0 ≤ k) (hk2 : k + (Lay.sl Lay.tHit).vcnt xs ≤ 1000000000) :
  Calls Tryz.prog 107 #[v, .int .i64 k] w fun e w' => e = .returned (.int .i64 (k + (Lay.sl Lay.tHit).vcnt xs)) ∧ (Lay.sl Lay.tHit).Own w' [v] ((Lay.sl Lay.tHit).mkv k xs) bl ∧ Ext (fun q => q ∈ bl) w w' := by
 obtain ⟨ao, cap, rfl⟩ := open_sl h.reads
 by_cases hp : 0 < xs.length
 ·
  obtain ⟨b, off, rfl, hbl⟩ := Lay.sl_addr h.reads hp
  exact markHit_pos b off cap xs bl k w h hk hk2
 obtain rfl : xs = [] := List.eq_nil_of_length_eq_zero (by omega)
 refine (markHit_zero ao cap k w).mono ?_
 rintro e w' ⟨rfl, rfl⟩
 exact ⟨by rw [vcnt_HitS]; simp [cntAll], h, Ext.refl _ _⟩
theorem cnt_Entry (x : DEntry) : Lay.tEntry.cnt x = 8 + (Lay.sl Lay.int).vcnt x.query + (Lay.sl Lay.int).vcnt x.vec + (Lay.sl Lay.tHit).vcnt x.hits := by
 show 1 + (1 + (1 + (1 + ((Lay.sl Lay.int).vcnt x.query + (1 + (1 + (1 + (1 + ((Lay.sl Lay.int).vcnt x.vec + ((Lay.sl Lay.tHit).vcnt x.hits)))))))))) = 8 + (Lay.sl Lay.int).vcnt x.query + (Lay.sl Lay.int).vcnt x.vec + (Lay.sl Lay.tHit).vcnt x.hits
 omega
theorem mkd_Entry (k : Int) (x : DEntry) : Lay.tEntry.mkd k x = ⟨k, k + 1, k + 1 + 1, k + 1 + 1 + 1, (Lay.sl Lay.int).mkv (k + 1 + 1 + 1 + 1) x.query, k + 1 + 1 + 1 + 1 + ((Lay.sl Lay.int).vcnt x.query : Nat), k + 1 + 1 + 1 + 1 + ((Lay.sl Lay.int).vcnt x.query : Nat) + 1, k + 1 + 1 + 1 + 1 + ((Lay.sl Lay.int).vcnt x.query : Nat) + 1 + 1, k + 1 + 1 + 1 + 1 + ((Lay.sl Lay.int).vcnt x.query : Nat) + 1 + 1 + 1, (Lay.sl Lay.int).mkv (k + 1 + 1 + 1 + 1 + ((Lay.sl Lay.int).vcnt x.query : Nat) + 1 + 1 + 1 + 1) x.vec, (Lay.sl Lay.tHit).mkv (k + 1 + 1 + 1 + 1 + ((Lay.sl Lay.int).vcnt x.query : Nat) + 1 + 1 + 1 + 1 + ((Lay.sl Lay.int).vcnt x.vec : Nat)) x.hits⟩ := rfl
theorem vcnt_EntryS (xs : List DEntry) : (Lay.sl Lay.tEntry).vcnt xs = cntAll Lay.tEntry.cnt xs := rfl
theorem markEntry_pos (b off cap : Nat) (xs : List DEntry) (bl : List Nat) (k : Int) (w : World) (h : (Lay.sl Lay.tEntry).Own w [.slice (some ⟨b, off, none⟩) xs.length cap] xs bl) (hk : 0 ≤ k) (hk2 : k + (cntAll Lay.tEntry.cnt xs : Nat) ≤ 1000000000) :
  Calls Tryz.prog 80 #[.slice (some ⟨b, off, none⟩) xs.length cap, .int .i64 k] w fun e w' => e = .returned (.int .i64 (k + (cntAll Lay.tEntry.cnt xs : Nat))) ∧ (Lay.sl Lay.tEntry).Own w' [.slice (some ⟨b, off, none⟩) xs.length cap] (mkAll Lay.tEntry.cnt Lay.tEntry.mkd k xs) bl ∧ Ext (fun q => q ∈ bl) w w' := by
 have hbig := h.reads.big
 have H := yh h
 clear h
 go_enter Tryz.func80, Tryz.ntmps80
 go_wp2_with fail
 go_loopw [1, 5] (fun kk i wr => ∃ (j : Nat) (kj : Int), j ≤ xs.length ∧ i = .int .i64 j ∧ kj = k + (cntAll Lay.tEntry.cnt (xs.take j) : Nat) ∧ kk = .int .i64 kj ∧ (Lay.sl Lay.tEntry).Own wr [.slice (some ⟨b, off, none⟩) xs.length cap] (mkPre Lay.tEntry.cnt Lay.tEntry.mkd k xs j) bl ∧ Ext (fun q => q ∈ bl) w wr) (fun _ i _ => xs.length - (intOf i).toNat)
 case atStart => exact ⟨0, k, Nat.zero_le _, rfl, by simp [cntAll], rfl, by rw [mkPre_zero]; exact uh H, Ext.refl _ _⟩
 case round =>
  obtain ⟨j, kj, hj, rfl, hkj, rfl, hO, hX⟩ := hrel
  clear H
  by_cases hlt : j < xs.length
  ·
   have hj2 : j < (mkPre Lay.tEntry.cnt Lay.tEntry.mkd k xs j).length := by rw [mkPre_len _ _ _ _ _ hj]; exact hlt
   obtain ⟨row, blk, R, O, hbk, hin, hfin⟩ := Lay.own_upd hO hj2
   rw [mkPre_get _ _ _ _ _ hlt] at O
   have HT := yh (Lay.cntAll_take (f := Lay.tEntry.cnt) hlt)
   have hle := Lay.cntAll_take_le (f := Lay.tEntry.cnt) (xs := xs) (k := j + 1)
   rw [uh HT] at hle
   have HM : Hid (∀ y, y = Lay.tEntry.mkd kj xs[j] → (mkPre Lay.tEntry.cnt Lay.tEntry.mkd k xs j).set j y = mkPre Lay.tEntry.cnt Lay.tEntry.mkd k xs (j + 1)) := fun y e => by rw [e, hkj]; exact mkPre_set _ _ _ _ _ hlt
   have HF := yh hfin
   have HX := yh hX
   have HI := yh hin
   clear hO hfin hX hin hj2
   generalize hx : xs[j] = x at *
   clear hx
   have hcn := cnt_Entry x
   have HD0 := mkd_Entry kj x
   have hb1 : 0 ≤ kj := by omega
   have hb2 : kj + (Lay.tEntry.cnt x : Int) ≤ 1000000000 := by omega
   have HK := yh hkj
   clear hkj hle
   have HD := yh HD0
   clear HD0
   have hnd := O.2.1
   obtain ⟨a4, d4, a9, d9, a10, d10, g4, g9, g10, rfl, hbl, O4, O9, O10, v0, v1, v2, v3, v5, v6, v7, v8⟩ := own_Entry O
   clear O
   have HN : Hid ((g4 ++ (g9 ++ g10)).Nodup) := by rw [hbl] at hnd; exact hnd
   have HBL := yh hbl
   have hm4 : ∀ c ∈ g4, c ∈ blk := fun c hc => by rw [hbl]; simp [hc]
   have HM4 := yh hm4
   have HB4 : Hid (b ∉ g4) := fun hc => hbk (hm4 b hc)
   clear hm4
   have hm9 : ∀ c ∈ g9, c ∈ blk := fun c hc => by rw [hbl]; simp [hc]
   have HM9 := yh hm9
   have HB9 : Hid (b ∉ g9) := fun hc => hbk (hm9 b hc)
   clear hm9
   have hm10 : ∀ c ∈ g10, c ∈ blk := fun c hc => by rw [hbl]; simp [hc]
   have HM10 := yh hm10
   have HB10 : Hid (b ∉ g10) := fun hc => hbk (hm10 b hc)
   clear hm10
   have HJ4_9 : Hid (∀ c ∈ g4, c ∉ g9) := fun c h1 h2 => (List.nodup_append.1 (uh HN)).2.2 c h1 c (List.mem_append_left _ h2) rfl
   have HJ4_10 : Hid (∀ c ∈ g4, c ∉ g10) := fun c h1 h2 => (List.nodup_append.1 (uh HN)).2.2 c h1 c (List.mem_append_right _ h2) rfl
   have HJ9_10 : Hid (∀ c ∈ g9, c ∉ g10) := fun c h1 h2 => (List.nodup_append.1 (List.nodup_append.1 (uh HN)).2.1).2.2 c h1 c h2 rfl
   clear hnd hbl
   have P4 := yh O4
   clear O4
   have P9 := yh O9
   clear O9
   have P10 := yh O10
   clear O10
   have HR := yh R
   have l1 : b < wr.heap.size := R.lt
   clear R
   have c0 : wr.cell? ⟨b, off + j * 11, none⟩ = some (.int .i64 x.kind) := (uh HR).at 0 _ rfl
   have f0 : wr.frozen? ⟨b, off + j * 11, none⟩ = false := (uh HR).soft _
   have c1 : wr.cell? ⟨b, off + j * 11 + 1, none⟩ = some (.int .i64 x.session) := (uh HR).at 1 _ rfl
   have f1 : wr.frozen? ⟨b, off + j * 11 + 1, none⟩ = false := (uh HR).soft _
   have c2 : wr.cell? ⟨b, off + j * 11 + 2, none⟩ = some (.int .i64 x.seq) := (uh HR).at 2 _ rfl
   have f2 : wr.frozen? ⟨b, off + j * 11 + 2, none⟩ = false := (uh HR).soft _
   have c3 : wr.cell? ⟨b, off + j * 11 + 3, none⟩ = some (.int .i64 x.id) := (uh HR).at 3 _ rfl
   have f3 : wr.frozen? ⟨b, off + j * 11 + 3, none⟩ = false := (uh HR).soft _
   have c4 : wr.cell? ⟨b, off + j * 11 + 4, none⟩ = some (.slice a4 x.query.length d4) := (uh HR).at 4 _ rfl
   have E0_ : Ext (fun q => q = b) wr ((((wr.setCell ⟨b, off + j * 11, none⟩ (.int .i64 kj)).setCell ⟨b, off + j * 11 + 1, none⟩ (.int .i64 (kj + 1))).setCell ⟨b, off + j * 11 + 2, none⟩ (.int .i64 (kj + 1 + 1))).setCell ⟨b, off + j * 11 + 3, none⟩ (.int .i64 (kj + 1 + 1 + 1))) := (((((Ext.refl (fun q => q = b) _).setCell ⟨b, off + j * 11, none⟩ (.int .i64 kj) rfl).setCell ⟨b, off + j * 11 + 1, none⟩ (.int .i64 (kj + 1)) rfl).setCell ⟨b, off + j * 11 + 2, none⟩ (.int .i64 (kj + 1 + 1)) rfl).setCell ⟨b, off + j * 11 + 3, none⟩ (.int .i64 (kj + 1 + 1 + 1)) rfl)
   have HR0_ : Hid (RowAt wr ((((wr.setCell ⟨b, off + j * 11, none⟩ (.int .i64 kj)).setCell ⟨b, off + j * 11 + 1, none⟩ (.int .i64 (kj + 1))).setCell ⟨b, off + j * 11 + 2, none⟩ (.int .i64 (kj + 1 + 1))).setCell ⟨b, off + j * 11 + 3, none⟩ (.int .i64 (kj + 1 + 1 + 1))) b (off + j * 11) 11 [.int .i64 kj, .int .i64 (kj + 1), .int .i64 (kj + 1 + 1), .int .i64 (kj + 1 + 1 + 1), .slice a4 x.query.length d4, .int .i64 x.k, .int .i64 x.start, .int .i64 x.fin, .int .i64 x.place, .slice a9 x.vec.length d9, .slice a10 x.hits.length d10] blk) := (((((uh HR).set 0 (.int .i64 kj) (by decide)).set 1 (.int .i64 (kj + 1)) (by decide)).set 2 (.int .i64 (kj + 1 + 1)) (by decide)).set 3 (.int .i64 (kj + 1 + 1 + 1)) (by decide))
   replace P4 := yh ((uh P4).ext E0_ (fun c hc e => uh HB4 (e ▸ hc)))
   replace P9 := yh ((uh P9).ext E0_ (fun c hc e => uh HB9 (e ▸ hc)))
   replace P10 := yh ((uh P10).ext E0_ (fun c hc e => uh HB10 (e ▸ hc)))
   clear HR E0_
   have HR := HR0_
   clear HR0_
   go_wp2_with fail
   refine (mark_Int64S _ x.query g4 (kj + 1 + 1 + 1 + 1) _ (uh P4) (by omega) (by omega)).mono ?_
   rintro e u0 ⟨rfl, Q, E2⟩
   replace HR := yh ((uh HR).call E2 (uh HM4) (uh HB4))
   replace P9 := yh ((uh P9).ext E2 (fun c hc h2 => uh HJ4_9 c h2 hc))
   replace P10 := yh ((uh P10).ext E2 (fun c hc h2 => uh HJ4_10 c h2 hc))
   clear P4
   have P4 := yh Q
   clear Q E2 l1 c0 f0 c1 f1 c2 f2 c3 f3 c4
   have l1 : b < u0.heap.size := (uh HR).lt
   have c5 : u0.cell? ⟨b, off + j * 11 + 5, none⟩ = some (.int .i64 x.k) := (uh HR).at 5 _ rfl
   have f5 : u0.frozen? ⟨b, off + j * 11 + 5, none⟩ = false := (uh HR).soft _
   have c6 : u0.cell? ⟨b, off + j * 11 + 6, none⟩ = some (.int .i64 x.start) := (uh HR).at 6 _ rfl
   have f6 : u0.frozen? ⟨b, off + j * 11 + 6, none⟩ = false := (uh HR).soft _
   have c7 : u0.cell? ⟨b, off + j * 11 + 7, none⟩ = some (.int .i64 x.fin) := (uh HR).at 7 _ rfl
   have f7 : u0.frozen? ⟨b, off + j * 11 + 7, none⟩ = false := (uh HR).soft _
   have c8 : u0.cell? ⟨b, off + j * 11 + 8, none⟩ = some (.int .i64 x.place) := (uh HR).at 8 _ rfl
   have f8 : u0.frozen? ⟨b, off + j * 11 + 8, none⟩ = false := (uh HR).soft _
   have c9 : u0.cell? ⟨b, off + j * 11 + 9, none⟩ = some (.slice a9 x.vec.length d9) := (uh HR).at 9 _ rfl
   have E1_ : Ext (fun q => q = b) u0 ((((u0.setCell ⟨b, off + j * 11 + 5, none⟩ (.int .i64 (kj + 1 + 1 + 1 + 1 + ((Lay.sl Lay.int).vcnt x.query : Nat)))).setCell ⟨b, off + j * 11 + 6, none⟩ (.int .i64 (kj + 1 + 1 + 1 + 1 + ((Lay.sl Lay.int).vcnt x.query : Nat) + 1))).setCell ⟨b, off + j * 11 + 7, none⟩ (.int .i64 (kj + 1 + 1 + 1 + 1 + ((Lay.sl Lay.int).vcnt x.query : Nat) + 1 + 1))).setCell ⟨b, off + j * 11 + 8, none⟩ (.int .i64 (kj + 1 + 1 + 1 + 1 + ((Lay.sl Lay.int).vcnt x.query : Nat) + 1 + 1 + 1))) := (((((Ext.refl (fun q => q = b) _).setCell ⟨b, off + j * 11 + 5, none⟩ (.int .i64 (kj + 1 + 1 + 1 + 1 + ((Lay.sl Lay.int).vcnt x.query : Nat))) rfl).setCell ⟨b, off + j * 11 + 6, none⟩ (.int .i64 (kj + 1 + 1 + 1 + 1 + ((Lay.sl Lay.int).vcnt x.query : Nat) + 1)) rfl).setCell ⟨b, off + j * 11 + 7, none⟩ (.int .i64 (kj + 1 + 1 + 1 + 1 + ((Lay.sl Lay.int).vcnt x.query : Nat) + 1 + 1)) rfl).setCell ⟨b, off + j * 11 + 8, none⟩ (.int .i64 (kj + 1 + 1 + 1 + 1 + ((Lay.sl Lay.int).vcnt x.query : Nat) + 1 + 1 + 1)) rfl)
   have HR1_ : Hid (RowAt wr ((((u0.setCell ⟨b, off + j * 11 + 5, none⟩ (.int .i64 (kj + 1 + 1 + 1 + 1 + ((Lay.sl Lay.int).vcnt x.query : Nat)))).setCell ⟨b, off + j * 11 + 6, none⟩ (.int .i64 (kj + 1 + 1 + 1 + 1 + ((Lay.sl Lay.int).vcnt x.query : Nat) + 1))).setCell ⟨b, off + j * 11 + 7, none⟩ (.int .i64 (kj + 1 + 1 + 1 + 1 + ((Lay.sl Lay.int).vcnt x.query : Nat) + 1 + 1))).setCell ⟨b, off + j * 11 + 8, none⟩ (.int .i64 (kj + 1 + 1 + 1 + 1 + ((Lay.sl Lay.int).vcnt x.query : Nat) + 1 + 1 + 1))) b (off + j * 11) 11 [.int .i64 kj, .int .i64 (kj + 1), .int .i64 (kj + 1 + 1), .int .i64 (kj + 1 + 1 + 1), .slice a4 x.query.length d4, .int .i64 (kj + 1 + 1 + 1 + 1 + ((Lay.sl Lay.int).vcnt x.query : Nat)), .int .i64 (kj + 1 + 1 + 1 + 1 + ((Lay.sl Lay.int).vcnt x.query : Nat) + 1), .int .i64 (kj + 1 + 1 + 1 + 1 + ((Lay.sl Lay.int).vcnt x.query : Nat) + 1 + 1), .int .i64 (kj + 1 + 1 + 1 + 1 + ((Lay.sl Lay.int).vcnt x.query : Nat) + 1 + 1 + 1), .slice a9 x.vec.length d9, .slice a10 x.hits.length d10] blk) := (((((uh HR).set 5 (.int .i64 (kj + 1 + 1 + 1 + 1 + ((Lay.sl Lay.int).vcnt x.query : Nat))) (by decide)).set 6 (.int .i64 (kj + 1 + 1 + 1 + 1 + ((Lay.sl Lay.int).vcnt x.query : Nat) + 1)) (by decide)).set 7 (.int .i64 (kj + 1 + 1 + 1 + 1 + ((Lay.sl Lay.int).vcnt x.query : Nat) + 1 + 1)) (by decide)).set 8 (.int .i64 (kj + 1 + 1 + 1 + 1 + ((Lay.sl Lay.int).vcnt x.query : Nat) + 1 + 1 + 1)) (by decide))
   replace P4 := yh ((uh P4).ext E1_ (fun c hc e => uh HB4 (e ▸ hc)))
   replace P9 := yh ((uh P9).ext E1_ (fun c hc e => uh HB9 (e ▸ hc)))
   replace P10 := yh ((uh P10).ext E1_ (fun c hc e => uh HB10 (e ▸ hc)))
   clear HR E1_
   have HR := HR1_
   clear HR1_
   go_wp2_with fail
   refine (mark_Int64S _ x.vec g9 (kj + 1 + 1 + 1 + 1 + ((Lay.sl Lay.int).vcnt x.query : Nat) + 1 + 1 + 1 + 1) _ (uh P9) (by omega) (by omega)).mono ?_
   rintro e u1 ⟨rfl, Q, E2⟩
   replace HR := yh ((uh HR).call E2 (uh HM9) (uh HB9))
   replace P4 := yh ((uh P4).ext E2 (fun c hc h2 => uh HJ4_9 c hc h2))
   replace P10 := yh ((uh P10).ext E2 (fun c hc h2 => uh HJ9_10 c h2 hc))
   clear P9
   have P9 := yh Q
   clear Q E2 l1 c5 f5 c6 f6 c7 f7 c8 f8 c9
   have l1 : b < u1.heap.size := (uh HR).lt
   have c10 : u1.cell? ⟨b, off + j * 11 + 10, none⟩ = some (.slice a10 x.hits.length d10) := (uh HR).at 10 _ rfl
   go_wp2_with fail
   refine (mark_HitS _ x.hits g10 (kj + 1 + 1 + 1 + 1 + ((Lay.sl Lay.int).vcnt x.query : Nat) + 1 + 1 + 1 + 1 + ((Lay.sl Lay.int).vcnt x.vec : Nat)) _ (uh P10) (by omega) (by omega)).mono ?_
   rintro e u2 ⟨rfl, Q, E2⟩
   replace HR := yh ((uh HR).call E2 (uh HM10) (uh HB10))
   replace P4 := yh ((uh P4).ext E2 (fun c hc h2 => uh HJ4_10 c hc h2))
   replace P9 := yh ((uh P9).ext E2 (fun c hc h2 => uh HJ9_10 c hc h2))
   clear P10
   have P10 := yh Q
   clear Q E2 l1 c10
   have l1 : b < u2.heap.size := (uh HR).lt
   go_wp2_with fail
   go_roundw
   case rel =>
    refine ⟨j + 1, _, by omega, by go_num, ?_, rfl, ?_, ?_⟩
    ·
     rw [uh HT, hcn]
     have := uh HK
     omega
    ·
     rw [← uh HM _ (uh HD).symm]
     exact uh HF _ _ _ (uh HR) (by rw [uh HBL]; exact mkOwn_Entry (x := ⟨kj, kj + 1, kj + 1 + 1, kj + 1 + 1 + 1, (Lay.sl Lay.int).mkv (kj + 1 + 1 + 1 + 1) x.query, kj + 1 + 1 + 1 + 1 + ((Lay.sl Lay.int).vcnt x.query : Nat), kj + 1 + 1 + 1 + 1 + ((Lay.sl Lay.int).vcnt x.query : Nat) + 1, kj + 1 + 1 + 1 + 1 + ((Lay.sl Lay.int).vcnt x.query : Nat) + 1 + 1, kj + 1 + 1 + 1 + 1 + ((Lay.sl Lay.int).vcnt x.query : Nat) + 1 + 1 + 1, (Lay.sl Lay.int).mkv (kj + 1 + 1 + 1 + 1 + ((Lay.sl Lay.int).vcnt x.query : Nat) + 1 + 1 + 1 + 1) x.vec, (Lay.sl Lay.tHit).mkv (kj + 1 + 1 + 1 + 1 + ((Lay.sl Lay.int).vcnt x.query : Nat) + 1 + 1 + 1 + 1 + ((Lay.sl Lay.int).vcnt x.vec : Nat)) x.hits⟩) (uh P4) (uh P9) (uh P10) (show (Lit.int .i64 (kj)).wf = true from wf_of_bd (by omega)) (show (Lit.int .i64 (kj + 1)).wf = true from wf_of_bd (by omega)) (show (Lit.int .i64 (kj + 1 + 1)).wf = true from wf_of_bd (by omega)) (show (Lit.int .i64 (kj + 1 + 1 + 1)).wf = true from wf_of_bd (by omega)) (show (Lit.int .i64 (kj + 1 + 1 + 1 + 1 + ((Lay.sl Lay.int).vcnt x.query : Nat))).wf = true from wf_of_bd (by omega)) (show (Lit.int .i64 (kj + 1 + 1 + 1 + 1 + ((Lay.sl Lay.int).vcnt x.query : Nat) + 1)).wf = true from wf_of_bd (by omega)) (show (Lit.int .i64 (kj + 1 + 1 + 1 + 1 + ((Lay.sl Lay.int).vcnt x.query : Nat) + 1 + 1)).wf = true from wf_of_bd (by omega)) (show (Lit.int .i64 (kj + 1 + 1 + 1 + 1 + ((Lay.sl Lay.int).vcnt x.query : Nat) + 1 + 1 + 1)).wf = true from wf_of_bd (by omega)) (uh HN))
    exact (uh HX).trans ((uh HR).ext.mono fun q _ hq => uh HI q (by rcases hq with h | h; exact Or.inl h.symm; exact Or.inr h))
   case measure => simp [intOf]; omega
  obtain rfl : j = xs.length := by omega
  rw [mkPre_all] at hO
  rw [List.take_length] at hkj
  have HK := yh hkj
  clear hkj
  have HO := yh hO
  have HX := yh hX
  clear hO hX
  go_wp2_with fail
  go_ret
  exact ⟨by rw [← uh HK]; rfl, uh HO, uh HX⟩
theorem markEntry_zero (ao : Option Addr) (cap : Nat) (k : Int) (w : World) :
  Calls Tryz.prog 80 #[.slice ao 0 cap, .int .i64 k] w fun e w' => e = .returned (.int .i64 k) ∧ w' = w := by
 go_enter Tryz.func80, Tryz.ntmps80
 go_wp2_with fail
 refine wp_loop_rounds 1 ?_
 rw [rounds_succ]
 go_wp2_with fail
 go_ret
 exact ⟨rfl, rfl⟩
theorem mark_EntryS (v : Value) (xs : List DEntry) (bl : List Nat) (k : Int) (w : World) (h : (Lay.sl Lay.tEntry).Own w [v] xs bl) (hk : 0 ≤ k) (hk2 : k + (Lay.sl Lay.tEntry).vcnt xs ≤ 1000000000) :
  Calls Tryz.prog 80 #[v, .int .i64 k] w fun e w' => e = .returned (.int .i64 (k + (Lay.sl Lay.tEntry).vcnt xs)) ∧ (Lay.sl Lay.tEntry).Own w' [v] ((Lay.sl Lay.tEntry).mkv k xs) bl ∧ Ext (fun q => q ∈ bl) w w' := by
 obtain ⟨ao, cap, rfl⟩ := open_sl h.reads
 by_cases hp : 0 < xs.length
 ·
  obtain ⟨b, off, rfl, hbl⟩ := Lay.sl_addr h.reads hp
  exact markEntry_pos b off cap xs bl k w h hk hk2
 obtain rfl : xs = [] := List.eq_nil_of_length_eq_zero (by omega)
 refine (markEntry_zero ao cap k w).mono ?_
 rintro e w' ⟨rfl, rfl⟩
 exact ⟨by rw [vcnt_EntryS]; simp [cntAll], h, Ext.refl _ _⟩
theorem mark_World (cs : List Value) (x : DWorld) (bl : List Nat) (k : Int) (w : World) (h : Lay.tWorld.Own w cs x bl) (hk : 0 ≤ k) (hk2 : k + Lay.tWorld.vcnt x ≤ 1000000000) :
  Calls Tryz.prog 21 #[.agg cs.toArray, .int .i64 k] w fun e w' => e = .returned (.int .i64 (k + Lay.tWorld.vcnt x)) ∧ Lay.tWorld.Own w' cs (Lay.tWorld.mkv k x) bl ∧ Ext (fun q => q ∈ bl) w w' := by
 have hlt := h.lt
 have hnd := h.2.1
 rw [vcnt_World] at hk2
 obtain ⟨a3, d3, a4, d4, a5, d5, a6, d6, g2, g4, g5, g6, rfl, hbl, O2, O4, O5, O6, v0, v1⟩ := own_World h
 clear h
 have HB0 : Below w.heap.size w (w.alloc (.cells #[.int .i64 x.now, .int .i64 x.events, .int .i64 x.chain.epoch, .slice a3 x.chain.ids.length d3, .slice a4 x.nodes.length d4, .slice a5 x.msgs.length d5, .slice a6 x.history.length d6] 36)) := (Below.refl _ _).alloc (Nat.le_refl _) _
 have bA : Box w.heap.size #[.int .i64 x.now, .int .i64 x.events, .int .i64 x.chain.epoch, .slice a3 x.chain.ids.length d3, .slice a4 x.nodes.length d4, .slice a5 x.msgs.length d5, .slice a6 x.history.length d6] 36 (w.alloc (.cells #[.int .i64 x.now, .int .i64 x.events, .int .i64 x.chain.epoch, .slice a3 x.chain.ids.length d3, .slice a4 x.nodes.length d4, .slice a5 x.msgs.length d5, .slice a6 x.history.length d6] 36)) w.heap.size := newBox (Nat.le_refl _)
 have HN := yh hnd
 have HV := yh (vcnt_World x)
 have HM := yh (mkv_World k x)
 clear hnd
 go_enter Tryz.func21, Tryz.ntmps21
 go_wp2_with fail
 generalize w.alloc (.cells #[.int .i64 x.now, .int .i64 x.events, .int .i64 x.chain.epoch, .slice a3 x.chain.ids.length d3, .slice a4 x.nodes.length d4, .slice a5 x.msgs.length d5, .slice a6 x.history.length d6] 36) = W0 at *
 replace O2 := O2.later HB0
 replace O4 := O4.later HB0
 replace O5 := O5.later HB0
 replace O6 := O6.later HB0
 have hsz := HB0.size
 have EX : Ext (fun q => q ∈ bl) w W0 := ext_of_below HB0 _
 have hs0 := bA.lt
 refine (mark_Chain _ x.chain g2 (k) _ O2 (by omega) (by omega)).mono ?_
 rintro e w1 ⟨rfl, Q2, E2⟩
 replace O4 := O4.ext E2 (fun b hb hb2 => by subst hbl; exact absurd rfl ((by have := uh HN; simp_all [List.nodup_append] : ∀ p ∈ g2, ∀ q ∈ g4, p ≠ q) b hb2 b hb))
 replace O5 := O5.ext E2 (fun b hb hb2 => by subst hbl; exact absurd rfl ((by have := uh HN; simp_all [List.nodup_append] : ∀ p ∈ g2, ∀ q ∈ g5, p ≠ q) b hb2 b hb))
 replace O6 := O6.ext E2 (fun b hb hb2 => by subst hbl; exact absurd rfl ((by have := uh HN; simp_all [List.nodup_append] : ∀ p ∈ g2, ∀ q ∈ g6, p ≠ q) b hb2 b hb))
 replace EX := EX.trans (E2.mono fun b _ hb => by rw [hbl]; simp [hb])
 replace bA := bA.ext E2 (fun hm => by have := hlt w.heap.size (by rw [hbl]; simp [hm]); omega)
 clear E2
 have p4 := bA.at 4 _ rfl
 have p5 := bA.at 5 _ rfl
 have p6 := bA.at 6 _ rfl
 have HA := yh bA
 have HX := yh EX
 have HL := yh hlt
 have HBL := yh hbl
 clear bA EX hlt hbl
 have P2 := yh Q2
 clear Q2
 have P4 := yh O4
 clear O4
 have P5 := yh O5
 clear O5
 have P6 := yh O6
 clear O6
 clear O2
 go_wp2_with fail
 have bA := uh HA
 have EX := uh HX
 have hlt := uh HL
 have hbl := uh HBL
 clear HA HX HL HBL
 have Q2 := uh P2
 clear P2
 have O4 := uh P4
 clear P4
 have O5 := uh P5
 clear P5
 have O6 := uh P6
 clear P6
 clear p4
 clear p5
 clear p6
 refine (mark_NodeS _ x.nodes g4 (k + (Lay.tChain.vcnt x.chain : Int)) _ O4 (by omega) (by omega)).mono ?_
 rintro e w2 ⟨rfl, Q4, E4⟩
 replace Q2 := Q2.ext E4 (fun b hb hb2 => by subst hbl; exact absurd rfl ((by have := uh HN; simp_all [List.nodup_append] : ∀ p ∈ g2, ∀ q ∈ g4, p ≠ q) b hb b hb2))
 replace O5 := O5.ext E4 (fun b hb hb2 => by subst hbl; exact absurd rfl ((by have := uh HN; simp_all [List.nodup_append] : ∀ p ∈ g4, ∀ q ∈ g5, p ≠ q) b hb2 b hb))
 replace O6 := O6.ext E4 (fun b hb hb2 => by subst hbl; exact absurd rfl ((by have := uh HN; simp_all [List.nodup_append] : ∀ p ∈ g4, ∀ q ∈ g6, p ≠ q) b hb2 b hb))
 replace EX := EX.trans (E4.mono fun b _ hb => by rw [hbl]; simp [hb])
 replace bA := bA.ext E4 (fun hm => by have := hlt w.heap.size (by rw [hbl]; simp [hm]); omega)
 clear E4
 have p5 := bA.at 5 _ rfl
 have p6 := bA.at 6 _ rfl
 have HA := yh bA
 have HX := yh EX
 have HL := yh hlt
 have HBL := yh hbl
 clear bA EX hlt hbl
 have P2 := yh Q2
 clear Q2
 have P4 := yh Q4
 clear Q4
 have P5 := yh O5
 clear O5
 have P6 := yh O6
 clear O6
 clear O4
 go_wp2_with fail
 have bA := uh HA
 have EX := uh HX
 have hlt := uh HL
 have hbl := uh HBL
 clear HA HX HL HBL
 have Q2 := uh P2
 clear P2
 have Q4 := uh P4
 clear P4
 have O5 := uh P5
 clear P5
 have O6 := uh P6
 clear P6
 clear p5
 clear p6
 refine (mark_MsgS _ x.msgs g5 (k + (Lay.tChain.vcnt x.chain : Int) + ((Lay.sl Lay.tNode).vcnt x.nodes : Int)) _ O5 (by omega) (by omega)).mono ?_
 rintro e w3 ⟨rfl, Q5, E5⟩
 replace Q2 := Q2.ext E5 (fun b hb hb2 => by subst hbl; exact absurd rfl ((by have := uh HN; simp_all [List.nodup_append] : ∀ p ∈ g2, ∀ q ∈ g5, p ≠ q) b hb b hb2))
 replace Q4 := Q4.ext E5 (fun b hb hb2 => by subst hbl; exact absurd rfl ((by have := uh HN; simp_all [List.nodup_append] : ∀ p ∈ g4, ∀ q ∈ g5, p ≠ q) b hb b hb2))
 replace O6 := O6.ext E5 (fun b hb hb2 => by subst hbl; exact absurd rfl ((by have := uh HN; simp_all [List.nodup_append] : ∀ p ∈ g5, ∀ q ∈ g6, p ≠ q) b hb2 b hb))
 replace EX := EX.trans (E5.mono fun b _ hb => by rw [hbl]; simp [hb])
 replace bA := bA.ext E5 (fun hm => by have := hlt w.heap.size (by rw [hbl]; simp [hm]); omega)
 clear E5
 have p6 := bA.at 6 _ rfl
 have HA := yh bA
 have HX := yh EX
 have HL := yh hlt
 have HBL := yh hbl
 clear bA EX hlt hbl
 have P2 := yh Q2
 clear Q2
 have P4 := yh Q4
 clear Q4
 have P5 := yh Q5
 clear Q5
 have P6 := yh O6
 clear O6
 clear O5
 go_wp2_with fail
 have bA := uh HA
 have EX := uh HX
 have hlt := uh HL
 have hbl := uh HBL
 clear HA HX HL HBL
 have Q2 := uh P2
 clear P2
 have Q4 := uh P4
 clear P4
 have Q5 := uh P5
 clear P5
 have O6 := uh P6
 clear P6
 clear p6
 refine (mark_EntryS _ x.history g6 (k + (Lay.tChain.vcnt x.chain : Int) + ((Lay.sl Lay.tNode).vcnt x.nodes : Int) + ((Lay.sl Lay.tMsg).vcnt x.msgs : Int)) _ O6 (by omega) (by omega)).mono ?_
 rintro e w4 ⟨rfl, Q6, E6⟩
 replace Q2 := Q2.ext E6 (fun b hb hb2 => by subst hbl; exact absurd rfl ((by have := uh HN; simp_all [List.nodup_append] : ∀ p ∈ g2, ∀ q ∈ g6, p ≠ q) b hb b hb2))
 replace Q4 := Q4.ext E6 (fun b hb hb2 => by subst hbl; exact absurd rfl ((by have := uh HN; simp_all [List.nodup_append] : ∀ p ∈ g4, ∀ q ∈ g6, p ≠ q) b hb b hb2))
 replace Q5 := Q5.ext E6 (fun b hb hb2 => by subst hbl; exact absurd rfl ((by have := uh HN; simp_all [List.nodup_append] : ∀ p ∈ g5, ∀ q ∈ g6, p ≠ q) b hb b hb2))
 replace EX := EX.trans (E6.mono fun b _ hb => by rw [hbl]; simp [hb])
 replace bA := bA.ext E6 (fun hm => by have := hlt w.heap.size (by rw [hbl]; simp [hm]); omega)
 clear E6
 have HA := yh bA
 have HX := yh EX
 have HL := yh hlt
 have HBL := yh hbl
 clear bA EX hlt hbl
 have P2 := yh Q2
 clear Q2
 have P4 := yh Q4
 clear Q4
 have P5 := yh Q5
 clear Q5
 have P6 := yh Q6
 clear Q6
 clear O6
 go_wp2_with fail
 go_ret
 refine ⟨?_, ?_, uh HX⟩
 ·
  rw [show k + (Lay.tWorld.vcnt x : Int) = k + (Lay.tChain.vcnt x.chain : Int) + ((Lay.sl Lay.tNode).vcnt x.nodes : Int) + ((Lay.sl Lay.tMsg).vcnt x.msgs : Int) + ((Lay.sl Lay.tEntry).vcnt x.history : Int) by rw [uh HV]; omega]
  rfl
 have e := uh HBL
 subst e
 rw [uh HM]
 exact mkOwn_World (x := ⟨x.now, x.events, Lay.tChain.mkv (k) x.chain, (Lay.sl Lay.tNode).mkv (k + (Lay.tChain.vcnt x.chain : Int)) x.nodes, (Lay.sl Lay.tMsg).mkv (k + (Lay.tChain.vcnt x.chain : Int) + ((Lay.sl Lay.tNode).vcnt x.nodes : Int)) x.msgs, (Lay.sl Lay.tEntry).mkv (k + (Lay.tChain.vcnt x.chain : Int) + ((Lay.sl Lay.tNode).vcnt x.nodes : Int) + ((Lay.sl Lay.tMsg).vcnt x.msgs : Int)) x.history⟩) (uh P2) (uh P4) (uh P5) (uh P6) v0 v1 (uh HN)
theorem eq_Item (cs cs2 : List Value) (x : DItem) (w : World) (h : Lay.tItem.Reads w cs x) (h2 : Lay.tItem.Reads w cs2 x) :
  Calls Tryz.prog 206 #[.agg cs.toArray, .agg cs2.toArray] w fun e w' => e = .returned (.bool true) ∧ Below w.heap.size w w' := by
 obtain ⟨a1, d1, rfl, R1⟩ := open_Item h
 obtain ⟨a1z, d1z, rfl, R1z⟩ := open_Item h2
 clear h h2
 have e0 : (x.id != x.id) = false := by simp
 have HB0 : Below w.heap.size w ((w.alloc (.cells #[.int .i64 x.id, .slice a1 x.vec.length d1] 125)).alloc (.cells #[.int .i64 x.id, .slice a1z x.vec.length d1z] 125)) := ((Below.refl _ _).alloc (Nat.le_refl _) _).alloc (by simp) _
 have bA : Box w.heap.size #[.int .i64 x.id, .slice a1 x.vec.length d1] 125 ((w.alloc (.cells #[.int .i64 x.id, .slice a1 x.vec.length d1] 125)).alloc (.cells #[.int .i64 x.id, .slice a1z x.vec.length d1z] 125)) w.heap.size := (newBox (Nat.le_refl _)).grow _
 have bC : Box w.heap.size #[.int .i64 x.id, .slice a1z x.vec.length d1z] 125 ((w.alloc (.cells #[.int .i64 x.id, .slice a1 x.vec.length d1] 125)).alloc (.cells #[.int .i64 x.id, .slice a1z x.vec.length d1z] 125)) (w.heap.size + 1) := newBoxAt (by omega) (by simp)
 go_enter Tryz.func206, Tryz.ntmps206
 go_wp2_with fail
 generalize (w.alloc (.cells #[.int .i64 x.id, .slice a1 x.vec.length d1] 125)).alloc (.cells #[.int .i64 x.id, .slice a1z x.vec.length d1z] 125) = W0 at *
 replace R1 := R1.later HB0
 replace R1z := R1z.later HB0
 refine (eq_Int64S _ _ x.vec _ R1 R1z).mono ?_
 rintro e w1 ⟨rfl, hb⟩
 replace bA := bA.keep hb
 replace bC := bC.keep hb
 replace HB0 := HB0.trans (hb.mono HB0.size)
 clear hb
 have HB := yh HB0
 have HA := yh bA
 have HC := yh bC
 clear HB0 bA bC
 go_wp2_with fail
 go_ret
 exact ⟨rfl, uh HB⟩
theorem eq_ItemS (v v2 : Value) (xs : List DItem) (w : World) (h : (Lay.sl Lay.tItem).Reads w [v] xs) (h2 : (Lay.sl Lay.tItem).Reads w [v2] xs) :
  Calls Tryz.prog 121 #[v, v2] w fun e w' => e = .returned (.bool true) ∧ Below w.heap.size w w' := by
 have hbig := h.big
 obtain ⟨ao, cap, rfl⟩ := open_sl h
 obtain ⟨ao2, cap2, rfl⟩ := open_sl h2
 by_cases hp : 0 < xs.length
 ·
  obtain ⟨b, off, rfl, hbl⟩ := Lay.sl_addr h hp
  obtain ⟨b2, off2, rfl, hbl2⟩ := Lay.sl_addr h2 hp
  have H := yh h
  have H2 := yh h2
  clear h h2
  go_enter Tryz.func121, Tryz.ntmps121
  go_wp2_with fail
  go_loopw [5] (fun i wr => ∃ k : Nat, k ≤ xs.length ∧ i = .int .i64 k ∧ Below w.heap.size w wr) (fun i _ => xs.length - (intOf i).toNat)
  case atStart => exact ⟨0, Nat.zero_le _, rfl, Below.refl _ _⟩
  case round =>
   obtain ⟨k, hk, rfl, hB⟩ := hrel
   by_cases hlt : k < xs.length
   ·
    obtain ⟨row, hc, hr⟩ := Lay.row_at (uh H) hlt
    obtain ⟨rowz, hcz, hrz⟩ := Lay.row_at (uh H2) hlt
    have hr2 := hr
    obtain ⟨a1, d1, rfl, -⟩ := open_Item hr2
    have hrz2 := hrz
    obtain ⟨a1z, d1z, rfl, -⟩ := open_Item hrz2
    have c0 : w.cell? ⟨b, off + k * 2, none⟩ = some (.int .i64 (xs[k]).id) := ((Below.refl w.heap.size w).cell (p := ⟨b, off + k * 2, none⟩) hbl).trans (hc 0 (by decide))
    have c1 : w.cell? ⟨b, off + k * 2 + 1, none⟩ = some (.slice a1 (xs[k]).vec.length d1) := ((Below.refl w.heap.size w).cell (p := ⟨b, off + k * 2 + 1, none⟩) hbl).trans (hc 1 (by decide))
    have c0z : w.cell? ⟨b2, off2 + k * 2, none⟩ = some (.int .i64 (xs[k]).id) := ((Below.refl w.heap.size w).cell (p := ⟨b2, off2 + k * 2, none⟩) hbl2).trans (hcz 0 (by decide))
    have c1z : w.cell? ⟨b2, off2 + k * 2 + 1, none⟩ = some (.slice a1z (xs[k]).vec.length d1z) := ((Below.refl w.heap.size w).cell (p := ⟨b2, off2 + k * 2 + 1, none⟩) hbl2).trans (hcz 1 (by decide))
    clear hc hcz
    have HR := yh hr
    have HRZ := yh hrz
    clear hr hrz
    have HB := yh hB
    clear hB
    generalize hxk : xs[k] = x at *
    clear hxk
    have i1 : (0 : Int) ≤ (k : Int) := by omega
    have i2 : (k : Int) < (xs.length : Int) := by omega
    go_wp2_with fail
    refine wp_region_noPanic ?_
    refine wp_region_held_drew (S := fun w' => Below w.heap.size w w') (by kernel_rfl) (uh HB).drew (fun zq => ?_)
    generalize wr.drew = wD at zq ⊢
    refine tkH 0 zq ?_
    refine tkH 1 zq ?_
    refine tkH 2 zq ?_
    refine tkJ 3 (v := ?v3) ?h3 zq ?r3
    case h3 =>
     intro wS hSw
     have y0 := (hSw.cell (p := ⟨b, off + k * 2, none⟩) hbl).trans c0
     have y1 := (hSw.cell (p := ⟨b, off + k * 2 + 1, none⟩) hbl).trans c1
     clear hSw
     (try dsimp only at hSw)
     go_simp
     try with_reducible rfl
    refine tkH 4 zq ?_
    refine tkH 5 zq ?_
    refine tkH 6 zq ?_
    refine tkJ 7 (v := ?v7) ?h7 zq ?r7
    case h7 =>
     intro wS hSw
     have y0z := (hSw.cell (p := ⟨b2, off2 + k * 2, none⟩) hbl2).trans c0z
     have y1z := (hSw.cell (p := ⟨b2, off2 + k * 2 + 1, none⟩) hbl2).trans c1z
     clear hSw
     (try dsimp only at hSw)
     go_simp
     try with_reducible rfl
    refine rdH 8 (fun K hK => ?_)
    go_simp
    go_at_call 206
    refine (eq_Item _ _ x _ ((uh HR).later zq) ((uh HRZ).later zq)).mono ?_
    rintro e w3 ⟨rfl, hbw⟩
    try go_wp2_with fail
    refine hK.out _ _ (zq.trans (hbw.mono zq.size)) (fun zq => ?_)
    clear hK K
    try simp only [Act.put, pz, py, px]
    refine tkH 9 zq ?_
    refine wpAnyH_done (by kernel_rfl) ?_ _
    refine NoPanic.normal ?_
    have HB3 := yh zq
    clear zq c0 c0z c1 c1z HB
    go_wp2_with fail
    go_roundw
    case rel => exact ⟨k + 1, by omega, by go_num, uh HB3⟩
    case measure => simp [intOf]; omega
   have HB := yh hB
   clear hB
   go_wp2_with fail
   go_ret
   exact ⟨rfl, uh HB⟩
 obtain rfl : xs = [] := List.eq_nil_of_length_eq_zero (by omega)
 clear h h2 hp
 simp only [List.length_nil] at *
 go_enter Tryz.func121, Tryz.ntmps121
 go_wp2_with fail
 refine wp_loop_rounds 1 ?_
 rw [rounds_succ]
 go_wp2_with fail
 go_ret
 exact ⟨rfl, Below.refl _ _⟩
theorem eq_TableResult (cs cs2 : List Value) (x : DTableResult) (w : World) (h : Lay.tTableResult.Reads w cs x) (h2 : Lay.tTableResult.Reads w cs2 x) :
  Calls Tryz.prog 51 #[.agg cs.toArray, .agg cs2.toArray] w fun e w' => e = .returned (.bool true) ∧ Below w.heap.size w w' := by
 obtain ⟨a1, d1, rfl, R1⟩ := open_TableResult h
 obtain ⟨a1z, d1z, rfl, R1z⟩ := open_TableResult h2
 clear h h2
 have e0 : (x.code != x.code) = false := by simp
 have HB0 : Below w.heap.size w ((w.alloc (.cells #[.int .i64 x.code, .slice a1 x.items.length d1] 66)).alloc (.cells #[.int .i64 x.code, .slice a1z x.items.length d1z] 66)) := ((Below.refl _ _).alloc (Nat.le_refl _) _).alloc (by simp) _
 have bA : Box w.heap.size #[.int .i64 x.code, .slice a1 x.items.length d1] 66 ((w.alloc (.cells #[.int .i64 x.code, .slice a1 x.items.length d1] 66)).alloc (.cells #[.int .i64 x.code, .slice a1z x.items.length d1z] 66)) w.heap.size := (newBox (Nat.le_refl _)).grow _
 have bC : Box w.heap.size #[.int .i64 x.code, .slice a1z x.items.length d1z] 66 ((w.alloc (.cells #[.int .i64 x.code, .slice a1 x.items.length d1] 66)).alloc (.cells #[.int .i64 x.code, .slice a1z x.items.length d1z] 66)) (w.heap.size + 1) := newBoxAt (by omega) (by simp)
 go_enter Tryz.func51, Tryz.ntmps51
 go_wp2_with fail
 generalize (w.alloc (.cells #[.int .i64 x.code, .slice a1 x.items.length d1] 66)).alloc (.cells #[.int .i64 x.code, .slice a1z x.items.length d1z] 66) = W0 at *
 replace R1 := R1.later HB0
 replace R1z := R1z.later HB0
 refine (eq_ItemS _ _ x.items _ R1 R1z).mono ?_
 rintro e w1 ⟨rfl, hb⟩
 replace bA := bA.keep hb
 replace bC := bC.keep hb
 replace HB0 := HB0.trans (hb.mono HB0.size)
 clear hb
 have HB := yh HB0
 have HA := yh bA
 have HC := yh bC
 clear HB0 bA bC
 go_wp2_with fail
 go_ret
 exact ⟨rfl, uh HB⟩
theorem cnt_Item (x : DItem) : Lay.tItem.cnt x = 1 + (Lay.sl Lay.int).vcnt x.vec := by
 show 1 + ((Lay.sl Lay.int).vcnt x.vec) = 1 + (Lay.sl Lay.int).vcnt x.vec
 omega
theorem mkd_Item (k : Int) (x : DItem) : Lay.tItem.mkd k x = ⟨k, (Lay.sl Lay.int).mkv (k + 1) x.vec⟩ := rfl
theorem vcnt_ItemS (xs : List DItem) : (Lay.sl Lay.tItem).vcnt xs = cntAll Lay.tItem.cnt xs := rfl
theorem mkv_ItemS (k : Int) (xs : List DItem) : (Lay.sl Lay.tItem).mkv k xs = mkAll Lay.tItem.cnt Lay.tItem.mkd k xs := rfl
theorem markItem_pos (b off cap : Nat) (xs : List DItem) (bl : List Nat) (k : Int) (w : World) (h : (Lay.sl Lay.tItem).Own w [.slice (some ⟨b, off, none⟩) xs.length cap] xs bl) (hk : 0 ≤ k) (hk2 : k + (cntAll Lay.tItem.cnt xs : Nat) ≤ 1000000000) :
  Calls Tryz.prog 122 #[.slice (some ⟨b, off, none⟩) xs.length cap, .int .i64 k] w fun e w' => e = .returned (.int .i64 (k + (cntAll Lay.tItem.cnt xs : Nat))) ∧ (Lay.sl Lay.tItem).Own w' [.slice (some ⟨b, off, none⟩) xs.length cap] (mkAll Lay.tItem.cnt Lay.tItem.mkd k xs) bl ∧ Ext (fun q => q ∈ bl) w w' := by
 have hbig := h.reads.big
 have H := yh h
 clear h
 go_enter Tryz.func122, Tryz.ntmps122
 go_wp2_with fail
 go_loopw [1, 5] (fun kk i wr => ∃ (j : Nat) (kj : Int), j ≤ xs.length ∧ i = .int .i64 j ∧ kj = k + (cntAll Lay.tItem.cnt (xs.take j) : Nat) ∧ kk = .int .i64 kj ∧ (Lay.sl Lay.tItem).Own wr [.slice (some ⟨b, off, none⟩) xs.length cap] (mkPre Lay.tItem.cnt Lay.tItem.mkd k xs j) bl ∧ Ext (fun q => q ∈ bl) w wr) (fun _ i _ => xs.length - (intOf i).toNat)
 case atStart => exact ⟨0, k, Nat.zero_le _, rfl, by simp [cntAll], rfl, by rw [mkPre_zero]; exact uh H, Ext.refl _ _⟩
 case round =>
  obtain ⟨j, kj, hj, rfl, hkj, rfl, hO, hX⟩ := hrel
  clear H
  by_cases hlt : j < xs.length
  ·
   have hj2 : j < (mkPre Lay.tItem.cnt Lay.tItem.mkd k xs j).length := by rw [mkPre_len _ _ _ _ _ hj]; exact hlt
   obtain ⟨row, blk, R, O, hbk, hin, hfin⟩ := Lay.own_upd hO hj2
   rw [mkPre_get _ _ _ _ _ hlt] at O
   have HT := yh (Lay.cntAll_take (f := Lay.tItem.cnt) hlt)
   have hle := Lay.cntAll_take_le (f := Lay.tItem.cnt) (xs := xs) (k := j + 1)
   rw [uh HT] at hle
   have HM : Hid (∀ y, y = Lay.tItem.mkd kj xs[j] → (mkPre Lay.tItem.cnt Lay.tItem.mkd k xs j).set j y = mkPre Lay.tItem.cnt Lay.tItem.mkd k xs (j + 1)) := fun y e => by rw [e, hkj]; exact mkPre_set _ _ _ _ _ hlt
   have HF := yh hfin
   have HX := yh hX
   have HI := yh hin
   clear hO hfin hX hin hj2
   generalize hx : xs[j] = x at *
   clear hx
   have hcn := cnt_Item x
   have HD := yh (mkd_Item kj x)
   have hb1 : 0 ≤ kj := by omega
   have hb2 : kj + (Lay.tItem.cnt x : Int) ≤ 1000000000 := by omega
   have HK := yh hkj
   clear hkj hle
   have hnd := O.2.1
   obtain ⟨a1, d1, g1, rfl, hbl, O1, v0⟩ := own_Item O
   clear O
   subst hbl
   have HN := yh hnd
   clear hnd
   have l1 : b < wr.heap.size := R.lt
   have c0 : wr.cell? ⟨b, off + j * 2, none⟩ = some (.int .i64 x.id) := R.at 0 _ rfl
   have f0 : wr.frozen? ⟨b, off + j * 2, none⟩ = false := R.soft _
   have c1 : wr.cell? ⟨b, off + j * 2 + 1, none⟩ = some (.slice a1 x.vec.length d1) := R.at 1 _ rfl
   have R0_ : RowAt wr (wr.setCell ⟨b, off + j * 2, none⟩ (.int .i64 kj)) b (off + j * 2) 2 [.int .i64 kj, .slice a1 x.vec.length d1] blk := (R.set 0 (.int .i64 kj) (by decide))
   have E0_ : Ext (fun q => q = b) wr (wr.setCell ⟨b, off + j * 2, none⟩ (.int .i64 kj)) := ((Ext.refl (fun q => q = b) _).setCell ⟨b, off + j * 2, none⟩ (.int .i64 kj) rfl)
   have O1_ := O1.ext E0_ (fun c hc e => hbk (e ▸ hc))
   clear O1
   have O1 := O1_
   clear O1_
   clear R E0_
   have R := R0_
   clear R0_
   have HR := yh R
   clear R
   go_wp2_with fail
   refine (mark_Int64S _ x.vec blk (kj + 1) _ O1 (by omega) (by omega)).mono ?_
   rintro e w2 ⟨rfl, Q1, E2⟩
   have R := (uh HR).call E2 (fun _ h => h) hbk
   clear E2 O1 HR c0 c1 f0
   clear l1
   have l1 : b < w2.heap.size := R.lt
   have HR := yh R
   clear R
   have HQ := yh Q1
   clear Q1
   go_wp2_with fail
   go_roundw
   case rel =>
    refine ⟨j + 1, _, by omega, by go_num, ?_, rfl, ?_, ?_⟩
    ·
     rw [uh HT, hcn]
     have := uh HK
     omega
    ·
     rw [← uh HM _ (uh HD).symm]
     exact uh HF _ _ _ (uh HR) (mkOwn_Item (x := ⟨kj, (Lay.sl Lay.int).mkv (kj + 1) x.vec⟩) (uh HQ) (show (Lit.int .i64 (kj)).wf = true from wf_of_bd (by omega)) (uh HN))
    exact (uh HX).trans ((uh HR).ext.mono fun q _ hq => uh HI q (by rcases hq with h | h; exact Or.inl h.symm; exact Or.inr h))
   case measure => simp [intOf]; omega
  obtain rfl : j = xs.length := by omega
  rw [mkPre_all] at hO
  rw [List.take_length] at hkj
  have HK := yh hkj
  clear hkj
  have HO := yh hO
  have HX := yh hX
  clear hO hX
  go_wp2_with fail
  go_ret
  exact ⟨by rw [← uh HK]; rfl, uh HO, uh HX⟩
theorem markItem_zero (ao : Option Addr) (cap : Nat) (k : Int) (w : World) :
  Calls Tryz.prog 122 #[.slice ao 0 cap, .int .i64 k] w fun e w' => e = .returned (.int .i64 k) ∧ w' = w := by
 go_enter Tryz.func122, Tryz.ntmps122
 go_wp2_with fail
 refine wp_loop_rounds 1 ?_
 rw [rounds_succ]
 go_wp2_with fail
 go_ret
 exact ⟨rfl, rfl⟩
theorem mark_ItemS (v : Value) (xs : List DItem) (bl : List Nat) (k : Int) (w : World) (h : (Lay.sl Lay.tItem).Own w [v] xs bl) (hk : 0 ≤ k) (hk2 : k + (Lay.sl Lay.tItem).vcnt xs ≤ 1000000000) :
  Calls Tryz.prog 122 #[v, .int .i64 k] w fun e w' => e = .returned (.int .i64 (k + (Lay.sl Lay.tItem).vcnt xs)) ∧ (Lay.sl Lay.tItem).Own w' [v] ((Lay.sl Lay.tItem).mkv k xs) bl ∧ Ext (fun q => q ∈ bl) w w' := by
 obtain ⟨ao, cap, rfl⟩ := open_sl h.reads
 by_cases hp : 0 < xs.length
 ·
  obtain ⟨b, off, rfl, hbl⟩ := Lay.sl_addr h.reads hp
  exact markItem_pos b off cap xs bl k w h hk hk2
 obtain rfl : xs = [] := List.eq_nil_of_length_eq_zero (by omega)
 refine (markItem_zero ao cap k w).mono ?_
 rintro e w' ⟨rfl, rfl⟩
 exact ⟨by rw [vcnt_ItemS]; simp [cntAll], h, Ext.refl _ _⟩
theorem mark_TableResult (cs : List Value) (x : DTableResult) (bl : List Nat) (k : Int) (w : World) (h : Lay.tTableResult.Own w cs x bl) (hk : 0 ≤ k) (hk2 : k + Lay.tTableResult.vcnt x ≤ 1000000000) :
  Calls Tryz.prog 52 #[.agg cs.toArray, .int .i64 k] w fun e w' => e = .returned (.int .i64 (k + Lay.tTableResult.vcnt x)) ∧ Lay.tTableResult.Own w' cs (Lay.tTableResult.mkv k x) bl ∧ Ext (fun q => q ∈ bl) w w' := by
 have hlt := h.lt
 have hnd := h.2.1
 rw [vcnt_TableResult] at hk2
 obtain ⟨a1, d1, g1, rfl, hbl, O1, v0⟩ := own_TableResult h
 clear h
 have HB0 : Below w.heap.size w (w.alloc (.cells #[.int .i64 x.code, .slice a1 x.items.length d1] 66)) := (Below.refl _ _).alloc (Nat.le_refl _) _
 have bA : Box w.heap.size #[.int .i64 x.code, .slice a1 x.items.length d1] 66 (w.alloc (.cells #[.int .i64 x.code, .slice a1 x.items.length d1] 66)) w.heap.size := newBox (Nat.le_refl _)
 have HN := yh hnd
 have HV := yh (vcnt_TableResult x)
 have HM := yh (mkv_TableResult k x)
 clear hnd
 go_enter Tryz.func52, Tryz.ntmps52
 go_wp2_with fail
 generalize w.alloc (.cells #[.int .i64 x.code, .slice a1 x.items.length d1] 66) = W0 at *
 replace O1 := O1.later HB0
 have hsz := HB0.size
 have EX : Ext (fun q => q ∈ bl) w W0 := ext_of_below HB0 _
 have hs0 := bA.lt
 refine (mark_ItemS _ x.items g1 (k) _ O1 (by omega) (by omega)).mono ?_
 rintro e w1 ⟨rfl, Q1, E1⟩
 replace EX := EX.trans (E1.mono fun b _ hb => by rw [hbl]; simp [hb])
 replace bA := bA.ext E1 (fun hm => by have := hlt w.heap.size (by rw [hbl]; simp [hm]); omega)
 clear E1
 have HA := yh bA
 have HX := yh EX
 have HL := yh hlt
 have HBL := yh hbl
 clear bA EX hlt hbl
 have P1 := yh Q1
 clear Q1
 clear O1
 go_wp2_with fail
 go_ret
 refine ⟨?_, ?_, uh HX⟩
 ·
  rw [show k + (Lay.tTableResult.vcnt x : Int) = k + ((Lay.sl Lay.tItem).vcnt x.items : Int) by rw [uh HV]]
  rfl
 have e := uh HBL
 subst e
 rw [uh HM]
 exact mkOwn_TableResult (x := ⟨x.code, (Lay.sl Lay.tItem).mkv (k) x.items⟩) (uh P1) v0 (uh HN)
theorem heldItem_pos (b off cap : Nat) (xs : List DItem) (k : Int) (w : World) (h : (Lay.sl Lay.tItem).Reads w [.slice (some ⟨b, off, none⟩) (mkAll Lay.tItem.cnt Lay.tItem.mkd k xs).length cap] (mkAll Lay.tItem.cnt Lay.tItem.mkd k xs)) (hbl : b < w.heap.size) (hk : 0 ≤ k) (hk2 : k + (cntAll Lay.tItem.cnt xs : Nat) ≤ 1000000000) :
  Calls Tryz.prog 123 #[.slice (some ⟨b, off, none⟩) xs.length cap, .int .i64 k] w fun e w' => e = .returned (.int .i64 (k + (cntAll Lay.tItem.cnt xs : Nat))) ∧ Below w.heap.size w w' := by
 have hbig := h.big
 rw [mkAll_size] at hbig
 have H := yh h
 clear h
 go_enter Tryz.func123, Tryz.ntmps123
 go_wp2_with fail
 go_loopw [1, 5] (fun kk i wr => ∃ (j : Nat) (kj : Int), j ≤ xs.length ∧ i = .int .i64 j ∧ kj = k + (cntAll Lay.tItem.cnt (xs.take j) : Nat) ∧ kk = .int .i64 kj ∧ Below w.heap.size w wr) (fun _ i _ => xs.length - (intOf i).toNat)
 case atStart => exact ⟨0, k, Nat.zero_le _, rfl, by simp [cntAll], rfl, Below.refl _ _⟩
 case round =>
  obtain ⟨j, kj, hj, rfl, hkj, rfl, hB⟩ := hrel
  by_cases hlt : j < xs.length
  ·
   have hj2 : j < (mkAll Lay.tItem.cnt Lay.tItem.mkd k xs).length := by rw [mkAll_size]; exact hlt
   obtain ⟨row, hc, hr⟩ := Lay.row_at (uh H) hj2
   rw [mkAll_at _ _ _ _ _ hlt hj2, ← hkj, mkd_Item] at hr
   have HT := yh (Lay.cntAll_take (f := Lay.tItem.cnt) hlt)
   have hle := Lay.cntAll_take_le (f := Lay.tItem.cnt) (xs := xs) (k := j + 1)
   rw [uh HT] at hle
   clear hj2
   generalize hx : xs[j] = x at *
   clear hx
   have hcn := cnt_Item x
   have hb1 : 0 ≤ kj := by omega
   have hb2 : kj + (Lay.tItem.cnt x : Int) ≤ 1000000000 := by omega
   have HK := yh hkj
   clear hkj hle
   replace hr := hr.later hB
   obtain ⟨a1, d1, rfl, R1⟩ := open_Item hr
   clear hr
   generalize hn : (⟨kj, (Lay.sl Lay.int).mkv (kj + 1) x.vec⟩ : DItem).vec.length = n1 at *
   clear hn
   have c0 : wr.cell? ⟨b, off + j * 2, none⟩ = some (.int .i64 (kj)) := (hB.cell (p := ⟨b, off + j * 2, none⟩) hbl).trans (hc 0 (by decide))
   have e0 : ((kj : Int) != (kj : Int)) = false := by simp
   have c1 : wr.cell? ⟨b, off + j * 2 + 1, none⟩ = some (.slice a1 n1 d1) := (hB.cell (p := ⟨b, off + j * 2 + 1, none⟩) hbl).trans (hc 1 (by decide))
   have HB := yh hB
   clear hB hc
   go_wp2_with fail
   refine (held_Int64S _ x.vec (kj + 1) _ R1 (by omega) (by omega)).mono ?_
   rintro e w2 ⟨rfl, hb⟩
   have l1 : b < wr.heap.size := Nat.lt_of_lt_of_le hbl (uh HB).size
   replace HB := yh ((uh HB).trans (hb.mono (uh HB).size))
   clear hb R1 l1 c0 c1
   have hq : decide (kj + 1 + ((Lay.sl Lay.int).vcnt x.vec : Int) < 0) = false := by simp; omega
   go_wp2_with fail
   go_roundw
   case rel => exact ⟨j + 1, _, by omega, by go_num, (by rw [uh HT, hcn]; have := uh HK; omega), rfl, uh HB⟩
   case measure => simp [intOf]; omega
  obtain rfl : j = xs.length := by omega
  rw [List.take_length] at hkj
  have HK := yh hkj
  have HB := yh hB
  clear hB hkj
  go_wp2_with fail
  go_ret
  exact ⟨by rw [← uh HK]; rfl, uh HB⟩
theorem heldItem_zero (ao : Option Addr) (cap : Nat) (k : Int) (w : World) :
  Calls Tryz.prog 123 #[.slice ao 0 cap, .int .i64 k] w fun e w' => e = .returned (.int .i64 k) ∧ w' = w := by
 go_enter Tryz.func123, Tryz.ntmps123
 go_wp2_with fail
 refine wp_loop_rounds 1 ?_
 rw [rounds_succ]
 go_wp2_with fail
 go_ret
 exact ⟨rfl, rfl⟩
theorem held_ItemS (v : Value) (xs : List DItem) (k : Int) (w : World) (h : (Lay.sl Lay.tItem).Reads w [v] ((Lay.sl Lay.tItem).mkv k xs)) (hk : 0 ≤ k) (hk2 : k + (Lay.sl Lay.tItem).vcnt xs ≤ 1000000000) :
  Calls Tryz.prog 123 #[v, .int .i64 k] w fun e w' => e = .returned (.int .i64 (k + (Lay.sl Lay.tItem).vcnt xs)) ∧ Below w.heap.size w w' := by
 rw [mkv_ItemS] at h
 obtain ⟨ao, cap, rfl⟩ := open_sl h
 by_cases hp : 0 < xs.length
 ·
  obtain ⟨b, off, rfl, hbl⟩ := Lay.sl_addr h (by rw [mkAll_size]; exact hp)
  have L := heldItem_pos b off cap xs k w h hbl hk hk2
  rw [mkAll_size]
  exact L
 obtain rfl : xs = [] := List.eq_nil_of_length_eq_zero (by omega)
 refine (heldItem_zero ao cap k w).mono ?_
 rintro e w' ⟨rfl, rfl⟩
 exact ⟨by rw [vcnt_ItemS]; simp [cntAll], Below.refl _ _⟩
theorem held_TableResult (cs : List Value) (x : DTableResult) (k : Int) (w : World) (h : Lay.tTableResult.Reads w cs (Lay.tTableResult.mkv k x)) (hk : 0 ≤ k) (hk2 : k + Lay.tTableResult.vcnt x ≤ 1000000000) :
  Calls Tryz.prog 53 #[.agg cs.toArray, .int .i64 k] w fun e w' => e = .returned (.int .i64 (k + Lay.tTableResult.vcnt x)) ∧ Below w.heap.size w w' := by
 rw [mkv_TableResult] at h
 rw [vcnt_TableResult] at hk2
 have HV := yh (vcnt_TableResult x)
 obtain ⟨a1, d1, rfl, R1⟩ := open_TableResult h
 clear h
 generalize hn1 : (⟨x.code, (Lay.sl Lay.tItem).mkv (k) x.items⟩ : DTableResult).items.length = n1 at *
 clear hn1
 have HB0 : Below w.heap.size w (w.alloc (.cells #[.int .i64 x.code, .slice a1 n1 d1] 66)) := (Below.refl _ _).alloc (Nat.le_refl _) _
 have bA : Box w.heap.size #[.int .i64 x.code, .slice a1 n1 d1] 66 (w.alloc (.cells #[.int .i64 x.code, .slice a1 n1 d1] 66)) w.heap.size := newBox (Nat.le_refl _)
 go_enter Tryz.func53, Tryz.ntmps53
 go_wp2_with fail
 generalize w.alloc (.cells #[.int .i64 x.code, .slice a1 n1 d1] 66) = W0 at *
 replace R1 := R1.later HB0
 refine (held_ItemS _ x.items (k) _ R1 (by omega) (by omega)).mono ?_
 rintro e w1 ⟨rfl, hb⟩
 replace HB0 := HB0.trans (hb.mono HB0.size)
 replace bA := bA.keep hb
 have HA := yh bA
 have HX := yh HB0
 clear bA HB0 hb R1
 have hq : decide (k + ((Lay.sl Lay.tItem).vcnt x.items : Int) < 0) = false := by simp; omega
 go_wp2_with fail
 clear hq
 go_ret
 refine ⟨?_, uh HX⟩
 rw [show k + (Lay.tTableResult.vcnt x : Int) = k + ((Lay.sl Lay.tItem).vcnt x.items : Int) by rw [uh HV]]
 rfl
end Go.Proofs.YtoanimpijfijgaaGreat
