/-
  Texts of this proof in one: LayMark, MaWriteS, MaNode, MaWrite, LayNodeResult, EqNodeResult, OwnNodeResult, MaNodeResult, MkWriteS, MkNode, MkNodeResult, AsErr, WrBox, InB, InC, Fault, WrFault, WrZero, ApplyPlain, SessPlain, TickMap, ToldPlain, ImplRefuse, ErrCond.
  Their conditions stand in their theorems.
-/
import Derived.Test.YtbogjepkdcknfaaDoorTk01
import Derived.Test.YtbogjepkdcknfaaDoorChecked
import Derived.LaidEql
import Derived.Stop.Asserts
import Derived.RowKitTokens
import Derived.BigQuiet
import Derived.Deep.QuietTactic
import Derived.WalkSmall
import Derived.Maps.OwnSet
import Derived.DeepKeys4
import Derived.Deep.RegionHeld3

namespace Go.Proofs.YtbogjepkdcknfaaDoor
open Go.RowKit

theorem cnt_ints (zs : List Int) : (Lay.sl Lay.int).cnt zs = zs.length := by
  show cntAll (fun _ => 1) zs = zs.length
  induction zs with
  | nil => rfl
  | cons z zs ih => simp [cntAll, ih]; omega
theorem vcnt_ints (zs : List Int) : (Lay.sl Lay.int).vcnt zs = zs.length := cnt_ints zs
theorem mkAll_len {α : Type} (cnt : α → Nat) (mk : Int → α → α) (k : Int) (xs : List α) : (mkAll cnt mk k xs).length = xs.length := by
  induction xs generalizing k with
  | nil => rfl
  | cons x xs ih => simp [mkAll, ih]
theorem mk_ints_at (k : Int) (zs : List Int) (j : Nat) (h : j < zs.length) : ((Lay.sl Lay.int).mkv k zs).getD j 0 = k + j := by
  show (mkAll (fun _ => 1) (fun k _ => k) k zs).getD j 0 = k + j
  induction zs generalizing k j with
  | nil => simp at h
  | cons z zs ih =>
    match j with
    | 0 => simp [mkAll]
    | j + 1 =>
      have := ih (k + 1) j (by simpa using h)
      simp only [mkAll, List.getD_cons_succ]
      rw [show ((1 : Nat) : Int) = 1 from rfl, this]
      omega
theorem mk_ints_len (k : Int) (zs : List Int) : ((Lay.sl Lay.int).mkv k zs).length = zs.length := mkAll_len _ _ _ _
theorem mk_ints_wf (k : Int) (zs : List Int) (hk : 0 ≤ k) (hk2 : k + zs.length ≤ 1000000000) : ∀ z ∈ (Lay.sl Lay.int).mkv k zs, (Lit.int .i64 z).wf = true := by
  intro z hz
  obtain ⟨j, hj, rfl⟩ := List.mem_iff_getElem.1 hz
  have hj' := hj
  rw [mk_ints_len] at hj'
  have := mk_ints_at k zs j hj'
  have e : ((Lay.sl Lay.int).mkv k zs)[j] = k + j := by simpa [List.getD, hj] using this
  rw [e]
  exact wf_of_bd (by omega)

set_option maxHeartbeats 400000 in
theorem markI_pos (b off cap : Nat) (zs : List Int) (k : Int) (w : World) (hk : 0 ≤ k) (hk2 : k + zs.length ≤ 1000000000) (hc : ∀ j, j < zs.length → w.cell? ⟨b, off + j, none⟩ = some (.int .i64 (zs.getD j 0)))
    (hf : ∀ o, w.frozen? ⟨b, o, none⟩ = false) :
    Calls Tryd.prog 31 #[.slice (some ⟨b, off, none⟩) zs.length cap, .int .i64 k] w fun e w' => e = .returned (.int .i64 (k + zs.length)) ∧
      (∀ j, j < zs.length → w'.cell? ⟨b, off + j, none⟩ = some (.int .i64 (k + j))) ∧ (∀ o, w'.frozen? ⟨b, o, none⟩ = false) ∧ (∀ o, (o < off ∨ off + zs.length ≤ o) → w'.cell? ⟨b, o, none⟩ = w.cell? ⟨b, o, none⟩) ∧ Ext (fun q => q = b) w w' := by
  go_enter Tryd.func31, Tryd.ntmps31
  go_wp2
  go_loopw [1, 5] (fun kk i wr => ∃ j : Nat, j ≤ zs.length ∧ i = .int .i64 j ∧ kk = .int .i64 (k + j) ∧ (∀ m, m < j → wr.cell? ⟨b, off + m, none⟩ = some (.int .i64 (k + m))) ∧ (∀ o, wr.frozen? ⟨b, o, none⟩ = false) ∧ (∀ o, (o < off ∨ off + j ≤ o) → wr.cell? ⟨b, o, none⟩ = w.cell? ⟨b, o, none⟩) ∧ Ext (fun q => q = b) w wr)
    (fun _ i _ => zs.length - (intOf i).toNat)
  case atStart => exact ⟨0, Nat.zero_le _, rfl, by simp, fun m hm => by omega, hf, fun _ _ => rfl, Ext.refl _ _⟩
  case round =>
    obtain ⟨j, hj, rfl, rfl, hm, hfz, ho, hx⟩ := hrel
    by_cases hlt : j < zs.length
    · have hcd : wr.cell? ⟨b, off + j, none⟩ = some (.int .i64 (zs.getD j 0)) := (ho (off + j) (by omega)).trans (hc j hlt)
      have hfj := hfz (off + j)
      have HM : Hid (∀ m, m < j + 1 → (wr.setCell ⟨b, off + j, none⟩ (.int .i64 (k + j))).cell? ⟨b, off + m, none⟩ = some (.int .i64 (k + m))) := by
        intro m hm1
        by_cases e : m = j
        · subst e
          exact World.cell?_setCell_same _ _ _ hcd
        · rw [World.cell?_setCell_other _ _ _ _ (fun q => by have := congrArg Addr.off q; simp only at this; omega)]
          exact hm m (by omega)
      have HF : Hid (∀ o, (wr.setCell ⟨b, off + j, none⟩ (.int .i64 (k + j))).frozen? ⟨b, o, none⟩ = false) := fun o => by simpa using hfz o
      have HO : Hid (∀ o, (o < off ∨ off + (j + 1) ≤ o) → (wr.setCell ⟨b, off + j, none⟩ (.int .i64 (k + j))).cell? ⟨b, o, none⟩ = w.cell? ⟨b, o, none⟩) := by
        intro o hoo
        rw [World.cell?_setCell_other _ _ _ _ (fun q => by have := congrArg Addr.off q; simp only at this; omega)]
        exact ho o (by omega)
      have HX := hide (hx.setCell ⟨b, off + j, none⟩ (.int .i64 (k + j)) rfl)
      clear hm hfz ho hx hc hf
      go_wp2
      go_roundw
      case rel => exact ⟨j + 1, by omega, by go_num, by go_num, unhide HM, unhide HF, unhide HO, unhide HX⟩
      case measure => simp [intOf]; omega
    · obtain rfl : j = zs.length := by omega
      have HM := hide hm
      have HF := hide hfz
      have HO := hide ho
      have HX := hide hx
      clear hm hfz ho hx hc hf
      go_wp2
      go_ret
      exact ⟨rfl, unhide HM, unhide HF, unhide HO, unhide HX⟩

theorem markI_zero (ao : Option Addr) (cap : Nat) (k : Int) (w : World) :
    Calls Tryd.prog 31 #[.slice ao 0 cap, .int .i64 k] w fun e w' => e = .returned (.int .i64 k) ∧ w' = w := by
  go_enter Tryd.func31, Tryd.ntmps31
  go_wp2
  refine wp_loop_rounds 1 ?_
  rw [rounds_succ]
  go_wp2
  go_ret
  exact ⟨rfl, rfl⟩

/-- markInt64S. -/
theorem mark_Int64S (v : Value) (zs : List Int) (bl : List Nat) (k : Int) (w : World) (h : (Lay.sl Lay.int).Own w [v] zs bl) (hk : 0 ≤ k) (hk2 : k + (Lay.sl Lay.int).vcnt zs ≤ 1000000000) :
    Calls Tryd.prog 31 #[v, .int .i64 k] w fun e w' => e = .returned (.int .i64 (k + (Lay.sl Lay.int).vcnt zs)) ∧ (Lay.sl Lay.int).Own w' [v] ((Lay.sl Lay.int).mkv k zs) bl ∧ Ext (fun q => q ∈ bl) w w' := by
  obtain ⟨hl, hn, hf⟩ := h
  rw [vcnt_ints] at hk2 ⊢
  rcases Lay.lies_ints.1 hl with ⟨ao, cap, rfl, hbig, hwf, ⟨rfl, rfl⟩ | ⟨b, off, rfl, hb, rfl, hc⟩⟩
  · refine (markI_zero ao cap k w).mono ?_
    rintro e w' ⟨rfl, rfl⟩
    exact ⟨by simp, ⟨hl, hn, hf⟩, Ext.refl _ _⟩
  · refine (markI_pos b off cap zs k w hk hk2 hc (hf b (by simp))).mono ?_
    rintro e w' ⟨rfl, hm, hfz, -, hx⟩
    refine ⟨rfl, ⟨Lay.lies_ints.2 ⟨_, cap, by rw [mk_ints_len], by rw [mk_ints_len]; exact hbig, mk_ints_wf k zs hk hk2, Or.inr ⟨b, off, rfl, Nat.lt_of_lt_of_le hb hx.size, rfl, fun j hj => ?_⟩⟩, hn, ?_⟩, hx.mono fun q _ e => by simp [e]⟩
    · rw [mk_ints_len] at hj
      rw [hm j hj, mk_ints_at k zs j hj]
    · intro b' hb' o
      obtain rfl : b' = b := by simpa using hb'
      exact hfz o

set_option maxHeartbeats 400000 in
theorem heldI_pos (b off cap n : Nat) (k : Int) (w : World) (hk : 0 ≤ k) (hk2 : k + n ≤ 1000000000) (hc : ∀ j, j < n → w.cell? ⟨b, off + j, none⟩ = some (.int .i64 (k + j))) :
    Calls Tryd.prog 59 #[.slice (some ⟨b, off, none⟩) n cap, .int .i64 k] w fun e w' => e = .returned (.int .i64 (k + n)) ∧ w' = w := by
  go_enter Tryd.func59, Tryd.ntmps59
  go_wp2
  go_loop [1, 5] (fun kk i => ∃ j : Nat, j ≤ n ∧ i = .int .i64 j ∧ kk = .int .i64 (k + j)) (fun _ i => n - (intOf i).toNat)
  case atStart => exact ⟨0, Nat.zero_le _, rfl, by simp⟩
  case round =>
    obtain ⟨j, hj, rfl, rfl⟩ := hrel
    by_cases hlt : j < n
    · have hcx := hc j hlt
      have hne : ((k + (j : Int)) != (k + (j : Int))) = false := by simp
      clear hc
      go_wp2
      go_round
      case rel => exact ⟨j + 1, by omega, by go_num, by go_num⟩
      case measure => simp [intOf]; omega
    · obtain rfl : j = n := by omega
      clear hc
      go_wp2
      go_ret
      exact ⟨rfl, rfl⟩
theorem heldI_zero (ao : Option Addr) (cap : Nat) (k : Int) (w : World) :
    Calls Tryd.prog 59 #[.slice ao 0 cap, .int .i64 k] w fun e w' => e = .returned (.int .i64 k) ∧ w' = w := by
  go_enter Tryd.func59, Tryd.ntmps59
  go_wp2
  refine wp_loop_rounds 1 ?_
  rw [rounds_succ]
  go_wp2
  go_ret
  exact ⟨rfl, rfl⟩
/-- heldInt64S. -/
theorem held_Int64S (v : Value) (zs : List Int) (k : Int) (w : World) (h : (Lay.sl Lay.int).Reads w [v] ((Lay.sl Lay.int).mkv k zs)) (hk : 0 ≤ k) (hk2 : k + (Lay.sl Lay.int).vcnt zs ≤ 1000000000) :
    Calls Tryd.prog 59 #[v, .int .i64 k] w fun e w' => e = .returned (.int .i64 (k + (Lay.sl Lay.int).vcnt zs)) ∧ Below w.heap.size w w' := by
  rw [vcnt_ints] at hk2 ⊢
  obtain ⟨ao, cap, rfl, hwf, hc⟩ := Lay.ints_reads h
  rw [mk_ints_len] at hc ⊢
  by_cases hp : 0 < zs.length
  · obtain ⟨b, off, rfl, hc1⟩ := hc hp
    refine (heldI_pos b off cap zs.length k w hk hk2 fun j hj => by rw [hc1 j hj, mk_ints_at k zs j hj]).mono ?_
    rintro e w' ⟨rfl, rfl⟩
    exact ⟨rfl, Below.refl _ _⟩
  · have e0 : zs.length = 0 := by omega
    rw [e0]
    refine (heldI_zero ao cap k w).mono ?_
    rintro e w' ⟨rfl, rfl⟩
    exact ⟨by simp, Below.refl _ _⟩

end Go.Proofs.YtbogjepkdcknfaaDoor

namespace Go.Proofs.YtbogjepkdcknfaaDoor
open Go.RowKit

theorem cnt_Write (x : DWrite) : Lay.tWrite.cnt x = 4 + (Lay.sl Lay.int).vcnt x.vec := by
  show 1 + (1 + ((Lay.sl Lay.int).vcnt x.vec + (1 + (1)))) = 4 + (Lay.sl Lay.int).vcnt x.vec
  omega
theorem mkd_Write (k : Int) (x : DWrite) : Lay.tWrite.mkd k x = ⟨k, k + 1, (Lay.sl Lay.int).mkv (k + 1 + 1) x.vec, k + 1 + 1 + ((Lay.sl Lay.int).vcnt x.vec : Nat), k + 1 + 1 + ((Lay.sl Lay.int).vcnt x.vec : Nat) + 1⟩ := rfl
theorem vcnt_WriteS (xs : List DWrite) : (Lay.sl Lay.tWrite).vcnt xs = cntAll Lay.tWrite.cnt xs := rfl
theorem mkv_WriteS (k : Int) (xs : List DWrite) : (Lay.sl Lay.tWrite).mkv k xs = mkAll Lay.tWrite.cnt Lay.tWrite.mkd k xs := rfl

set_option maxRecDepth 10000 in
set_option maxHeartbeats 2000000 in
theorem markWrite_pos (b off cap : Nat) (xs : List DWrite) (bl : List Nat) (k : Int) (w : World) (h : (Lay.sl Lay.tWrite).Own w [.slice (some ⟨b, off, none⟩) xs.length cap] xs bl) (hk : 0 ≤ k) (hk2 : k + (cntAll Lay.tWrite.cnt xs : Nat) ≤ 1000000000) :
    Calls Tryd.prog 30 #[.slice (some ⟨b, off, none⟩) xs.length cap, .int .i64 k] w fun e w' => e = .returned (.int .i64 (k + (cntAll Lay.tWrite.cnt xs : Nat))) ∧ (Lay.sl Lay.tWrite).Own w' [.slice (some ⟨b, off, none⟩) xs.length cap] (mkAll Lay.tWrite.cnt Lay.tWrite.mkd k xs) bl ∧ Ext (fun q => q ∈ bl) w w' := by
  have hbig := h.reads.big
  have H := hide h
  clear h
  go_enter Tryd.func30, Tryd.ntmps30
  go_wp2_with fail
  go_loopw [1, 5] (fun kk i wr => ∃ (j : Nat) (kj : Int), j ≤ xs.length ∧ i = .int .i64 j ∧ kj = k + (cntAll Lay.tWrite.cnt (xs.take j) : Nat) ∧ kk = .int .i64 kj ∧ (Lay.sl Lay.tWrite).Own wr [.slice (some ⟨b, off, none⟩) xs.length cap] (mkPre Lay.tWrite.cnt Lay.tWrite.mkd k xs j) bl ∧ Ext (fun q => q ∈ bl) w wr) (fun _ i _ => xs.length - (intOf i).toNat)
  case atStart => exact ⟨0, k, Nat.zero_le _, rfl, by simp [cntAll], rfl, by rw [mkPre_zero]; exact unhide H, Ext.refl _ _⟩
  case round =>
    obtain ⟨j, kj, hj, rfl, hkj, rfl, hO, hX⟩ := hrel
    clear H
    by_cases hlt : j < xs.length
    · have hj2 : j < (mkPre Lay.tWrite.cnt Lay.tWrite.mkd k xs j).length := by rw [mkPre_len _ _ _ _ _ hj]; exact hlt
      obtain ⟨row, blk, R, O, hbk, hin, hfin⟩ := Lay.own_upd hO hj2
      rw [mkPre_get _ _ _ _ _ hlt] at O
      have HT := hide (Lay.cntAll_take (f := Lay.tWrite.cnt) hlt)
      have hle := Lay.cntAll_take_le (f := Lay.tWrite.cnt) (xs := xs) (k := j + 1)
      rw [unhide HT] at hle
      have HM : Hid (∀ y, y = Lay.tWrite.mkd kj xs[j] → (mkPre Lay.tWrite.cnt Lay.tWrite.mkd k xs j).set j y = mkPre Lay.tWrite.cnt Lay.tWrite.mkd k xs (j + 1)) := fun y e => by rw [e, hkj]; exact mkPre_set _ _ _ _ _ hlt
      have HF := hide hfin
      have HX := hide hX
      have HI := hide hin
      clear hO hfin hX hin hj2
      generalize hx : xs[j] = x at *
      clear hx
      have hcn := cnt_Write x
      have HD := hide (mkd_Write kj x)
      have hb1 : 0 ≤ kj := by omega
      have hb2 : kj + (Lay.tWrite.cnt x : Int) ≤ 1000000000 := by omega
      have HK := hide hkj
      clear hkj hle
      have hnd := O.2.1
      obtain ⟨a2, d2, g2, rfl, hbl, O2, v0, v1, v3, v4⟩ := own_Write O
      clear O
      subst hbl
      have HN := hide hnd
      clear hnd
      have l1 : b < wr.heap.size := R.lt
      have c0 : wr.cell? ⟨b, off + j * 5, none⟩ = some (.int .i64 x.kind) := R.at 0 _ rfl
      have f0 : wr.frozen? ⟨b, off + j * 5, none⟩ = false := R.soft _
      have c1 : wr.cell? ⟨b, off + j * 5 + 1, none⟩ = some (.int .i64 x.id) := R.at 1 _ rfl
      have f1 : wr.frozen? ⟨b, off + j * 5 + 1, none⟩ = false := R.soft _
      have c2 : wr.cell? ⟨b, off + j * 5 + 2, none⟩ = some (.slice a2 x.vec.length d2) := R.at 2 _ rfl
      have R0_ : RowAt wr ((wr.setCell ⟨b, off + j * 5, none⟩ (.int .i64 kj)).setCell ⟨b, off + j * 5 + 1, none⟩ (.int .i64 (kj + 1))) b (off + j * 5) 5 [.int .i64 kj, .int .i64 (kj + 1), .slice a2 x.vec.length d2, .int .i64 x.session, .int .i64 x.seq] blk := ((R.set 0 (.int .i64 kj) (by decide)).set 1 (.int .i64 (kj + 1)) (by decide))
      have E0_ : Ext (fun q => q = b) wr ((wr.setCell ⟨b, off + j * 5, none⟩ (.int .i64 kj)).setCell ⟨b, off + j * 5 + 1, none⟩ (.int .i64 (kj + 1))) := (((Ext.refl (fun q => q = b) _).setCell ⟨b, off + j * 5, none⟩ (.int .i64 kj) rfl).setCell ⟨b, off + j * 5 + 1, none⟩ (.int .i64 (kj + 1)) rfl)
      have O2_ := O2.ext E0_ (fun c hc e => hbk (e ▸ hc))
      clear O2
      have O2 := O2_
      clear O2_
      clear R E0_
      have R := R0_
      clear R0_
      have HR := hide R
      clear R
      go_wp2_with fail
      refine (mark_Int64S _ x.vec blk (kj + 1 + 1) _ O2 (by omega) (by omega)).mono ?_
      rintro e w2 ⟨rfl, Q2, E2⟩
      have R := (unhide HR).call E2 (fun _ h => h) hbk
      clear E2 O2 HR c0 c1 c2 f0 f1
      clear l1
      have l1 : b < w2.heap.size := R.lt
      have c3 : w2.cell? ⟨b, off + j * 5 + 3, none⟩ = some (.int .i64 x.session) := R.at 3 _ rfl
      have f3 : w2.frozen? ⟨b, off + j * 5 + 3, none⟩ = false := R.soft _
      have c4 : w2.cell? ⟨b, off + j * 5 + 4, none⟩ = some (.int .i64 x.seq) := R.at 4 _ rfl
      have f4 : w2.frozen? ⟨b, off + j * 5 + 4, none⟩ = false := R.soft _
      have R1_ : RowAt wr ((w2.setCell ⟨b, off + j * 5 + 3, none⟩ (.int .i64 (kj + 1 + 1 + ((Lay.sl Lay.int).vcnt x.vec : Nat)))).setCell ⟨b, off + j * 5 + 4, none⟩ (.int .i64 (kj + 1 + 1 + ((Lay.sl Lay.int).vcnt x.vec : Nat) + 1))) b (off + j * 5) 5 [.int .i64 kj, .int .i64 (kj + 1), .slice a2 x.vec.length d2, .int .i64 (kj + 1 + 1 + ((Lay.sl Lay.int).vcnt x.vec : Nat)), .int .i64 (kj + 1 + 1 + ((Lay.sl Lay.int).vcnt x.vec : Nat) + 1)] blk := ((R.set 3 (.int .i64 (kj + 1 + 1 + ((Lay.sl Lay.int).vcnt x.vec : Nat))) (by decide)).set 4 (.int .i64 (kj + 1 + 1 + ((Lay.sl Lay.int).vcnt x.vec : Nat) + 1)) (by decide))
      have E1_ : Ext (fun q => q = b) w2 ((w2.setCell ⟨b, off + j * 5 + 3, none⟩ (.int .i64 (kj + 1 + 1 + ((Lay.sl Lay.int).vcnt x.vec : Nat)))).setCell ⟨b, off + j * 5 + 4, none⟩ (.int .i64 (kj + 1 + 1 + ((Lay.sl Lay.int).vcnt x.vec : Nat) + 1))) := (((Ext.refl (fun q => q = b) _).setCell ⟨b, off + j * 5 + 3, none⟩ (.int .i64 (kj + 1 + 1 + ((Lay.sl Lay.int).vcnt x.vec : Nat))) rfl).setCell ⟨b, off + j * 5 + 4, none⟩ (.int .i64 (kj + 1 + 1 + ((Lay.sl Lay.int).vcnt x.vec : Nat) + 1)) rfl)
      have Q2_ := Q2.ext E1_ (fun c hc e => hbk (e ▸ hc))
      clear Q2
      have Q2 := hide Q2_
      clear Q2_
      clear R E1_
      have R := R1_
      clear R1_
      have HR := hide R
      clear R
      have HQ := hide (unhide Q2)
      clear Q2
      go_wp2_with fail
      go_roundw
      case rel =>
        refine ⟨j + 1, _, by omega, by go_num, ?_, rfl, ?_, ?_⟩
        · rw [unhide HT, hcn]
          have := unhide HK
          omega
        · rw [← unhide HM _ (unhide HD).symm]
          exact unhide HF _ _ _ (unhide HR) (mkOwn_Write (x := ⟨kj, kj + 1, (Lay.sl Lay.int).mkv (kj + 1 + 1) x.vec, kj + 1 + 1 + ((Lay.sl Lay.int).vcnt x.vec : Nat), kj + 1 + 1 + ((Lay.sl Lay.int).vcnt x.vec : Nat) + 1⟩) (unhide HQ) (show (Lit.int .i64 (kj)).wf = true from wf_of_bd (by omega)) (show (Lit.int .i64 (kj + 1)).wf = true from wf_of_bd (by omega)) (show (Lit.int .i64 (kj + 1 + 1 + ((Lay.sl Lay.int).vcnt x.vec : Nat))).wf = true from wf_of_bd (by omega)) (show (Lit.int .i64 (kj + 1 + 1 + ((Lay.sl Lay.int).vcnt x.vec : Nat) + 1)).wf = true from wf_of_bd (by omega)) (unhide HN))
        · exact (unhide HX).trans ((unhide HR).ext.mono fun q _ hq => unhide HI q (by rcases hq with h | h; exact Or.inl h.symm; exact Or.inr h))
      case measure => simp [intOf]; omega
    · obtain rfl : j = xs.length := by omega
      rw [mkPre_all] at hO
      rw [List.take_length] at hkj
      have HK := hide hkj
      clear hkj
      have HO := hide hO
      have HX := hide hX
      clear hO hX
      go_wp2_with fail
      go_ret
      exact ⟨by rw [← unhide HK]; rfl, unhide HO, unhide HX⟩

theorem markWrite_zero (ao : Option Addr) (cap : Nat) (k : Int) (w : World) :
    Calls Tryd.prog 30 #[.slice ao 0 cap, .int .i64 k] w fun e w' => e = .returned (.int .i64 k) ∧ w' = w := by
  go_enter Tryd.func30, Tryd.ntmps30
  go_wp2_with fail
  refine wp_loop_rounds 1 ?_
  rw [rounds_succ]
  go_wp2_with fail
  go_ret
  exact ⟨rfl, rfl⟩

/-- markWriteS. -/
theorem mark_WriteS (v : Value) (xs : List DWrite) (bl : List Nat) (k : Int) (w : World) (h : (Lay.sl Lay.tWrite).Own w [v] xs bl) (hk : 0 ≤ k) (hk2 : k + (Lay.sl Lay.tWrite).vcnt xs ≤ 1000000000) :
    Calls Tryd.prog 30 #[v, .int .i64 k] w fun e w' => e = .returned (.int .i64 (k + (Lay.sl Lay.tWrite).vcnt xs)) ∧ (Lay.sl Lay.tWrite).Own w' [v] ((Lay.sl Lay.tWrite).mkv k xs) bl ∧ Ext (fun q => q ∈ bl) w w' := by
  obtain ⟨ao, cap, rfl⟩ := open_sl h.reads
  by_cases hp : 0 < xs.length
  · obtain ⟨b, off, rfl, hbl⟩ := Lay.sl_addr h.reads hp
    exact markWrite_pos b off cap xs bl k w h hk hk2
  · obtain rfl : xs = [] := List.eq_nil_of_length_eq_zero (by omega)
    refine (markWrite_zero ao cap k w).mono ?_
    rintro e w' ⟨rfl, rfl⟩
    exact ⟨by rw [vcnt_WriteS]; simp [cntAll], h, Ext.refl _ _⟩

end Go.Proofs.YtbogjepkdcknfaaDoor

namespace Go.Proofs.YtbogjepkdcknfaaDoor
open Go.RowKit

set_option maxRecDepth 10000 in
set_option maxHeartbeats 1000000 in
theorem mark_Node (cs : List Value) (x : DNode) (bl : List Nat) (k : Int) (w : World) (h : Lay.tNode.Own w cs x bl) (hk : 0 ≤ k) (hk2 : k + Lay.tNode.vcnt x ≤ 1000000000) :
    Calls Tryd.prog 13 #[.agg cs.toArray, .int .i64 k] w fun e w' => e = .returned (.int .i64 (k + Lay.tNode.vcnt x)) ∧ Lay.tNode.Own w' cs (Lay.tNode.mkv k x) bl ∧ Ext (fun q => q ∈ bl) w w' := by
  have hlt := h.lt
  have hnd := h.2.1
  rw [vcnt_Node] at hk2
  obtain ⟨a4, d4, g4, rfl, hbl, O4, v0, v2, v3, v5, v6⟩ := own_Node h
  clear h
  have HB0 : Below w.heap.size w (w.alloc (.cells #[.int .i64 x.id, .bool x.up, .int .i64 x.epoch, .int .i64 x.lease, .slice a4 x.writes.length d4, .int .i64 x.sure, .int .i64 x.clean] 32)) := (Below.refl _ _).alloc (Nat.le_refl _) _
  have bA : Box w.heap.size #[.int .i64 x.id, .bool x.up, .int .i64 x.epoch, .int .i64 x.lease, .slice a4 x.writes.length d4, .int .i64 x.sure, .int .i64 x.clean] 32 (w.alloc (.cells #[.int .i64 x.id, .bool x.up, .int .i64 x.epoch, .int .i64 x.lease, .slice a4 x.writes.length d4, .int .i64 x.sure, .int .i64 x.clean] 32)) w.heap.size := newBox (Nat.le_refl _)
  have HN := hide hnd
  have HV := hide (vcnt_Node x)
  have HM := hide (mkv_Node k x)
  clear hnd
  go_enter Tryd.func13, Tryd.ntmps13
  go_wp2_with fail
  generalize w.alloc (.cells #[.int .i64 x.id, .bool x.up, .int .i64 x.epoch, .int .i64 x.lease, .slice a4 x.writes.length d4, .int .i64 x.sure, .int .i64 x.clean] 32) = W0 at *
  replace O4 := O4.later HB0
  have hsz := HB0.size
  have EX : Ext (fun q => q ∈ bl) w W0 := ext_of_below HB0 _
  have hs0 := bA.lt
  refine (mark_WriteS _ x.writes g4 (k) _ O4 (by omega) (by omega)).mono ?_
  rintro e w1 ⟨rfl, Q4, E4⟩
  replace EX := EX.trans (E4.mono fun b _ hb => by rw [hbl]; simp [hb])
  replace bA := bA.ext E4 (fun hm => by have := hlt w.heap.size (by rw [hbl]; simp [hm]); omega)
  clear E4
  have HA := hide bA
  have HX := hide EX
  have HL := hide hlt
  have HBL := hide hbl
  clear bA EX hlt hbl
  have P4 := hide Q4
  clear Q4
  clear O4
  go_wp2_with fail
  go_ret
  refine ⟨?_, ?_, unhide HX⟩
  · rw [show k + (Lay.tNode.vcnt x : Int) = k + ((Lay.sl Lay.tWrite).vcnt x.writes : Int) by rw [unhide HV]]
    rfl
  · have e := unhide HBL
    subst e
    rw [unhide HM]
    exact mkOwn_Node (x := ⟨x.id, x.up, x.epoch, x.lease, (Lay.sl Lay.tWrite).mkv (k) x.writes, x.sure, x.clean⟩) (unhide P4) v0 v2 v3 v5 v6 (unhide HN)

end Go.Proofs.YtbogjepkdcknfaaDoor

namespace Go.Proofs.YtbogjepkdcknfaaDoor
open Go.RowKit

set_option maxRecDepth 10000 in
set_option maxHeartbeats 1000000 in
theorem mark_Write (cs : List Value) (x : DWrite) (bl : List Nat) (k : Int) (w : World) (h : Lay.tWrite.Own w cs x bl) (hk : 0 ≤ k) (hk2 : k + Lay.tWrite.vcnt x ≤ 1000000000) :
    Calls Tryd.prog 14 #[.agg cs.toArray, .int .i64 k] w fun e w' => e = .returned (.int .i64 (k + Lay.tWrite.vcnt x)) ∧ Lay.tWrite.Own w' cs (Lay.tWrite.mkv k x) bl ∧ Ext (fun q => q ∈ bl) w w' := by
  have hlt := h.lt
  have hnd := h.2.1
  rw [vcnt_Write] at hk2
  obtain ⟨a2, d2, g2, rfl, hbl, O2, v0, v1, v3, v4⟩ := own_Write h
  clear h
  have HB0 : Below w.heap.size w (w.alloc (.cells #[.int .i64 x.kind, .int .i64 x.id, .slice a2 x.vec.length d2, .int .i64 x.session, .int .i64 x.seq] 37)) := (Below.refl _ _).alloc (Nat.le_refl _) _
  have bA : Box w.heap.size #[.int .i64 x.kind, .int .i64 x.id, .slice a2 x.vec.length d2, .int .i64 x.session, .int .i64 x.seq] 37 (w.alloc (.cells #[.int .i64 x.kind, .int .i64 x.id, .slice a2 x.vec.length d2, .int .i64 x.session, .int .i64 x.seq] 37)) w.heap.size := newBox (Nat.le_refl _)
  have HN := hide hnd
  have HV := hide (vcnt_Write x)
  have HM := hide (mkv_Write k x)
  clear hnd
  go_enter Tryd.func14, Tryd.ntmps14
  go_wp2_with fail
  generalize w.alloc (.cells #[.int .i64 x.kind, .int .i64 x.id, .slice a2 x.vec.length d2, .int .i64 x.session, .int .i64 x.seq] 37) = W0 at *
  replace O2 := O2.later HB0
  have hsz := HB0.size
  have EX : Ext (fun q => q ∈ bl) w W0 := ext_of_below HB0 _
  have hs0 := bA.lt
  refine (mark_Int64S _ x.vec g2 (k) _ O2 (by omega) (by omega)).mono ?_
  rintro e w1 ⟨rfl, Q2, E2⟩
  replace EX := EX.trans (E2.mono fun b _ hb => by rw [hbl]; simp [hb])
  replace bA := bA.ext E2 (fun hm => by have := hlt w.heap.size (by rw [hbl]; simp [hm]); omega)
  clear E2
  have HA := hide bA
  have HX := hide EX
  have HL := hide hlt
  have HBL := hide hbl
  clear bA EX hlt hbl
  have P2 := hide Q2
  clear Q2
  clear O2
  go_wp2_with fail
  go_ret
  refine ⟨?_, ?_, unhide HX⟩
  · rw [show k + (Lay.tWrite.vcnt x : Int) = k + ((Lay.sl Lay.int).vcnt x.vec : Int) by rw [unhide HV]]
    rfl
  · have e := unhide HBL
    subst e
    rw [unhide HM]
    exact mkOwn_Write (x := ⟨x.kind, x.id, (Lay.sl Lay.int).mkv (k) x.vec, x.session, x.seq⟩) (unhide P2) v0 v1 v3 v4 (unhide HN)

end Go.Proofs.YtbogjepkdcknfaaDoor

namespace Go.Proofs.YtbogjepkdcknfaaDoor
open Go.RowKit

structure DNodeResult where
  code : Int
  place : Int
  node : DNode

def Lay.tNodeResult : Lay DNodeResult := Lay.via (Lay.pair Lay.int (Lay.pair Lay.int Lay.tNode)) (fun x => (x.code, x.place, x.node)) (fun p => ⟨p.1, p.2.1, p.2.2⟩)

theorem lies_NodeResult {w : World} {cs : List Value} {x : DNodeResult} {bl : List Nat} : Lay.tNodeResult.lies w cs x bl ↔ ∃ (a6 : Option Addr) (d6 : Nat) (b6 : List Nat), cs = [.int .i64 x.code, .int .i64 x.place, .int .i64 x.node.id, .bool x.node.up, .int .i64 x.node.epoch, .int .i64 x.node.lease, .slice a6 x.node.writes.length d6, .int .i64 x.node.sure, .int .i64 x.node.clean] ∧ bl = b6 ∧ (Lit.int .i64 x.code).wf = true ∧ (Lit.int .i64 x.place).wf = true ∧ (Lit.int .i64 x.node.id).wf = true ∧ (Lit.int .i64 x.node.epoch).wf = true ∧ (Lit.int .i64 x.node.lease).wf = true ∧ (Lay.sl Lay.tWrite).lies w [.slice a6 x.node.writes.length d6] x.node.writes b6 ∧ (Lit.int .i64 x.node.sure).wf = true ∧ (Lit.int .i64 x.node.clean).wf = true := by
  constructor
  · intro h
    obtain ⟨c0_, r0_, e0_, s0_, rfl, rfl, h0, ⟨c1_, r1_, e1_, s1_, rfl, rfl, h1, h2⟩⟩ := h
    obtain ⟨rfl, w0, rfl⟩ := h0
    obtain ⟨rfl, w1, rfl⟩ := h1
    obtain ⟨a6, d6, q6, rfl, hq2, w2, w4, w5, l6, w7, w8⟩ := lies_Node.1 h2
    exact ⟨a6, d6, q6, by simp, by simp [hq2], w0, w1, w2, w4, w5, l6, w7, w8⟩
  · rintro ⟨a6, d6, b6, rfl, hbl, w0, w1, w2, w4, w5, l6, w7, w8⟩
    rw [hbl]
    exact ⟨[.int .i64 x.code], [.int .i64 x.place] ++ [.int .i64 x.node.id, .bool x.node.up, .int .i64 x.node.epoch, .int .i64 x.node.lease, .slice a6 x.node.writes.length d6, .int .i64 x.node.sure, .int .i64 x.node.clean], [], [] ++ (b6), rfl, by simp, ⟨rfl, w0, rfl⟩, ⟨[.int .i64 x.place], [.int .i64 x.node.id, .bool x.node.up, .int .i64 x.node.epoch, .int .i64 x.node.lease, .slice a6 x.node.writes.length d6, .int .i64 x.node.sure, .int .i64 x.node.clean], [], b6, rfl, by simp, ⟨rfl, w1, rfl⟩, lies_Node.2 ⟨a6, d6, b6, rfl, rfl, w2, w4, w5, l6, w7, w8⟩⟩⟩

theorem open_NodeResult {w : World} {cs : List Value} {x : DNodeResult} (h : Lay.tNodeResult.Reads w cs x) : ∃ (a6 : Option Addr) (d6 : Nat), cs = [.int .i64 x.code, .int .i64 x.place, .int .i64 x.node.id, .bool x.node.up, .int .i64 x.node.epoch, .int .i64 x.node.lease, .slice a6 x.node.writes.length d6, .int .i64 x.node.sure, .int .i64 x.node.clean] ∧ Lay.tNode.Reads w [.int .i64 x.node.id, .bool x.node.up, .int .i64 x.node.epoch, .int .i64 x.node.lease, .slice a6 x.node.writes.length d6, .int .i64 x.node.sure, .int .i64 x.node.clean] x.node := by
  obtain ⟨bl, h⟩ := h
  obtain ⟨a6, d6, b6, rfl, -, w0, w1, w2, w4, w5, l6, w7, w8⟩ := lies_NodeResult.1 h
  exact ⟨a6, d6, rfl, ⟨_, lies_Node.2 ⟨a6, d6, _, rfl, rfl, w2, w4, w5, l6, w7, w8⟩⟩⟩

end Go.Proofs.YtbogjepkdcknfaaDoor

namespace Go.Proofs.YtbogjepkdcknfaaDoor
open Go.RowKit

set_option maxRecDepth 10000 in
set_option maxHeartbeats 1000000 in
theorem eq_NodeResult (cs cs2 : List Value) (x : DNodeResult) (w : World) (h : Lay.tNodeResult.Reads w cs x) (h2 : Lay.tNodeResult.Reads w cs2 x) :
    Calls Tryd.prog 10 #[.agg cs.toArray, .agg cs2.toArray] w fun e w' => e = .returned (.bool true) ∧ Below w.heap.size w w' := by
  obtain ⟨a6, d6, rfl, R2⟩ := open_NodeResult h
  obtain ⟨a6z, d6z, rfl, R2z⟩ := open_NodeResult h2
  clear h h2
  have e0 : (x.code != x.code) = false := by simp
  have e1 : (x.place != x.place) = false := by simp
  have e2 : (x.node.id != x.node.id) = false := by simp
  have e3 : (x.node.up != x.node.up) = false := by simp
  have e4 : (x.node.epoch != x.node.epoch) = false := by simp
  have e5 : (x.node.lease != x.node.lease) = false := by simp
  have e7 : (x.node.sure != x.node.sure) = false := by simp
  have e8 : (x.node.clean != x.node.clean) = false := by simp
  have HB0 : Below w.heap.size w ((w.alloc (.cells #[.int .i64 x.code, .int .i64 x.place, .int .i64 x.node.id, .bool x.node.up, .int .i64 x.node.epoch, .int .i64 x.node.lease, .slice a6 x.node.writes.length d6, .int .i64 x.node.sure, .int .i64 x.node.clean] 34)).alloc (.cells #[.int .i64 x.code, .int .i64 x.place, .int .i64 x.node.id, .bool x.node.up, .int .i64 x.node.epoch, .int .i64 x.node.lease, .slice a6z x.node.writes.length d6z, .int .i64 x.node.sure, .int .i64 x.node.clean] 34)) := ((Below.refl _ _).alloc (Nat.le_refl _) _).alloc (by simp) _
  have bA : Box w.heap.size #[.int .i64 x.code, .int .i64 x.place, .int .i64 x.node.id, .bool x.node.up, .int .i64 x.node.epoch, .int .i64 x.node.lease, .slice a6 x.node.writes.length d6, .int .i64 x.node.sure, .int .i64 x.node.clean] 34 ((w.alloc (.cells #[.int .i64 x.code, .int .i64 x.place, .int .i64 x.node.id, .bool x.node.up, .int .i64 x.node.epoch, .int .i64 x.node.lease, .slice a6 x.node.writes.length d6, .int .i64 x.node.sure, .int .i64 x.node.clean] 34)).alloc (.cells #[.int .i64 x.code, .int .i64 x.place, .int .i64 x.node.id, .bool x.node.up, .int .i64 x.node.epoch, .int .i64 x.node.lease, .slice a6z x.node.writes.length d6z, .int .i64 x.node.sure, .int .i64 x.node.clean] 34)) w.heap.size := (newBox (Nat.le_refl _)).grow _
  have bC : Box w.heap.size #[.int .i64 x.code, .int .i64 x.place, .int .i64 x.node.id, .bool x.node.up, .int .i64 x.node.epoch, .int .i64 x.node.lease, .slice a6z x.node.writes.length d6z, .int .i64 x.node.sure, .int .i64 x.node.clean] 34 ((w.alloc (.cells #[.int .i64 x.code, .int .i64 x.place, .int .i64 x.node.id, .bool x.node.up, .int .i64 x.node.epoch, .int .i64 x.node.lease, .slice a6 x.node.writes.length d6, .int .i64 x.node.sure, .int .i64 x.node.clean] 34)).alloc (.cells #[.int .i64 x.code, .int .i64 x.place, .int .i64 x.node.id, .bool x.node.up, .int .i64 x.node.epoch, .int .i64 x.node.lease, .slice a6z x.node.writes.length d6z, .int .i64 x.node.sure, .int .i64 x.node.clean] 34)) (w.heap.size + 1) := newBoxAt (by omega) (by simp)
  go_enter Tryd.func10, Tryd.ntmps10
  go_wp2_with fail
  generalize (w.alloc (.cells #[.int .i64 x.code, .int .i64 x.place, .int .i64 x.node.id, .bool x.node.up, .int .i64 x.node.epoch, .int .i64 x.node.lease, .slice a6 x.node.writes.length d6, .int .i64 x.node.sure, .int .i64 x.node.clean] 34)).alloc (.cells #[.int .i64 x.code, .int .i64 x.place, .int .i64 x.node.id, .bool x.node.up, .int .i64 x.node.epoch, .int .i64 x.node.lease, .slice a6z x.node.writes.length d6z, .int .i64 x.node.sure, .int .i64 x.node.clean] 34) = W0 at *
  replace R2 := R2.later HB0
  replace R2z := R2z.later HB0
  refine (eq_Node _ _ x.node _ R2 R2z).mono ?_
  rintro e w1 ⟨rfl, hb⟩
  replace bA := bA.keep hb
  replace bC := bC.keep hb
  replace HB0 := HB0.trans (hb.mono HB0.size)
  clear hb
  have HB := hide HB0
  have HA := hide bA
  have HC := hide bC
  clear HB0 bA bC
  go_wp2_with fail
  go_ret
  exact ⟨rfl, unhide HB⟩

end Go.Proofs.YtbogjepkdcknfaaDoor

namespace Go.Proofs.YtbogjepkdcknfaaDoor
open Go.RowKit

theorem vcnt_NodeResult (x : DNodeResult) : Lay.tNodeResult.vcnt x = Lay.tNode.vcnt x.node := by
  show 0 + (0 + (Lay.tNode.vcnt x.node)) = Lay.tNode.vcnt x.node
  omega
theorem mkv_NodeResult (k : Int) (x : DNodeResult) : Lay.tNodeResult.mkv k x = ⟨x.code, x.place, Lay.tNode.mkv (k) x.node⟩ := by
  simp [Lay.tNodeResult, Lay.via, Lay.pair, Lay.int]
theorem own_NodeResult {w : World} {cs : List Value} {x : DNodeResult} {bl : List Nat} (h : Lay.tNodeResult.Own w cs x bl) : ∃ (a6 : Option Addr) (d6 : Nat) (g2 : List Nat), cs = [.int .i64 x.code, .int .i64 x.place, .int .i64 x.node.id, .bool x.node.up, .int .i64 x.node.epoch, .int .i64 x.node.lease, .slice a6 x.node.writes.length d6, .int .i64 x.node.sure, .int .i64 x.node.clean] ∧ bl = g2 ∧ Lay.tNode.Own w [.int .i64 x.node.id, .bool x.node.up, .int .i64 x.node.epoch, .int .i64 x.node.lease, .slice a6 x.node.writes.length d6, .int .i64 x.node.sure, .int .i64 x.node.clean] x.node g2 ∧ (Lit.int .i64 x.code).wf = true ∧ (Lit.int .i64 x.place).wf = true := by
  obtain ⟨hl, hn, hf⟩ := h
  obtain ⟨a6, d6, b6, rfl, hbl, w0, w1, w2, w4, w5, l6, w7, w8⟩ := lies_NodeResult.1 hl
  rw [hbl] at hn hf
  exact ⟨a6, d6, b6, rfl, hbl, ⟨lies_Node.2 ⟨a6, d6, b6, rfl, rfl, w2, w4, w5, l6, w7, w8⟩, hn, hf⟩, w0, w1⟩
theorem mkOwn_NodeResult {w : World} {x : DNodeResult} {c2 : List Value} {g2 : List Nat} (O2 : Lay.tNode.Own w c2 x.node g2) (v0 : (Lit.int .i64 x.code).wf = true) (v1 : (Lit.int .i64 x.place).wf = true) (hn : (g2).Nodup) : Lay.tNodeResult.Own w ([.int .i64 x.code] ++ ([.int .i64 x.place] ++ c2)) x (g2) := by
  refine ⟨⟨[.int .i64 x.code], [.int .i64 x.place] ++ c2, [], [] ++ g2, rfl, by simp, ⟨rfl, v0, rfl⟩, ⟨[.int .i64 x.place], c2, [], g2, rfl, rfl, ⟨rfl, v1, rfl⟩, O2.1⟩⟩, hn, ?_⟩
  intro b hb o
  exact O2.2.2 b hb o

end Go.Proofs.YtbogjepkdcknfaaDoor

namespace Go.Proofs.YtbogjepkdcknfaaDoor
open Go.RowKit

set_option maxRecDepth 10000 in
set_option maxHeartbeats 1000000 in
theorem mark_NodeResult (cs : List Value) (x : DNodeResult) (bl : List Nat) (k : Int) (w : World) (h : Lay.tNodeResult.Own w cs x bl) (hk : 0 ≤ k) (hk2 : k + Lay.tNodeResult.vcnt x ≤ 1000000000) :
    Calls Tryd.prog 15 #[.agg cs.toArray, .int .i64 k] w fun e w' => e = .returned (.int .i64 (k + Lay.tNodeResult.vcnt x)) ∧ Lay.tNodeResult.Own w' cs (Lay.tNodeResult.mkv k x) bl ∧ Ext (fun q => q ∈ bl) w w' := by
  have hlt := h.lt
  have hnd := h.2.1
  rw [vcnt_NodeResult] at hk2
  obtain ⟨a6, d6, g2, rfl, hbl, O2, v0, v1⟩ := own_NodeResult h
  clear h
  have HB0 : Below w.heap.size w (w.alloc (.cells #[.int .i64 x.code, .int .i64 x.place, .int .i64 x.node.id, .bool x.node.up, .int .i64 x.node.epoch, .int .i64 x.node.lease, .slice a6 x.node.writes.length d6, .int .i64 x.node.sure, .int .i64 x.node.clean] 34)) := (Below.refl _ _).alloc (Nat.le_refl _) _
  have bA : Box w.heap.size #[.int .i64 x.code, .int .i64 x.place, .int .i64 x.node.id, .bool x.node.up, .int .i64 x.node.epoch, .int .i64 x.node.lease, .slice a6 x.node.writes.length d6, .int .i64 x.node.sure, .int .i64 x.node.clean] 34 (w.alloc (.cells #[.int .i64 x.code, .int .i64 x.place, .int .i64 x.node.id, .bool x.node.up, .int .i64 x.node.epoch, .int .i64 x.node.lease, .slice a6 x.node.writes.length d6, .int .i64 x.node.sure, .int .i64 x.node.clean] 34)) w.heap.size := newBox (Nat.le_refl _)
  have HN := hide hnd
  have HV := hide (vcnt_NodeResult x)
  have HM := hide (mkv_NodeResult k x)
  clear hnd
  go_enter Tryd.func15, Tryd.ntmps15
  go_wp2_with fail
  generalize w.alloc (.cells #[.int .i64 x.code, .int .i64 x.place, .int .i64 x.node.id, .bool x.node.up, .int .i64 x.node.epoch, .int .i64 x.node.lease, .slice a6 x.node.writes.length d6, .int .i64 x.node.sure, .int .i64 x.node.clean] 34) = W0 at *
  replace O2 := O2.later HB0
  have hsz := HB0.size
  have EX : Ext (fun q => q ∈ bl) w W0 := ext_of_below HB0 _
  have hs0 := bA.lt
  refine (mark_Node _ x.node g2 (k) _ O2 (by omega) (by omega)).mono ?_
  rintro e w1 ⟨rfl, Q2, E2⟩
  replace EX := EX.trans (E2.mono fun b _ hb => by rw [hbl]; simp [hb])
  replace bA := bA.ext E2 (fun hm => by have := hlt w.heap.size (by rw [hbl]; simp [hm]); omega)
  clear E2
  have HA := hide bA
  have HX := hide EX
  have HL := hide hlt
  have HBL := hide hbl
  clear bA EX hlt hbl
  have P2 := hide Q2
  clear Q2
  clear O2
  go_wp2_with fail
  go_ret
  refine ⟨?_, ?_, unhide HX⟩
  · rw [show k + (Lay.tNodeResult.vcnt x : Int) = k + (Lay.tNode.vcnt x.node : Int) by rw [unhide HV]]
    rfl
  · have e := unhide HBL
    subst e
    rw [unhide HM]
    exact mkOwn_NodeResult (x := ⟨x.code, x.place, Lay.tNode.mkv (k) x.node⟩) (unhide P2) v0 v1 (unhide HN)

end Go.Proofs.YtbogjepkdcknfaaDoor

namespace Go.Proofs.YtbogjepkdcknfaaDoor
open Go.RowKit

set_option maxRecDepth 10000 in
set_option maxHeartbeats 2000000 in
theorem heldWrite_pos (b off cap : Nat) (xs : List DWrite) (k : Int) (w : World) (h : (Lay.sl Lay.tWrite).Reads w [.slice (some ⟨b, off, none⟩) (mkAll Lay.tWrite.cnt Lay.tWrite.mkd k xs).length cap] (mkAll Lay.tWrite.cnt Lay.tWrite.mkd k xs)) (hbl : b < w.heap.size) (hk : 0 ≤ k) (hk2 : k + (cntAll Lay.tWrite.cnt xs : Nat) ≤ 1000000000) :
    Calls Tryd.prog 42 #[.slice (some ⟨b, off, none⟩) xs.length cap, .int .i64 k] w fun e w' => e = .returned (.int .i64 (k + (cntAll Lay.tWrite.cnt xs : Nat))) ∧ Below w.heap.size w w' := by
  have hbig := h.big
  rw [mkAll_size] at hbig
  have H := hide h
  clear h
  go_enter Tryd.func42, Tryd.ntmps42
  go_wp2_with fail
  go_loopw [1, 5] (fun kk i wr => ∃ (j : Nat) (kj : Int), j ≤ xs.length ∧ i = .int .i64 j ∧ kj = k + (cntAll Lay.tWrite.cnt (xs.take j) : Nat) ∧ kk = .int .i64 kj ∧ Below w.heap.size w wr) (fun _ i _ => xs.length - (intOf i).toNat)
  case atStart => exact ⟨0, k, Nat.zero_le _, rfl, by simp [cntAll], rfl, Below.refl _ _⟩
  case round =>
    obtain ⟨j, kj, hj, rfl, hkj, rfl, hB⟩ := hrel
    by_cases hlt : j < xs.length
    · have hj2 : j < (mkAll Lay.tWrite.cnt Lay.tWrite.mkd k xs).length := by rw [mkAll_size]; exact hlt
      obtain ⟨row, hc, hr⟩ := Lay.row_at (unhide H) hj2
      rw [mkAll_at _ _ _ _ _ hlt hj2, ← hkj, mkd_Write] at hr
      have HT := hide (Lay.cntAll_take (f := Lay.tWrite.cnt) hlt)
      have hle := Lay.cntAll_take_le (f := Lay.tWrite.cnt) (xs := xs) (k := j + 1)
      rw [unhide HT] at hle
      clear hj2
      generalize hx : xs[j] = x at *
      clear hx
      have hcn := cnt_Write x
      have hb1 : 0 ≤ kj := by omega
      have hb2 : kj + (Lay.tWrite.cnt x : Int) ≤ 1000000000 := by omega
      have HK := hide hkj
      clear hkj hle
      replace hr := hr.later hB
      obtain ⟨a2, d2, rfl, R2⟩ := open_Write hr
      clear hr
      generalize hn : (⟨kj, kj + 1, (Lay.sl Lay.int).mkv (kj + 1 + 1) x.vec, kj + 1 + 1 + ((Lay.sl Lay.int).vcnt x.vec : Nat), kj + 1 + 1 + ((Lay.sl Lay.int).vcnt x.vec : Nat) + 1⟩ : DWrite).vec.length = n1 at *
      clear hn
      have c0 : wr.cell? ⟨b, off + j * 5, none⟩ = some (.int .i64 (kj)) := (hB.cell (p := ⟨b, off + j * 5, none⟩) hbl).trans (hc 0 (by decide))
      have e0 : ((kj : Int) != (kj : Int)) = false := by simp
      have c1 : wr.cell? ⟨b, off + j * 5 + 1, none⟩ = some (.int .i64 (kj + 1)) := (hB.cell (p := ⟨b, off + j * 5 + 1, none⟩) hbl).trans (hc 1 (by decide))
      have e1 : ((kj + 1 : Int) != (kj + 1 : Int)) = false := by simp
      have c2 : wr.cell? ⟨b, off + j * 5 + 2, none⟩ = some (.slice a2 n1 d2) := (hB.cell (p := ⟨b, off + j * 5 + 2, none⟩) hbl).trans (hc 2 (by decide))
      have c3 : wr.cell? ⟨b, off + j * 5 + 3, none⟩ = some (.int .i64 (kj + 1 + 1 + ((Lay.sl Lay.int).vcnt x.vec : Nat))) := (hB.cell (p := ⟨b, off + j * 5 + 3, none⟩) hbl).trans (hc 3 (by decide))
      have e3 : ((kj + 1 + 1 + ((Lay.sl Lay.int).vcnt x.vec : Nat) : Int) != (kj + 1 + 1 + ((Lay.sl Lay.int).vcnt x.vec : Nat) : Int)) = false := by simp
      have c4 : wr.cell? ⟨b, off + j * 5 + 4, none⟩ = some (.int .i64 (kj + 1 + 1 + ((Lay.sl Lay.int).vcnt x.vec : Nat) + 1)) := (hB.cell (p := ⟨b, off + j * 5 + 4, none⟩) hbl).trans (hc 4 (by decide))
      have e4 : ((kj + 1 + 1 + ((Lay.sl Lay.int).vcnt x.vec : Nat) + 1 : Int) != (kj + 1 + 1 + ((Lay.sl Lay.int).vcnt x.vec : Nat) + 1 : Int)) = false := by simp
      have HB := hide hB
      clear hB hc
      go_wp2_with fail
      refine (held_Int64S _ x.vec (kj + 1 + 1) _ R2 (by omega) (by omega)).mono ?_
      rintro e w2 ⟨rfl, hb⟩
      have l1 : b < wr.heap.size := Nat.lt_of_lt_of_le hbl (unhide HB).size
      replace c3 := (hb.cell (p := ⟨b, off + j * 5 + 3, none⟩) l1).trans c3
      replace c4 := (hb.cell (p := ⟨b, off + j * 5 + 4, none⟩) l1).trans c4
      replace HB := hide ((unhide HB).trans (hb.mono (unhide HB).size))
      clear hb R2 l1 c0 c1 c2
      have hq : decide (kj + 1 + 1 + ((Lay.sl Lay.int).vcnt x.vec : Int) < 0) = false := by simp; omega
      go_wp2_with fail
      go_roundw
      case rel => exact ⟨j + 1, _, by omega, by go_num, (by rw [unhide HT, hcn]; have := unhide HK; omega), rfl, unhide HB⟩
      case measure => simp [intOf]; omega
    · obtain rfl : j = xs.length := by omega
      rw [List.take_length] at hkj
      have HK := hide hkj
      have HB := hide hB
      clear hB hkj
      go_wp2_with fail
      go_ret
      exact ⟨by rw [← unhide HK]; rfl, unhide HB⟩

theorem heldWrite_zero (ao : Option Addr) (cap : Nat) (k : Int) (w : World) :
    Calls Tryd.prog 42 #[.slice ao 0 cap, .int .i64 k] w fun e w' => e = .returned (.int .i64 k) ∧ w' = w := by
  go_enter Tryd.func42, Tryd.ntmps42
  go_wp2_with fail
  refine wp_loop_rounds 1 ?_
  rw [rounds_succ]
  go_wp2_with fail
  go_ret
  exact ⟨rfl, rfl⟩

/-- heldWriteS. -/
theorem held_WriteS (v : Value) (xs : List DWrite) (k : Int) (w : World) (h : (Lay.sl Lay.tWrite).Reads w [v] ((Lay.sl Lay.tWrite).mkv k xs)) (hk : 0 ≤ k) (hk2 : k + (Lay.sl Lay.tWrite).vcnt xs ≤ 1000000000) :
    Calls Tryd.prog 42 #[v, .int .i64 k] w fun e w' => e = .returned (.int .i64 (k + (Lay.sl Lay.tWrite).vcnt xs)) ∧ Below w.heap.size w w' := by
  rw [mkv_WriteS] at h
  obtain ⟨ao, cap, rfl⟩ := open_sl h
  by_cases hp : 0 < xs.length
  · obtain ⟨b, off, rfl, hbl⟩ := Lay.sl_addr h (by rw [mkAll_size]; exact hp)
    have L := heldWrite_pos b off cap xs k w h hbl hk hk2
    rw [mkAll_size]
    exact L
  · obtain rfl : xs = [] := List.eq_nil_of_length_eq_zero (by omega)
    refine (heldWrite_zero ao cap k w).mono ?_
    rintro e w' ⟨rfl, rfl⟩
    exact ⟨by rw [vcnt_WriteS]; simp [cntAll], Below.refl _ _⟩

end Go.Proofs.YtbogjepkdcknfaaDoor

namespace Go.Proofs.YtbogjepkdcknfaaDoor
open Go.RowKit

set_option maxRecDepth 10000 in
set_option maxHeartbeats 1000000 in
theorem held_Node (cs : List Value) (x : DNode) (k : Int) (w : World) (h : Lay.tNode.Reads w cs (Lay.tNode.mkv k x)) (hk : 0 ≤ k) (hk2 : k + Lay.tNode.vcnt x ≤ 1000000000) :
    Calls Tryd.prog 32 #[.agg cs.toArray, .int .i64 k] w fun e w' => e = .returned (.int .i64 (k + Lay.tNode.vcnt x)) ∧ Below w.heap.size w w' := by
  rw [mkv_Node] at h
  rw [vcnt_Node] at hk2
  have HV := hide (vcnt_Node x)
  obtain ⟨a4, d4, rfl, R4⟩ := open_Node h
  clear h
  generalize hn4 : (⟨x.id, x.up, x.epoch, x.lease, (Lay.sl Lay.tWrite).mkv (k) x.writes, x.sure, x.clean⟩ : DNode).writes.length = n4 at *
  clear hn4
  have HB0 : Below w.heap.size w (w.alloc (.cells #[.int .i64 x.id, .bool x.up, .int .i64 x.epoch, .int .i64 x.lease, .slice a4 n4 d4, .int .i64 x.sure, .int .i64 x.clean] 32)) := (Below.refl _ _).alloc (Nat.le_refl _) _
  have bA : Box w.heap.size #[.int .i64 x.id, .bool x.up, .int .i64 x.epoch, .int .i64 x.lease, .slice a4 n4 d4, .int .i64 x.sure, .int .i64 x.clean] 32 (w.alloc (.cells #[.int .i64 x.id, .bool x.up, .int .i64 x.epoch, .int .i64 x.lease, .slice a4 n4 d4, .int .i64 x.sure, .int .i64 x.clean] 32)) w.heap.size := newBox (Nat.le_refl _)
  go_enter Tryd.func32, Tryd.ntmps32
  go_wp2_with fail
  generalize w.alloc (.cells #[.int .i64 x.id, .bool x.up, .int .i64 x.epoch, .int .i64 x.lease, .slice a4 n4 d4, .int .i64 x.sure, .int .i64 x.clean] 32) = W0 at *
  replace R4 := R4.later HB0
  refine (held_WriteS _ x.writes (k) _ R4 (by omega) (by omega)).mono ?_
  rintro e w1 ⟨rfl, hb⟩
  replace HB0 := HB0.trans (hb.mono HB0.size)
  replace bA := bA.keep hb
  have HA := hide bA
  have HX := hide HB0
  clear bA HB0 hb R4
  have hq : decide (k + ((Lay.sl Lay.tWrite).vcnt x.writes : Int) < 0) = false := by simp; omega
  go_wp2_with fail
  clear hq
  go_ret
  refine ⟨?_, unhide HX⟩
  rw [show k + (Lay.tNode.vcnt x : Int) = k + ((Lay.sl Lay.tWrite).vcnt x.writes : Int) by rw [unhide HV]]
  rfl

end Go.Proofs.YtbogjepkdcknfaaDoor

namespace Go.Proofs.YtbogjepkdcknfaaDoor
open Go.RowKit

set_option maxRecDepth 10000 in
set_option maxHeartbeats 1000000 in
theorem held_NodeResult (cs : List Value) (x : DNodeResult) (k : Int) (w : World) (h : Lay.tNodeResult.Reads w cs (Lay.tNodeResult.mkv k x)) (hk : 0 ≤ k) (hk2 : k + Lay.tNodeResult.vcnt x ≤ 1000000000) :
    Calls Tryd.prog 16 #[.agg cs.toArray, .int .i64 k] w fun e w' => e = .returned (.int .i64 (k + Lay.tNodeResult.vcnt x)) ∧ Below w.heap.size w w' := by
  rw [mkv_NodeResult] at h
  rw [vcnt_NodeResult] at hk2
  have HV := hide (vcnt_NodeResult x)
  obtain ⟨a6, d6, rfl, R2⟩ := open_NodeResult h
  clear h
  generalize hn6 : (⟨x.code, x.place, Lay.tNode.mkv (k) x.node⟩ : DNodeResult).node.writes.length = n6 at *
  clear hn6
  generalize hn2 : (⟨x.code, x.place, Lay.tNode.mkv (k) x.node⟩ : DNodeResult).node.id = n2 at *
  generalize hn3 : (⟨x.code, x.place, Lay.tNode.mkv (k) x.node⟩ : DNodeResult).node.up = n3 at *
  generalize hn4 : (⟨x.code, x.place, Lay.tNode.mkv (k) x.node⟩ : DNodeResult).node.epoch = n4 at *
  generalize hn5 : (⟨x.code, x.place, Lay.tNode.mkv (k) x.node⟩ : DNodeResult).node.lease = n5 at *
  generalize hn7 : (⟨x.code, x.place, Lay.tNode.mkv (k) x.node⟩ : DNodeResult).node.sure = n7 at *
  generalize hn8 : (⟨x.code, x.place, Lay.tNode.mkv (k) x.node⟩ : DNodeResult).node.clean = n8 at *
  clear hn2 hn3 hn4 hn5 hn7 hn8
  have HB0 : Below w.heap.size w (w.alloc (.cells #[.int .i64 x.code, .int .i64 x.place, .int .i64 n2, .bool n3, .int .i64 n4, .int .i64 n5, .slice a6 n6 d6, .int .i64 n7, .int .i64 n8] 34)) := (Below.refl _ _).alloc (Nat.le_refl _) _
  have bA : Box w.heap.size #[.int .i64 x.code, .int .i64 x.place, .int .i64 n2, .bool n3, .int .i64 n4, .int .i64 n5, .slice a6 n6 d6, .int .i64 n7, .int .i64 n8] 34 (w.alloc (.cells #[.int .i64 x.code, .int .i64 x.place, .int .i64 n2, .bool n3, .int .i64 n4, .int .i64 n5, .slice a6 n6 d6, .int .i64 n7, .int .i64 n8] 34)) w.heap.size := newBox (Nat.le_refl _)
  go_enter Tryd.func16, Tryd.ntmps16
  go_wp2_with fail
  generalize w.alloc (.cells #[.int .i64 x.code, .int .i64 x.place, .int .i64 n2, .bool n3, .int .i64 n4, .int .i64 n5, .slice a6 n6 d6, .int .i64 n7, .int .i64 n8] 34) = W0 at *
  replace R2 := R2.later HB0
  refine (held_Node _ x.node (k) _ R2 (by omega) (by omega)).mono ?_
  rintro e w1 ⟨rfl, hb⟩
  replace HB0 := HB0.trans (hb.mono HB0.size)
  replace bA := bA.keep hb
  have HA := hide bA
  have HX := hide HB0
  clear bA HB0 hb R2
  have hq : decide (k + (Lay.tNode.vcnt x.node : Int) < 0) = false := by simp; omega
  go_wp2_with fail
  clear hq
  go_ret
  refine ⟨?_, unhide HX⟩
  rw [show k + (Lay.tNodeResult.vcnt x : Int) = k + (Lay.tNode.vcnt x.node : Int) by rw [unhide HV]]
  rfl

end Go.Proofs.YtbogjepkdcknfaaDoor

namespace Go.Proofs.YtbogjepkdcknfaaDoor
open Go.RowKit Go.Extern.Stop Go.Stop Go.Extern

/-- errors.errorType as it is laid. -/
def ErrT (w : World) : Prop := w.cell? ⟨1, 0, none⟩ = some (.iface 136 (.agg #[.pointer (some ⟨2, 100, none⟩)]))

theorem asOf (t : Addr) (w : World) : (ReflectliteValue.unpack (.iface 119 (.pointer (some t)))).run Tryd.prog w
    = .ok (.agg #[.pointer (some ⟨2, 119, none⟩), .pointer (some ⟨w.heap.size, 0, none⟩), .int .u64 150]) (w.alloc (.cells #[.pointer (some t)] 119)) := by kernel_rfl
theorem asType (a : Addr) (w : World) : (ReflectliteValue.methodAny (ReflectliteValue.valueError "reflectlite.Value.Type" 0) (fun t _ _ _ => ReflectliteType.toType t) #[.agg #[.pointer (some ⟨2, 119, none⟩), .pointer (some a), .int .u64 150]]).run Tryd.prog w
    = .ok (.iface 136 (.agg #[.pointer (some ⟨2, 119, none⟩)])) w := by kernel_rfl
theorem asMKind (h : Value) (w : World) : (Go.method 283 136 (.agg #[h]) "Kind").run Tryd.prog w = .ok (97, h) w := by kernel_rfl
theorem asKindP (w : World) : ((ReflectliteType.abiMethod fun t => (fun a : Nat => Value.int IntKind.u8 (a : Int)) <$> Rtype.kind t) #[.pointer (some ⟨2, 119, none⟩)]).run Tryd.prog w = .ok (.int .u8 22) w := by kernel_rfl
theorem asKindO (w : World) : ((ReflectliteType.abiMethod fun t => (fun a : Nat => Value.int IntKind.u8 (a : Int)) <$> Rtype.kind t) #[.pointer (some ⟨2, 117, none⟩)]).run Tryd.prog w = .ok (.int .u8 25) w := by kernel_rfl
theorem asRlm (z : Sem Value) (f : TypeId → Addr → Nat → Nat → Sem Value) (v : Value) :
    ReflectliteValue.method z f #[v] = (do match ← ReflectliteValue.parts v with | none => z | some (t, a, fl) => f t a fl (fl % 32)) := rfl
theorem asPartsP (a : Addr) (w : World) : (ReflectliteValue.parts (.agg #[.pointer (some ⟨2, 119, none⟩), .pointer (some a), .int .u64 150])).run Tryd.prog w = .ok (some (119, a, 150)) w := by kernel_rfl
theorem asIsNil (a p : Addr) (W : World) (ha : W.cell? a = some (.pointer (some p))) :
    (ReflectliteValue.method (ReflectliteValue.valueError "reflectlite.Value.IsNil" 0) ReflectliteValue.isNil #[.agg #[.pointer (some ⟨2, 119, none⟩), .pointer (some a), .int .u64 150]]).run Tryd.prog W = .ok (.bool false) W := by
  rw [asRlm]
  simp only [Sem.run_bind, asPartsP, Result.andThen]
  simp [ReflectliteValue.isNil, loadVar, isAgg, underlying, Tryd.underlying119, ha, Result.andThen]
theorem asMElem (h : Value) (w : World) : (Go.method 283 136 (.agg #[h]) "Elem").run Tryd.prog w = .ok (110, .agg #[h]) w := by kernel_rfl
theorem asMImpl (h : Value) (w : World) : (Go.method 283 136 (.agg #[h]) "Implements").run Tryd.prog w = .ok (111, .agg #[h]) w := by kernel_rfl
theorem asMAssign (h : Value) (w : World) : (Go.method 283 136 (.agg #[h]) "AssignableTo").run Tryd.prog w = .ok (108, .agg #[h]) w := by kernel_rfl
theorem asElemT (w : World) : (ReflectliteType.method ReflectliteType.elem #[.agg #[.pointer (some ⟨2, 119, none⟩)]]).run Tryd.prog w = .ok (.iface 136 (.agg #[.pointer (some ⟨2, 117, none⟩)])) w := by kernel_rfl
theorem asImpl (w : World) : (ReflectliteType.relation "Implements" ReflectliteType.implements_ #[.agg #[.pointer (some ⟨2, 117, none⟩)], .iface 136 (.agg #[.pointer (some ⟨2, 100, none⟩)])]).run Tryd.prog w = .ok (.bool true) w := by kernel_rfl
theorem asTypeO (v : Value) (w : World) : (ReflectliteType.typeOf #[.iface 117 v]).run Tryd.prog w = .ok (.iface 136 (.agg #[.pointer (some ⟨2, 117, none⟩)])) w := by kernel_rfl
theorem asTypeE (v : Value) (w : World) : (ReflectliteType.typeOf #[.iface 149 v]).run Tryd.prog w = .ok (.iface 136 (.agg #[.pointer (some ⟨2, 149, none⟩)])) w := by kernel_rfl
theorem asAssO (w : World) : (ReflectliteType.relation "AssignableTo" ReflectliteType.assignableTo #[.agg #[.pointer (some ⟨2, 117, none⟩)], .iface 136 (.agg #[.pointer (some ⟨2, 117, none⟩)])]).run Tryd.prog w = .ok (.bool true) w := by kernel_rfl
theorem asAssE (w : World) : (ReflectliteType.relation "AssignableTo" ReflectliteType.assignableTo #[.agg #[.pointer (some ⟨2, 149, none⟩)], .iface 136 (.agg #[.pointer (some ⟨2, 117, none⟩)])]).run Tryd.prog w = .ok (.bool false) w := by kernel_rfl
theorem asOfO (x y : Int) (w : World) : (ReflectliteValue.unpack (.iface 117 (.agg #[.int .i64 x, .int .i64 y]))).run Tryd.prog w
    = .ok (.agg #[.pointer (some ⟨2, 117, none⟩), .pointer (some ⟨w.heap.size, 0, none⟩), .int .u64 153]) (w.alloc (.cells #[.int .i64 x, .int .i64 y] 117)) := by kernel_rfl
theorem asElemOf (w : World) : (Rtype.elem? 119).run Tryd.prog w = .ok (some 117) w := by kernel_rfl
theorem asMk (p : Addr) (w : World) : (ReflectliteValue.mk 117 p ReflectliteValue.flagAddr).run Tryd.prog w = .ok (.agg #[.pointer (some ⟨2, 117, none⟩), .pointer (some p), .int .u64 409]) w := by kernel_rfl
theorem asElemV (a p : Addr) (W : World) (ha : W.cell? a = some (.pointer (some p))) :
    (ReflectliteValue.method (ReflectliteValue.valueError "reflectlite.Value.Elem" 0) ReflectliteValue.elem #[.agg #[.pointer (some ⟨2, 119, none⟩), .pointer (some a), .int .u64 150]]).run Tryd.prog W
      = .ok (.agg #[.pointer (some ⟨2, 117, none⟩), .pointer (some p), .int .u64 409]) W := by
  rw [asRlm]
  simp only [Sem.run_bind, asPartsP, Result.andThen]
  simp [ReflectliteValue.elem, loadVar, isAgg, underlying, Tryd.underlying119, ha, Result.andThen, asElemOf, asMk]
theorem asRls (v x : Value) : ReflectliteValue.set #[v, x] = (do
    let (some (dst, a, fl), some (src, b, _)) := (← ReflectliteValue.parts v, ← ReflectliteValue.parts x)
      | unsupported (.noEntry "extern/(internal/reflectlite.Value).Set.zeroValue")
    if fl / ReflectliteValue.flagAddr % 2 == 0 then unsupported (.noEntry "extern/(internal/reflectlite.Value).Set.unaddressable")
    let val ← loadVar src b
    if ← Rtype.directlyAssignable dst src then storeVar dst a val
    else if ← Rtype.implements dst src then
      if (← Rtype.kind src) == 20 then
        match val with
        | .nilIface => unsupported (.noEntry "extern/reflectlite: a nil value of one interface type handed on as a value of another")
        | _ => storeVar dst a val
      else storeVar dst a (.iface src val)
    else panicString ("reflectlite.Set: value of type " ++ (← Rtype.spelt src) ++ " is not assignable to type " ++ (← Rtype.spelt dst))
    pure (.tuple #[])) := rfl
theorem asPartsA (a : Addr) (w : World) : (ReflectliteValue.parts (.agg #[.pointer (some ⟨2, 117, none⟩), .pointer (some a), .int .u64 409])).run Tryd.prog w = .ok (some (117, a, 409)) w := by kernel_rfl
theorem asPartsO (a : Addr) (w : World) : (ReflectliteValue.parts (.agg #[.pointer (some ⟨2, 117, none⟩), .pointer (some a), .int .u64 153])).run Tryd.prog w = .ok (some (117, a, 153)) w := by kernel_rfl
theorem asDirect (w : World) : (Rtype.directlyAssignable 117 117).run Tryd.prog w = .ok true w := by kernel_rfl
theorem asSize (w : World) : (sizeOf 117).run Tryd.prog w = .ok 2 w := by kernel_rfl

end Go.Proofs.YtbogjepkdcknfaaDoor

namespace Go.Proofs.YtbogjepkdcknfaaDoor
open Go.RowKit

theorem Box.five {lo : Nat} {x0 x1 x2 x3 x4 : Value} {T : TypeId} {W : World} {s : Nat} (h : Box lo #[x0, x1, x2, x3, x4] T W s) :
    (W.cell? ⟨s, 0, none⟩ = some x0 ∧ W.cell? ⟨s, 1, none⟩ = some x1 ∧ W.cell? ⟨s, 2, none⟩ = some x2 ∧ W.cell? ⟨s, 3, none⟩ = some x3 ∧ W.cell? ⟨s, 4, none⟩ = some x4) ∧ (∀ o, W.frozen? ⟨s, o, none⟩ = false) ∧ s < W.heap.size := by
  refine ⟨⟨?_, ?_, ?_, ?_, ?_⟩, fun o => ?_, h.lt⟩
  all_goals first | simp [World.cell?, h.2] | simp [World.frozen?, h.2]
theorem Box.alloc {lo : Nat} {cs : Array Value} {T : TypeId} {W : World} {s : Nat} (h : Box lo cs T W s) (o : Obj) : Box lo cs T (W.alloc o) s := ⟨h.1, (Below.heap_alloc W o s h.lt).trans h.2⟩

end Go.Proofs.YtbogjepkdcknfaaDoor

namespace Go.Proofs.YtbogjepkdcknfaaDoor
open Go.RowKit

theorem inC (v lo hi : Int) (w : World) :
    Calls Tryd.prog 34 #[.int .i64 v, .int .i64 lo, .int .i64 hi] w fun e w' => e = .returned (.bool (decide (lo ≤ v) && decide (v ≤ hi))) ∧ w' = w := by
  by_cases h1 : lo ≤ v
  · have d1 : decide (lo ≤ v) = true := by simpa using h1
    rw [d1]
    cases d2 : decide (v ≤ hi) <;>
    · go_enter Tryd.func34, Tryd.ntmps34
      go_wp2_with fail
      go_ret
      exact ⟨rfl, rfl⟩
  · have d1 : decide (lo ≤ v) = false := by simpa using h1
    rw [d1]
    go_enter Tryd.func34, Tryd.ntmps34
    go_wp2_with fail
    go_ret
    exact ⟨rfl, rfl⟩
theorem idC (x : Int) (w : World) : Calls Tryd.prog 35 #[.int .i64 x] w fun e w' => e = .returned (.bool (decide (1 ≤ x) && decide (x ≤ 999))) ∧ w' = w := by
  go_enter Tryd.func35, Tryd.ntmps35
  go_wp2_with fail
  refine (inC x 1 999 _).mono ?_
  rintro e w1 ⟨rfl, rfl⟩
  go_wp2_with fail
  go_ret
  exact ⟨rfl, rfl⟩

end Go.Proofs.YtbogjepkdcknfaaDoor

namespace Go.Proofs.YtbogjepkdcknfaaDoor
open Go.RowKit

theorem sessionC (x : Int) (w : World) : Calls Tryd.prog 36 #[.int .i64 x] w fun e w' => e = .returned (.bool (decide (1 ≤ x) && decide (x ≤ 9))) ∧ w' = w := by
  go_enter Tryd.func36, Tryd.ntmps36
  go_wp2_with fail
  refine (inC x 1 9 _).mono ?_
  rintro e w1 ⟨rfl, rfl⟩
  go_wp2_with fail
  go_ret
  exact ⟨rfl, rfl⟩

end Go.Proofs.YtbogjepkdcknfaaDoor

namespace Go.Proofs.YtbogjepkdcknfaaDoor
open Go.RowKit

set_option maxHeartbeats 400000 in
theorem implFault_len (ao : Option Addr) (n cap : Nat) (w : World) (h : n ≠ 3) :
    Calls Tryd.prog 74 #[.slice ao n cap] w fun e w' => e = .returned (.int .i64 1) ∧ w' = w := by
  have h3 : ((n : Int) != 3) = true := by rw [bne_iff_ne]; omega
  go_enter Tryd.func74, Tryd.ntmps74
  go_wp2
  go_ret
  exact ⟨rfl, rfl⟩

set_option maxHeartbeats 400000 in
theorem implFault_three (b off cap : Nat) (zs : List Int) (w : World) (h : zs.length = 3) (hc : ∀ j, j < 3 → w.cell? ⟨b, off + j, none⟩ = some (.int .i64 (zs.getD j 0))) :
    Calls Tryd.prog 74 #[.slice (some ⟨b, off, none⟩) 3 cap] w fun e w' => e = .returned (.int .i64 (vecFault zs)) ∧ w' = w := by
  go_enter Tryd.func74, Tryd.ntmps74
  go_wp2
  go_loop [10] (fun i => ∃ k : Nat, k ≤ 3 ∧ i = .int .i64 k ∧ ∀ j, j < k → partB (zs.getD j 0) = true) (fun i => 3 - (intOf i).toNat)
  case atStart => exact ⟨0, Nat.zero_le _, rfl, fun j hj => by omega⟩
  case round =>
    obtain ⟨k, hk, rfl, hg⟩ := hrel
    have HG : Hid (∀ j, j < k → partB (zs.getD j 0) = true) := hg
    have HL : Hid (zs.length = 3) := h
    clear hg h
    by_cases hlt : k < 3
    · have hcx : w.cell? ⟨b, off + k, none⟩ = some (.int .i64 (zs.getD k 0)) := hc k hlt
      obtain ⟨z, hz⟩ : ∃ z, z = zs.getD k 0 := ⟨_, rfl⟩
      rw [← hz] at hcx
      have HZ : Hid (z = zs.getD k 0) := hz
      clear hz hc
      cases hp : partB z with
      | true =>
        have hb := partB_true hp
        have HP : Hid (partB z = true) := hp
        clear hp
        obtain ⟨hb1, hb2⟩ := hb
        go_wp2
        go_round
        case rel =>
          refine ⟨k + 1, by omega, by go_num, fun j hj => ?_⟩
          by_cases hjk : j < k
          · exact HG.out j hjk
          · rw [show j = k by omega, ← HZ.out]; exact HP.out
        case measure => simp [intOf]; omega
      | false =>
        have HV : Hid (vecFault zs = 3) := vecFault_bad HL.out k hlt (by rw [← HZ.out]; exact hp)
        have hb := partB_false hp
        clear hp
        rcases hb with hb | hb
        · go_wp2
          go_ret
          exact ⟨by rw [HV.out]; rfl, rfl⟩
        · have hb1 : -1000 ≤ z := by omega
          have hd : decide (z ≤ 1000) = false := by simp; omega
          go_wp2
          go_ret
          exact ⟨by rw [HV.out]; rfl, rfl⟩
    · have HV : Hid (vecFault zs = 0) := vecFault_ok HL.out (fun j hj => HG.out j (by omega))
      go_wp2
      go_ret
      exact ⟨by rw [HV.out]; rfl, rfl⟩

set_option maxHeartbeats 400000 in
theorem modelFault_len (ao : Option Addr) (n cap : Nat) (w : World) (h : n ≠ 3) :
    Calls Tryd.prog 37 #[.slice ao n cap] w fun e w' => e = .returned (.int .i64 1) ∧ w' = w := by
  have h3 : ((n : Int) != 3) = true := by rw [bne_iff_ne]; omega
  go_enter Tryd.func37, Tryd.ntmps37
  go_wp2
  go_ret
  exact ⟨rfl, rfl⟩

set_option maxHeartbeats 400000 in
theorem modelFault_three (b off cap : Nat) (zs : List Int) (w : World) (h : zs.length = 3) (hc : ∀ j, j < 3 → w.cell? ⟨b, off + j, none⟩ = some (.int .i64 (zs.getD j 0))) :
    Calls Tryd.prog 37 #[.slice (some ⟨b, off, none⟩) 3 cap] w fun e w' => e = .returned (.int .i64 (vecFault zs)) ∧ w' = w := by
  go_enter Tryd.func37, Tryd.ntmps37
  go_wp2
  go_loop [3] (fun i => ∃ k : Nat, k ≤ 3 ∧ i = .int .i64 k ∧ ∀ j, j < k → partB (zs.getD j 0) = true) (fun i => 3 - (intOf i).toNat)
  case atStart => exact ⟨0, Nat.zero_le _, rfl, fun j hj => by omega⟩
  case round =>
    obtain ⟨k, hk, rfl, hg⟩ := hrel
    have HG : Hid (∀ j, j < k → partB (zs.getD j 0) = true) := hg
    have HL : Hid (zs.length = 3) := h
    clear hg h
    by_cases hlt : k < 3
    · have hcx : w.cell? ⟨b, off + k, none⟩ = some (.int .i64 (zs.getD k 0)) := hc k hlt
      obtain ⟨z, hz⟩ : ∃ z, z = zs.getD k 0 := ⟨_, rfl⟩
      rw [← hz] at hcx
      have HZ : Hid (z = zs.getD k 0) := hz
      clear hz hc
      cases hp : partB z with
      | true =>
        have hb := partB_true hp
        have HP : Hid (partB z = true) := hp
        clear hp
        obtain ⟨hb1, hb2⟩ := hb
        go_wp2
        go_round
        case rel =>
          refine ⟨k + 1, by omega, by go_num, fun j hj => ?_⟩
          by_cases hjk : j < k
          · exact HG.out j hjk
          · rw [show j = k by omega, ← HZ.out]; exact HP.out
        case measure => simp [intOf]; omega
      | false =>
        have HV : Hid (vecFault zs = 3) := vecFault_bad HL.out k hlt (by rw [← HZ.out]; exact hp)
        have hb := partB_false hp
        clear hp
        rcases hb with hb | hb
        · go_wp2
          go_ret
          exact ⟨by rw [HV.out]; rfl, rfl⟩
        · have hb1 : -1000 ≤ z := by omega
          have hd : decide (z ≤ 1000) = false := by simp; omega
          go_wp2
          go_ret
          exact ⟨by rw [HV.out]; rfl, rfl⟩
    · have HV : Hid (vecFault zs = 0) := vecFault_ok HL.out (fun j hj => HG.out j (by omega))
      go_wp2
      go_ret
      exact ⟨by rw [HV.out]; rfl, rfl⟩


/-- VecFault of the program. -/
theorem implFault (v : Value) (zs : List Int) (w : World) (h : IsInts w v zs) :
    Calls Tryd.prog 74 #[v] w fun e w' => e = .returned (.int .i64 (vecFault zs)) ∧ w' = w := by
  obtain ⟨ao, cap, rfl, hwf, hc⟩ := h
  by_cases h3 : zs.length = 3
  · obtain ⟨b, off, rfl, hc1⟩ := hc (by omega)
    rw [h3] at hc1 ⊢
    exact implFault_three b off cap zs w h3 hc1
  · rw [vecFault_len h3]
    exact implFault_len ao zs.length cap w h3

/-- VecFault of the model. -/
theorem modelFault (v : Value) (zs : List Int) (w : World) (h : IsInts w v zs) :
    Calls Tryd.prog 37 #[v] w fun e w' => e = .returned (.int .i64 (vecFault zs)) ∧ w' = w := by
  obtain ⟨ao, cap, rfl, hwf, hc⟩ := h
  by_cases h3 : zs.length = 3
  · obtain ⟨b, off, rfl, hc1⟩ := hc (by omega)
    rw [h3] at hc1 ⊢
    exact modelFault_three b off cap zs w h3 hc1
  · rw [vecFault_len h3]
    exact modelFault_len ao zs.length cap w h3

end Go.Proofs.YtbogjepkdcknfaaDoor

namespace Go.Proofs.YtbogjepkdcknfaaDoor
open Go.RowKit

def kindB (k : Int) (n : Nat) : Bool := (decide (1 ≤ k) && decide (k ≤ 2)) && !(k == 2 && decide (0 < (n : Int)))
def boundB (i s q : Int) : Bool := (decide (1 ≤ i) && decide (i ≤ 999)) && ((decide (1 ≤ s) && decide (s ≤ 9)) && (decide (1 ≤ q) && decide (q ≤ 999)))
/-- What is wrong with a write. -/
def writeFault (k i : Int) (zs : List Int) (s q : Int) : Int :=
  if kindB k zs.length then (if boundB i s q then (if k = 1 then vecFault zs else 0) else 3) else 1

/-- The write that the pointer b points at. -/
def WriteAt (w : World) (b : Nat) (k i : Int) (v : Value) (s q : Int) : Prop :=
  w.cell? ⟨b, 0, none⟩ = some (.int .i64 k) ∧ w.cell? ⟨b, 1, none⟩ = some (.int .i64 i) ∧ w.cell? ⟨b, 2, none⟩ = some v ∧ w.cell? ⟨b, 3, none⟩ = some (.int .i64 s) ∧ w.cell? ⟨b, 4, none⟩ = some (.int .i64 q)
theorem WriteAt.later {w w' : World} {b : Nat} {k i s q : Int} {v : Value} (h : WriteAt w b k i v s q) (hb : Below w.heap.size w w') : WriteAt w' b k i v s q :=
  ⟨cell_keep hb h.1, cell_keep hb h.2.1, cell_keep hb h.2.2.1, cell_keep hb h.2.2.2.1, cell_keep hb h.2.2.2.2⟩

/-- The write at an element's place. -/
def WriteAtO (w : World) (b o : Nat) (k i : Int) (v : Value) (s q : Int) : Prop :=
  w.cell? ⟨b, o, none⟩ = some (.int .i64 k) ∧ w.cell? ⟨b, o + 1, none⟩ = some (.int .i64 i) ∧ w.cell? ⟨b, o + 2, none⟩ = some v ∧ w.cell? ⟨b, o + 3, none⟩ = some (.int .i64 s) ∧ w.cell? ⟨b, o + 4, none⟩ = some (.int .i64 q)

set_option maxRecDepth 100000 in
set_option maxHeartbeats 1000000 in
theorem l3FaultO (b o : Nat) (k i : Int) (v : Value) (s q : Int) (zs : List Int) (w : World) (hc : WriteAtO w b o k i v s q) (h : IsInts w v zs) :
    Calls Tryd.prog 20 #[.pointer (some ⟨b, o, none⟩)] w fun e w' => e = .returned (.int .i64 (writeFault k i zs s q)) ∧ w' = w := by
  have hv : ∃ a c, v = .slice a zs.length c := by obtain ⟨a, c, h, -⟩ := h; exact ⟨a, c, h⟩
  obtain ⟨av, cv, rfl⟩ := hv
  obtain ⟨c0, c1, c2, c3, c4⟩ := hc
  have HH := hide h
  clear h
  generalize hF : writeFault k i zs s q = F
  have HF := hide hF
  clear hF
  cases d1 : (decide (1 ≤ k) && decide (k ≤ 2)) with
  | false =>
    have hE : F = 1 := by rw [← unhide HF, writeFault, kindB, d1]; rfl
    subst hE
    go_enter Tryd.func20, Tryd.ntmps20
    go_wp2_with fail
    refine (inC k 1 2 _).mono ?_
    rintro e w1 ⟨rfl, rfl⟩
    rw [d1]
    go_wp2_with fail
    go_ret
    exact ⟨rfl, rfl⟩
  | true =>
    have hk : k = 1 ∨ k = 2 := by
      simp only [Bool.and_eq_true, decide_eq_true_eq] at d1
      omega
    clear d1
    rcases hk with rfl | rfl
    · have hK : kindB 1 zs.length = true := rfl
      cases dI : (decide (1 ≤ i) && decide (i ≤ 999)) with
      | false =>
        have hE : F = 3 := by rw [← unhide HF, writeFault, hK, if_pos rfl, boundB, dI]; rfl
        subst hE
        go_enter Tryd.func20, Tryd.ntmps20
        go_wp2_with fail
        refine (inC 1 1 2 _).mono ?_
        rintro e w1 ⟨rfl, rfl⟩
        go_wp2_with fail
        refine (idC i _).mono ?_
        rintro e w1 ⟨rfl, rfl⟩
        rw [dI]
        go_wp2_with fail
        go_ret
        exact ⟨rfl, rfl⟩
      | true =>
        cases dS : (decide (1 ≤ s) && decide (s ≤ 9)) with
        | false =>
          have hE : F = 3 := by rw [← unhide HF, writeFault, hK, if_pos rfl, boundB, dI, dS]; rfl
          subst hE
          go_enter Tryd.func20, Tryd.ntmps20
          go_wp2_with fail
          refine (inC 1 1 2 _).mono ?_
          rintro e w1 ⟨rfl, rfl⟩
          go_wp2_with fail
          refine (idC i _).mono ?_
          rintro e w1 ⟨rfl, rfl⟩
          rw [dI]
          go_wp2_with fail
          refine (sessionC s _).mono ?_
          rintro e w1 ⟨rfl, rfl⟩
          rw [dS]
          go_wp2_with fail
          go_ret
          exact ⟨rfl, rfl⟩
        | true =>
          cases dQ : (decide (1 ≤ q) && decide (q ≤ 999)) with
          | false =>
            have hE : F = 3 := by rw [← unhide HF, writeFault, hK, if_pos rfl, boundB, dI, dS, dQ]; rfl
            subst hE
            go_enter Tryd.func20, Tryd.ntmps20
            go_wp2_with fail
            refine (inC 1 1 2 _).mono ?_
            rintro e w1 ⟨rfl, rfl⟩
            go_wp2_with fail
            refine (idC i _).mono ?_
            rintro e w1 ⟨rfl, rfl⟩
            rw [dI]
            go_wp2_with fail
            refine (sessionC s _).mono ?_
            rintro e w1 ⟨rfl, rfl⟩
            rw [dS]
            go_wp2_with fail
            refine (inC q 1 999 _).mono ?_
            rintro e w1 ⟨rfl, rfl⟩
            rw [dQ]
            go_wp2_with fail
            go_ret
            exact ⟨rfl, rfl⟩
          | true =>
            have hE : F = vecFault zs := by rw [← unhide HF, writeFault, hK, if_pos rfl, boundB, dI, dS, dQ]; rfl
            subst hE
            go_enter Tryd.func20, Tryd.ntmps20
            go_wp2_with fail
            refine (inC 1 1 2 _).mono ?_
            rintro e w1 ⟨rfl, rfl⟩
            go_wp2_with fail
            refine (idC i _).mono ?_
            rintro e w1 ⟨rfl, rfl⟩
            rw [dI]
            go_wp2_with fail
            refine (sessionC s _).mono ?_
            rintro e w1 ⟨rfl, rfl⟩
            rw [dS]
            go_wp2_with fail
            refine (inC q 1 999 _).mono ?_
            rintro e w1 ⟨rfl, rfl⟩
            rw [dQ]
            go_wp2_with fail
            refine (modelFault _ zs _ (unhide HH)).mono ?_
            rintro e w1 ⟨rfl, rfl⟩
            go_wp2_with fail
            go_ret
            exact ⟨rfl, rfl⟩
    · by_cases hz : zs.length = 0
      · obtain rfl : zs = [] := List.eq_nil_of_length_eq_zero hz
        have hK : kindB 2 ([] : List Int).length = true := rfl
        simp only [List.length_nil] at c2 hK
        clear hz
        cases dI : (decide (1 ≤ i) && decide (i ≤ 999)) with
        | false =>
          have hE : F = 3 := by rw [← unhide HF, writeFault, show kindB 2 ([] : List Int).length = true from rfl, if_pos rfl, boundB, dI]; rfl
          subst hE
          go_enter Tryd.func20, Tryd.ntmps20
          go_wp2_with fail
          refine (inC 2 1 2 _).mono ?_
          rintro e w1 ⟨rfl, rfl⟩
          go_wp2_with fail
          refine (idC i _).mono ?_
          rintro e w1 ⟨rfl, rfl⟩
          rw [dI]
          go_wp2_with fail
          go_ret
          exact ⟨rfl, rfl⟩
        | true =>
          cases dS : (decide (1 ≤ s) && decide (s ≤ 9)) with
          | false =>
            have hE : F = 3 := by rw [← unhide HF, writeFault, show kindB 2 ([] : List Int).length = true from rfl, if_pos rfl, boundB, dI, dS]; rfl
            subst hE
            go_enter Tryd.func20, Tryd.ntmps20
            go_wp2_with fail
            refine (inC 2 1 2 _).mono ?_
            rintro e w1 ⟨rfl, rfl⟩
            go_wp2_with fail
            refine (idC i _).mono ?_
            rintro e w1 ⟨rfl, rfl⟩
            rw [dI]
            go_wp2_with fail
            refine (sessionC s _).mono ?_
            rintro e w1 ⟨rfl, rfl⟩
            rw [dS]
            go_wp2_with fail
            go_ret
            exact ⟨rfl, rfl⟩
          | true =>
            cases dQ : (decide (1 ≤ q) && decide (q ≤ 999)) with
            | false =>
              have hE : F = 3 := by rw [← unhide HF, writeFault, show kindB 2 ([] : List Int).length = true from rfl, if_pos rfl, boundB, dI, dS, dQ]; rfl
              subst hE
              go_enter Tryd.func20, Tryd.ntmps20
              go_wp2_with fail
              refine (inC 2 1 2 _).mono ?_
              rintro e w1 ⟨rfl, rfl⟩
              go_wp2_with fail
              refine (idC i _).mono ?_
              rintro e w1 ⟨rfl, rfl⟩
              rw [dI]
              go_wp2_with fail
              refine (sessionC s _).mono ?_
              rintro e w1 ⟨rfl, rfl⟩
              rw [dS]
              go_wp2_with fail
              refine (inC q 1 999 _).mono ?_
              rintro e w1 ⟨rfl, rfl⟩
              rw [dQ]
              go_wp2_with fail
              go_ret
              exact ⟨rfl, rfl⟩
            | true =>
              have hE : F = 0 := by rw [← unhide HF, writeFault, show kindB 2 ([] : List Int).length = true from rfl, if_pos rfl, boundB, dI, dS, dQ]; rfl
              subst hE
              go_enter Tryd.func20, Tryd.ntmps20
              go_wp2_with fail
              refine (inC 2 1 2 _).mono ?_
              rintro e w1 ⟨rfl, rfl⟩
              go_wp2_with fail
              refine (idC i _).mono ?_
              rintro e w1 ⟨rfl, rfl⟩
              rw [dI]
              go_wp2_with fail
              refine (sessionC s _).mono ?_
              rintro e w1 ⟨rfl, rfl⟩
              rw [dS]
              go_wp2_with fail
              refine (inC q 1 999 _).mono ?_
              rintro e w1 ⟨rfl, rfl⟩
              rw [dQ]
              go_wp2_with fail
              go_ret
              exact ⟨rfl, rfl⟩
      · have hE : F = 1 := by
          have : kindB 2 zs.length = false := by simp [kindB]; omega
          rw [← unhide HF, writeFault, this]; rfl
        subst hE
        obtain ⟨m, hm⟩ : ∃ m, zs.length = m + 1 := ⟨zs.length - 1, by omega⟩
        rw [hm] at c2
        clear hz hm
        go_enter Tryd.func20, Tryd.ntmps20
        go_wp2_with fail
        refine (inC 2 1 2 _).mono ?_
        rintro e w1 ⟨rfl, rfl⟩
        go_wp2_with fail
        go_ret
        exact ⟨rfl, rfl⟩

theorem l3Fault (b : Nat) (k i : Int) (v : Value) (s q : Int) (zs : List Int) (w : World) (hc : WriteAt w b k i v s q) (h : IsInts w v zs) :
    Calls Tryd.prog 20 #[.pointer (some ⟨b, 0, none⟩)] w fun e w' => e = .returned (.int .i64 (writeFault k i zs s q)) ∧ w' = w :=
  l3FaultO b 0 k i v s q zs w hc h

end Go.Proofs.YtbogjepkdcknfaaDoor

namespace Go.Proofs.YtbogjepkdcknfaaDoor
open Go.RowKit

/-- A write without a fault. -/
theorem writeFault_zero {k i s q : Int} {zs : List Int} (h : writeFault k i zs s q = 0) : (1 ≤ i ∧ i ≤ 999) ∧ (1 ≤ s ∧ s ≤ 9) ∧ (1 ≤ q ∧ q ≤ 999) ∧ ((k = 1 ∧ vecFault zs = 0) ∨ (k = 2 ∧ zs = [])) := by
  unfold writeFault at h
  split at h
  · next hk =>
    split at h
    · next hb =>
      simp only [kindB, Bool.and_eq_true, decide_eq_true_eq, Bool.not_eq_true', Bool.and_eq_false_iff] at hk
      simp only [boundB, Bool.and_eq_true, decide_eq_true_eq] at hb
      refine ⟨hb.1, hb.2.1, hb.2.2, ?_⟩
      by_cases h1 : k = 1
      · rw [if_pos h1] at h
        exact Or.inl ⟨h1, h⟩
      · have h2 : k = 2 := by omega
        refine Or.inr ⟨h2, ?_⟩
        rcases hk.2 with h3 | h3
        · simp [h2] at h3
        · simp at h3
          exact h3
    · omega
  · omega

end Go.Proofs.YtbogjepkdcknfaaDoor

namespace Go.Proofs.YtbogjepkdcknfaaDoor
open Go.RowKit

def wF (x : DWrite) : Int := writeFault x.kind x.id x.vec x.session x.seq
def applyI (xs : List DItem) (x : DWrite) : List DItem := if x.kind = 2 then dropI xs x.id else if roomB xs x.id then putI xs x.id x.vec else xs
def ofI (ws : List DWrite) : List DItem := ws.foldl applyI []
def wsFrom : List DWrite → Int
  | [] => 0
  | x :: xs => if wF x = 0 then wsFrom xs else wF x
def writesF (ws : List DWrite) : Int := if 200 < ws.length then 2 else wsFrom ws
def applyR (xs : List DItem) (x : DWrite) : DTableResult := if tableFault xs = 0 then (if wF x = 0 then ⟨0, applyI xs x⟩ else ⟨wF x, []⟩) else ⟨tableFault xs, []⟩
def tableOfR (ws : List DWrite) : DTableResult := if writesF ws = 0 then ⟨0, ofI ws⟩ else ⟨writesF ws, []⟩

theorem idB_of {z : Int} (h : 1 ≤ z ∧ z ≤ 999) : idB z = true := by simp only [idB, Bool.and_eq_true, decide_eq_true_eq]; exact h
theorem right_apply {xs : List DItem} (h : Right xs) {x : DWrite} (hx : wF x = 0) : Right (applyI xs x) := by
  obtain ⟨hi, -, -, hk⟩ := writeFault_zero hx
  unfold applyI
  split
  · exact right_drop h _
  · rename_i h2
    split
    · rename_i hr
      rcases hk with ⟨-, hv⟩ | ⟨hk, -⟩
      · exact right_put h (idB_of hi) hv (room_true hr)
      · exact absurd hk h2
    · exact h
theorem ofI_snoc (ws : List DWrite) (k : Nat) (h : k < ws.length) : ofI (ws.take (k + 1)) = applyI (ofI (ws.take k)) ws[k] := by
  rw [ofI, List.take_succ_eq_append_getElem h, List.foldl_append]
  rfl
theorem right_of_writes (ws : List DWrite) (h : ∀ x ∈ ws, wF x = 0) : Right (ofI ws) := by
  have : ∀ (ys : List DWrite) (xs : List DItem), Right xs → (∀ x ∈ ys, wF x = 0) → Right (ys.foldl applyI xs) := by
    intro ys
    induction ys with
    | nil => intro xs hx _; exact hx
    | cons y ys ih =>
      intro xs hx hy
      exact ih _ (right_apply hx (hy y (by simp))) fun x hx => hy x (List.mem_cons_of_mem _ hx)
  exact this ws [] right_nil h
theorem wsFrom_at (ws : List DWrite) (k : Nat) (h : k < ws.length) (hz : ∀ j (hj : j < ws.length), j < k → wF ws[j] = 0) (hn : wF ws[k] ≠ 0) : wsFrom ws = wF ws[k] := by
  induction ws generalizing k with
  | nil => simp at h
  | cons x xs ih =>
    match k with
    | 0 => rw [wsFrom, if_neg (by simpa using hn)]; rfl
    | k + 1 =>
      have h0 : wF x = 0 := hz 0 (by simp) (by omega)
      rw [wsFrom, if_pos h0]
      exact ih k (by simpa using h) (fun j hj hjk => hz (j + 1) (by simpa using hj) (by omega)) (by simpa using hn)
theorem wsFrom_all (ws : List DWrite) (hz : ∀ j (hj : j < ws.length), wF ws[j] = 0) : wsFrom ws = 0 := by
  induction ws with
  | nil => rfl
  | cons x xs ih =>
    have h0 : wF x = 0 := hz 0 (by simp)
    rw [wsFrom, if_pos h0]
    exact ih fun j hj => hz (j + 1) (by simpa using hj)
theorem wsFrom_zero {ws : List DWrite} (h : wsFrom ws = 0) : ∀ x ∈ ws, wF x = 0 := by
  induction ws with
  | nil => simp
  | cons x xs ih =>
    rw [wsFrom] at h
    by_cases h0 : wF x = 0
    · rw [if_pos h0] at h
      intro y hy
      rcases List.mem_cons.1 hy with rfl | hy
      · exact h0
      · exact ih h y hy
    · rw [if_neg h0] at h; exact absurd h h0
theorem writesF_zero {ws : List DWrite} (h : writesF ws = 0) : ws.length ≤ 200 ∧ ∀ x ∈ ws, wF x = 0 := by
  unfold writesF at h
  by_cases hn : 200 < ws.length
  · rw [if_pos hn] at h; cases h
  · rw [if_neg hn] at h; exact ⟨by omega, wsFrom_zero h⟩
theorem wF_vals (x : DWrite) : 0 ≤ wF x ∧ wF x ≤ 3 := by
  have hv := vecFault_vals x.vec
  unfold wF writeFault
  split
  · split
    · split
      · exact hv
      · decide
    · decide
  · decide
theorem wF_wf (x : DWrite) : (Lit.int .i64 (wF x)).wf = true := wf_of_bd (by have := wF_vals x; omega)
theorem wsFrom_vals (ws : List DWrite) : 0 ≤ wsFrom ws ∧ wsFrom ws ≤ 3 := by
  induction ws with
  | nil => decide
  | cons x xs ih =>
    rw [wsFrom]
    split
    · exact ih
    · exact wF_vals x
theorem writesF_wf (ws : List DWrite) : (Lit.int .i64 (writesF ws)).wf = true := by
  have := wsFrom_vals ws
  unfold writesF
  split
  · decide
  · exact wf_of_bd (by omega)

end Go.Proofs.YtbogjepkdcknfaaDoor

namespace Go.Proofs.YtbogjepkdcknfaaDoor
open Go.RowKit

def ofB (s : Int) (x : DWrite) : Bool := decide (x.session = s)
def sameB (s q : Int) (x : DWrite) : Bool := decide (x.session = s) && decide (x.seq = q)
/-- The greatest number of a session. -/
def lastI (ws : List DWrite) (s : Int) : Int := ws.foldl (fun n x => if x.session = s then max n x.seq else n) 0
/-- How many writes there are up to the first one of a session and number; 0: there is none. -/
def seenFrom (s q : Int) : Nat → List DWrite → Nat
  | _, [] => 0
  | n, x :: xs => if x.session = s ∧ x.seq = q then n + 1 else seenFrom s q (n + 1) xs
def seenI (ws : List DWrite) (s q : Int) : Nat := seenFrom s q 0 ws
/-- Of each session the numbers rise. -/
def onceB : List DWrite → List DWrite → Bool
  | _, [] => true
  | pre, x :: xs => decide (lastI pre x.session < x.seq) && onceB (pre ++ [x]) xs
def askedF (ws : List DWrite) (s : Int) : Int := if writesF ws = 0 then (if 1 ≤ s ∧ s ≤ 9 then 0 else 3) else writesF ws

theorem lastI_nil (s : Int) : lastI [] s = 0 := rfl
theorem lastI_snoc (ws : List DWrite) (x : DWrite) (s : Int) : lastI (ws ++ [x]) s = if x.session = s then max (lastI ws s) x.seq else lastI ws s := by
  simp [lastI]
theorem lastI_take (ws : List DWrite) (k : Nat) (h : k < ws.length) (s : Int) : lastI (ws.take (k + 1)) s = if ws[k].session = s then max (lastI (ws.take k) s) ws[k].seq else lastI (ws.take k) s := by
  rw [List.take_succ_eq_append_getElem h, lastI_snoc]
theorem seenFrom_snoc (s q : Int) (x : DWrite) : ∀ (ws : List DWrite) (n : Nat), seenFrom s q n (ws ++ [x]) = if seenFrom s q n ws = 0 then (if x.session = s ∧ x.seq = q then n + ws.length + 1 else 0) else seenFrom s q n ws
  | [], n => by simp [seenFrom]
  | y :: ws, n => by
    rw [List.cons_append, seenFrom, seenFrom]
    by_cases h : y.session = s ∧ y.seq = q
    · rw [if_pos h, if_pos h, if_neg (by omega)]
    · rw [if_neg h, if_neg h, seenFrom_snoc s q x ws (n + 1)]
      simp only [List.length_cons]
      rw [show n + 1 + ws.length + 1 = n + (ws.length + 1) + 1 by omega]
theorem seenI_snoc (ws : List DWrite) (x : DWrite) (s q : Int) : seenI (ws ++ [x]) s q = if seenI ws s q = 0 then (if x.session = s ∧ x.seq = q then ws.length + 1 else 0) else seenI ws s q := by
  have := seenFrom_snoc s q x ws 0
  rw [Nat.zero_add] at this
  exact this
theorem seenI_le (ws : List DWrite) (s q : Int) : seenI ws s q ≤ ws.length := by
  have : ∀ (ws : List DWrite) (n : Nat), seenFrom s q n ws ≤ n + ws.length := by
    intro ws
    induction ws with
    | nil => intro n; simp [seenFrom]
    | cons x xs ih =>
      intro n
      rw [seenFrom]
      split
      · simp only [List.length_cons]; omega
      · have := ih (n + 1)
        simp only [List.length_cons]
        omega
  have := this ws 0
  rw [Nat.zero_add] at this
  exact this
theorem seenFrom_at (s q : Int) : ∀ (ws : List DWrite) (n k : Nat) (h : k < ws.length), (∀ j (hj : j < ws.length), j < k → ¬ (ws[j].session = s ∧ ws[j].seq = q)) → (ws[k].session = s ∧ ws[k].seq = q) → seenFrom s q n ws = n + k + 1
  | [], _, _, h, _, _ => by simp at h
  | x :: xs, n, 0, _, _, hk => by rw [seenFrom, if_pos (by simpa using hk)]
  | x :: xs, n, k + 1, h, hn, hk => by
    have h0 := hn 0 (by simp) (by omega)
    rw [seenFrom, if_neg (by simpa using h0), seenFrom_at s q xs (n + 1) k (by simpa using h) (fun j hj hjk => by have := hn (j + 1) (by simpa using hj) (by omega); simpa using this) (by simpa using hk)]
    omega
theorem seenI_at {s q : Int} {ws : List DWrite} {k : Nat} (h : k < ws.length) (hn : ∀ j (hj : j < ws.length), j < k → ¬ (ws[j].session = s ∧ ws[j].seq = q)) (hk : ws[k].session = s ∧ ws[k].seq = q) : seenI ws s q = k + 1 := by
  have := seenFrom_at s q ws 0 k h hn hk
  rw [Nat.zero_add] at this
  exact this
theorem seenI_none {s q : Int} {ws : List DWrite} (hn : ∀ j (hj : j < ws.length), ¬ (ws[j].session = s ∧ ws[j].seq = q)) : seenI ws s q = 0 := by
  have : ∀ (ws : List DWrite) (n : Nat), (∀ j (hj : j < ws.length), ¬ (ws[j].session = s ∧ ws[j].seq = q)) → seenFrom s q n ws = 0 := by
    intro ws
    induction ws with
    | nil => intro n _; rfl
    | cons x xs ih =>
      intro n hn
      have h0 := hn 0 (by simp)
      rw [seenFrom, if_neg (by simpa using h0)]
      exact ih (n + 1) fun j hj => by have := hn (j + 1) (by simpa using hj); simpa using this
  exact this ws 0 hn
theorem seenI_zero {ws : List DWrite} {s q : Int} (h : seenI ws s q = 0) : ∀ x ∈ ws, ¬ (x.session = s ∧ x.seq = q) := by
  have : ∀ (ws : List DWrite) (n : Nat), seenFrom s q n ws = 0 → ∀ x ∈ ws, ¬ (x.session = s ∧ x.seq = q) := by
    intro ws
    induction ws with
    | nil => intro n _ x hx; simp at hx
    | cons y xs ih =>
      intro n h x hx
      rw [seenFrom] at h
      split at h
      · omega
      · rename_i hy
        rcases List.mem_cons.1 hx with rfl | hx
        · exact hy
        · exact ih (n + 1) h x hx
  exact this ws 0 h
theorem lastI_nonneg (ws : List DWrite) (s : Int) : 0 ≤ lastI ws s := by
  have : ∀ (ws : List DWrite) (n : Int), 0 ≤ n → 0 ≤ ws.foldl (fun n x => if x.session = s then max n x.seq else n) n := by
    intro ws
    induction ws with
    | nil => intro n h; exact h
    | cons x xs ih =>
      intro n h
      rw [List.foldl_cons]
      apply ih
      split <;> omega
  exact this ws 0 (Int.le_refl _)
theorem lastI_le (ws : List DWrite) (s : Int) (h : ∀ x ∈ ws, x.seq ≤ 999) : lastI ws s ≤ 999 := by
  have : ∀ (ws : List DWrite) (n : Int), n ≤ 999 → (∀ x ∈ ws, x.seq ≤ 999) → ws.foldl (fun n x => if x.session = s then max n x.seq else n) n ≤ 999 := by
    intro ws
    induction ws with
    | nil => intro n h _; exact h
    | cons x xs ih =>
      intro n h hx
      rw [List.foldl_cons]
      apply ih
      · have := hx x (by simp)
        split <;> omega
      · intro y hy; exact hx y (List.mem_cons_of_mem _ hy)
  exact this ws 0 (by omega) h
theorem onceB_at : ∀ (ws pre : List DWrite) (k : Nat) (h : k < ws.length), (ws[k]).seq ≤ lastI (pre ++ ws.take k) (ws[k]).session → onceB pre ws = false
  | [], _, _, h, _ => by simp at h
  | x :: xs, pre, 0, _, hk => by
    have : ¬ (lastI pre x.session < x.seq) := by simpa using hk
    simp [onceB, this]
  | x :: xs, pre, k + 1, h, hk => by
    rw [onceB, onceB_at xs (pre ++ [x]) k (by simpa using h) (by simpa using hk), Bool.and_false]
theorem onceB_all : ∀ (ws pre : List DWrite), (∀ k (h : k < ws.length), lastI (pre ++ ws.take k) (ws[k]).session < (ws[k]).seq) → onceB pre ws = true
  | [], _, _ => rfl
  | x :: xs, pre, h => by
    have h0 := h 0 (by simp)
    rw [onceB, onceB_all xs (pre ++ [x]) fun k hk => by have := h (k + 1) (by simpa using hk); simpa using this]
    simpa using h0
def onceR (ws : List DWrite) : Bool := decide (writesF ws = 0) && onceB [] ws
theorem wF_seq {x : DWrite} (h : wF x = 0) : 1 ≤ x.session ∧ x.session ≤ 9 ∧ 1 ≤ x.seq ∧ x.seq ≤ 999 := by
  obtain ⟨-, h1, h2, -⟩ := writeFault_zero h
  exact ⟨h1.1, h1.2, h2.1, h2.2⟩

end Go.Proofs.YtbogjepkdcknfaaDoor

namespace Go.Proofs.YtbogjepkdcknfaaDoor
open Go.RowKit Go.Maps

def tick (s q : Int) : Value := .agg #[.int .i64 s, .int .i64 q]
theorem tickLaid : laidOutB Tryd.prog = true := by kernel_rfl
theorem tickRow : (97 : TypeId) < Tryd.prog.types.size := of_decide_eq_true (by kernel_rfl)
theorem tickWide : (match Tryd.prog.underlying 97 with | some (.array _ _) | some (.struct _) => true | _ => false) = true := by kernel_rfl
set_option maxRecDepth 100000 in
theorem tickKeyed : Keyed Tryd.prog 97 := Keyed.of_law (deep_law_laid tickLaid (m := 2) (by omega) tickRow (by kernel_rfl) tickWide)
set_option maxRecDepth 100000 in
theorem tickKey {s q : Int} (hs : (Lit.int .i64 s).wf = true) (hq : (Lit.int .i64 q).wf = true) : keyOf Tryd.prog 97 (tick s q) = some (.string (keyBytes [.int .i64 s, .int .i64 q])) := by
  have hk : Tryd.prog.keyType 97 = true := by kernel_rfl
  have hc : Tryd.prog.cellsOf 97 = 2 := by kernel_rfl
  have hc1 : Tryd.prog.cellsOf 2 = 1 := by kernel_rfl
  have hf : (tick s q).formed Tryd.prog 97 = true := by simp [tick, Value.formed, Tryd.underlying97, hc]
  obtain ⟨m, hm⟩ : ∃ m, Tryd.prog.types.size = m + 1 := ⟨_, (Nat.succ_pred_eq_of_pos (Nat.lt_of_le_of_lt (Nat.zero_le _) tickRow)).symm⟩
  unfold keyOf
  simp only [Tryd.underlying97]
  rw [if_pos (by rw [hk, hf]; rfl), hm]
  unfold Program.keyLits
  simp only [Tryd.underlying97, tick, Value.cells]
  simp [hc, hc1, Program.keyLits, Tryd.underlying2, hs, hq]
theorem tickZero (w : World) : (zeroValue 2).run Tryd.prog w = .ok (.int .i64 0) w := by kernel_rfl

/-- Block b is a map of at most n entries that tells f. -/
def Ticks (w : World) (b n : Nat) (f : Int → Int → Nat) : Prop := ∃ D : DataW Unit, w.ownsMap Tryd.prog 97 (plainElem Tryd.prog 2) b n D ∧
  ∀ s q, (Lit.int .i64 s).wf = true → (Lit.int .i64 q).wf = true → Maps.has D (.string (keyBytes [.int .i64 s, .int .i64 q])) = decide (f s q ≠ 0) ∧ D.atKey (.string (keyBytes [.int .i64 s, .int .i64 q])) (.lit (.int .i64 0)) = .lit (.int .i64 (f s q))
theorem Ticks.ext {S : Nat → Prop} {w w' : World} {b n : Nat} {f : Int → Int → Nat} (h : Ticks w b n f) (e : Ext S w w') (hb : ¬ S b) : Ticks w' b n f := by
  obtain ⟨D, h, r⟩ := h
  have hlt := World.ownsMap.lt h
  obtain ⟨es, clock, hb', r'⟩ := h
  exact ⟨D, ⟨es, clock, (e.block b hlt hb).trans hb', r'⟩, r⟩
theorem Ticks.lt {w : World} {b n : Nat} {f : Int → Int → Nat} (h : Ticks w b n f) : b < w.heap.size := by
  obtain ⟨D, h, -⟩ := h
  exact World.ownsMap.lt h
theorem Ticks.mono {w : World} {b n n' : Nat} {f : Int → Int → Nat} (h : Ticks w b n f) (hn : n ≤ n') : Ticks w b n' f := by
  obtain ⟨D, h, r⟩ := h
  exact ⟨D, World.ownsMap.mono h hn, r⟩
theorem Ticks.congr {w : World} {b n : Nat} {f g : Int → Int → Nat} (h : Ticks w b n f) (e : ∀ s q, f s q = g s q) : Ticks w b n g := by
  obtain ⟨D, h, r⟩ := h
  exact ⟨D, h, fun s q hs hq => by rw [← e]; exact r s q hs hq⟩
theorem Ticks.look {w : World} {b n : Nat} {f : Int → Int → Nat} (h : Ticks w b n f) {s q : Int} (hs : (Lit.int .i64 s).wf = true) (hq : (Lit.int .i64 q).wf = true) :
    (Instr.lookup 92 (.map (some b)) (tick s q) true).run Tryd.prog w = .ok (.tuple #[.int .i64 (f s q), .bool (decide (f s q ≠ 0))]) w := by
  obtain ⟨D, h, r⟩ := h
  obtain ⟨r1, r2⟩ := r s q hs hq
  obtain ⟨v, ps, hrun, hv⟩ := World.ownsMap.look_ok h tickKeyed Tryd.underlying92 (tickZero w) (plainElem_int Tryd.underlying2 (by decide)) (tickKey hs hq)
  rw [r2] at hv
  obtain ⟨c, rfl, hc, -⟩ := plainElem_int_inv Tryd.underlying2 hv
  rw [r1] at hrun
  simp only [Prod.mk.injEq, DataW.lit.injEq, Lit.int.injEq, true_and] at hc
  rw [hc.1]
  exact hrun
theorem Ticks.put {w : World} {b n : Nat} {f : Int → Int → Nat} (h : Ticks w b n f) (hn : n < 100000) {s q : Int} (hs : (Lit.int .i64 s).wf = true) (hq : (Lit.int .i64 q).wf = true) {m : Nat} (hm : m ≠ 0) (hw : (Lit.int .i64 (m : Int)).wf = true) :
    ∃ w', (Instr.mapUpdate 92 (.map (some b)) (tick s q) (.int .i64 m)).run Tryd.prog w = .ok () w' ∧ Ticks w' b (n + 1) (fun s' q' => if s' = s ∧ q' = q then m else f s' q') ∧ Ext (fun c => c = b) w w' := by
  obtain ⟨D, h, r⟩ := h
  obtain ⟨w', h1, h2, h3⟩ := World.ownsMap.store h tickKeyed Tryd.underlying92 (by unfold maxLen; omega) (tickKey hs hq) (plainElem_int Tryd.underlying2 hw)
  refine ⟨w', h1, ⟨_, h2, fun s' q' hs' hq' => ?_⟩, ?_⟩
  · have hk : WideAt.IsKeyLit (.string (keyBytes [.int .i64 s, .int .i64 q])) := trivial
    by_cases e : s' = s ∧ q' = q
    · obtain ⟨rfl, rfl⟩ := e
      rw [Maps.has_put_same (World.ownsMap.isMap h) hk, Maps.atKey_put_same (World.ownsMap.isMap h) hk]
      simp [hm]
    · have hne : Lit.string (keyBytes [.int .i64 s', .int .i64 q']) ≠ Lit.string (keyBytes [.int .i64 s, .int .i64 q]) := by
        intro e2
        have k1 := tickKey hs' hq'
        rw [e2] at k1
        have k2 := tickKeyed.inj k1 (tickKey hs hq)
        simp only [tick, Value.agg.injEq, Array.mk.injEq, List.cons.injEq, Value.int.injEq, true_and, and_true] at k2
        exact e k2
      rw [Maps.has_put_other hne, Maps.atKey_put_other hne]
      simp only [if_neg e]
      exact r s' q' hs' hq'
  · have g := h3.grown
    obtain ⟨es, clock, es', clock', hb, rfl⟩ := h3
    exact ⟨rfl, rfl, rfl, by simp [ChangeMaps.setBlock], fun k hk hn => g.block k hk (fun e => hn (by simpa using e))⟩
theorem ticks_new (w : World) : Ticks (w.alloc (.map #[] 0)) w.heap.size 0 (fun _ _ => 0) := ⟨.map [], World.ownsMap_made w _ _ _, fun _ _ _ _ => ⟨rfl, rfl⟩⟩

end Go.Proofs.YtbogjepkdcknfaaDoor

namespace Go.Proofs.YtbogjepkdcknfaaDoor
open Go.RowKit

def tcells (v : Value) (mb : Nat) (f : Int → Int) : Array Value := #[v, .map (some mb), .int .i64 (f 0), .int .i64 (f 1), .int .i64 (f 2), .int .i64 (f 3), .int .i64 (f 4), .int .i64 (f 5), .int .i64 (f 6), .int .i64 (f 7), .int .i64 (f 8), .int .i64 (f 9)]
theorem tcells_at (v : Value) (mb : Nat) (f : Int → Int) (i : Nat) (h : i < 10) : (tcells v mb f)[2 + i]? = some (.int .i64 (f i)) := by
  match i, h with
  | 0, _ => rfl
  | 1, _ => rfl
  | 2, _ => rfl
  | 3, _ => rfl
  | 4, _ => rfl
  | 5, _ => rfl
  | 6, _ => rfl
  | 7, _ => rfl
  | 8, _ => rfl
  | 9, _ => rfl
theorem tcells_set (v : Value) (mb : Nat) (f : Int → Int) (i : Nat) (h : i < 10) (z : Int) : (tcells v mb f).setIfInBounds (2 + i) (.int .i64 z) = tcells v mb (fun j => if j = i then z else f j) := by
  match i, h with
  | 0, _ => rfl
  | 1, _ => rfl
  | 2, _ => rfl
  | 3, _ => rfl
  | 4, _ => rfl
  | 5, _ => rfl
  | 6, _ => rfl
  | 7, _ => rfl
  | 8, _ => rfl
  | 9, _ => rfl
theorem tcells_congr {v : Value} {mb : Nat} {f g : Int → Int} (h : ∀ j, f j = g j) : tcells v mb f = tcells v mb g := by rw [funext h]

theorem frozen_of_block {w w' : World} {b : Nat} (h : w'.heap[b]? = w.heap[b]?) (o : Nat) : w'.frozen? ⟨b, o, none⟩ = w.frozen? ⟨b, o, none⟩ := by
  unfold World.frozen?
  simp only [h]
/-- Block p is a story of the writes ws, with the last numbers f and the places g; its map is block mb; all that it holds lies below N. -/
structure Told0 (w : World) (p mb N n : Nat) (ws : List DWrite) (f : Int → Int) (g : Int → Int → Nat) (v : Value) (rows : List (List Value)) (bls : List (List Nat)) : Prop where
  lt : mb < p
  box : Box 0 (tcells v mb f) 95 w p
  grow : Grow Lay.tWrite w (p + 1) 37 v rows ws bls
  sub : ∀ b ∈ bls.flatten, p + 1 ≤ b ∧ ∀ o, w.frozen? ⟨b, o, none⟩ = false
  nd : bls.flatten.Nodup
  seen : Ticks w mb n g
  hiB : ∀ b ∈ bls.flatten, b < N
  hiV : ∀ b, v.ownBlock = some b → b < N
  pN : p < N
namespace Told0
variable {w w' : World} {p mb N n : Nat} {ws : List DWrite} {f : Int → Int} {g : Int → Int → Nat} {v : Value} {rows : List (List Value)} {bls : List (List Nat)}
theorem kept (h : Told0 w p mb N n ws f g v rows bls) {S : Nat → Prop} (e : Ext S w w') (hS : ∀ c, mb ≤ c → c < w.heap.size → ¬ S c) : Told0 w' p mb N n ws f g v rows bls := by
  have hs : ∀ b ∈ bls.flatten, w'.heap[b]? = w.heap[b]? := fun b hb => e.block b (h.grow.sub_lt b hb) (hS b (by have := (h.sub b hb).1; have := h.lt; omega) (h.grow.sub_lt b hb))
  refine ⟨h.lt, h.box.ext e (hS p (Nat.le_of_lt h.lt) h.box.lt), h.grow.kept ?_ hs, fun b hm => ⟨(h.sub b hm).1, fun o => (frozen_of_block (hs b hm) o).trans ((h.sub b hm).2 o)⟩, h.nd, h.seen.ext e (hS mb (Nat.le_refl _) h.seen.lt), h.hiB, h.hiV, h.pN⟩
  obtain ⟨h1, h2⟩ := h.grow.own
  refine ⟨h1, ?_⟩
  rcases h2 with h2 | ⟨gb, cap, cur, hv, hg, hh, r⟩
  · exact Or.inl h2
  · exact Or.inr ⟨gb, cap, cur, hv, hg, (e.block gb (lt_of_block hh) (hS gb (by have := h.lt; omega) (lt_of_block hh))).trans hh, r⟩
theorem later (h : Told0 w p mb N n ws f g v rows bls) (hb : Below w.heap.size w w') : Told0 w' p mb N n ws f g v rows bls := h.kept (ext_of_below hb (fun _ => False)) (fun _ _ _ e => e)
theorem raise (h : Told0 w p mb N n ws f g v rows bls) {N' : Nat} (hN : N ≤ N') : Told0 w p mb N' n ws f g v rows bls :=
  ⟨h.lt, h.box, h.grow, h.sub, h.nd, h.seen, fun b hb => Nat.lt_of_lt_of_le (h.hiB b hb) hN, fun b hb => Nat.lt_of_lt_of_le (h.hiV b hb) hN, Nat.lt_of_lt_of_le h.pN hN⟩
theorem top (h : Told0 w p mb N n ws f g v rows bls) : Told0 w p mb w.heap.size n ws f g v rows bls :=
  ⟨h.lt, h.box, h.grow, h.sub, h.nd, h.seen, fun b hb => h.grow.sub_lt b hb, fun b hb => (h.grow.own.lt b hb).2, h.box.lt⟩
theorem own (h : Told0 w p mb N n ws f g v rows bls) (hn : ws.length ≤ 9223372036854775807) : (Lay.sl Lay.tWrite).OwnIn w [v] ws (p + 1) w.heap.size := h.grow.toOwn hn h.nd h.sub
/-- The slice has grown, and stands in its cell. -/
theorem added (h : Told0 w p mb N n ws f g v rows bls) {v' : Value} {rows' : List (List Value)} {ws' : List DWrite} {bls' : List (List Nat)} (hG : Grow Lay.tWrite w' (p + 1) 37 v' rows' ws' bls') (hE : Ext (fun q => v.ownBlock = some q) w w') (hs : ∀ b ∈ bls'.flatten, p + 1 ≤ b ∧ ∀ o, w'.frozen? ⟨b, o, none⟩ = false) (hnd : bls'.flatten.Nodup) :
    Told0 (w'.setCell ⟨p, 0, none⟩ v') p mb (w'.setCell ⟨p, 0, none⟩ v').heap.size n ws' f g v' rows' bls' := by
  have hb : Box 0 (tcells v mb f) 95 w' p := h.box.ext hE (fun e => by have := (h.grow.own.lt p e).1; omega)
  have hb2 : Box 0 (tcells v' mb f) 95 (w'.setCell ⟨p, 0, none⟩ v') p := hb.set 0 v'
  have e2 : Ext (fun c => c = p) w' (w'.setCell ⟨p, 0, none⟩ v') := (Ext.refl (fun c => c = p) w').setCell ⟨p, 0, none⟩ v' rfl
  have hk : ∀ b ∈ bls'.flatten, (w'.setCell ⟨p, 0, none⟩ v').heap[b]? = w'.heap[b]? := fun b hb => e2.block b (hG.sub_lt b hb) (by have := (hs b hb).1; omega)
  have hG2 : Grow Lay.tWrite (w'.setCell ⟨p, 0, none⟩ v') (p + 1) 37 v' rows' ws' bls' := hG.kept (own_setC (a := ⟨p, 0, none⟩) hG.own (by simp) v') hk
  refine ⟨h.lt, hb2, hG2, fun b hm => ⟨(hs b hm).1, fun o => (frozen_of_block (hk b hm) o).trans ((hs b hm).2 o)⟩, hnd, ?_, fun b hm => hG2.sub_lt b hm, fun b hm => (hG2.own.lt b hm).2, hb2.lt⟩
  exact (h.seen.ext hE (fun e => by have := (h.grow.own.lt mb e).1; have := h.lt; omega)).ext e2 (by have := h.lt; omega)
/-- The map has turned. -/
theorem marked (h : Told0 w p mb N n ws f g v rows bls) {n' : Nat} {g' : Int → Int → Nat} (hE : Ext (fun c => c = mb) w w') (hT : Ticks w' mb n' g') : Told0 w' p mb N n' ws f g' v rows bls := by
  have hs : ∀ b ∈ bls.flatten, w'.heap[b]? = w.heap[b]? := fun b hb => hE.block b (h.grow.sub_lt b hb) (by have := (h.sub b hb).1; have := h.lt; omega)
  refine ⟨h.lt, h.box.ext hE (by have := h.lt; omega), h.grow.kept ?_ hs, fun b hm => ⟨(h.sub b hm).1, fun o => (frozen_of_block (hs b hm) o).trans ((h.sub b hm).2 o)⟩, h.nd, hT, h.hiB, h.hiV, h.pN⟩
  obtain ⟨h1, h2⟩ := h.grow.own
  refine ⟨h1, ?_⟩
  rcases h2 with h2 | ⟨gb, cap, cur, hv, hg, hh, r⟩
  · exact Or.inl h2
  · exact Or.inr ⟨gb, cap, cur, hv, hg, (hE.block gb (lt_of_block hh) (by have := h.lt; omega)).trans hh, r⟩
/-- A last number is another. -/
theorem lasted (h : Told0 w p mb N n ws f g v rows bls) (i : Nat) (hi : i < 10) (z : Int) : Told0 (w.setCell ⟨p, 2 + i, none⟩ (.int .i64 z)) p mb N n ws (fun j => if j = i then z else f j) g v rows bls := by
  have e2 : Ext (fun c => c = p) w (w.setCell ⟨p, 2 + i, none⟩ (.int .i64 z)) := (Ext.refl (fun c => c = p) w).setCell ⟨p, 2 + i, none⟩ _ rfl
  have hs : ∀ b ∈ bls.flatten, (w.setCell ⟨p, 2 + i, none⟩ (.int .i64 z)).heap[b]? = w.heap[b]? := fun b hb => e2.block b (h.grow.sub_lt b hb) (by have := (h.sub b hb).1; omega)
  refine ⟨h.lt, ?_, h.grow.kept (own_setC (a := ⟨p, 2 + i, none⟩) h.grow.own (by simp) _) hs, fun b hm => ⟨(h.sub b hm).1, fun o => (frozen_of_block (hs b hm) o).trans ((h.sub b hm).2 o)⟩, h.nd, h.seen.ext e2 (by have := h.lt; omega), h.hiB, h.hiV, h.pN⟩
  rw [← tcells_set v mb f i hi z]
  exact h.box.set (2 + i) _
theorem same (h : Told0 w p mb N n ws f g v rows bls) {n' : Nat} {f' : Int → Int} {g' : Int → Int → Nat} (hn : n ≤ n') (hf : ∀ j, f j = f' j) (hg : ∀ s q, g s q = g' s q) : Told0 w p mb N n' ws f' g' v rows bls := by
  rw [funext hf] at h
  exact ⟨h.lt, h.box, h.grow, h.sub, h.nd, (h.seen.mono hn).congr hg, h.hiB, h.hiV, h.pN⟩
end Told0
/-- Block p is a story of the writes ws. -/
abbrev Told (w : World) (p mb N : Nat) (ws : List DWrite) (v : Value) (rows : List (List Value)) (bls : List (List Nat)) : Prop := Told0 w p mb N ws.length ws (lastI ws) (fun s q => seenI ws s q) v rows bls
theorem told_new (w : World) : Told ((w.alloc (.map #[] 0)).alloc (.cells (tcells (.slice none 0 0) w.heap.size (lastI [])) 95)) (w.heap.size + 1) w.heap.size ((w.alloc (.map #[] 0)).alloc (.cells (tcells (.slice none 0 0) w.heap.size (lastI [])) 95)).heap.size [] (.slice none 0 0) [] [] := by
  have e : (w.alloc (.map #[] 0)).heap.size = w.heap.size + 1 := by simp
  have b : Box 0 (tcells (.slice none 0 0) w.heap.size (lastI [])) 95 ((w.alloc (.map #[] 0)).alloc (.cells (tcells (.slice none 0 0) w.heap.size (lastI [])) 95)) (w.alloc (.map #[] 0)).heap.size := newBox (Nat.zero_le _)
  rw [e] at b
  refine ⟨by omega, b, Grow.nil ⟨by simp, Or.inl ⟨rfl, rfl⟩⟩, by simp, by simp, ?_, by simp, by simp [Value.ownBlock], b.lt⟩
  exact (ticks_new w).ext (ext_of_below ((Below.refl _ _).alloc (Nat.le_refl _) _) (fun _ => False)) (fun h => h)

end Go.Proofs.YtbogjepkdcknfaaDoor

namespace Go.Proofs.YtbogjepkdcknfaaDoor
open Go.RowKit

/-- impl.errFull as it is laid. -/
def ErrF (ea : Addr) (w : World) : Prop := w.cell? ⟨0, 0, none⟩ = some (.iface 149 (.pointer (some ea)))
def refV (ea : Addr) (ws : List DWrite) (x : DWrite) : Value := if x.seq < lastI ws x.session then .iface 117 (.agg #[.int .i64 x.seq, .int .i64 (lastI ws x.session)]) else if 200 ≤ ws.length then .iface 149 (.pointer (some ea)) else .nilIface

set_option maxRecDepth 100000 in
set_option maxHeartbeats 4000000 in
theorem refusalC {w : World} {p mb N : Nat} {ws : List DWrite} {v : Value} {rows : List (List Value)} {bls : List (List Nat)} (h : Told w p mb N ws v rows bls) (x : DWrite) (a2 : Option Addr) (d2 : Nat) (hf : wF x = 0) (ea : Addr) (he : ErrF ea w) :
    Calls Tryd.prog 55 #[.pointer (some ⟨p, 0, none⟩), .agg #[.int .i64 x.kind, .int .i64 x.id, .slice a2 x.vec.length d2, .int .i64 x.session, .int .i64 x.seq]] w fun e w' => e = .returned (refV ea ws x) ∧ Below w.heap.size w w' := by
  have nb : Below w.heap.size w (w.alloc (.cells #[.int .i64 x.kind, .int .i64 x.id, .slice a2 x.vec.length d2, .int .i64 x.session, .int .i64 x.seq] 37)) := (Below.refl _ _).alloc (Nat.le_refl _) _
  have hQ0 : Box 0 #[.int .i64 x.kind, .int .i64 x.id, .slice a2 x.vec.length d2, .int .i64 x.session, .int .i64 x.seq] 37 (w.alloc (.cells #[.int .i64 x.kind, .int .i64 x.id, .slice a2 x.vec.length d2, .int .i64 x.session, .int .i64 x.seq] 37)) w.heap.size := newBox (Nat.zero_le _)
  have hT0 := h.later nb
  have hE0 := (nb.cell (p := ⟨0, 0, none⟩) (World.block_lt_of_cell? _ _ he)).trans he
  have HB := hide nb.drew
  obtain ⟨b1, b9, q1, q9⟩ := wF_seq hf
  have hs9 : x.session.toNat < 10 := by omega
  have hsi : (x.session.toNat : Int) = x.session := by omega
  have i1 : (0 : Int) ≤ x.session := by omega
  have i2 : x.session < 10 := by omega
  have hpw := h.box.lt
  have hvf : ∃ ao cap, v = .slice ao ws.length cap := by
    rcases h.grow.form with ⟨rfl, rfl⟩ | ⟨g, cap, rfl, -⟩
    · exact ⟨_, _, rfl⟩
    · exact ⟨_, _, rfl⟩
  obtain ⟨ao, cap, rfl⟩ := hvf
  clear nb h he hf
  go_enter Tryd.func55, Tryd.ntmps55
  go_wp2_with fail
  generalize w.alloc (.cells #[.int .i64 x.kind, .int .i64 x.id, .slice a2 x.vec.length d2, .int .i64 x.session, .int .i64 x.seq] 37) = W0 at *
  refine wp_region_noPanic ?_
  refine wp_region_held_drew (S := fun w' => w' = W0.drew) (by kernel_rfl) rfl (fun hHeld => ?_)
  refine wpAnyH_take (i := 0) (oi := { dst := some 6, op := Go.Op.move (Go.Operand.tmp 0), type := 84, pos := "l05_session.go:85", after := #[], guard := none }) (v := ?vr0) rfl (by kernel_rfl) (by kernel_rfl) (by kernel_rfl) (fun _ _ _ h => h) (Or.inl ⟨by rfl, ?hr0⟩) hHeld ?rr0
  case hr0 =>
    intro wS hSw
    (try dsimp only at hSw)
    go_simp
    try with_reducible rfl
  case rr0 =>
  simp only [Act.put, List.setIfInBounds_toArray, List.set_cons_zero, List.set_cons_succ]
  refine wpAnyH_take (i := 1) (oi := { dst := some 7, op := Go.Op.fieldAddr 37 (Go.Operand.tmp 3) 3, type := 0, pos := "l05_session.go:85", after := #[], guard := none }) (v := ?vr1) rfl (by kernel_rfl) (by kernel_rfl) (by kernel_rfl) (fun _ _ _ h => h) (Or.inl ⟨by rfl, ?hr1⟩) hHeld ?rr1
  case hr1 =>
    intro wS hSw
    (try dsimp only at hSw)
    go_simp
    try with_reducible rfl
  case rr1 =>
  simp only [Act.put, List.setIfInBounds_toArray, List.set_cons_zero, List.set_cons_succ]
  refine wpAnyH_take (i := 2) (oi := { dst := some 8, op := Go.Op.load 2 (Go.Operand.tmp 7), type := 2, pos := "l05_session.go:85", after := #[{ on := 1, ground := Go.Ground.data }], guard := none }) (v := ?vr2) rfl (by kernel_rfl) (by kernel_rfl) (by kernel_rfl) (fun _ _ _ h => h) (Or.inl ⟨by rfl, ?hr2⟩) hHeld ?rr2
  case hr2 =>
    intro wS hSw
    have y3 : wS.cell? ⟨w.heap.size, 3, none⟩ = some (.int .i64 x.session) := by rw [hSw]; exact hQ0.at 3 _ rfl
    have zl : wS.cell? ⟨p, 2 + x.session.toNat, none⟩ = some (.int .i64 (lastI ws x.session)) := by
      have := hT0.box.at _ _ (tcells_at _ mb (lastI ws) x.session.toNat hs9)
      rw [hsi] at this
      rw [hSw]; exact this
    clear hSw
    (try dsimp only at hSw)
    go_simp
    try with_reducible rfl
  case rr2 =>
  simp only [Act.put, List.setIfInBounds_toArray, List.set_cons_zero, List.set_cons_succ]
  refine wpAnyH_take (i := 3) (oi := { dst := some 9, op := Go.Op.nilCheck (Go.Operand.tmp 6), type := 0, pos := "l05_session.go:85", after := #[{ on := 0, ground := Go.Ground.data }], guard := none }) (v := ?vr3) rfl (by kernel_rfl) (by kernel_rfl) (by kernel_rfl) (fun _ _ _ h => h) (Or.inl ⟨by rfl, ?hr3⟩) hHeld ?rr3
  case hr3 =>
    intro wS hSw
    (try dsimp only at hSw)
    go_simp
    try with_reducible rfl
  case rr3 =>
  simp only [Act.put, List.setIfInBounds_toArray, List.set_cons_zero, List.set_cons_succ]
  refine wpAnyH_take (i := 4) (oi := { dst := some 10, op := Go.Op.fieldAddr 95 (Go.Operand.tmp 9) 2, type := 0, pos := "l05_session.go:85", after := #[{ on := 3, ground := Go.Ground.data }], guard := none }) (v := ?vr4) rfl (by kernel_rfl) (by kernel_rfl) (by kernel_rfl) (fun _ _ _ h => h) (Or.inl ⟨by rfl, ?hr4⟩) hHeld ?rr4
  case hr4 =>
    intro wS hSw
    (try dsimp only at hSw)
    go_simp
    try with_reducible rfl
  case rr4 =>
  simp only [Act.put, List.setIfInBounds_toArray, List.set_cons_zero, List.set_cons_succ]
  refine wpAnyH_take (i := 5) (oi := { dst := some 11, op := Go.Op.indexAddr 93 (Go.Operand.tmp 10) (Go.Operand.tmp 8), type := 0, pos := "l05_session.go:85", after := #[{ on := 4, ground := Go.Ground.data }, { on := 2, ground := Go.Ground.data }], guard := none }) (v := ?vr5) rfl (by kernel_rfl) (by kernel_rfl) (by kernel_rfl) (fun _ _ _ h => h) (Or.inl ⟨by rfl, ?hr5⟩) hHeld ?rr5
  case hr5 =>
    intro wS hSw
    (try dsimp only at hSw)
    go_simp
    try with_reducible rfl
  case rr5 =>
  simp only [Act.put, List.setIfInBounds_toArray, List.set_cons_zero, List.set_cons_succ]
  refine wpAnyH_take (i := 6) (oi := { dst := some 12, op := Go.Op.load 2 (Go.Operand.tmp 11), type := 2, pos := "l05_session.go:85", after := #[{ on := 5, ground := Go.Ground.data }], guard := none }) (v := ?vr6) rfl (by kernel_rfl) (by kernel_rfl) (by kernel_rfl) (fun _ _ _ h => h) (Or.inl ⟨by rfl, ?hr6⟩) hHeld ?rr6
  case hr6 =>
    intro wS hSw
    have y3 : wS.cell? ⟨w.heap.size, 3, none⟩ = some (.int .i64 x.session) := by rw [hSw]; exact hQ0.at 3 _ rfl
    have zl : wS.cell? ⟨p, 2 + x.session.toNat, none⟩ = some (.int .i64 (lastI ws x.session)) := by
      have := hT0.box.at _ _ (tcells_at _ mb (lastI ws) x.session.toNat hs9)
      rw [hsi] at this
      rw [hSw]; exact this
    clear hSw
    (try dsimp only at hSw)
    go_simp
    try with_reducible rfl
  case rr6 =>
  simp only [Act.put, List.setIfInBounds_toArray, List.set_cons_zero, List.set_cons_succ]
  refine wpAnyH_take (i := 7) (oi := { dst := some 5, op := Go.Op.assign (Go.Operand.tmp 12), type := 2, pos := "l05_session.go:85", after := #[{ on := 6, ground := Go.Ground.data }, { on := 0, ground := Go.Ground.phase }, { on := 1, ground := Go.Ground.phase }, { on := 2, ground := Go.Ground.phase }, { on := 3, ground := Go.Ground.phase }, { on := 4, ground := Go.Ground.phase }, { on := 5, ground := Go.Ground.phase }, { on := 6, ground := Go.Ground.phase }], guard := none }) (v := ?vr7) rfl (by kernel_rfl) (by kernel_rfl) (by kernel_rfl) (fun _ _ _ h => h) (Or.inl ⟨by rfl, ?hr7⟩) hHeld ?rr7
  case hr7 =>
    intro wS hSw
    (try dsimp only at hSw)
    go_simp
    try with_reducible rfl
  case rr7 =>
  simp only [Act.put, List.setIfInBounds_toArray, List.set_cons_zero, List.set_cons_succ]
  refine wpAnyH_done (by kernel_rfl) ?_ _
  refine NoPanic.normal ?_
  clear hHeld
  have y4 : W0.drew.cell? ⟨w.heap.size, 4, none⟩ = some (.int .i64 x.seq) := hQ0.at 4 _ rfl
  have z0 : W0.drew.cell? ⟨p, 0, none⟩ = some (.slice ao ws.length cap) := hT0.box.at 0 _ rfl
  have hE1 : W0.drew.cell? ⟨0, 0, none⟩ = some (.iface 149 (.pointer (some ea))) := hE0
  generalize W0.drew = W2 at *
  clear hQ0 hT0 hE0
  by_cases c1 : x.seq < lastI ws x.session
  · have hd : decide (x.seq < lastI ws x.session) = true := by simpa using c1
    have HV : Hid (refV ea ws x = .iface 117 (.agg #[.int .i64 x.seq, .int .i64 (lastI ws x.session)])) := if_pos c1
    clear c1 hsi
    go_wp2_with fail
    go_ret
    exact ⟨by rw [unhide HV]; first | done | rfl, unhide HB⟩
  · have hd : decide (x.seq < lastI ws x.session) = false := by simpa using c1
    by_cases c2 : 200 ≤ ws.length
    · have hd2 : decide ((200 : Int) ≤ (ws.length : Int)) = true := by simp; omega
      have HV : Hid (refV ea ws x = .iface 149 (.pointer (some ea))) := by show refV ea ws x = _; rw [refV, if_neg c1, if_pos c2]
      clear c1 c2 hsi
      go_wp2_with fail
      go_ret
      exact ⟨by rw [unhide HV]; first | done | rfl, unhide HB⟩
    · have hd2 : decide ((200 : Int) ≤ (ws.length : Int)) = false := by simp; omega
      have HV : Hid (refV ea ws x = .nilIface) := by show refV ea ws x = _; rw [refV, if_neg c1, if_neg c2]
      clear c1 c2 hsi
      go_wp2_with fail
      go_ret
      exact ⟨by rw [unhide HV]; first | done | rfl, unhide HB⟩

end Go.Proofs.YtbogjepkdcknfaaDoor

namespace Go.Proofs.YtbogjepkdcknfaaDoor
open Go.RowKit

def Errs (w : World) : Prop := ErrT w ∧ ∃ ea, ErrF ea w
theorem ErrT.later {w w' : World} (h : ErrT w) (hb : Below w.heap.size w w') : ErrT w' := (hb.cell (p := ⟨1, 0, none⟩) (World.block_lt_of_cell? _ _ h)).trans h
theorem ErrF.later {ea : Addr} {w w' : World} (h : ErrF ea w) (hb : Below w.heap.size w w') : ErrF ea w' := (hb.cell (p := ⟨0, 0, none⟩) (World.block_lt_of_cell? _ _ h)).trans h
theorem Errs.later {w w' : World} (h : Errs w) (hb : Below w.heap.size w w') : Errs w' := ⟨h.1.later hb, h.2.elim fun ea he => ⟨ea, he.later hb⟩⟩

end Go.Proofs.YtbogjepkdcknfaaDoor
