/-
  Texts of this proof in one: LayMark, MaWriteS, MaNode, EqItem, EqItemS, EqTableResult, MaItemS, MaTableResult, MkItemS, MkTableResult, LawXStateAt, WrBox, InB, InC, Fault, WrFault, WrZero, ApplyPlain, SessPlain, LayIntResult, LayWritesResult, SeqPlain, LayOnceResult, AppPlain, LayNodeResult, NodePlain, OwnNodeResult, StoreKit, SpecWs, SpecLast5, SpecSess.
  Their conditions stand in their theorems.
-/
import Derived.Test.YtbogjepkdcknfaaNt01
import Derived.Test.YtbogjepkdcknfaaChecked
import Derived.Deep.RegionHeld3
import Derived.Deep.CutRange
import Derived.BigQuiet
import Derived.Deep.QuietTactic
import Derived.WalkSmall

namespace Go.Proofs.Ytbogjepkdcknfaa
open Go.RowKit

theorem cnt_ints (zs : List Int) : (Lay.sl Lay.int).cnt zs = zs.length := by
  show cntAll (fun _ => 1) zs = zs.length
  induction zs with
  | nil => rfl
  | cons z zs ih => simp [cntAll, ih]; omega
theorem vcnt_ints (zs : List Int) : (Lay.sl Lay.int).vcnt zs = zs.length := cnt_ints zs
theorem mkAll_len {α : Type} (cnt : α → Nat) (mk : Int → α → α) (k : Int) (xs : List α) : (mkAll cnt mk k xs).length = xs.length := by
  induction xs generalizing k with
  | nil => rfl
  | cons x xs ih => simp [mkAll, ih]
theorem mk_ints_at (k : Int) (zs : List Int) (j : Nat) (h : j < zs.length) : ((Lay.sl Lay.int).mkv k zs).getD j 0 = k + j := by
  show (mkAll (fun _ => 1) (fun k _ => k) k zs).getD j 0 = k + j
  induction zs generalizing k j with
  | nil => simp at h
  | cons z zs ih =>
    match j with
    | 0 => simp [mkAll]
    | j + 1 =>
      have := ih (k + 1) j (by simpa using h)
      simp only [mkAll, List.getD_cons_succ]
      rw [show ((1 : Nat) : Int) = 1 from rfl, this]
      omega
theorem mk_ints_len (k : Int) (zs : List Int) : ((Lay.sl Lay.int).mkv k zs).length = zs.length := mkAll_len _ _ _ _
theorem mk_ints_wf (k : Int) (zs : List Int) (hk : 0 ≤ k) (hk2 : k + zs.length ≤ 1000000000) : ∀ z ∈ (Lay.sl Lay.int).mkv k zs, (Lit.int .i64 z).wf = true := by
  intro z hz
  obtain ⟨j, hj, rfl⟩ := List.mem_iff_getElem.1 hz
  have hj' := hj
  rw [mk_ints_len] at hj'
  have := mk_ints_at k zs j hj'
  have e : ((Lay.sl Lay.int).mkv k zs)[j] = k + j := by simpa [List.getD, hj] using this
  rw [e]
  exact wf_of_bd (by omega)

set_option maxHeartbeats 400000 in
theorem markI_pos (b off cap : Nat) (zs : List Int) (k : Int) (w : World) (hk : 0 ≤ k) (hk2 : k + zs.length ≤ 1000000000) (hc : ∀ j, j < zs.length → w.cell? ⟨b, off + j, none⟩ = some (.int .i64 (zs.getD j 0)))
    (hf : ∀ o, w.frozen? ⟨b, o, none⟩ = false) :
    Calls Try.prog 75 #[.slice (some ⟨b, off, none⟩) zs.length cap, .int .i64 k] w fun e w' => e = .returned (.int .i64 (k + zs.length)) ∧
      (∀ j, j < zs.length → w'.cell? ⟨b, off + j, none⟩ = some (.int .i64 (k + j))) ∧ (∀ o, w'.frozen? ⟨b, o, none⟩ = false) ∧ (∀ o, (o < off ∨ off + zs.length ≤ o) → w'.cell? ⟨b, o, none⟩ = w.cell? ⟨b, o, none⟩) ∧ Ext (fun q => q = b) w w' := by
  go_enter Try.func75, Try.ntmps75
  go_wp2
  go_loopw [1, 5] (fun kk i wr => ∃ j : Nat, j ≤ zs.length ∧ i = .int .i64 j ∧ kk = .int .i64 (k + j) ∧ (∀ m, m < j → wr.cell? ⟨b, off + m, none⟩ = some (.int .i64 (k + m))) ∧ (∀ o, wr.frozen? ⟨b, o, none⟩ = false) ∧ (∀ o, (o < off ∨ off + j ≤ o) → wr.cell? ⟨b, o, none⟩ = w.cell? ⟨b, o, none⟩) ∧ Ext (fun q => q = b) w wr)
    (fun _ i _ => zs.length - (intOf i).toNat)
  case atStart => exact ⟨0, Nat.zero_le _, rfl, by simp, fun m hm => by omega, hf, fun _ _ => rfl, Ext.refl _ _⟩
  case round =>
    obtain ⟨j, hj, rfl, rfl, hm, hfz, ho, hx⟩ := hrel
    by_cases hlt : j < zs.length
    · have hcd : wr.cell? ⟨b, off + j, none⟩ = some (.int .i64 (zs.getD j 0)) := (ho (off + j) (by omega)).trans (hc j hlt)
      have hfj := hfz (off + j)
      have HM : Hid (∀ m, m < j + 1 → (wr.setCell ⟨b, off + j, none⟩ (.int .i64 (k + j))).cell? ⟨b, off + m, none⟩ = some (.int .i64 (k + m))) := by
        intro m hm1
        by_cases e : m = j
        · subst e
          exact World.cell?_setCell_same _ _ _ hcd
        · rw [World.cell?_setCell_other _ _ _ _ (fun q => by have := congrArg Addr.off q; simp only at this; omega)]
          exact hm m (by omega)
      have HF : Hid (∀ o, (wr.setCell ⟨b, off + j, none⟩ (.int .i64 (k + j))).frozen? ⟨b, o, none⟩ = false) := fun o => by simpa using hfz o
      have HO : Hid (∀ o, (o < off ∨ off + (j + 1) ≤ o) → (wr.setCell ⟨b, off + j, none⟩ (.int .i64 (k + j))).cell? ⟨b, o, none⟩ = w.cell? ⟨b, o, none⟩) := by
        intro o hoo
        rw [World.cell?_setCell_other _ _ _ _ (fun q => by have := congrArg Addr.off q; simp only at this; omega)]
        exact ho o (by omega)
      have HX := hide (hx.setCell ⟨b, off + j, none⟩ (.int .i64 (k + j)) rfl)
      clear hm hfz ho hx hc hf
      go_wp2
      go_roundw
      case rel => exact ⟨j + 1, by omega, by go_num, by go_num, unhide HM, unhide HF, unhide HO, unhide HX⟩
      case measure => simp [intOf]; omega
    · obtain rfl : j = zs.length := by omega
      have HM := hide hm
      have HF := hide hfz
      have HO := hide ho
      have HX := hide hx
      clear hm hfz ho hx hc hf
      go_wp2
      go_ret
      exact ⟨rfl, unhide HM, unhide HF, unhide HO, unhide HX⟩

theorem markI_zero (ao : Option Addr) (cap : Nat) (k : Int) (w : World) :
    Calls Try.prog 75 #[.slice ao 0 cap, .int .i64 k] w fun e w' => e = .returned (.int .i64 k) ∧ w' = w := by
  go_enter Try.func75, Try.ntmps75
  go_wp2
  refine wp_loop_rounds 1 ?_
  rw [rounds_succ]
  go_wp2
  go_ret
  exact ⟨rfl, rfl⟩

/-- markInt64S. -/
theorem mark_Int64S (v : Value) (zs : List Int) (bl : List Nat) (k : Int) (w : World) (h : (Lay.sl Lay.int).Own w [v] zs bl) (hk : 0 ≤ k) (hk2 : k + (Lay.sl Lay.int).vcnt zs ≤ 1000000000) :
    Calls Try.prog 75 #[v, .int .i64 k] w fun e w' => e = .returned (.int .i64 (k + (Lay.sl Lay.int).vcnt zs)) ∧ (Lay.sl Lay.int).Own w' [v] ((Lay.sl Lay.int).mkv k zs) bl ∧ Ext (fun q => q ∈ bl) w w' := by
  obtain ⟨hl, hn, hf⟩ := h
  rw [vcnt_ints] at hk2 ⊢
  rcases Lay.lies_ints.1 hl with ⟨ao, cap, rfl, hbig, hwf, ⟨rfl, rfl⟩ | ⟨b, off, rfl, hb, rfl, hc⟩⟩
  · refine (markI_zero ao cap k w).mono ?_
    rintro e w' ⟨rfl, rfl⟩
    exact ⟨by simp, ⟨hl, hn, hf⟩, Ext.refl _ _⟩
  · refine (markI_pos b off cap zs k w hk hk2 hc (hf b (by simp))).mono ?_
    rintro e w' ⟨rfl, hm, hfz, -, hx⟩
    refine ⟨rfl, ⟨Lay.lies_ints.2 ⟨_, cap, by rw [mk_ints_len], by rw [mk_ints_len]; exact hbig, mk_ints_wf k zs hk hk2, Or.inr ⟨b, off, rfl, Nat.lt_of_lt_of_le hb hx.size, rfl, fun j hj => ?_⟩⟩, hn, ?_⟩, hx.mono fun q _ e => by simp [e]⟩
    · rw [mk_ints_len] at hj
      rw [hm j hj, mk_ints_at k zs j hj]
    · intro b' hb' o
      obtain rfl : b' = b := by simpa using hb'
      exact hfz o

set_option maxHeartbeats 400000 in
theorem heldI_pos (b off cap n : Nat) (k : Int) (w : World) (hk : 0 ≤ k) (hk2 : k + n ≤ 1000000000) (hc : ∀ j, j < n → w.cell? ⟨b, off + j, none⟩ = some (.int .i64 (k + j))) :
    Calls Try.prog 85 #[.slice (some ⟨b, off, none⟩) n cap, .int .i64 k] w fun e w' => e = .returned (.int .i64 (k + n)) ∧ w' = w := by
  go_enter Try.func85, Try.ntmps85
  go_wp2
  go_loop [1, 5] (fun kk i => ∃ j : Nat, j ≤ n ∧ i = .int .i64 j ∧ kk = .int .i64 (k + j)) (fun _ i => n - (intOf i).toNat)
  case atStart => exact ⟨0, Nat.zero_le _, rfl, by simp⟩
  case round =>
    obtain ⟨j, hj, rfl, rfl⟩ := hrel
    by_cases hlt : j < n
    · have hcx := hc j hlt
      have hne : ((k + (j : Int)) != (k + (j : Int))) = false := by simp
      clear hc
      go_wp2
      go_round
      case rel => exact ⟨j + 1, by omega, by go_num, by go_num⟩
      case measure => simp [intOf]; omega
    · obtain rfl : j = n := by omega
      clear hc
      go_wp2
      go_ret
      exact ⟨rfl, rfl⟩
theorem heldI_zero (ao : Option Addr) (cap : Nat) (k : Int) (w : World) :
    Calls Try.prog 85 #[.slice ao 0 cap, .int .i64 k] w fun e w' => e = .returned (.int .i64 k) ∧ w' = w := by
  go_enter Try.func85, Try.ntmps85
  go_wp2
  refine wp_loop_rounds 1 ?_
  rw [rounds_succ]
  go_wp2
  go_ret
  exact ⟨rfl, rfl⟩
/-- heldInt64S. -/
theorem held_Int64S (v : Value) (zs : List Int) (k : Int) (w : World) (h : (Lay.sl Lay.int).Reads w [v] ((Lay.sl Lay.int).mkv k zs)) (hk : 0 ≤ k) (hk2 : k + (Lay.sl Lay.int).vcnt zs ≤ 1000000000) :
    Calls Try.prog 85 #[v, .int .i64 k] w fun e w' => e = .returned (.int .i64 (k + (Lay.sl Lay.int).vcnt zs)) ∧ Below w.heap.size w w' := by
  rw [vcnt_ints] at hk2 ⊢
  obtain ⟨ao, cap, rfl, hwf, hc⟩ := Lay.ints_reads h
  rw [mk_ints_len] at hc ⊢
  by_cases hp : 0 < zs.length
  · obtain ⟨b, off, rfl, hc1⟩ := hc hp
    refine (heldI_pos b off cap zs.length k w hk hk2 fun j hj => by rw [hc1 j hj, mk_ints_at k zs j hj]).mono ?_
    rintro e w' ⟨rfl, rfl⟩
    exact ⟨rfl, Below.refl _ _⟩
  · have e0 : zs.length = 0 := by omega
    rw [e0]
    refine (heldI_zero ao cap k w).mono ?_
    rintro e w' ⟨rfl, rfl⟩
    exact ⟨by simp, Below.refl _ _⟩

end Go.Proofs.Ytbogjepkdcknfaa

namespace Go.Proofs.Ytbogjepkdcknfaa
open Go.RowKit

theorem cnt_Write (x : DWrite) : Lay.tWrite.cnt x = 4 + (Lay.sl Lay.int).vcnt x.vec := by
  show 1 + (1 + ((Lay.sl Lay.int).vcnt x.vec + (1 + (1)))) = 4 + (Lay.sl Lay.int).vcnt x.vec
  omega
theorem mkd_Write (k : Int) (x : DWrite) : Lay.tWrite.mkd k x = ⟨k, k + 1, (Lay.sl Lay.int).mkv (k + 1 + 1) x.vec, k + 1 + 1 + ((Lay.sl Lay.int).vcnt x.vec : Nat), k + 1 + 1 + ((Lay.sl Lay.int).vcnt x.vec : Nat) + 1⟩ := rfl
theorem vcnt_WriteS (xs : List DWrite) : (Lay.sl Lay.tWrite).vcnt xs = cntAll Lay.tWrite.cnt xs := rfl
theorem mkv_WriteS (k : Int) (xs : List DWrite) : (Lay.sl Lay.tWrite).mkv k xs = mkAll Lay.tWrite.cnt Lay.tWrite.mkd k xs := rfl

set_option maxRecDepth 10000 in
set_option maxHeartbeats 2000000 in
theorem markWrite_pos (b off cap : Nat) (xs : List DWrite) (bl : List Nat) (k : Int) (w : World) (h : (Lay.sl Lay.tWrite).Own w [.slice (some ⟨b, off, none⟩) xs.length cap] xs bl) (hk : 0 ≤ k) (hk2 : k + (cntAll Lay.tWrite.cnt xs : Nat) ≤ 1000000000) :
    Calls Try.prog 50 #[.slice (some ⟨b, off, none⟩) xs.length cap, .int .i64 k] w fun e w' => e = .returned (.int .i64 (k + (cntAll Lay.tWrite.cnt xs : Nat))) ∧ (Lay.sl Lay.tWrite).Own w' [.slice (some ⟨b, off, none⟩) xs.length cap] (mkAll Lay.tWrite.cnt Lay.tWrite.mkd k xs) bl ∧ Ext (fun q => q ∈ bl) w w' := by
  have hbig := h.reads.big
  have H := hide h
  clear h
  go_enter Try.func50, Try.ntmps50
  go_wp2_with fail
  go_loopw [1, 5] (fun kk i wr => ∃ (j : Nat) (kj : Int), j ≤ xs.length ∧ i = .int .i64 j ∧ kj = k + (cntAll Lay.tWrite.cnt (xs.take j) : Nat) ∧ kk = .int .i64 kj ∧ (Lay.sl Lay.tWrite).Own wr [.slice (some ⟨b, off, none⟩) xs.length cap] (mkPre Lay.tWrite.cnt Lay.tWrite.mkd k xs j) bl ∧ Ext (fun q => q ∈ bl) w wr) (fun _ i _ => xs.length - (intOf i).toNat)
  case atStart => exact ⟨0, k, Nat.zero_le _, rfl, by simp [cntAll], rfl, by rw [mkPre_zero]; exact unhide H, Ext.refl _ _⟩
  case round =>
    obtain ⟨j, kj, hj, rfl, hkj, rfl, hO, hX⟩ := hrel
    clear H
    by_cases hlt : j < xs.length
    · have hj2 : j < (mkPre Lay.tWrite.cnt Lay.tWrite.mkd k xs j).length := by rw [mkPre_len _ _ _ _ _ hj]; exact hlt
      obtain ⟨row, blk, R, O, hbk, hin, hfin⟩ := Lay.own_upd hO hj2
      rw [mkPre_get _ _ _ _ _ hlt] at O
      have HT := hide (Lay.cntAll_take (f := Lay.tWrite.cnt) hlt)
      have hle := Lay.cntAll_take_le (f := Lay.tWrite.cnt) (xs := xs) (k := j + 1)
      rw [unhide HT] at hle
      have HM : Hid (∀ y, y = Lay.tWrite.mkd kj xs[j] → (mkPre Lay.tWrite.cnt Lay.tWrite.mkd k xs j).set j y = mkPre Lay.tWrite.cnt Lay.tWrite.mkd k xs (j + 1)) := fun y e => by rw [e, hkj]; exact mkPre_set _ _ _ _ _ hlt
      have HF := hide hfin
      have HX := hide hX
      have HI := hide hin
      clear hO hfin hX hin hj2
      generalize hx : xs[j] = x at *
      clear hx
      have hcn := cnt_Write x
      have HD := hide (mkd_Write kj x)
      have hb1 : 0 ≤ kj := by omega
      have hb2 : kj + (Lay.tWrite.cnt x : Int) ≤ 1000000000 := by omega
      have HK := hide hkj
      clear hkj hle
      have hnd := O.2.1
      obtain ⟨a2, d2, g2, rfl, hbl, O2, v0, v1, v3, v4⟩ := own_Write O
      clear O
      subst hbl
      have HN := hide hnd
      clear hnd
      have l1 : b < wr.heap.size := R.lt
      have c0 : wr.cell? ⟨b, off + j * 5, none⟩ = some (.int .i64 x.kind) := R.at 0 _ rfl
      have f0 : wr.frozen? ⟨b, off + j * 5, none⟩ = false := R.soft _
      have c1 : wr.cell? ⟨b, off + j * 5 + 1, none⟩ = some (.int .i64 x.id) := R.at 1 _ rfl
      have f1 : wr.frozen? ⟨b, off + j * 5 + 1, none⟩ = false := R.soft _
      have c2 : wr.cell? ⟨b, off + j * 5 + 2, none⟩ = some (.slice a2 x.vec.length d2) := R.at 2 _ rfl
      have R0_ : RowAt wr ((wr.setCell ⟨b, off + j * 5, none⟩ (.int .i64 kj)).setCell ⟨b, off + j * 5 + 1, none⟩ (.int .i64 (kj + 1))) b (off + j * 5) 5 [.int .i64 kj, .int .i64 (kj + 1), .slice a2 x.vec.length d2, .int .i64 x.session, .int .i64 x.seq] blk := ((R.set 0 (.int .i64 kj) (by decide)).set 1 (.int .i64 (kj + 1)) (by decide))
      have E0_ : Ext (fun q => q = b) wr ((wr.setCell ⟨b, off + j * 5, none⟩ (.int .i64 kj)).setCell ⟨b, off + j * 5 + 1, none⟩ (.int .i64 (kj + 1))) := (((Ext.refl (fun q => q = b) _).setCell ⟨b, off + j * 5, none⟩ (.int .i64 kj) rfl).setCell ⟨b, off + j * 5 + 1, none⟩ (.int .i64 (kj + 1)) rfl)
      have O2_ := O2.ext E0_ (fun c hc e => hbk (e ▸ hc))
      clear O2
      have O2 := O2_
      clear O2_
      clear R E0_
      have R := R0_
      clear R0_
      have HR := hide R
      clear R
      go_wp2_with fail
      refine (mark_Int64S _ x.vec blk (kj + 1 + 1) _ O2 (by omega) (by omega)).mono ?_
      rintro e w2 ⟨rfl, Q2, E2⟩
      have R := (unhide HR).call E2 (fun _ h => h) hbk
      clear E2 O2 HR c0 c1 c2 f0 f1
      clear l1
      have l1 : b < w2.heap.size := R.lt
      have c3 : w2.cell? ⟨b, off + j * 5 + 3, none⟩ = some (.int .i64 x.session) := R.at 3 _ rfl
      have f3 : w2.frozen? ⟨b, off + j * 5 + 3, none⟩ = false := R.soft _
      have c4 : w2.cell? ⟨b, off + j * 5 + 4, none⟩ = some (.int .i64 x.seq) := R.at 4 _ rfl
      have f4 : w2.frozen? ⟨b, off + j * 5 + 4, none⟩ = false := R.soft _
      have R1_ : RowAt wr ((w2.setCell ⟨b, off + j * 5 + 3, none⟩ (.int .i64 (kj + 1 + 1 + ((Lay.sl Lay.int).vcnt x.vec : Nat)))).setCell ⟨b, off + j * 5 + 4, none⟩ (.int .i64 (kj + 1 + 1 + ((Lay.sl Lay.int).vcnt x.vec : Nat) + 1))) b (off + j * 5) 5 [.int .i64 kj, .int .i64 (kj + 1), .slice a2 x.vec.length d2, .int .i64 (kj + 1 + 1 + ((Lay.sl Lay.int).vcnt x.vec : Nat)), .int .i64 (kj + 1 + 1 + ((Lay.sl Lay.int).vcnt x.vec : Nat) + 1)] blk := ((R.set 3 (.int .i64 (kj + 1 + 1 + ((Lay.sl Lay.int).vcnt x.vec : Nat))) (by decide)).set 4 (.int .i64 (kj + 1 + 1 + ((Lay.sl Lay.int).vcnt x.vec : Nat) + 1)) (by decide))
      have E1_ : Ext (fun q => q = b) w2 ((w2.setCell ⟨b, off + j * 5 + 3, none⟩ (.int .i64 (kj + 1 + 1 + ((Lay.sl Lay.int).vcnt x.vec : Nat)))).setCell ⟨b, off + j * 5 + 4, none⟩ (.int .i64 (kj + 1 + 1 + ((Lay.sl Lay.int).vcnt x.vec : Nat) + 1))) := (((Ext.refl (fun q => q = b) _).setCell ⟨b, off + j * 5 + 3, none⟩ (.int .i64 (kj + 1 + 1 + ((Lay.sl Lay.int).vcnt x.vec : Nat))) rfl).setCell ⟨b, off + j * 5 + 4, none⟩ (.int .i64 (kj + 1 + 1 + ((Lay.sl Lay.int).vcnt x.vec : Nat) + 1)) rfl)
      have Q2_ := Q2.ext E1_ (fun c hc e => hbk (e ▸ hc))
      clear Q2
      have Q2 := hide Q2_
      clear Q2_
      clear R E1_
      have R := R1_
      clear R1_
      have HR := hide R
      clear R
      have HQ := hide (unhide Q2)
      clear Q2
      go_wp2_with fail
      go_roundw
      case rel =>
        refine ⟨j + 1, _, by omega, by go_num, ?_, rfl, ?_, ?_⟩
        · rw [unhide HT, hcn]
          have := unhide HK
          omega
        · rw [← unhide HM _ (unhide HD).symm]
          exact unhide HF _ _ _ (unhide HR) (mkOwn_Write (x := ⟨kj, kj + 1, (Lay.sl Lay.int).mkv (kj + 1 + 1) x.vec, kj + 1 + 1 + ((Lay.sl Lay.int).vcnt x.vec : Nat), kj + 1 + 1 + ((Lay.sl Lay.int).vcnt x.vec : Nat) + 1⟩) (unhide HQ) (show (Lit.int .i64 (kj)).wf = true from wf_of_bd (by omega)) (show (Lit.int .i64 (kj + 1)).wf = true from wf_of_bd (by omega)) (show (Lit.int .i64 (kj + 1 + 1 + ((Lay.sl Lay.int).vcnt x.vec : Nat))).wf = true from wf_of_bd (by omega)) (show (Lit.int .i64 (kj + 1 + 1 + ((Lay.sl Lay.int).vcnt x.vec : Nat) + 1)).wf = true from wf_of_bd (by omega)) (unhide HN))
        · exact (unhide HX).trans ((unhide HR).ext.mono fun q _ hq => unhide HI q (by rcases hq with h | h; exact Or.inl h.symm; exact Or.inr h))
      case measure => simp [intOf]; omega
    · obtain rfl : j = xs.length := by omega
      rw [mkPre_all] at hO
      rw [List.take_length] at hkj
      have HK := hide hkj
      clear hkj
      have HO := hide hO
      have HX := hide hX
      clear hO hX
      go_wp2_with fail
      go_ret
      exact ⟨by rw [← unhide HK]; rfl, unhide HO, unhide HX⟩

theorem markWrite_zero (ao : Option Addr) (cap : Nat) (k : Int) (w : World) :
    Calls Try.prog 50 #[.slice ao 0 cap, .int .i64 k] w fun e w' => e = .returned (.int .i64 k) ∧ w' = w := by
  go_enter Try.func50, Try.ntmps50
  go_wp2_with fail
  refine wp_loop_rounds 1 ?_
  rw [rounds_succ]
  go_wp2_with fail
  go_ret
  exact ⟨rfl, rfl⟩

/-- markWriteS. -/
theorem mark_WriteS (v : Value) (xs : List DWrite) (bl : List Nat) (k : Int) (w : World) (h : (Lay.sl Lay.tWrite).Own w [v] xs bl) (hk : 0 ≤ k) (hk2 : k + (Lay.sl Lay.tWrite).vcnt xs ≤ 1000000000) :
    Calls Try.prog 50 #[v, .int .i64 k] w fun e w' => e = .returned (.int .i64 (k + (Lay.sl Lay.tWrite).vcnt xs)) ∧ (Lay.sl Lay.tWrite).Own w' [v] ((Lay.sl Lay.tWrite).mkv k xs) bl ∧ Ext (fun q => q ∈ bl) w w' := by
  obtain ⟨ao, cap, rfl⟩ := open_sl h.reads
  by_cases hp : 0 < xs.length
  · obtain ⟨b, off, rfl, hbl⟩ := Lay.sl_addr h.reads hp
    exact markWrite_pos b off cap xs bl k w h hk hk2
  · obtain rfl : xs = [] := List.eq_nil_of_length_eq_zero (by omega)
    refine (markWrite_zero ao cap k w).mono ?_
    rintro e w' ⟨rfl, rfl⟩
    exact ⟨by rw [vcnt_WriteS]; simp [cntAll], h, Ext.refl _ _⟩

end Go.Proofs.Ytbogjepkdcknfaa

namespace Go.Proofs.Ytbogjepkdcknfaa
open Go.RowKit

set_option maxRecDepth 10000 in
set_option maxHeartbeats 1000000 in
theorem mark_Node (cs : List Value) (x : DNode) (bl : List Nat) (k : Int) (w : World) (h : Lay.tNode.Own w cs x bl) (hk : 0 ≤ k) (hk2 : k + Lay.tNode.vcnt x ≤ 1000000000) :
    Calls Try.prog 22 #[.agg cs.toArray, .int .i64 k] w fun e w' => e = .returned (.int .i64 (k + Lay.tNode.vcnt x)) ∧ Lay.tNode.Own w' cs (Lay.tNode.mkv k x) bl ∧ Ext (fun q => q ∈ bl) w w' := by
  have hlt := h.lt
  have hnd := h.2.1
  rw [vcnt_Node] at hk2
  obtain ⟨a4, d4, g4, rfl, hbl, O4, v0, v2, v3, v5, v6⟩ := own_Node h
  clear h
  have HB0 : Below w.heap.size w (w.alloc (.cells #[.int .i64 x.id, .bool x.up, .int .i64 x.epoch, .int .i64 x.lease, .slice a4 x.writes.length d4, .int .i64 x.sure, .int .i64 x.clean] 29)) := (Below.refl _ _).alloc (Nat.le_refl _) _
  have bA : Box w.heap.size #[.int .i64 x.id, .bool x.up, .int .i64 x.epoch, .int .i64 x.lease, .slice a4 x.writes.length d4, .int .i64 x.sure, .int .i64 x.clean] 29 (w.alloc (.cells #[.int .i64 x.id, .bool x.up, .int .i64 x.epoch, .int .i64 x.lease, .slice a4 x.writes.length d4, .int .i64 x.sure, .int .i64 x.clean] 29)) w.heap.size := newBox (Nat.le_refl _)
  have HN := hide hnd
  have HV := hide (vcnt_Node x)
  have HM := hide (mkv_Node k x)
  clear hnd
  go_enter Try.func22, Try.ntmps22
  go_wp2_with fail
  generalize w.alloc (.cells #[.int .i64 x.id, .bool x.up, .int .i64 x.epoch, .int .i64 x.lease, .slice a4 x.writes.length d4, .int .i64 x.sure, .int .i64 x.clean] 29) = W0 at *
  replace O4 := O4.later HB0
  have hsz := HB0.size
  have EX : Ext (fun q => q ∈ bl) w W0 := ext_of_below HB0 _
  have hs0 := bA.lt
  refine (mark_WriteS _ x.writes g4 (k) _ O4 (by omega) (by omega)).mono ?_
  rintro e w1 ⟨rfl, Q4, E4⟩
  replace EX := EX.trans (E4.mono fun b _ hb => by rw [hbl]; simp [hb])
  replace bA := bA.ext E4 (fun hm => by have := hlt w.heap.size (by rw [hbl]; simp [hm]); omega)
  clear E4
  have HA := hide bA
  have HX := hide EX
  have HL := hide hlt
  have HBL := hide hbl
  clear bA EX hlt hbl
  have P4 := hide Q4
  clear Q4
  clear O4
  go_wp2_with fail
  go_ret
  refine ⟨?_, ?_, unhide HX⟩
  · rw [show k + (Lay.tNode.vcnt x : Int) = k + ((Lay.sl Lay.tWrite).vcnt x.writes : Int) by rw [unhide HV]]
    rfl
  · have e := unhide HBL
    subst e
    rw [unhide HM]
    exact mkOwn_Node (x := ⟨x.id, x.up, x.epoch, x.lease, (Lay.sl Lay.tWrite).mkv (k) x.writes, x.sure, x.clean⟩) (unhide P4) v0 v2 v3 v5 v6 (unhide HN)

end Go.Proofs.Ytbogjepkdcknfaa

namespace Go.Proofs.Ytbogjepkdcknfaa
open Go.RowKit

set_option maxRecDepth 10000 in
set_option maxHeartbeats 1000000 in
theorem eq_Item (cs cs2 : List Value) (x : DItem) (w : World) (h : Lay.tItem.Reads w cs x) (h2 : Lay.tItem.Reads w cs2 x) :
    Calls Try.prog 84 #[.agg cs.toArray, .agg cs2.toArray] w fun e w' => e = .returned (.bool true) ∧ Below w.heap.size w w' := by
  obtain ⟨a1, d1, rfl, R1⟩ := open_Item h
  obtain ⟨a1z, d1z, rfl, R1z⟩ := open_Item h2
  clear h h2
  have e0 : (x.id != x.id) = false := by simp
  have HB0 : Below w.heap.size w ((w.alloc (.cells #[.int .i64 x.id, .slice a1 x.vec.length d1] 104)).alloc (.cells #[.int .i64 x.id, .slice a1z x.vec.length d1z] 104)) := ((Below.refl _ _).alloc (Nat.le_refl _) _).alloc (by simp) _
  have bA : Box w.heap.size #[.int .i64 x.id, .slice a1 x.vec.length d1] 104 ((w.alloc (.cells #[.int .i64 x.id, .slice a1 x.vec.length d1] 104)).alloc (.cells #[.int .i64 x.id, .slice a1z x.vec.length d1z] 104)) w.heap.size := (newBox (Nat.le_refl _)).grow _
  have bC : Box w.heap.size #[.int .i64 x.id, .slice a1z x.vec.length d1z] 104 ((w.alloc (.cells #[.int .i64 x.id, .slice a1 x.vec.length d1] 104)).alloc (.cells #[.int .i64 x.id, .slice a1z x.vec.length d1z] 104)) (w.heap.size + 1) := newBoxAt (by omega) (by simp)
  go_enter Try.func84, Try.ntmps84
  go_wp2_with fail
  generalize (w.alloc (.cells #[.int .i64 x.id, .slice a1 x.vec.length d1] 104)).alloc (.cells #[.int .i64 x.id, .slice a1z x.vec.length d1z] 104) = W0 at *
  replace R1 := R1.later HB0
  replace R1z := R1z.later HB0
  refine (eq_Int64S _ _ x.vec _ R1 R1z).mono ?_
  rintro e w1 ⟨rfl, hb⟩
  replace bA := bA.keep hb
  replace bC := bC.keep hb
  replace HB0 := HB0.trans (hb.mono HB0.size)
  clear hb
  have HB := hide HB0
  have HA := hide bA
  have HC := hide bC
  clear HB0 bA bC
  go_wp2_with fail
  go_ret
  exact ⟨rfl, unhide HB⟩

end Go.Proofs.Ytbogjepkdcknfaa

namespace Go.Proofs.Ytbogjepkdcknfaa
open Go.RowKit

set_option maxRecDepth 100000 in
set_option maxHeartbeats 2000000 in
theorem eq_ItemS (v v2 : Value) (xs : List DItem) (w : World) (h : (Lay.sl Lay.tItem).Reads w [v] xs) (h2 : (Lay.sl Lay.tItem).Reads w [v2] xs) :
    Calls Try.prog 63 #[v, v2] w fun e w' => e = .returned (.bool true) ∧ Below w.heap.size w w' := by
  have hbig := h.big
  obtain ⟨ao, cap, rfl⟩ := open_sl h
  obtain ⟨ao2, cap2, rfl⟩ := open_sl h2
  by_cases hp : 0 < xs.length
  · obtain ⟨b, off, rfl, hbl⟩ := Lay.sl_addr h hp
    obtain ⟨b2, off2, rfl, hbl2⟩ := Lay.sl_addr h2 hp
    have H := hide h
    have H2 := hide h2
    clear h h2
    go_enter Try.func63, Try.ntmps63
    go_wp2_with fail
    go_loopw [5] (fun i wr => ∃ k : Nat, k ≤ xs.length ∧ i = .int .i64 k ∧ Below w.heap.size w wr) (fun i _ => xs.length - (intOf i).toNat)
    case atStart => exact ⟨0, Nat.zero_le _, rfl, Below.refl _ _⟩
    case round =>
      obtain ⟨k, hk, rfl, hB⟩ := hrel
      by_cases hlt : k < xs.length
      · obtain ⟨row, hc, hr⟩ := Lay.row_at (unhide H) hlt
        obtain ⟨rowz, hcz, hrz⟩ := Lay.row_at (unhide H2) hlt
        have hr2 := hr
        obtain ⟨a1, d1, rfl, -⟩ := open_Item hr2
        have hrz2 := hrz
        obtain ⟨a1z, d1z, rfl, -⟩ := open_Item hrz2
        have c0 : w.cell? ⟨b, off + k * 2, none⟩ = some (.int .i64 (xs[k]).id) := ((Below.refl w.heap.size w).cell (p := ⟨b, off + k * 2, none⟩) hbl).trans (hc 0 (by decide))
        have c1 : w.cell? ⟨b, off + k * 2 + 1, none⟩ = some (.slice a1 (xs[k]).vec.length d1) := ((Below.refl w.heap.size w).cell (p := ⟨b, off + k * 2 + 1, none⟩) hbl).trans (hc 1 (by decide))
        have c0z : w.cell? ⟨b2, off2 + k * 2, none⟩ = some (.int .i64 (xs[k]).id) := ((Below.refl w.heap.size w).cell (p := ⟨b2, off2 + k * 2, none⟩) hbl2).trans (hcz 0 (by decide))
        have c1z : w.cell? ⟨b2, off2 + k * 2 + 1, none⟩ = some (.slice a1z (xs[k]).vec.length d1z) := ((Below.refl w.heap.size w).cell (p := ⟨b2, off2 + k * 2 + 1, none⟩) hbl2).trans (hcz 1 (by decide))
        clear hc hcz
        have HR := hide hr
        have HRZ := hide hrz
        clear hr hrz
        have HB := hide hB
        clear hB
        generalize hxk : xs[k] = x at *
        clear hxk
        have i1 : (0 : Int) ≤ (k : Int) := by omega
        have i2 : (k : Int) < (xs.length : Int) := by omega
        go_wp2_with fail
        refine wp_region_noPanic ?_
        refine wp_region_held_drew (S := fun w' => Below w.heap.size w w') (by kernel_rfl) (unhide HB).drew (fun hHeld => ?_)
        generalize wr.drew = wD at hHeld ⊢
        refine wpAnyH_take (i := 0) (oi := { dst := some 17, op := Go.Op.move (Go.Operand.tmp 0), type := 44, pos := "exact.go:466", after := #[], guard := none }) (v := ?v0) rfl (by kernel_rfl) (by kernel_rfl) (by kernel_rfl) (fun _ _ _ h => h) (Or.inl ⟨by rfl, ?h0⟩) hHeld ?r0
        case h0 =>
          intro wS hSw
          (try dsimp only at hSw)
          go_simp
          try with_reducible rfl
        case r0 =>
        simp only [Act.put, List.setIfInBounds_toArray, List.set_cons_zero, List.set_cons_succ]
        refine wpAnyH_take (i := 1) (oi := { dst := some 18, op := Go.Op.move (Go.Operand.tmp 5), type := 3, pos := "exact.go:466", after := #[], guard := none }) (v := ?v1) rfl (by kernel_rfl) (by kernel_rfl) (by kernel_rfl) (fun _ _ _ h => h) (Or.inl ⟨by rfl, ?h1⟩) hHeld ?r1
        case h1 =>
          intro wS hSw
          (try dsimp only at hSw)
          go_simp
          try with_reducible rfl
        case r1 =>
        simp only [Act.put, List.setIfInBounds_toArray, List.set_cons_zero, List.set_cons_succ]
        refine wpAnyH_take (i := 2) (oi := { dst := some 19, op := Go.Op.indexAddr 44 (Go.Operand.tmp 17) (Go.Operand.tmp 18), type := 0, pos := "exact.go:466", after := #[{ on := 0, ground := Go.Ground.data }, { on := 1, ground := Go.Ground.data }], guard := none }) (v := ?v2) rfl (by kernel_rfl) (by kernel_rfl) (by kernel_rfl) (fun _ _ _ h => h) (Or.inl ⟨by rfl, ?h2⟩) hHeld ?r2
        case h2 =>
          intro wS hSw
          (try dsimp only at hSw)
          go_simp
          try with_reducible rfl
        case r2 =>
        simp only [Act.put, List.setIfInBounds_toArray, List.set_cons_zero, List.set_cons_succ]
        refine wpAnyH_take (i := 3) (oi := { dst := some 20, op := Go.Op.load 104 (Go.Operand.tmp 19), type := 104, pos := "exact.go:466", after := #[{ on := 2, ground := Go.Ground.data }], guard := none }) (v := ?v3) rfl (by kernel_rfl) (by kernel_rfl) (by kernel_rfl) (fun _ _ _ h => h) (Or.inl ⟨by rfl, ?h3⟩) hHeld ?r3
        case h3 =>
          intro wS hSw
          have y0 := (hSw.cell (p := ⟨b, off + k * 2, none⟩) hbl).trans c0
          have y1 := (hSw.cell (p := ⟨b, off + k * 2 + 1, none⟩) hbl).trans c1
          clear hSw
          (try dsimp only at hSw)
          go_simp
          try with_reducible rfl
        case r3 =>
        simp only [Act.put, List.setIfInBounds_toArray, List.set_cons_zero, List.set_cons_succ]
        refine wpAnyH_take (i := 4) (oi := { dst := some 21, op := Go.Op.move (Go.Operand.tmp 1), type := 44, pos := "exact.go:466", after := #[], guard := none }) (v := ?v4) rfl (by kernel_rfl) (by kernel_rfl) (by kernel_rfl) (fun _ _ _ h => h) (Or.inl ⟨by rfl, ?h4⟩) hHeld ?r4
        case h4 =>
          intro wS hSw
          (try dsimp only at hSw)
          go_simp
          try with_reducible rfl
        case r4 =>
        simp only [Act.put, List.setIfInBounds_toArray, List.set_cons_zero, List.set_cons_succ]
        refine wpAnyH_take (i := 5) (oi := { dst := some 22, op := Go.Op.move (Go.Operand.tmp 5), type := 3, pos := "exact.go:466", after := #[], guard := none }) (v := ?v5) rfl (by kernel_rfl) (by kernel_rfl) (by kernel_rfl) (fun _ _ _ h => h) (Or.inl ⟨by rfl, ?h5⟩) hHeld ?r5
        case h5 =>
          intro wS hSw
          (try dsimp only at hSw)
          go_simp
          try with_reducible rfl
        case r5 =>
        simp only [Act.put, List.setIfInBounds_toArray, List.set_cons_zero, List.set_cons_succ]
        refine wpAnyH_take (i := 6) (oi := { dst := some 23, op := Go.Op.indexAddr 44 (Go.Operand.tmp 21) (Go.Operand.tmp 22), type := 0, pos := "exact.go:466", after := #[{ on := 4, ground := Go.Ground.data }, { on := 5, ground := Go.Ground.data }], guard := none }) (v := ?v6) rfl (by kernel_rfl) (by kernel_rfl) (by kernel_rfl) (fun _ _ _ h => h) (Or.inl ⟨by rfl, ?h6⟩) hHeld ?r6
        case h6 =>
          intro wS hSw
          (try dsimp only at hSw)
          go_simp
          try with_reducible rfl
        case r6 =>
        simp only [Act.put, List.setIfInBounds_toArray, List.set_cons_zero, List.set_cons_succ]
        refine wpAnyH_take (i := 7) (oi := { dst := some 24, op := Go.Op.load 104 (Go.Operand.tmp 23), type := 104, pos := "exact.go:466", after := #[{ on := 6, ground := Go.Ground.data }], guard := none }) (v := ?v7) rfl (by kernel_rfl) (by kernel_rfl) (by kernel_rfl) (fun _ _ _ h => h) (Or.inl ⟨by rfl, ?h7⟩) hHeld ?r7
        case h7 =>
          intro wS hSw
          have y0z := (hSw.cell (p := ⟨b2, off2 + k * 2, none⟩) hbl2).trans c0z
          have y1z := (hSw.cell (p := ⟨b2, off2 + k * 2 + 1, none⟩) hbl2).trans c1z
          clear hSw
          (try dsimp only at hSw)
          go_simp
          try with_reducible rfl
        case r7 =>
        simp only [Act.put, List.setIfInBounds_toArray, List.set_cons_zero, List.set_cons_succ]
        refine wpAnyH_ready (rs := [8]) (by kernel_rfl) (by simp) ?_
        refine AllReadyH.cons (o := { dst := some 25, op := Go.Op.call { callee := Go.Callee.value (Go.Operand.func 84), args := #[Go.Operand.tmp 20, Go.Operand.tmp 24], argTypes := #[104, 104] }, type := 4, pos := "exact.go:466", after := #[{ on := 3, ground := Go.Ground.data }, { on := 7, ground := Go.Ground.data }], guard := none }) rfl (fun K hK => ?_) AllReadyH.nil
        go_simp
        go_at_call 84
        refine (eq_Item _ _ x _ ((unhide HR).later hHeld) ((unhide HRZ).later hHeld)).mono ?_
        rintro e w3 ⟨rfl, hbw⟩
        try go_wp2_with fail
        refine hK.out _ _ (hHeld.trans (hbw.mono hHeld.size)) (fun hHeld => ?_)
        clear hK K
        try simp only [Act.put, List.setIfInBounds_toArray, List.set_cons_zero, List.set_cons_succ]
        refine wpAnyH_take (i := 9) (oi := { dst := some 26, op := Go.Op.unOp Go.UnOp.not 4 (Go.Operand.tmp 25), type := 4, pos := "exact.go:466", after := #[{ on := 8, ground := Go.Ground.data }], guard := none }) (v := ?v9) rfl (by kernel_rfl) (by kernel_rfl) (by kernel_rfl) (fun _ _ _ h => h) (Or.inl ⟨by rfl, ?h9⟩) hHeld ?r9
        case h9 =>
          intro wS hSw
          (try dsimp only at hSw)
          go_simp
          try with_reducible rfl
        case r9 =>
        simp only [Act.put, List.setIfInBounds_toArray, List.set_cons_zero, List.set_cons_succ]
        refine wpAnyH_done (by kernel_rfl) ?_ _
        refine NoPanic.normal ?_
        have HB3 := hide hHeld
        clear hHeld c0 c0z c1 c1z HB
        go_wp2_with fail
        go_roundw
        case rel => exact ⟨k + 1, by omega, by go_num, unhide HB3⟩
        case measure => simp [intOf]; omega
      · have HB := hide hB
        clear hB
        go_wp2_with fail
        go_ret
        exact ⟨rfl, unhide HB⟩
  · obtain rfl : xs = [] := List.eq_nil_of_length_eq_zero (by omega)
    clear h h2 hp
    simp only [List.length_nil] at *
    go_enter Try.func63, Try.ntmps63
    go_wp2_with fail
    refine wp_loop_rounds 1 ?_
    rw [rounds_succ]
    go_wp2_with fail
    go_ret
    exact ⟨rfl, Below.refl _ _⟩

end Go.Proofs.Ytbogjepkdcknfaa

namespace Go.Proofs.Ytbogjepkdcknfaa
open Go.RowKit

set_option maxRecDepth 10000 in
set_option maxHeartbeats 1000000 in
theorem eq_TableResult (cs cs2 : List Value) (x : DTableResult) (w : World) (h : Lay.tTableResult.Reads w cs x) (h2 : Lay.tTableResult.Reads w cs2 x) :
    Calls Try.prog 31 #[.agg cs.toArray, .agg cs2.toArray] w fun e w' => e = .returned (.bool true) ∧ Below w.heap.size w w' := by
  obtain ⟨a1, d1, rfl, R1⟩ := open_TableResult h
  obtain ⟨a1z, d1z, rfl, R1z⟩ := open_TableResult h2
  clear h h2
  have e0 : (x.code != x.code) = false := by simp
  have HB0 : Below w.heap.size w ((w.alloc (.cells #[.int .i64 x.code, .slice a1 x.items.length d1] 46)).alloc (.cells #[.int .i64 x.code, .slice a1z x.items.length d1z] 46)) := ((Below.refl _ _).alloc (Nat.le_refl _) _).alloc (by simp) _
  have bA : Box w.heap.size #[.int .i64 x.code, .slice a1 x.items.length d1] 46 ((w.alloc (.cells #[.int .i64 x.code, .slice a1 x.items.length d1] 46)).alloc (.cells #[.int .i64 x.code, .slice a1z x.items.length d1z] 46)) w.heap.size := (newBox (Nat.le_refl _)).grow _
  have bC : Box w.heap.size #[.int .i64 x.code, .slice a1z x.items.length d1z] 46 ((w.alloc (.cells #[.int .i64 x.code, .slice a1 x.items.length d1] 46)).alloc (.cells #[.int .i64 x.code, .slice a1z x.items.length d1z] 46)) (w.heap.size + 1) := newBoxAt (by omega) (by simp)
  go_enter Try.func31, Try.ntmps31
  go_wp2_with fail
  generalize (w.alloc (.cells #[.int .i64 x.code, .slice a1 x.items.length d1] 46)).alloc (.cells #[.int .i64 x.code, .slice a1z x.items.length d1z] 46) = W0 at *
  replace R1 := R1.later HB0
  replace R1z := R1z.later HB0
  refine (eq_ItemS _ _ x.items _ R1 R1z).mono ?_
  rintro e w1 ⟨rfl, hb⟩
  replace bA := bA.keep hb
  replace bC := bC.keep hb
  replace HB0 := HB0.trans (hb.mono HB0.size)
  clear hb
  have HB := hide HB0
  have HA := hide bA
  have HC := hide bC
  clear HB0 bA bC
  go_wp2_with fail
  go_ret
  exact ⟨rfl, unhide HB⟩

end Go.Proofs.Ytbogjepkdcknfaa

namespace Go.Proofs.Ytbogjepkdcknfaa
open Go.RowKit

theorem cnt_Item (x : DItem) : Lay.tItem.cnt x = 1 + (Lay.sl Lay.int).vcnt x.vec := by
  show 1 + ((Lay.sl Lay.int).vcnt x.vec) = 1 + (Lay.sl Lay.int).vcnt x.vec
  omega
theorem mkd_Item (k : Int) (x : DItem) : Lay.tItem.mkd k x = ⟨k, (Lay.sl Lay.int).mkv (k + 1) x.vec⟩ := rfl
theorem vcnt_ItemS (xs : List DItem) : (Lay.sl Lay.tItem).vcnt xs = cntAll Lay.tItem.cnt xs := rfl
theorem mkv_ItemS (k : Int) (xs : List DItem) : (Lay.sl Lay.tItem).mkv k xs = mkAll Lay.tItem.cnt Lay.tItem.mkd k xs := rfl

set_option maxRecDepth 10000 in
set_option maxHeartbeats 2000000 in
theorem markItem_pos (b off cap : Nat) (xs : List DItem) (bl : List Nat) (k : Int) (w : World) (h : (Lay.sl Lay.tItem).Own w [.slice (some ⟨b, off, none⟩) xs.length cap] xs bl) (hk : 0 ≤ k) (hk2 : k + (cntAll Lay.tItem.cnt xs : Nat) ≤ 1000000000) :
    Calls Try.prog 64 #[.slice (some ⟨b, off, none⟩) xs.length cap, .int .i64 k] w fun e w' => e = .returned (.int .i64 (k + (cntAll Lay.tItem.cnt xs : Nat))) ∧ (Lay.sl Lay.tItem).Own w' [.slice (some ⟨b, off, none⟩) xs.length cap] (mkAll Lay.tItem.cnt Lay.tItem.mkd k xs) bl ∧ Ext (fun q => q ∈ bl) w w' := by
  have hbig := h.reads.big
  have H := hide h
  clear h
  go_enter Try.func64, Try.ntmps64
  go_wp2_with fail
  go_loopw [1, 5] (fun kk i wr => ∃ (j : Nat) (kj : Int), j ≤ xs.length ∧ i = .int .i64 j ∧ kj = k + (cntAll Lay.tItem.cnt (xs.take j) : Nat) ∧ kk = .int .i64 kj ∧ (Lay.sl Lay.tItem).Own wr [.slice (some ⟨b, off, none⟩) xs.length cap] (mkPre Lay.tItem.cnt Lay.tItem.mkd k xs j) bl ∧ Ext (fun q => q ∈ bl) w wr) (fun _ i _ => xs.length - (intOf i).toNat)
  case atStart => exact ⟨0, k, Nat.zero_le _, rfl, by simp [cntAll], rfl, by rw [mkPre_zero]; exact unhide H, Ext.refl _ _⟩
  case round =>
    obtain ⟨j, kj, hj, rfl, hkj, rfl, hO, hX⟩ := hrel
    clear H
    by_cases hlt : j < xs.length
    · have hj2 : j < (mkPre Lay.tItem.cnt Lay.tItem.mkd k xs j).length := by rw [mkPre_len _ _ _ _ _ hj]; exact hlt
      obtain ⟨row, blk, R, O, hbk, hin, hfin⟩ := Lay.own_upd hO hj2
      rw [mkPre_get _ _ _ _ _ hlt] at O
      have HT := hide (Lay.cntAll_take (f := Lay.tItem.cnt) hlt)
      have hle := Lay.cntAll_take_le (f := Lay.tItem.cnt) (xs := xs) (k := j + 1)
      rw [unhide HT] at hle
      have HM : Hid (∀ y, y = Lay.tItem.mkd kj xs[j] → (mkPre Lay.tItem.cnt Lay.tItem.mkd k xs j).set j y = mkPre Lay.tItem.cnt Lay.tItem.mkd k xs (j + 1)) := fun y e => by rw [e, hkj]; exact mkPre_set _ _ _ _ _ hlt
      have HF := hide hfin
      have HX := hide hX
      have HI := hide hin
      clear hO hfin hX hin hj2
      generalize hx : xs[j] = x at *
      clear hx
      have hcn := cnt_Item x
      have HD := hide (mkd_Item kj x)
      have hb1 : 0 ≤ kj := by omega
      have hb2 : kj + (Lay.tItem.cnt x : Int) ≤ 1000000000 := by omega
      have HK := hide hkj
      clear hkj hle
      have hnd := O.2.1
      obtain ⟨a1, d1, g1, rfl, hbl, O1, v0⟩ := own_Item O
      clear O
      subst hbl
      have HN := hide hnd
      clear hnd
      have l1 : b < wr.heap.size := R.lt
      have c0 : wr.cell? ⟨b, off + j * 2, none⟩ = some (.int .i64 x.id) := R.at 0 _ rfl
      have f0 : wr.frozen? ⟨b, off + j * 2, none⟩ = false := R.soft _
      have c1 : wr.cell? ⟨b, off + j * 2 + 1, none⟩ = some (.slice a1 x.vec.length d1) := R.at 1 _ rfl
      have R0_ : RowAt wr (wr.setCell ⟨b, off + j * 2, none⟩ (.int .i64 kj)) b (off + j * 2) 2 [.int .i64 kj, .slice a1 x.vec.length d1] blk := (R.set 0 (.int .i64 kj) (by decide))
      have E0_ : Ext (fun q => q = b) wr (wr.setCell ⟨b, off + j * 2, none⟩ (.int .i64 kj)) := ((Ext.refl (fun q => q = b) _).setCell ⟨b, off + j * 2, none⟩ (.int .i64 kj) rfl)
      have O1_ := O1.ext E0_ (fun c hc e => hbk (e ▸ hc))
      clear O1
      have O1 := O1_
      clear O1_
      clear R E0_
      have R := R0_
      clear R0_
      have HR := hide R
      clear R
      go_wp2_with fail
      refine (mark_Int64S _ x.vec blk (kj + 1) _ O1 (by omega) (by omega)).mono ?_
      rintro e w2 ⟨rfl, Q1, E2⟩
      have R := (unhide HR).call E2 (fun _ h => h) hbk
      clear E2 O1 HR c0 c1 f0
      clear l1
      have l1 : b < w2.heap.size := R.lt
      have HR := hide R
      clear R
      have HQ := hide Q1
      clear Q1
      go_wp2_with fail
      go_roundw
      case rel =>
        refine ⟨j + 1, _, by omega, by go_num, ?_, rfl, ?_, ?_⟩
        · rw [unhide HT, hcn]
          have := unhide HK
          omega
        · rw [← unhide HM _ (unhide HD).symm]
          exact unhide HF _ _ _ (unhide HR) (mkOwn_Item (x := ⟨kj, (Lay.sl Lay.int).mkv (kj + 1) x.vec⟩) (unhide HQ) (show (Lit.int .i64 (kj)).wf = true from wf_of_bd (by omega)) (unhide HN))
        · exact (unhide HX).trans ((unhide HR).ext.mono fun q _ hq => unhide HI q (by rcases hq with h | h; exact Or.inl h.symm; exact Or.inr h))
      case measure => simp [intOf]; omega
    · obtain rfl : j = xs.length := by omega
      rw [mkPre_all] at hO
      rw [List.take_length] at hkj
      have HK := hide hkj
      clear hkj
      have HO := hide hO
      have HX := hide hX
      clear hO hX
      go_wp2_with fail
      go_ret
      exact ⟨by rw [← unhide HK]; rfl, unhide HO, unhide HX⟩

theorem markItem_zero (ao : Option Addr) (cap : Nat) (k : Int) (w : World) :
    Calls Try.prog 64 #[.slice ao 0 cap, .int .i64 k] w fun e w' => e = .returned (.int .i64 k) ∧ w' = w := by
  go_enter Try.func64, Try.ntmps64
  go_wp2_with fail
  refine wp_loop_rounds 1 ?_
  rw [rounds_succ]
  go_wp2_with fail
  go_ret
  exact ⟨rfl, rfl⟩

/-- markItemS. -/
theorem mark_ItemS (v : Value) (xs : List DItem) (bl : List Nat) (k : Int) (w : World) (h : (Lay.sl Lay.tItem).Own w [v] xs bl) (hk : 0 ≤ k) (hk2 : k + (Lay.sl Lay.tItem).vcnt xs ≤ 1000000000) :
    Calls Try.prog 64 #[v, .int .i64 k] w fun e w' => e = .returned (.int .i64 (k + (Lay.sl Lay.tItem).vcnt xs)) ∧ (Lay.sl Lay.tItem).Own w' [v] ((Lay.sl Lay.tItem).mkv k xs) bl ∧ Ext (fun q => q ∈ bl) w w' := by
  obtain ⟨ao, cap, rfl⟩ := open_sl h.reads
  by_cases hp : 0 < xs.length
  · obtain ⟨b, off, rfl, hbl⟩ := Lay.sl_addr h.reads hp
    exact markItem_pos b off cap xs bl k w h hk hk2
  · obtain rfl : xs = [] := List.eq_nil_of_length_eq_zero (by omega)
    refine (markItem_zero ao cap k w).mono ?_
    rintro e w' ⟨rfl, rfl⟩
    exact ⟨by rw [vcnt_ItemS]; simp [cntAll], h, Ext.refl _ _⟩

end Go.Proofs.Ytbogjepkdcknfaa

namespace Go.Proofs.Ytbogjepkdcknfaa
open Go.RowKit

set_option maxRecDepth 10000 in
set_option maxHeartbeats 1000000 in
theorem mark_TableResult (cs : List Value) (x : DTableResult) (bl : List Nat) (k : Int) (w : World) (h : Lay.tTableResult.Own w cs x bl) (hk : 0 ≤ k) (hk2 : k + Lay.tTableResult.vcnt x ≤ 1000000000) :
    Calls Try.prog 32 #[.agg cs.toArray, .int .i64 k] w fun e w' => e = .returned (.int .i64 (k + Lay.tTableResult.vcnt x)) ∧ Lay.tTableResult.Own w' cs (Lay.tTableResult.mkv k x) bl ∧ Ext (fun q => q ∈ bl) w w' := by
  have hlt := h.lt
  have hnd := h.2.1
  rw [vcnt_TableResult] at hk2
  obtain ⟨a1, d1, g1, rfl, hbl, O1, v0⟩ := own_TableResult h
  clear h
  have HB0 : Below w.heap.size w (w.alloc (.cells #[.int .i64 x.code, .slice a1 x.items.length d1] 46)) := (Below.refl _ _).alloc (Nat.le_refl _) _
  have bA : Box w.heap.size #[.int .i64 x.code, .slice a1 x.items.length d1] 46 (w.alloc (.cells #[.int .i64 x.code, .slice a1 x.items.length d1] 46)) w.heap.size := newBox (Nat.le_refl _)
  have HN := hide hnd
  have HV := hide (vcnt_TableResult x)
  have HM := hide (mkv_TableResult k x)
  clear hnd
  go_enter Try.func32, Try.ntmps32
  go_wp2_with fail
  generalize w.alloc (.cells #[.int .i64 x.code, .slice a1 x.items.length d1] 46) = W0 at *
  replace O1 := O1.later HB0
  have hsz := HB0.size
  have EX : Ext (fun q => q ∈ bl) w W0 := ext_of_below HB0 _
  have hs0 := bA.lt
  refine (mark_ItemS _ x.items g1 (k) _ O1 (by omega) (by omega)).mono ?_
  rintro e w1 ⟨rfl, Q1, E1⟩
  replace EX := EX.trans (E1.mono fun b _ hb => by rw [hbl]; simp [hb])
  replace bA := bA.ext E1 (fun hm => by have := hlt w.heap.size (by rw [hbl]; simp [hm]); omega)
  clear E1
  have HA := hide bA
  have HX := hide EX
  have HL := hide hlt
  have HBL := hide hbl
  clear bA EX hlt hbl
  have P1 := hide Q1
  clear Q1
  clear O1
  go_wp2_with fail
  go_ret
  refine ⟨?_, ?_, unhide HX⟩
  · rw [show k + (Lay.tTableResult.vcnt x : Int) = k + ((Lay.sl Lay.tItem).vcnt x.items : Int) by rw [unhide HV]]
    rfl
  · have e := unhide HBL
    subst e
    rw [unhide HM]
    exact mkOwn_TableResult (x := ⟨x.code, (Lay.sl Lay.tItem).mkv (k) x.items⟩) (unhide P1) v0 (unhide HN)

end Go.Proofs.Ytbogjepkdcknfaa

namespace Go.Proofs.Ytbogjepkdcknfaa
open Go.RowKit

set_option maxRecDepth 10000 in
set_option maxHeartbeats 2000000 in
theorem heldItem_pos (b off cap : Nat) (xs : List DItem) (k : Int) (w : World) (h : (Lay.sl Lay.tItem).Reads w [.slice (some ⟨b, off, none⟩) (mkAll Lay.tItem.cnt Lay.tItem.mkd k xs).length cap] (mkAll Lay.tItem.cnt Lay.tItem.mkd k xs)) (hbl : b < w.heap.size) (hk : 0 ≤ k) (hk2 : k + (cntAll Lay.tItem.cnt xs : Nat) ≤ 1000000000) :
    Calls Try.prog 65 #[.slice (some ⟨b, off, none⟩) xs.length cap, .int .i64 k] w fun e w' => e = .returned (.int .i64 (k + (cntAll Lay.tItem.cnt xs : Nat))) ∧ Below w.heap.size w w' := by
  have hbig := h.big
  rw [mkAll_size] at hbig
  have H := hide h
  clear h
  go_enter Try.func65, Try.ntmps65
  go_wp2_with fail
  go_loopw [1, 5] (fun kk i wr => ∃ (j : Nat) (kj : Int), j ≤ xs.length ∧ i = .int .i64 j ∧ kj = k + (cntAll Lay.tItem.cnt (xs.take j) : Nat) ∧ kk = .int .i64 kj ∧ Below w.heap.size w wr) (fun _ i _ => xs.length - (intOf i).toNat)
  case atStart => exact ⟨0, k, Nat.zero_le _, rfl, by simp [cntAll], rfl, Below.refl _ _⟩
  case round =>
    obtain ⟨j, kj, hj, rfl, hkj, rfl, hB⟩ := hrel
    by_cases hlt : j < xs.length
    · have hj2 : j < (mkAll Lay.tItem.cnt Lay.tItem.mkd k xs).length := by rw [mkAll_size]; exact hlt
      obtain ⟨row, hc, hr⟩ := Lay.row_at (unhide H) hj2
      rw [mkAll_at _ _ _ _ _ hlt hj2, ← hkj, mkd_Item] at hr
      have HT := hide (Lay.cntAll_take (f := Lay.tItem.cnt) hlt)
      have hle := Lay.cntAll_take_le (f := Lay.tItem.cnt) (xs := xs) (k := j + 1)
      rw [unhide HT] at hle
      clear hj2
      generalize hx : xs[j] = x at *
      clear hx
      have hcn := cnt_Item x
      have hb1 : 0 ≤ kj := by omega
      have hb2 : kj + (Lay.tItem.cnt x : Int) ≤ 1000000000 := by omega
      have HK := hide hkj
      clear hkj hle
      replace hr := hr.later hB
      obtain ⟨a1, d1, rfl, R1⟩ := open_Item hr
      clear hr
      generalize hn : (⟨kj, (Lay.sl Lay.int).mkv (kj + 1) x.vec⟩ : DItem).vec.length = n1 at *
      clear hn
      have c0 : wr.cell? ⟨b, off + j * 2, none⟩ = some (.int .i64 (kj)) := (hB.cell (p := ⟨b, off + j * 2, none⟩) hbl).trans (hc 0 (by decide))
      have e0 : ((kj : Int) != (kj : Int)) = false := by simp
      have c1 : wr.cell? ⟨b, off + j * 2 + 1, none⟩ = some (.slice a1 n1 d1) := (hB.cell (p := ⟨b, off + j * 2 + 1, none⟩) hbl).trans (hc 1 (by decide))
      have HB := hide hB
      clear hB hc
      go_wp2_with fail
      refine (held_Int64S _ x.vec (kj + 1) _ R1 (by omega) (by omega)).mono ?_
      rintro e w2 ⟨rfl, hb⟩
      have l1 : b < wr.heap.size := Nat.lt_of_lt_of_le hbl (unhide HB).size
      replace HB := hide ((unhide HB).trans (hb.mono (unhide HB).size))
      clear hb R1 l1 c0 c1
      have hq : decide (kj + 1 + ((Lay.sl Lay.int).vcnt x.vec : Int) < 0) = false := by simp; omega
      go_wp2_with fail
      go_roundw
      case rel => exact ⟨j + 1, _, by omega, by go_num, (by rw [unhide HT, hcn]; have := unhide HK; omega), rfl, unhide HB⟩
      case measure => simp [intOf]; omega
    · obtain rfl : j = xs.length := by omega
      rw [List.take_length] at hkj
      have HK := hide hkj
      have HB := hide hB
      clear hB hkj
      go_wp2_with fail
      go_ret
      exact ⟨by rw [← unhide HK]; rfl, unhide HB⟩

theorem heldItem_zero (ao : Option Addr) (cap : Nat) (k : Int) (w : World) :
    Calls Try.prog 65 #[.slice ao 0 cap, .int .i64 k] w fun e w' => e = .returned (.int .i64 k) ∧ w' = w := by
  go_enter Try.func65, Try.ntmps65
  go_wp2_with fail
  refine wp_loop_rounds 1 ?_
  rw [rounds_succ]
  go_wp2_with fail
  go_ret
  exact ⟨rfl, rfl⟩

/-- heldItemS. -/
theorem held_ItemS (v : Value) (xs : List DItem) (k : Int) (w : World) (h : (Lay.sl Lay.tItem).Reads w [v] ((Lay.sl Lay.tItem).mkv k xs)) (hk : 0 ≤ k) (hk2 : k + (Lay.sl Lay.tItem).vcnt xs ≤ 1000000000) :
    Calls Try.prog 65 #[v, .int .i64 k] w fun e w' => e = .returned (.int .i64 (k + (Lay.sl Lay.tItem).vcnt xs)) ∧ Below w.heap.size w w' := by
  rw [mkv_ItemS] at h
  obtain ⟨ao, cap, rfl⟩ := open_sl h
  by_cases hp : 0 < xs.length
  · obtain ⟨b, off, rfl, hbl⟩ := Lay.sl_addr h (by rw [mkAll_size]; exact hp)
    have L := heldItem_pos b off cap xs k w h hbl hk hk2
    rw [mkAll_size]
    exact L
  · obtain rfl : xs = [] := List.eq_nil_of_length_eq_zero (by omega)
    refine (heldItem_zero ao cap k w).mono ?_
    rintro e w' ⟨rfl, rfl⟩
    exact ⟨by rw [vcnt_ItemS]; simp [cntAll], Below.refl _ _⟩

end Go.Proofs.Ytbogjepkdcknfaa

namespace Go.Proofs.Ytbogjepkdcknfaa
open Go.RowKit

set_option maxRecDepth 10000 in
set_option maxHeartbeats 1000000 in
theorem held_TableResult (cs : List Value) (x : DTableResult) (k : Int) (w : World) (h : Lay.tTableResult.Reads w cs (Lay.tTableResult.mkv k x)) (hk : 0 ≤ k) (hk2 : k + Lay.tTableResult.vcnt x ≤ 1000000000) :
    Calls Try.prog 33 #[.agg cs.toArray, .int .i64 k] w fun e w' => e = .returned (.int .i64 (k + Lay.tTableResult.vcnt x)) ∧ Below w.heap.size w w' := by
  rw [mkv_TableResult] at h
  rw [vcnt_TableResult] at hk2
  have HV := hide (vcnt_TableResult x)
  obtain ⟨a1, d1, rfl, R1⟩ := open_TableResult h
  clear h
  generalize hn1 : (⟨x.code, (Lay.sl Lay.tItem).mkv (k) x.items⟩ : DTableResult).items.length = n1 at *
  clear hn1
  have HB0 : Below w.heap.size w (w.alloc (.cells #[.int .i64 x.code, .slice a1 n1 d1] 46)) := (Below.refl _ _).alloc (Nat.le_refl _) _
  have bA : Box w.heap.size #[.int .i64 x.code, .slice a1 n1 d1] 46 (w.alloc (.cells #[.int .i64 x.code, .slice a1 n1 d1] 46)) w.heap.size := newBox (Nat.le_refl _)
  go_enter Try.func33, Try.ntmps33
  go_wp2_with fail
  generalize w.alloc (.cells #[.int .i64 x.code, .slice a1 n1 d1] 46) = W0 at *
  replace R1 := R1.later HB0
  refine (held_ItemS _ x.items (k) _ R1 (by omega) (by omega)).mono ?_
  rintro e w1 ⟨rfl, hb⟩
  replace HB0 := HB0.trans (hb.mono HB0.size)
  replace bA := bA.keep hb
  have HA := hide bA
  have HX := hide HB0
  clear bA HB0 hb R1
  have hq : decide (k + ((Lay.sl Lay.tItem).vcnt x.items : Int) < 0) = false := by simp; omega
  go_wp2_with fail
  clear hq
  go_ret
  refine ⟨?_, unhide HX⟩
  rw [show k + (Lay.tTableResult.vcnt x : Int) = k + ((Lay.sl Lay.tItem).vcnt x.items : Int) by rw [unhide HV]]
  rfl

end Go.Proofs.Ytbogjepkdcknfaa

namespace Go.Proofs.Ytbogjepkdcknfaa
open Go.RowKit

set_option maxRecDepth 100000 in
set_option maxHeartbeats 4000000 in
theorem lawx_StateAt (u0 : List Value) (x0 : DNode) (x1 : Int) (y : DTableResult) (w : World) (A0 : Lay.tNode.Reads w u0 x0) (NS : Lay.tNode.sz x0 ≤ 1048576)
    (hS : ∀ (W : World) (u0 : List Value), Lay.tNode.Reads W u0 x0 → Calls Try.prog 29 #[.agg u0.toArray, .int .i64 x1] W fun e w' => ∃ cs, e = .returned (.agg cs.toArray) ∧ Lay.tTableResult.Reads w' cs y ∧ Below W.heap.size W w')
    (hI : ∀ (W : World) (u0 : List Value), Lay.tNode.Reads W u0 x0 → Calls Try.prog 30 #[.agg u0.toArray, .int .i64 x1] W fun e w' => ∃ cs, e = .returned (.agg cs.toArray) ∧ Lay.tTableResult.OwnIn w' cs y W.heap.size w'.heap.size ∧ Below W.heap.size W w') (hc : Lay.tTableResult.vcnt y ≤ 100000000) :
    Calls Try.prog 9 #[.agg u0.toArray, .int .i64 x1] w fun e w' => e = .returned (.bool true) ∧ Below w.heap.size w w' := by
  obtain ⟨a4p0, d4p0, rfl, -⟩ := open_Node A0
  have HS := hide hS
  have HI := hide hI
  clear hS hI
  have HA0 := hide A0.liesIn
  clear A0
  have N0 : Lay.tNode.sz x0 ≤ 1048576 := by omega
  have HN0 := hide N0
  clear N0
  have HC := hide hc
  clear hc
  have HNS := hide NS
  clear NS
  have HB := hide (Below.refl w.heap.size w)
  go_enter Try.func9, Try.ntmps9
  go_wp2_with fail
  have nb : Below w.heap.size w (w.alloc (.cells #[.int .i64 x0.id, .bool x0.up, .int .i64 x0.epoch, .int .i64 x0.lease, .slice a4p0 x0.writes.length d4p0, .int .i64 x0.sure, .int .i64 x0.clean] 24)) := (Below.refl w.heap.size w).alloc (Nat.le_refl _) _
  have P0 : Hid (Box w.heap.size #[.int .i64 x0.id, .bool x0.up, .int .i64 x0.epoch, .int .i64 x0.lease, .slice a4p0 x0.writes.length d4p0, .int .i64 x0.sure, .int .i64 x0.clean] 24 (w.alloc (.cells #[.int .i64 x0.id, .bool x0.up, .int .i64 x0.epoch, .int .i64 x0.lease, .slice a4p0 x0.writes.length d4p0, .int .i64 x0.sure, .int .i64 x0.clean] 24)) (w.heap.size)) := newBoxAt (by omega) (by simp)
  generalize haw1 : (w.alloc (.cells #[.int .i64 x0.id, .bool x0.up, .int .i64 x0.epoch, .int .i64 x0.lease, .slice a4p0 x0.writes.length d4p0, .int .i64 x0.sure, .int .i64 x0.clean] 24)) = w1 at *
  have Gw1 : w.heap.size + 1 ≤ w1.heap.size := by rw [← haw1]; simp
  clear haw1
  replace HA0 := hide ((unhide HA0).later nb)
  have Zw1 : w.heap.size ≤ w1.heap.size := nb.size
  replace HB := hide ((unhide HB).trans (nb.mono (by omega)))
  clear nb
  have hns := unhide HNS
  refine (sz_Node _ x0 (1048576) w1 (unhide HA0).reads (by omega)).mono ?_
  rintro e w2 ⟨rfl, hb⟩
  replace HA0 := hide ((unhide HA0).later hb)
  replace P0 := hide ((unhide P0).keep hb)
  have Zw2 : w1.heap.size ≤ w2.heap.size := hb.size
  replace HB := hide ((unhide HB).trans (hb.mono (by omega)))
  clear hb
  rw [szR_ok (by omega)]
  have hq0 : decide (((1048576 - Lay.tNode.sz x0 : Nat) : Int) < 0) = false := by simp
  clear hns
  have l0P0 := (unhide P0).at 0 _ rfl
  have l1P0 := (unhide P0).at 1 _ rfl
  have l2P0 := (unhide P0).at 2 _ rfl
  have l3P0 := (unhide P0).at 3 _ rfl
  have l4P0 := (unhide P0).at 4 _ rfl
  have l5P0 := (unhide P0).at 5 _ rfl
  have l6P0 := (unhide P0).at 6 _ rfl
  have ltP0 : w.heap.size < w2.heap.size := by omega
  simp only [List.getElem_toArray, List.getElem_cons_zero, List.getElem_cons_succ] at l0P0 l1P0 l2P0 l3P0 l4P0 l5P0 l6P0
  go_wp2_with fail
  clear l0P0 l1P0 l2P0 l3P0 l4P0 l5P0 l6P0 ltP0
  clear hq0
  refine (to_Node _ x0 w2 (unhide HA0).reads (unhide HN0)).mono ?_
  rintro e w3 ⟨vc0, rfl, O, hb⟩
  replace HA0 := hide ((unhide HA0).later hb)
  replace P0 := hide ((unhide P0).keep hb)
  have Zw3 : w2.heap.size ≤ w3.heap.size := hb.size
  replace HB := hide ((unhide HB).trans (hb.mono (by omega)))
  clear hb
  obtain ⟨a4c0, d4c0, rfl, -⟩ := open_Node O.reads
  have Hc0 := hide O
  clear O
  have l0P0 := (unhide P0).at 0 _ rfl
  have l1P0 := (unhide P0).at 1 _ rfl
  have l2P0 := (unhide P0).at 2 _ rfl
  have l3P0 := (unhide P0).at 3 _ rfl
  have l4P0 := (unhide P0).at 4 _ rfl
  have l5P0 := (unhide P0).at 5 _ rfl
  have l6P0 := (unhide P0).at 6 _ rfl
  have ltP0 : w.heap.size < w3.heap.size := by omega
  simp only [List.getElem_toArray, List.getElem_cons_zero, List.getElem_cons_succ] at l0P0 l1P0 l2P0 l3P0 l4P0 l5P0 l6P0
  go_wp2_with fail
  clear l0P0 l1P0 l2P0 l3P0 l4P0 l5P0 l6P0 ltP0
  refine (unhide HS w3 _ (unhide Hc0).reads).mono ?_
  rintro e w4 ⟨cs, rfl, O, hb⟩
  replace HA0 := hide ((unhide HA0).later hb)
  replace P0 := hide ((unhide P0).keep hb)
  replace Hc0 := hide ((unhide Hc0).later hb)
  have Zw4 : w3.heap.size ≤ w4.heap.size := hb.size
  replace HB := hide ((unhide HB).trans (hb.mono (by omega)))
  clear hb
  obtain ⟨a1W, d1W, rfl, -⟩ := open_TableResult O
  have HW := hide O.liesIn
  clear O
  have nb : Below w4.heap.size w4 (w4.alloc (.cells #[.int .i64 y.code, .slice a1W y.items.length d1W] 46)) := (Below.refl _ _).alloc (Nat.le_refl _) _
  have YW : Hid (Box w4.heap.size #[.int .i64 y.code, .slice a1W y.items.length d1W] 46 (w4.alloc (.cells #[.int .i64 y.code, .slice a1W y.items.length d1W] 46)) w4.heap.size) := newBox (Nat.le_refl _)
  clear Hc0
  have l0P0 := (unhide P0).at 0 _ rfl
  have l1P0 := (unhide P0).at 1 _ rfl
  have l2P0 := (unhide P0).at 2 _ rfl
  have l3P0 := (unhide P0).at 3 _ rfl
  have l4P0 := (unhide P0).at 4 _ rfl
  have l5P0 := (unhide P0).at 5 _ rfl
  have l6P0 := (unhide P0).at 6 _ rfl
  have ltP0 : w.heap.size < w4.heap.size := by omega
  simp only [List.getElem_toArray, List.getElem_cons_zero, List.getElem_cons_succ] at l0P0 l1P0 l2P0 l3P0 l4P0 l5P0 l6P0
  go_wp2_with fail
  clear l0P0 l1P0 l2P0 l3P0 l4P0 l5P0 l6P0 ltP0
  generalize haw5 : w4.alloc (.cells #[.int .i64 y.code, .slice a1W y.items.length d1W] 46) = w5 at *
  have Gw5 : w4.heap.size < w5.heap.size := by rw [← haw5]; simp
  clear haw5
  replace HA0 := hide ((unhide HA0).later nb)
  replace P0 := hide ((unhide P0).keep nb)
  replace HW := hide ((unhide HW).later nb)
  have Zw5 : w4.heap.size ≤ w5.heap.size := nb.size
  replace HB := hide ((unhide HB).trans (nb.mono (by omega)))
  clear nb
  refine (to_Node _ x0 w5 (unhide HA0).reads (unhide HN0)).mono ?_
  rintro e w6 ⟨vx0, rfl, O, hb⟩
  replace HA0 := hide ((unhide HA0).later hb)
  replace P0 := hide ((unhide P0).keep hb)
  replace HW := hide ((unhide HW).later hb)
  replace YW := hide ((unhide YW).keep hb)
  have Zw6 : w5.heap.size ≤ w6.heap.size := hb.size
  replace HB := hide ((unhide HB).trans (hb.mono (by omega)))
  clear hb
  obtain ⟨a4x0, d4x0, rfl, -⟩ := open_Node O.reads
  have Hx0 := hide O
  clear O
  have nb : Below w6.heap.size w6 (w6.alloc (.cells #[.int .i64 x0.id, .bool x0.up, .int .i64 x0.epoch, .int .i64 x0.lease, .slice a4x0 x0.writes.length d4x0, .int .i64 x0.sure, .int .i64 x0.clean] 29)) := (Below.refl _ _).alloc (Nat.le_refl _) _
  have X0 : Hid (Box w6.heap.size #[.int .i64 x0.id, .bool x0.up, .int .i64 x0.epoch, .int .i64 x0.lease, .slice a4x0 x0.writes.length d4x0, .int .i64 x0.sure, .int .i64 x0.clean] 29 (w6.alloc (.cells #[.int .i64 x0.id, .bool x0.up, .int .i64 x0.epoch, .int .i64 x0.lease, .slice a4x0 x0.writes.length d4x0, .int .i64 x0.sure, .int .i64 x0.clean] 29)) w6.heap.size) := newBox (Nat.le_refl _)
  have l0P0 := (unhide P0).at 0 _ rfl
  have l1P0 := (unhide P0).at 1 _ rfl
  have l2P0 := (unhide P0).at 2 _ rfl
  have l3P0 := (unhide P0).at 3 _ rfl
  have l4P0 := (unhide P0).at 4 _ rfl
  have l5P0 := (unhide P0).at 5 _ rfl
  have l6P0 := (unhide P0).at 6 _ rfl
  have ltP0 : w.heap.size < w6.heap.size := by omega
  have l0YW := (unhide YW).at 0 _ rfl
  have l1YW := (unhide YW).at 1 _ rfl
  have ltYW : w4.heap.size < w6.heap.size := by omega
  simp only [List.getElem_toArray, List.getElem_cons_zero, List.getElem_cons_succ] at l0P0 l1P0 l2P0 l3P0 l4P0 l5P0 l6P0 l0YW l1YW
  go_wp2_with fail
  clear l0P0 l1P0 l2P0 l3P0 l4P0 l5P0 l6P0 ltP0 l0YW l1YW ltYW
  generalize haw7 : w6.alloc (.cells #[.int .i64 x0.id, .bool x0.up, .int .i64 x0.epoch, .int .i64 x0.lease, .slice a4x0 x0.writes.length d4x0, .int .i64 x0.sure, .int .i64 x0.clean] 29) = w7 at *
  have Gw7 : w6.heap.size < w7.heap.size := by rw [← haw7]; simp
  clear haw7
  replace HA0 := hide ((unhide HA0).later nb)
  replace P0 := hide ((unhide P0).keep nb)
  replace HW := hide ((unhide HW).later nb)
  replace YW := hide ((unhide YW).keep nb)
  replace Hx0 := hide ((unhide Hx0).later nb)
  have Zw7 : w6.heap.size ≤ w7.heap.size := nb.size
  replace HB := hide ((unhide HB).trans (nb.mono (by omega)))
  clear nb
  refine (unhide HI w7 _ (unhide Hx0).reads).mono ?_
  rintro e w8 ⟨cs, rfl, O, hb⟩
  replace HA0 := hide ((unhide HA0).later hb)
  replace P0 := hide ((unhide P0).keep hb)
  replace HW := hide ((unhide HW).later hb)
  replace YW := hide ((unhide YW).keep hb)
  replace Hx0 := hide ((unhide Hx0).later hb)
  replace X0 := hide ((unhide X0).keep hb)
  have Zw8 : w7.heap.size ≤ w8.heap.size := hb.size
  replace HB := hide ((unhide HB).trans (hb.mono (by omega)))
  clear hb
  obtain ⟨a1G, d1G, rfl, -⟩ := open_TableResult O.reads
  have HG := hide O
  clear O
  have nb : Below w8.heap.size w8 (w8.alloc (.cells #[.int .i64 y.code, .slice a1G y.items.length d1G] 46)) := (Below.refl _ _).alloc (Nat.le_refl _) _
  have YG : Hid (Box w8.heap.size #[.int .i64 y.code, .slice a1G y.items.length d1G] 46 (w8.alloc (.cells #[.int .i64 y.code, .slice a1G y.items.length d1G] 46)) w8.heap.size) := newBox (Nat.le_refl _)
  have l0P0 := (unhide P0).at 0 _ rfl
  have l1P0 := (unhide P0).at 1 _ rfl
  have l2P0 := (unhide P0).at 2 _ rfl
  have l3P0 := (unhide P0).at 3 _ rfl
  have l4P0 := (unhide P0).at 4 _ rfl
  have l5P0 := (unhide P0).at 5 _ rfl
  have l6P0 := (unhide P0).at 6 _ rfl
  have ltP0 : w.heap.size < w8.heap.size := by omega
  have l0YW := (unhide YW).at 0 _ rfl
  have l1YW := (unhide YW).at 1 _ rfl
  have ltYW : w4.heap.size < w8.heap.size := by omega
  have l0X0 := (unhide X0).at 0 _ rfl
  have l1X0 := (unhide X0).at 1 _ rfl
  have l2X0 := (unhide X0).at 2 _ rfl
  have l3X0 := (unhide X0).at 3 _ rfl
  have l4X0 := (unhide X0).at 4 _ rfl
  have l5X0 := (unhide X0).at 5 _ rfl
  have l6X0 := (unhide X0).at 6 _ rfl
  have ltX0 : w6.heap.size < w8.heap.size := by omega
  simp only [List.getElem_toArray, List.getElem_cons_zero, List.getElem_cons_succ] at l0P0 l1P0 l2P0 l3P0 l4P0 l5P0 l6P0 l0YW l1YW l0X0 l1X0 l2X0 l3X0 l4X0 l5X0 l6X0
  go_wp2_with fail
  clear l0P0 l1P0 l2P0 l3P0 l4P0 l5P0 l6P0 ltP0 l0YW l1YW ltYW l0X0 l1X0 l2X0 l3X0 l4X0 l5X0 l6X0 ltX0
  generalize haw9 : w8.alloc (.cells #[.int .i64 y.code, .slice a1G y.items.length d1G] 46) = w9 at *
  have Gw9 : w8.heap.size < w9.heap.size := by rw [← haw9]; simp
  clear haw9
  replace HA0 := hide ((unhide HA0).later nb)
  replace P0 := hide ((unhide P0).keep nb)
  replace HW := hide ((unhide HW).later nb)
  replace YW := hide ((unhide YW).keep nb)
  replace Hx0 := hide ((unhide Hx0).later nb)
  replace X0 := hide ((unhide X0).keep nb)
  replace HG := hide ((unhide HG).later nb)
  have Zw9 : w8.heap.size ≤ w9.heap.size := nb.size
  replace HB := hide ((unhide HB).trans (nb.mono (by omega)))
  clear nb
  refine (eq_TableResult _ _ y w9 (unhide HG).reads (unhide HW).reads).mono ?_
  rintro e w10 ⟨rfl, hb⟩
  replace HA0 := hide ((unhide HA0).later hb)
  replace P0 := hide ((unhide P0).keep hb)
  replace HW := hide ((unhide HW).later hb)
  replace YW := hide ((unhide YW).keep hb)
  replace Hx0 := hide ((unhide Hx0).later hb)
  replace X0 := hide ((unhide X0).keep hb)
  replace HG := hide ((unhide HG).later hb)
  replace YG := hide ((unhide YG).keep hb)
  have Zw10 : w9.heap.size ≤ w10.heap.size := hb.size
  replace HB := hide ((unhide HB).trans (hb.mono (by omega)))
  clear hb
  have l0P0 := (unhide P0).at 0 _ rfl
  have l1P0 := (unhide P0).at 1 _ rfl
  have l2P0 := (unhide P0).at 2 _ rfl
  have l3P0 := (unhide P0).at 3 _ rfl
  have l4P0 := (unhide P0).at 4 _ rfl
  have l5P0 := (unhide P0).at 5 _ rfl
  have l6P0 := (unhide P0).at 6 _ rfl
  have ltP0 : w.heap.size < w10.heap.size := by omega
  have l0YW := (unhide YW).at 0 _ rfl
  have l1YW := (unhide YW).at 1 _ rfl
  have ltYW : w4.heap.size < w10.heap.size := by omega
  have l0X0 := (unhide X0).at 0 _ rfl
  have l1X0 := (unhide X0).at 1 _ rfl
  have l2X0 := (unhide X0).at 2 _ rfl
  have l3X0 := (unhide X0).at 3 _ rfl
  have l4X0 := (unhide X0).at 4 _ rfl
  have l5X0 := (unhide X0).at 5 _ rfl
  have l6X0 := (unhide X0).at 6 _ rfl
  have ltX0 : w6.heap.size < w10.heap.size := by omega
  have l0YG := (unhide YG).at 0 _ rfl
  have l1YG := (unhide YG).at 1 _ rfl
  have ltYG : w8.heap.size < w10.heap.size := by omega
  simp only [List.getElem_toArray, List.getElem_cons_zero, List.getElem_cons_succ] at l0P0 l1P0 l2P0 l3P0 l4P0 l5P0 l6P0 l0YW l1YW l0X0 l1X0 l2X0 l3X0 l4X0 l5X0 l6X0 l0YG l1YG
  go_wp2_with fail
  clear l0P0 l1P0 l2P0 l3P0 l4P0 l5P0 l6P0 ltP0 l0YW l1YW ltYW l0X0 l1X0 l2X0 l3X0 l4X0 l5X0 l6X0 ltX0 l0YG l1YG ltYG
  have l0P0 := (unhide P0).at 0 _ rfl
  have l1P0 := (unhide P0).at 1 _ rfl
  have l2P0 := (unhide P0).at 2 _ rfl
  have l3P0 := (unhide P0).at 3 _ rfl
  have l4P0 := (unhide P0).at 4 _ rfl
  have l5P0 := (unhide P0).at 5 _ rfl
  have l6P0 := (unhide P0).at 6 _ rfl
  have ltP0 : w.heap.size < w10.heap.size := by omega
  have l0X0 := (unhide X0).at 0 _ rfl
  have l1X0 := (unhide X0).at 1 _ rfl
  have l2X0 := (unhide X0).at 2 _ rfl
  have l3X0 := (unhide X0).at 3 _ rfl
  have l4X0 := (unhide X0).at 4 _ rfl
  have l5X0 := (unhide X0).at 5 _ rfl
  have l6X0 := (unhide X0).at 6 _ rfl
  have ltX0 : w6.heap.size < w10.heap.size := by omega
  simp only [List.getElem_toArray, List.getElem_cons_zero, List.getElem_cons_succ] at l0P0 l1P0 l2P0 l3P0 l4P0 l5P0 l6P0 l0X0 l1X0 l2X0 l3X0 l4X0 l5X0 l6X0
  refine wp_region_noPanic ?_
  refine wp_region_held_drew (S := fun w' => Below w10.heap.size w10 w') (by kernel_rfl) (Below.refl _ _).drew (fun hHeld => ?_)
  generalize w10.drew = wD at hHeld ⊢
  refine wpAnyH_take (i := 0) (oi := { dst := some 31, op := Go.Op.load 29 (Go.Operand.tmp 7), type := 29, pos := "exact.go:4016", after := #[], guard := none }) (v := ?vs00) rfl (by kernel_rfl) (by kernel_rfl) (by kernel_rfl) (fun _ _ _ h => h) (Or.inl ⟨by rfl, ?hs00⟩) hHeld ?rs00
  case hs00 =>
    intro wS hSw
    have y0P0 := (hSw.cell (p := ⟨w.heap.size, 0, none⟩) ltP0).trans l0P0
    have y1P0 := (hSw.cell (p := ⟨w.heap.size, 1, none⟩) ltP0).trans l1P0
    have y2P0 := (hSw.cell (p := ⟨w.heap.size, 2, none⟩) ltP0).trans l2P0
    have y3P0 := (hSw.cell (p := ⟨w.heap.size, 3, none⟩) ltP0).trans l3P0
    have y4P0 := (hSw.cell (p := ⟨w.heap.size, 4, none⟩) ltP0).trans l4P0
    have y5P0 := (hSw.cell (p := ⟨w.heap.size, 5, none⟩) ltP0).trans l5P0
    have y6P0 := (hSw.cell (p := ⟨w.heap.size, 6, none⟩) ltP0).trans l6P0
    have y0X0 := (hSw.cell (p := ⟨w6.heap.size, 0, none⟩) ltX0).trans l0X0
    have y1X0 := (hSw.cell (p := ⟨w6.heap.size, 1, none⟩) ltX0).trans l1X0
    have y2X0 := (hSw.cell (p := ⟨w6.heap.size, 2, none⟩) ltX0).trans l2X0
    have y3X0 := (hSw.cell (p := ⟨w6.heap.size, 3, none⟩) ltX0).trans l3X0
    have y4X0 := (hSw.cell (p := ⟨w6.heap.size, 4, none⟩) ltX0).trans l4X0
    have y5X0 := (hSw.cell (p := ⟨w6.heap.size, 5, none⟩) ltX0).trans l5X0
    have y6X0 := (hSw.cell (p := ⟨w6.heap.size, 6, none⟩) ltX0).trans l6X0
    clear hSw
    (try dsimp only at hSw)
    go_simp
    try with_reducible rfl
  case rs00 =>
  simp only [Act.put, List.setIfInBounds_toArray, List.set_cons_zero, List.set_cons_succ]
  refine wpAnyH_take (i := 1) (oi := { dst := some 32, op := Go.Op.load 24 (Go.Operand.tmp 2), type := 24, pos := "exact.go:4016", after := #[], guard := none }) (v := ?vs01) rfl (by kernel_rfl) (by kernel_rfl) (by kernel_rfl) (fun _ _ _ h => h) (Or.inl ⟨by rfl, ?hs01⟩) hHeld ?rs01
  case hs01 =>
    intro wS hSw
    have y0P0 := (hSw.cell (p := ⟨w.heap.size, 0, none⟩) ltP0).trans l0P0
    have y1P0 := (hSw.cell (p := ⟨w.heap.size, 1, none⟩) ltP0).trans l1P0
    have y2P0 := (hSw.cell (p := ⟨w.heap.size, 2, none⟩) ltP0).trans l2P0
    have y3P0 := (hSw.cell (p := ⟨w.heap.size, 3, none⟩) ltP0).trans l3P0
    have y4P0 := (hSw.cell (p := ⟨w.heap.size, 4, none⟩) ltP0).trans l4P0
    have y5P0 := (hSw.cell (p := ⟨w.heap.size, 5, none⟩) ltP0).trans l5P0
    have y6P0 := (hSw.cell (p := ⟨w.heap.size, 6, none⟩) ltP0).trans l6P0
    have y0X0 := (hSw.cell (p := ⟨w6.heap.size, 0, none⟩) ltX0).trans l0X0
    have y1X0 := (hSw.cell (p := ⟨w6.heap.size, 1, none⟩) ltX0).trans l1X0
    have y2X0 := (hSw.cell (p := ⟨w6.heap.size, 2, none⟩) ltX0).trans l2X0
    have y3X0 := (hSw.cell (p := ⟨w6.heap.size, 3, none⟩) ltX0).trans l3X0
    have y4X0 := (hSw.cell (p := ⟨w6.heap.size, 4, none⟩) ltX0).trans l4X0
    have y5X0 := (hSw.cell (p := ⟨w6.heap.size, 5, none⟩) ltX0).trans l5X0
    have y6X0 := (hSw.cell (p := ⟨w6.heap.size, 6, none⟩) ltX0).trans l6X0
    clear hSw
    (try dsimp only at hSw)
    go_simp
    try with_reducible rfl
  case rs01 =>
  simp only [Act.put, List.setIfInBounds_toArray, List.set_cons_zero, List.set_cons_succ]
  refine wpAnyH_ready (rs := [2]) (by kernel_rfl) (by simp) ?_
  refine AllReadyH.cons (o := { dst := some 33, op := Go.Op.call { callee := Go.Callee.value (Go.Operand.func 12), args := #[Go.Operand.tmp 32], argTypes := #[24] }, type := 29, pos := "exact.go:4016", after := #[{ on := 1, ground := Go.Ground.data }], guard := none }) rfl (fun K hK => ?_) AllReadyH.nil
  go_simp
  go_at_call 12
  refine (to_Node _ x0 _ ((unhide HA0).reads.later hHeld) (unhide HN0)).mono ?_
  rintro e wT ⟨vT, rfl, OT, hbw⟩
  have RT := OT.reads
  obtain ⟨a4T, d4T, rfl, -⟩ := open_Node RT
  try go_wp2_with fail
  refine hK.out _ _ (hHeld.trans (hbw.mono hHeld.size)) (fun hHeld => ?_)
  clear hK K
  try simp only [Act.put, List.setIfInBounds_toArray, List.set_cons_zero, List.set_cons_succ]
  refine wpAnyH_ready (rs := [3]) (by kernel_rfl) (by simp) ?_
  refine AllReadyH.cons (o := { dst := some 34, op := Go.Op.call { callee := Go.Callee.value (Go.Operand.func 14), args := #[Go.Operand.tmp 31, Go.Operand.tmp 33], argTypes := #[29, 29] }, type := 4, pos := "exact.go:4016", after := #[{ on := 0, ground := Go.Ground.data }, { on := 2, ground := Go.Ground.data }, { on := 2, ground := Go.Ground.chain }], guard := none }) rfl (fun K hK => ?_) AllReadyH.nil
  go_simp
  go_at_call 14
  refine (eq_Node _ _ x0 _ ((unhide Hx0).reads.later hHeld) RT).mono ?_
  rintro e wU0 ⟨rfl, hbw⟩
  try go_wp2_with fail
  refine hK.out _ _ (hHeld.trans (hbw.mono hHeld.size)) (fun hHeld => ?_)
  clear hK K
  try simp only [Act.put, List.setIfInBounds_toArray, List.set_cons_zero, List.set_cons_succ]
  refine wpAnyH_take (i := 4) (oi := { dst := some 35, op := Go.Op.unOp Go.UnOp.not 4 (Go.Operand.tmp 34), type := 4, pos := "exact.go:4016", after := #[{ on := 3, ground := Go.Ground.data }], guard := none }) (v := ?vs04) rfl (by kernel_rfl) (by kernel_rfl) (by kernel_rfl) (fun _ _ _ h => h) (Or.inl ⟨by rfl, ?hs04⟩) hHeld ?rs04
  case hs04 =>
    intro wS hSw
    (try dsimp only at hSw)
    go_simp
    try with_reducible rfl
  case rs04 =>
  simp only [Act.put, List.setIfInBounds_toArray, List.set_cons_zero, List.set_cons_succ]
  refine wpAnyH_done (by kernel_rfl) ?_ _
  refine NoPanic.normal ?_
  clear l0P0 l1P0 l2P0 l3P0 l4P0 l5P0 l6P0 ltP0 l0X0 l1X0 l2X0 l3X0 l4X0 l5X0 l6X0 ltX0 OT RT
  have hb : Below w10.heap.size w10 wU0 := hHeld
  clear hHeld hbw
  replace HA0 := hide ((unhide HA0).later hb)
  replace P0 := hide ((unhide P0).keep hb)
  replace HW := hide ((unhide HW).later hb)
  replace YW := hide ((unhide YW).keep hb)
  replace Hx0 := hide ((unhide Hx0).later hb)
  replace X0 := hide ((unhide X0).keep hb)
  replace HG := hide ((unhide HG).later hb)
  replace YG := hide ((unhide YG).keep hb)
  have ZwU0 : w10.heap.size ≤ wU0.heap.size := hb.size
  replace HB := hide ((unhide HB).trans (hb.mono (by omega)))
  clear hb
  have l0P0 := (unhide P0).at 0 _ rfl
  have l1P0 := (unhide P0).at 1 _ rfl
  have l2P0 := (unhide P0).at 2 _ rfl
  have l3P0 := (unhide P0).at 3 _ rfl
  have l4P0 := (unhide P0).at 4 _ rfl
  have l5P0 := (unhide P0).at 5 _ rfl
  have l6P0 := (unhide P0).at 6 _ rfl
  have ltP0 : w.heap.size < wU0.heap.size := by omega
  have l0YW := (unhide YW).at 0 _ rfl
  have l1YW := (unhide YW).at 1 _ rfl
  have ltYW : w4.heap.size < wU0.heap.size := by omega
  have l0X0 := (unhide X0).at 0 _ rfl
  have l1X0 := (unhide X0).at 1 _ rfl
  have l2X0 := (unhide X0).at 2 _ rfl
  have l3X0 := (unhide X0).at 3 _ rfl
  have l4X0 := (unhide X0).at 4 _ rfl
  have l5X0 := (unhide X0).at 5 _ rfl
  have l6X0 := (unhide X0).at 6 _ rfl
  have ltX0 : w6.heap.size < wU0.heap.size := by omega
  have l0YG := (unhide YG).at 0 _ rfl
  have l1YG := (unhide YG).at 1 _ rfl
  have ltYG : w8.heap.size < wU0.heap.size := by omega
  simp only [List.getElem_toArray, List.getElem_cons_zero, List.getElem_cons_succ] at l0P0 l1P0 l2P0 l3P0 l4P0 l5P0 l6P0 l0YW l1YW l0X0 l1X0 l2X0 l3X0 l4X0 l5X0 l6X0 l0YG l1YG
  go_wp2_with fail
  clear l0P0 l1P0 l2P0 l3P0 l4P0 l5P0 l6P0 ltP0 l0YW l1YW ltYW l0X0 l1X0 l2X0 l3X0 l4X0 l5X0 l6X0 ltX0 l0YG l1YG ltYG
  obtain ⟨bl, O, hbl⟩ := unhide Hx0
  clear Hx0
  have HCx0 := few_bound (A := Lay.tNode) (few_via (few_pair few_int (few_pair few_bool (few_pair few_int (few_pair few_int (few_pair (few_sl (few_via (few_pair few_int (few_pair few_int (few_pair (few_sl few_int) (few_pair few_int few_int)))))) (few_pair few_int few_int))))))) (unhide HN0) (by omega)
  refine (mark_Node _ x0 bl (1) wU0 O (by omega) (by omega)).mono ?_
  rintro e w12 ⟨rfl, -, E⟩
  replace E := E.mono (S' := within w5.heap.size w6.heap.size) fun b _ hb => hbl b hb
  clear hbl O
  have zlo : w.heap.size ≤ w5.heap.size ∧ w6.heap.size ≤ wU0.heap.size := by omega
  replace HA0 := hide ((unhide HA0).ext E (within_out (by omega)))
  replace P0 := hide ((unhide P0).ext E (fun q => by simp only [within] at q; omega))
  replace HW := hide ((unhide HW).ext E (within_out (by omega)))
  replace YW := hide ((unhide YW).ext E (fun q => by simp only [within] at q; omega))
  replace X0 := hide ((unhide X0).ext E (fun q => by simp only [within] at q; omega))
  replace HG := hide ((unhide HG).ext E (within_out (by omega)))
  replace YG := hide ((unhide YG).ext E (fun q => by simp only [within] at q; omega))
  have Zw12 : wU0.heap.size ≤ w12.heap.size := E.size
  replace HB := hide ((unhide HB).trans (E.below (by omega) (fun k h q => by simp only [within] at q; omega)))
  clear E
  clear zlo
  obtain ⟨mk, hmk⟩ : ∃ mk : Int, mk = 1 + (Lay.tNode.vcnt x0 : Int) := ⟨_, rfl⟩
  rw [← hmk]
  have hm3 : decide (mk < 0) = false := decide_eq_false (by omega)
  clear hmk HCx0
  have l0P0 := (unhide P0).at 0 _ rfl
  have l1P0 := (unhide P0).at 1 _ rfl
  have l2P0 := (unhide P0).at 2 _ rfl
  have l3P0 := (unhide P0).at 3 _ rfl
  have l4P0 := (unhide P0).at 4 _ rfl
  have l5P0 := (unhide P0).at 5 _ rfl
  have l6P0 := (unhide P0).at 6 _ rfl
  have ltP0 : w.heap.size < w12.heap.size := by omega
  have l0YW := (unhide YW).at 0 _ rfl
  have l1YW := (unhide YW).at 1 _ rfl
  have ltYW : w4.heap.size < w12.heap.size := by omega
  have l0X0 := (unhide X0).at 0 _ rfl
  have l1X0 := (unhide X0).at 1 _ rfl
  have l2X0 := (unhide X0).at 2 _ rfl
  have l3X0 := (unhide X0).at 3 _ rfl
  have l4X0 := (unhide X0).at 4 _ rfl
  have l5X0 := (unhide X0).at 5 _ rfl
  have l6X0 := (unhide X0).at 6 _ rfl
  have ltX0 : w6.heap.size < w12.heap.size := by omega
  have l0YG := (unhide YG).at 0 _ rfl
  have l1YG := (unhide YG).at 1 _ rfl
  have ltYG : w8.heap.size < w12.heap.size := by omega
  simp only [List.getElem_toArray, List.getElem_cons_zero, List.getElem_cons_succ] at l0P0 l1P0 l2P0 l3P0 l4P0 l5P0 l6P0 l0YW l1YW l0X0 l1X0 l2X0 l3X0 l4X0 l5X0 l6X0 l0YG l1YG
  go_wp2_with fail
  clear l0P0 l1P0 l2P0 l3P0 l4P0 l5P0 l6P0 ltP0 l0YW l1YW ltYW l0X0 l1X0 l2X0 l3X0 l4X0 l5X0 l6X0 ltX0 l0YG l1YG ltYG
  refine (eq_TableResult _ _ y w12 (unhide HG).reads (unhide HW).reads).mono ?_
  rintro e w13 ⟨rfl, hb⟩
  replace HA0 := hide ((unhide HA0).later hb)
  replace P0 := hide ((unhide P0).keep hb)
  replace HW := hide ((unhide HW).later hb)
  replace YW := hide ((unhide YW).keep hb)
  replace X0 := hide ((unhide X0).keep hb)
  replace HG := hide ((unhide HG).later hb)
  replace YG := hide ((unhide YG).keep hb)
  have Zw13 : w12.heap.size ≤ w13.heap.size := hb.size
  replace HB := hide ((unhide HB).trans (hb.mono (by omega)))
  clear hb
  clear hm3
  have l0P0 := (unhide P0).at 0 _ rfl
  have l1P0 := (unhide P0).at 1 _ rfl
  have l2P0 := (unhide P0).at 2 _ rfl
  have l3P0 := (unhide P0).at 3 _ rfl
  have l4P0 := (unhide P0).at 4 _ rfl
  have l5P0 := (unhide P0).at 5 _ rfl
  have l6P0 := (unhide P0).at 6 _ rfl
  have ltP0 : w.heap.size < w13.heap.size := by omega
  have l0YW := (unhide YW).at 0 _ rfl
  have l1YW := (unhide YW).at 1 _ rfl
  have ltYW : w4.heap.size < w13.heap.size := by omega
  have l0X0 := (unhide X0).at 0 _ rfl
  have l1X0 := (unhide X0).at 1 _ rfl
  have l2X0 := (unhide X0).at 2 _ rfl
  have l3X0 := (unhide X0).at 3 _ rfl
  have l4X0 := (unhide X0).at 4 _ rfl
  have l5X0 := (unhide X0).at 5 _ rfl
  have l6X0 := (unhide X0).at 6 _ rfl
  have ltX0 : w6.heap.size < w13.heap.size := by omega
  have l0YG := (unhide YG).at 0 _ rfl
  have l1YG := (unhide YG).at 1 _ rfl
  have ltYG : w8.heap.size < w13.heap.size := by omega
  simp only [List.getElem_toArray, List.getElem_cons_zero, List.getElem_cons_succ] at l0P0 l1P0 l2P0 l3P0 l4P0 l5P0 l6P0 l0YW l1YW l0X0 l1X0 l2X0 l3X0 l4X0 l5X0 l6X0 l0YG l1YG
  go_wp2_with fail
  clear l0P0 l1P0 l2P0 l3P0 l4P0 l5P0 l6P0 ltP0 l0YW l1YW ltYW l0X0 l1X0 l2X0 l3X0 l4X0 l5X0 l6X0 ltX0 l0YG l1YG ltYG
  obtain ⟨bl, O, hbl⟩ := unhide HG
  clear HG
  have hcy := unhide HC
  refine (mark_TableResult _ y bl 1 w13 O (by omega) (by omega)).mono ?_
  rintro e w14 ⟨rfl, O2, E⟩
  replace E := E.mono (S' := within w7.heap.size w8.heap.size) fun b _ hb => hbl b hb
  have HG : Hid (Lay.tTableResult.OwnIn w14 _ (Lay.tTableResult.mkv 1 y) w7.heap.size w8.heap.size) := ⟨bl, O2, hbl⟩
  clear hbl O O2
  have zlo : w.heap.size ≤ w7.heap.size ∧ w8.heap.size ≤ w13.heap.size := by omega
  replace HA0 := hide ((unhide HA0).ext E (within_out (by omega)))
  replace P0 := hide ((unhide P0).ext E (fun q => by simp only [within] at q; omega))
  replace HW := hide ((unhide HW).ext E (within_out (by omega)))
  replace YW := hide ((unhide YW).ext E (fun q => by simp only [within] at q; omega))
  replace X0 := hide ((unhide X0).ext E (fun q => by simp only [within] at q; omega))
  replace YG := hide ((unhide YG).ext E (fun q => by simp only [within] at q; omega))
  have Zw14 : w13.heap.size ≤ w14.heap.size := E.size
  replace HB := hide ((unhide HB).trans (E.below (by omega) (fun k h q => by simp only [within] at q; omega)))
  clear E
  clear zlo
  have hq0 : decide (1 + (Lay.tTableResult.vcnt y : Int) < 0) = false := decide_eq_false (by omega)
  have hq1 : ((1 + (Lay.tTableResult.vcnt y : Int)) != (1 + (Lay.tTableResult.vcnt y : Int))) = false := by simp
  clear hcy
  have l0P0 := (unhide P0).at 0 _ rfl
  have l1P0 := (unhide P0).at 1 _ rfl
  have l2P0 := (unhide P0).at 2 _ rfl
  have l3P0 := (unhide P0).at 3 _ rfl
  have l4P0 := (unhide P0).at 4 _ rfl
  have l5P0 := (unhide P0).at 5 _ rfl
  have l6P0 := (unhide P0).at 6 _ rfl
  have ltP0 : w.heap.size < w14.heap.size := by omega
  have l0YW := (unhide YW).at 0 _ rfl
  have l1YW := (unhide YW).at 1 _ rfl
  have ltYW : w4.heap.size < w14.heap.size := by omega
  have l0X0 := (unhide X0).at 0 _ rfl
  have l1X0 := (unhide X0).at 1 _ rfl
  have l2X0 := (unhide X0).at 2 _ rfl
  have l3X0 := (unhide X0).at 3 _ rfl
  have l4X0 := (unhide X0).at 4 _ rfl
  have l5X0 := (unhide X0).at 5 _ rfl
  have l6X0 := (unhide X0).at 6 _ rfl
  have ltX0 : w6.heap.size < w14.heap.size := by omega
  have l0YG := (unhide YG).at 0 _ rfl
  have l1YG := (unhide YG).at 1 _ rfl
  have ltYG : w8.heap.size < w14.heap.size := by omega
  simp only [List.getElem_toArray, List.getElem_cons_zero, List.getElem_cons_succ] at l0P0 l1P0 l2P0 l3P0 l4P0 l5P0 l6P0 l0YW l1YW l0X0 l1X0 l2X0 l3X0 l4X0 l5X0 l6X0 l0YG l1YG
  go_wp2_with fail
  clear l0P0 l1P0 l2P0 l3P0 l4P0 l5P0 l6P0 ltP0 l0YW l1YW ltYW l0X0 l1X0 l2X0 l3X0 l4X0 l5X0 l6X0 ltX0 l0YG l1YG ltYG
  refine (held_TableResult _ y 1 w14 (unhide HG).reads (by omega) (by have := unhide HC; omega)).mono ?_
  rintro e w15 ⟨rfl, hb⟩
  replace HA0 := hide ((unhide HA0).later hb)
  replace P0 := hide ((unhide P0).keep hb)
  replace HW := hide ((unhide HW).later hb)
  replace YW := hide ((unhide YW).keep hb)
  replace X0 := hide ((unhide X0).keep hb)
  replace YG := hide ((unhide YG).keep hb)
  replace HG := hide ((unhide HG).later hb)
  have Zw15 : w14.heap.size ≤ w15.heap.size := hb.size
  replace HB := hide ((unhide HB).trans (hb.mono (by omega)))
  clear hb
  have l0P0 := (unhide P0).at 0 _ rfl
  have l1P0 := (unhide P0).at 1 _ rfl
  have l2P0 := (unhide P0).at 2 _ rfl
  have l3P0 := (unhide P0).at 3 _ rfl
  have l4P0 := (unhide P0).at 4 _ rfl
  have l5P0 := (unhide P0).at 5 _ rfl
  have l6P0 := (unhide P0).at 6 _ rfl
  have ltP0 : w.heap.size < w15.heap.size := by omega
  have l0YW := (unhide YW).at 0 _ rfl
  have l1YW := (unhide YW).at 1 _ rfl
  have ltYW : w4.heap.size < w15.heap.size := by omega
  have l0X0 := (unhide X0).at 0 _ rfl
  have l1X0 := (unhide X0).at 1 _ rfl
  have l2X0 := (unhide X0).at 2 _ rfl
  have l3X0 := (unhide X0).at 3 _ rfl
  have l4X0 := (unhide X0).at 4 _ rfl
  have l5X0 := (unhide X0).at 5 _ rfl
  have l6X0 := (unhide X0).at 6 _ rfl
  have ltX0 : w6.heap.size < w15.heap.size := by omega
  have l0YG := (unhide YG).at 0 _ rfl
  have l1YG := (unhide YG).at 1 _ rfl
  have ltYG : w8.heap.size < w15.heap.size := by omega
  simp only [List.getElem_toArray, List.getElem_cons_zero, List.getElem_cons_succ] at l0P0 l1P0 l2P0 l3P0 l4P0 l5P0 l6P0 l0YW l1YW l0X0 l1X0 l2X0 l3X0 l4X0 l5X0 l6X0 l0YG l1YG
  go_wp2_with fail
  clear l0P0 l1P0 l2P0 l3P0 l4P0 l5P0 l6P0 ltP0 l0YW l1YW ltYW l0X0 l1X0 l2X0 l3X0 l4X0 l5X0 l6X0 ltX0 l0YG l1YG ltYG
  refine (to_Node _ x0 w15 (unhide HA0).reads (unhide HN0)).mono ?_
  rintro e w16 ⟨vf0, rfl, O, hb⟩
  replace HA0 := hide ((unhide HA0).later hb)
  replace P0 := hide ((unhide P0).keep hb)
  replace HW := hide ((unhide HW).later hb)
  replace YW := hide ((unhide YW).keep hb)
  replace X0 := hide ((unhide X0).keep hb)
  replace YG := hide ((unhide YG).keep hb)
  replace HG := hide ((unhide HG).later hb)
  have Zw16 : w15.heap.size ≤ w16.heap.size := hb.size
  replace HB := hide ((unhide HB).trans (hb.mono (by omega)))
  clear hb
  obtain ⟨a4f0, d4f0, rfl, -⟩ := open_Node O.reads
  have Hf0 := hide O
  clear O
  have l0P0 := (unhide P0).at 0 _ rfl
  have l1P0 := (unhide P0).at 1 _ rfl
  have l2P0 := (unhide P0).at 2 _ rfl
  have l3P0 := (unhide P0).at 3 _ rfl
  have l4P0 := (unhide P0).at 4 _ rfl
  have l5P0 := (unhide P0).at 5 _ rfl
  have l6P0 := (unhide P0).at 6 _ rfl
  have ltP0 : w.heap.size < w16.heap.size := by omega
  have l0YW := (unhide YW).at 0 _ rfl
  have l1YW := (unhide YW).at 1 _ rfl
  have ltYW : w4.heap.size < w16.heap.size := by omega
  have l0X0 := (unhide X0).at 0 _ rfl
  have l1X0 := (unhide X0).at 1 _ rfl
  have l2X0 := (unhide X0).at 2 _ rfl
  have l3X0 := (unhide X0).at 3 _ rfl
  have l4X0 := (unhide X0).at 4 _ rfl
  have l5X0 := (unhide X0).at 5 _ rfl
  have l6X0 := (unhide X0).at 6 _ rfl
  have ltX0 : w6.heap.size < w16.heap.size := by omega
  have l0YG := (unhide YG).at 0 _ rfl
  have l1YG := (unhide YG).at 1 _ rfl
  have ltYG : w8.heap.size < w16.heap.size := by omega
  simp only [List.getElem_toArray, List.getElem_cons_zero, List.getElem_cons_succ] at l0P0 l1P0 l2P0 l3P0 l4P0 l5P0 l6P0 l0YW l1YW l0X0 l1X0 l2X0 l3X0 l4X0 l5X0 l6X0 l0YG l1YG
  go_wp2_with fail
  clear l0P0 l1P0 l2P0 l3P0 l4P0 l5P0 l6P0 ltP0 l0YW l1YW ltYW l0X0 l1X0 l2X0 l3X0 l4X0 l5X0 l6X0 ltX0 l0YG l1YG ltYG
  refine (unhide HI w16 _ (unhide Hf0).reads).mono ?_
  rintro e w17 ⟨cs, rfl, O, hb⟩
  replace HA0 := hide ((unhide HA0).later hb)
  replace P0 := hide ((unhide P0).keep hb)
  replace HW := hide ((unhide HW).later hb)
  replace YW := hide ((unhide YW).keep hb)
  replace X0 := hide ((unhide X0).keep hb)
  replace YG := hide ((unhide YG).keep hb)
  replace HG := hide ((unhide HG).later hb)
  replace Hf0 := hide ((unhide Hf0).later hb)
  have Zw17 : w16.heap.size ≤ w17.heap.size := hb.size
  replace HB := hide ((unhide HB).trans (hb.mono (by omega)))
  clear hb
  obtain ⟨a1K, d1K, rfl, -⟩ := open_TableResult O.reads
  have HK := hide O
  clear O
  have nb : Below w17.heap.size w17 (w17.alloc (.cells #[.int .i64 y.code, .slice a1K y.items.length d1K] 46)) := (Below.refl _ _).alloc (Nat.le_refl _) _
  have YK : Hid (Box w17.heap.size #[.int .i64 y.code, .slice a1K y.items.length d1K] 46 (w17.alloc (.cells #[.int .i64 y.code, .slice a1K y.items.length d1K] 46)) w17.heap.size) := newBox (Nat.le_refl _)
  clear Hf0
  have l0P0 := (unhide P0).at 0 _ rfl
  have l1P0 := (unhide P0).at 1 _ rfl
  have l2P0 := (unhide P0).at 2 _ rfl
  have l3P0 := (unhide P0).at 3 _ rfl
  have l4P0 := (unhide P0).at 4 _ rfl
  have l5P0 := (unhide P0).at 5 _ rfl
  have l6P0 := (unhide P0).at 6 _ rfl
  have ltP0 : w.heap.size < w17.heap.size := by omega
  have l0YW := (unhide YW).at 0 _ rfl
  have l1YW := (unhide YW).at 1 _ rfl
  have ltYW : w4.heap.size < w17.heap.size := by omega
  have l0X0 := (unhide X0).at 0 _ rfl
  have l1X0 := (unhide X0).at 1 _ rfl
  have l2X0 := (unhide X0).at 2 _ rfl
  have l3X0 := (unhide X0).at 3 _ rfl
  have l4X0 := (unhide X0).at 4 _ rfl
  have l5X0 := (unhide X0).at 5 _ rfl
  have l6X0 := (unhide X0).at 6 _ rfl
  have ltX0 : w6.heap.size < w17.heap.size := by omega
  have l0YG := (unhide YG).at 0 _ rfl
  have l1YG := (unhide YG).at 1 _ rfl
  have ltYG : w8.heap.size < w17.heap.size := by omega
  simp only [List.getElem_toArray, List.getElem_cons_zero, List.getElem_cons_succ] at l0P0 l1P0 l2P0 l3P0 l4P0 l5P0 l6P0 l0YW l1YW l0X0 l1X0 l2X0 l3X0 l4X0 l5X0 l6X0 l0YG l1YG
  go_wp2_with fail
  clear l0P0 l1P0 l2P0 l3P0 l4P0 l5P0 l6P0 ltP0 l0YW l1YW ltYW l0X0 l1X0 l2X0 l3X0 l4X0 l5X0 l6X0 ltX0 l0YG l1YG ltYG
  generalize haw18 : w17.alloc (.cells #[.int .i64 y.code, .slice a1K y.items.length d1K] 46) = w18 at *
  have Gw18 : w17.heap.size < w18.heap.size := by rw [← haw18]; simp
  clear haw18
  replace HA0 := hide ((unhide HA0).later nb)
  replace P0 := hide ((unhide P0).keep nb)
  replace HW := hide ((unhide HW).later nb)
  replace YW := hide ((unhide YW).keep nb)
  replace X0 := hide ((unhide X0).keep nb)
  replace YG := hide ((unhide YG).keep nb)
  replace HG := hide ((unhide HG).later nb)
  replace HK := hide ((unhide HK).later nb)
  have Zw18 : w17.heap.size ≤ w18.heap.size := nb.size
  replace HB := hide ((unhide HB).trans (nb.mono (by omega)))
  clear nb
  refine (eq_TableResult _ _ y w18 (unhide HK).reads (unhide HW).reads).mono ?_
  rintro e w19 ⟨rfl, hb⟩
  replace HA0 := hide ((unhide HA0).later hb)
  replace P0 := hide ((unhide P0).keep hb)
  replace HW := hide ((unhide HW).later hb)
  replace YW := hide ((unhide YW).keep hb)
  replace X0 := hide ((unhide X0).keep hb)
  replace YG := hide ((unhide YG).keep hb)
  replace HG := hide ((unhide HG).later hb)
  replace HK := hide ((unhide HK).later hb)
  replace YK := hide ((unhide YK).keep hb)
  have Zw19 : w18.heap.size ≤ w19.heap.size := hb.size
  replace HB := hide ((unhide HB).trans (hb.mono (by omega)))
  clear hb
  clear HK
  clear YK
  have l0P0 := (unhide P0).at 0 _ rfl
  have l1P0 := (unhide P0).at 1 _ rfl
  have l2P0 := (unhide P0).at 2 _ rfl
  have l3P0 := (unhide P0).at 3 _ rfl
  have l4P0 := (unhide P0).at 4 _ rfl
  have l5P0 := (unhide P0).at 5 _ rfl
  have l6P0 := (unhide P0).at 6 _ rfl
  have ltP0 : w.heap.size < w19.heap.size := by omega
  have l0YW := (unhide YW).at 0 _ rfl
  have l1YW := (unhide YW).at 1 _ rfl
  have ltYW : w4.heap.size < w19.heap.size := by omega
  have l0X0 := (unhide X0).at 0 _ rfl
  have l1X0 := (unhide X0).at 1 _ rfl
  have l2X0 := (unhide X0).at 2 _ rfl
  have l3X0 := (unhide X0).at 3 _ rfl
  have l4X0 := (unhide X0).at 4 _ rfl
  have l5X0 := (unhide X0).at 5 _ rfl
  have l6X0 := (unhide X0).at 6 _ rfl
  have ltX0 : w6.heap.size < w19.heap.size := by omega
  have l0YG := (unhide YG).at 0 _ rfl
  have l1YG := (unhide YG).at 1 _ rfl
  have ltYG : w8.heap.size < w19.heap.size := by omega
  simp only [List.getElem_toArray, List.getElem_cons_zero, List.getElem_cons_succ] at l0P0 l1P0 l2P0 l3P0 l4P0 l5P0 l6P0 l0YW l1YW l0X0 l1X0 l2X0 l3X0 l4X0 l5X0 l6X0 l0YG l1YG
  go_wp2_with fail
  clear l0P0 l1P0 l2P0 l3P0 l4P0 l5P0 l6P0 ltP0 l0YW l1YW ltYW l0X0 l1X0 l2X0 l3X0 l4X0 l5X0 l6X0 ltX0 l0YG l1YG ltYG
  refine (held_TableResult _ y 1 w19 (unhide HG).reads (by omega) (by have := unhide HC; omega)).mono ?_
  rintro e w20 ⟨rfl, hb⟩
  replace HA0 := hide ((unhide HA0).later hb)
  replace P0 := hide ((unhide P0).keep hb)
  replace HW := hide ((unhide HW).later hb)
  replace YW := hide ((unhide YW).keep hb)
  replace X0 := hide ((unhide X0).keep hb)
  replace YG := hide ((unhide YG).keep hb)
  replace HG := hide ((unhide HG).later hb)
  have Zw20 : w19.heap.size ≤ w20.heap.size := hb.size
  replace HB := hide ((unhide HB).trans (hb.mono (by omega)))
  clear hb
  have l0P0 := (unhide P0).at 0 _ rfl
  have l1P0 := (unhide P0).at 1 _ rfl
  have l2P0 := (unhide P0).at 2 _ rfl
  have l3P0 := (unhide P0).at 3 _ rfl
  have l4P0 := (unhide P0).at 4 _ rfl
  have l5P0 := (unhide P0).at 5 _ rfl
  have l6P0 := (unhide P0).at 6 _ rfl
  have ltP0 : w.heap.size < w20.heap.size := by omega
  have l0YW := (unhide YW).at 0 _ rfl
  have l1YW := (unhide YW).at 1 _ rfl
  have ltYW : w4.heap.size < w20.heap.size := by omega
  have l0X0 := (unhide X0).at 0 _ rfl
  have l1X0 := (unhide X0).at 1 _ rfl
  have l2X0 := (unhide X0).at 2 _ rfl
  have l3X0 := (unhide X0).at 3 _ rfl
  have l4X0 := (unhide X0).at 4 _ rfl
  have l5X0 := (unhide X0).at 5 _ rfl
  have l6X0 := (unhide X0).at 6 _ rfl
  have ltX0 : w6.heap.size < w20.heap.size := by omega
  have l0YG := (unhide YG).at 0 _ rfl
  have l1YG := (unhide YG).at 1 _ rfl
  have ltYG : w8.heap.size < w20.heap.size := by omega
  simp only [List.getElem_toArray, List.getElem_cons_zero, List.getElem_cons_succ] at l0P0 l1P0 l2P0 l3P0 l4P0 l5P0 l6P0 l0YW l1YW l0X0 l1X0 l2X0 l3X0 l4X0 l5X0 l6X0 l0YG l1YG
  go_wp2_with fail
  clear l0P0 l1P0 l2P0 l3P0 l4P0 l5P0 l6P0 ltP0 l0YW l1YW ltYW l0X0 l1X0 l2X0 l3X0 l4X0 l5X0 l6X0 ltX0 l0YG l1YG ltYG
  go_ret
  exact ⟨rfl, unhide HB⟩


set_option maxRecDepth 10000 in
set_option maxHeartbeats 1000000 in
theorem lawover_StateAt (u0 : List Value) (x0 : DNode) (x1 : Int) (w : World) (A0 : Lay.tNode.Reads w u0 x0) (NS : 1048576 < Lay.tNode.sz x0) :
    Calls Try.prog 9 #[.agg u0.toArray, .int .i64 x1] w fun e w' => e = .returned (.bool true) ∧ Below w.heap.size w w' := by
  obtain ⟨a4p0, d4p0, rfl, -⟩ := open_Node A0
  have HA0 := hide A0.liesIn
  clear A0
  have HB := hide (Below.refl w.heap.size w)
  go_enter Try.func9, Try.ntmps9
  go_wp2_with fail
  have nb : Below w.heap.size w (w.alloc (.cells #[.int .i64 x0.id, .bool x0.up, .int .i64 x0.epoch, .int .i64 x0.lease, .slice a4p0 x0.writes.length d4p0, .int .i64 x0.sure, .int .i64 x0.clean] 24)) := (Below.refl w.heap.size w).alloc (Nat.le_refl _) _
  have P0 : Hid (Box w.heap.size #[.int .i64 x0.id, .bool x0.up, .int .i64 x0.epoch, .int .i64 x0.lease, .slice a4p0 x0.writes.length d4p0, .int .i64 x0.sure, .int .i64 x0.clean] 24 (w.alloc (.cells #[.int .i64 x0.id, .bool x0.up, .int .i64 x0.epoch, .int .i64 x0.lease, .slice a4p0 x0.writes.length d4p0, .int .i64 x0.sure, .int .i64 x0.clean] 24)) (w.heap.size)) := newBoxAt (by omega) (by simp)
  generalize haw1 : (w.alloc (.cells #[.int .i64 x0.id, .bool x0.up, .int .i64 x0.epoch, .int .i64 x0.lease, .slice a4p0 x0.writes.length d4p0, .int .i64 x0.sure, .int .i64 x0.clean] 24)) = w1 at *
  have Gw1 : w.heap.size + 1 ≤ w1.heap.size := by rw [← haw1]; simp
  clear haw1
  replace HA0 := hide ((unhide HA0).later nb)
  have Zw1 : w.heap.size ≤ w1.heap.size := nb.size
  replace HB := hide ((unhide HB).trans (nb.mono (by omega)))
  clear nb
  refine (sz_Node _ x0 (1048576) w1 (unhide HA0).reads (by omega)).mono ?_
  rintro e w2 ⟨rfl, hb⟩
  replace HA0 := hide ((unhide HA0).later hb)
  replace P0 := hide ((unhide P0).keep hb)
  have Zw2 : w1.heap.size ≤ w2.heap.size := hb.size
  replace HB := hide ((unhide HB).trans (hb.mono (by omega)))
  clear hb
  rw [szR_many (by omega)]
  go_wp2_with fail
  go_ret
  exact ⟨rfl, unhide HB⟩

end Go.Proofs.Ytbogjepkdcknfaa

namespace Go.Proofs.Ytbogjepkdcknfaa
open Go.RowKit

theorem Box.five {lo : Nat} {x0 x1 x2 x3 x4 : Value} {T : TypeId} {W : World} {s : Nat} (h : Box lo #[x0, x1, x2, x3, x4] T W s) :
    (W.cell? ⟨s, 0, none⟩ = some x0 ∧ W.cell? ⟨s, 1, none⟩ = some x1 ∧ W.cell? ⟨s, 2, none⟩ = some x2 ∧ W.cell? ⟨s, 3, none⟩ = some x3 ∧ W.cell? ⟨s, 4, none⟩ = some x4) ∧ (∀ o, W.frozen? ⟨s, o, none⟩ = false) ∧ s < W.heap.size := by
  refine ⟨⟨?_, ?_, ?_, ?_, ?_⟩, fun o => ?_, h.lt⟩
  all_goals first | simp [World.cell?, h.2] | simp [World.frozen?, h.2]
theorem Box.alloc {lo : Nat} {cs : Array Value} {T : TypeId} {W : World} {s : Nat} (h : Box lo cs T W s) (o : Obj) : Box lo cs T (W.alloc o) s := ⟨h.1, (Below.heap_alloc W o s h.lt).trans h.2⟩

end Go.Proofs.Ytbogjepkdcknfaa

namespace Go.Proofs.Ytbogjepkdcknfaa
open Go.RowKit

theorem inC (v lo hi : Int) (w : World) :
    Calls Try.prog 51 #[.int .i64 v, .int .i64 lo, .int .i64 hi] w fun e w' => e = .returned (.bool (decide (lo ≤ v) && decide (v ≤ hi))) ∧ w' = w := by
  by_cases h1 : lo ≤ v
  · have d1 : decide (lo ≤ v) = true := by simpa using h1
    rw [d1]
    cases d2 : decide (v ≤ hi) <;>
    · go_enter Try.func51, Try.ntmps51
      go_wp2_with fail
      go_ret
      exact ⟨rfl, rfl⟩
  · have d1 : decide (lo ≤ v) = false := by simpa using h1
    rw [d1]
    go_enter Try.func51, Try.ntmps51
    go_wp2_with fail
    go_ret
    exact ⟨rfl, rfl⟩
theorem idC (x : Int) (w : World) : Calls Try.prog 107 #[.int .i64 x] w fun e w' => e = .returned (.bool (decide (1 ≤ x) && decide (x ≤ 999))) ∧ w' = w := by
  go_enter Try.func107, Try.ntmps107
  go_wp2_with fail
  refine (inC x 1 999 _).mono ?_
  rintro e w1 ⟨rfl, rfl⟩
  go_wp2_with fail
  go_ret
  exact ⟨rfl, rfl⟩

end Go.Proofs.Ytbogjepkdcknfaa

namespace Go.Proofs.Ytbogjepkdcknfaa
open Go.RowKit

theorem sessionC (x : Int) (w : World) : Calls Try.prog 108 #[.int .i64 x] w fun e w' => e = .returned (.bool (decide (1 ≤ x) && decide (x ≤ 9))) ∧ w' = w := by
  go_enter Try.func108, Try.ntmps108
  go_wp2_with fail
  refine (inC x 1 9 _).mono ?_
  rintro e w1 ⟨rfl, rfl⟩
  go_wp2_with fail
  go_ret
  exact ⟨rfl, rfl⟩

end Go.Proofs.Ytbogjepkdcknfaa

namespace Go.Proofs.Ytbogjepkdcknfaa
open Go.RowKit

set_option maxHeartbeats 400000 in
theorem implFault_len (ao : Option Addr) (n cap : Nat) (w : World) (h : n ≠ 3) :
    Calls Try.prog 112 #[.slice ao n cap] w fun e w' => e = .returned (.int .i64 1) ∧ w' = w := by
  have h3 : ((n : Int) != 3) = true := by rw [bne_iff_ne]; omega
  go_enter Try.func112, Try.ntmps112
  go_wp2
  go_ret
  exact ⟨rfl, rfl⟩

set_option maxHeartbeats 400000 in
theorem implFault_three (b off cap : Nat) (zs : List Int) (w : World) (h : zs.length = 3) (hc : ∀ j, j < 3 → w.cell? ⟨b, off + j, none⟩ = some (.int .i64 (zs.getD j 0))) :
    Calls Try.prog 112 #[.slice (some ⟨b, off, none⟩) 3 cap] w fun e w' => e = .returned (.int .i64 (vecFault zs)) ∧ w' = w := by
  go_enter Try.func112, Try.ntmps112
  go_wp2
  go_loop [10] (fun i => ∃ k : Nat, k ≤ 3 ∧ i = .int .i64 k ∧ ∀ j, j < k → partB (zs.getD j 0) = true) (fun i => 3 - (intOf i).toNat)
  case atStart => exact ⟨0, Nat.zero_le _, rfl, fun j hj => by omega⟩
  case round =>
    obtain ⟨k, hk, rfl, hg⟩ := hrel
    have HG : Hid (∀ j, j < k → partB (zs.getD j 0) = true) := hg
    have HL : Hid (zs.length = 3) := h
    clear hg h
    by_cases hlt : k < 3
    · have hcx : w.cell? ⟨b, off + k, none⟩ = some (.int .i64 (zs.getD k 0)) := hc k hlt
      obtain ⟨z, hz⟩ : ∃ z, z = zs.getD k 0 := ⟨_, rfl⟩
      rw [← hz] at hcx
      have HZ : Hid (z = zs.getD k 0) := hz
      clear hz hc
      cases hp : partB z with
      | true =>
        have hb := partB_true hp
        have HP : Hid (partB z = true) := hp
        clear hp
        obtain ⟨hb1, hb2⟩ := hb
        go_wp2
        go_round
        case rel =>
          refine ⟨k + 1, by omega, by go_num, fun j hj => ?_⟩
          by_cases hjk : j < k
          · exact HG.out j hjk
          · rw [show j = k by omega, ← HZ.out]; exact HP.out
        case measure => simp [intOf]; omega
      | false =>
        have HV : Hid (vecFault zs = 3) := vecFault_bad HL.out k hlt (by rw [← HZ.out]; exact hp)
        have hb := partB_false hp
        clear hp
        rcases hb with hb | hb
        · go_wp2
          go_ret
          exact ⟨by rw [HV.out]; rfl, rfl⟩
        · have hb1 : -1000 ≤ z := by omega
          have hd : decide (z ≤ 1000) = false := by simp; omega
          go_wp2
          go_ret
          exact ⟨by rw [HV.out]; rfl, rfl⟩
    · have HV : Hid (vecFault zs = 0) := vecFault_ok HL.out (fun j hj => HG.out j (by omega))
      go_wp2
      go_ret
      exact ⟨by rw [HV.out]; rfl, rfl⟩

set_option maxHeartbeats 400000 in
theorem modelFault_len (ao : Option Addr) (n cap : Nat) (w : World) (h : n ≠ 3) :
    Calls Try.prog 109 #[.slice ao n cap] w fun e w' => e = .returned (.int .i64 1) ∧ w' = w := by
  have h3 : ((n : Int) != 3) = true := by rw [bne_iff_ne]; omega
  go_enter Try.func109, Try.ntmps109
  go_wp2
  go_ret
  exact ⟨rfl, rfl⟩

set_option maxHeartbeats 400000 in
theorem modelFault_three (b off cap : Nat) (zs : List Int) (w : World) (h : zs.length = 3) (hc : ∀ j, j < 3 → w.cell? ⟨b, off + j, none⟩ = some (.int .i64 (zs.getD j 0))) :
    Calls Try.prog 109 #[.slice (some ⟨b, off, none⟩) 3 cap] w fun e w' => e = .returned (.int .i64 (vecFault zs)) ∧ w' = w := by
  go_enter Try.func109, Try.ntmps109
  go_wp2
  go_loop [3] (fun i => ∃ k : Nat, k ≤ 3 ∧ i = .int .i64 k ∧ ∀ j, j < k → partB (zs.getD j 0) = true) (fun i => 3 - (intOf i).toNat)
  case atStart => exact ⟨0, Nat.zero_le _, rfl, fun j hj => by omega⟩
  case round =>
    obtain ⟨k, hk, rfl, hg⟩ := hrel
    have HG : Hid (∀ j, j < k → partB (zs.getD j 0) = true) := hg
    have HL : Hid (zs.length = 3) := h
    clear hg h
    by_cases hlt : k < 3
    · have hcx : w.cell? ⟨b, off + k, none⟩ = some (.int .i64 (zs.getD k 0)) := hc k hlt
      obtain ⟨z, hz⟩ : ∃ z, z = zs.getD k 0 := ⟨_, rfl⟩
      rw [← hz] at hcx
      have HZ : Hid (z = zs.getD k 0) := hz
      clear hz hc
      cases hp : partB z with
      | true =>
        have hb := partB_true hp
        have HP : Hid (partB z = true) := hp
        clear hp
        obtain ⟨hb1, hb2⟩ := hb
        go_wp2
        go_round
        case rel =>
          refine ⟨k + 1, by omega, by go_num, fun j hj => ?_⟩
          by_cases hjk : j < k
          · exact HG.out j hjk
          · rw [show j = k by omega, ← HZ.out]; exact HP.out
        case measure => simp [intOf]; omega
      | false =>
        have HV : Hid (vecFault zs = 3) := vecFault_bad HL.out k hlt (by rw [← HZ.out]; exact hp)
        have hb := partB_false hp
        clear hp
        rcases hb with hb | hb
        · go_wp2
          go_ret
          exact ⟨by rw [HV.out]; rfl, rfl⟩
        · have hb1 : -1000 ≤ z := by omega
          have hd : decide (z ≤ 1000) = false := by simp; omega
          go_wp2
          go_ret
          exact ⟨by rw [HV.out]; rfl, rfl⟩
    · have HV : Hid (vecFault zs = 0) := vecFault_ok HL.out (fun j hj => HG.out j (by omega))
      go_wp2
      go_ret
      exact ⟨by rw [HV.out]; rfl, rfl⟩


/-- VecFault of the program. -/
theorem implFault (v : Value) (zs : List Int) (w : World) (h : IsInts w v zs) :
    Calls Try.prog 112 #[v] w fun e w' => e = .returned (.int .i64 (vecFault zs)) ∧ w' = w := by
  obtain ⟨ao, cap, rfl, hwf, hc⟩ := h
  by_cases h3 : zs.length = 3
  · obtain ⟨b, off, rfl, hc1⟩ := hc (by omega)
    rw [h3] at hc1 ⊢
    exact implFault_three b off cap zs w h3 hc1
  · rw [vecFault_len h3]
    exact implFault_len ao zs.length cap w h3

/-- VecFault of the model. -/
theorem modelFault (v : Value) (zs : List Int) (w : World) (h : IsInts w v zs) :
    Calls Try.prog 109 #[v] w fun e w' => e = .returned (.int .i64 (vecFault zs)) ∧ w' = w := by
  obtain ⟨ao, cap, rfl, hwf, hc⟩ := h
  by_cases h3 : zs.length = 3
  · obtain ⟨b, off, rfl, hc1⟩ := hc (by omega)
    rw [h3] at hc1 ⊢
    exact modelFault_three b off cap zs w h3 hc1
  · rw [vecFault_len h3]
    exact modelFault_len ao zs.length cap w h3

end Go.Proofs.Ytbogjepkdcknfaa

namespace Go.Proofs.Ytbogjepkdcknfaa
open Go.RowKit

def kindB (k : Int) (n : Nat) : Bool := (decide (1 ≤ k) && decide (k ≤ 2)) && !(k == 2 && decide (0 < (n : Int)))
def boundB (i s q : Int) : Bool := (decide (1 ≤ i) && decide (i ≤ 999)) && ((decide (1 ≤ s) && decide (s ≤ 9)) && (decide (1 ≤ q) && decide (q ≤ 999)))
/-- What is wrong with a write. -/
def writeFault (k i : Int) (zs : List Int) (s q : Int) : Int :=
  if kindB k zs.length then (if boundB i s q then (if k = 1 then vecFault zs else 0) else 3) else 1

/-- The write that the pointer b points at. -/
def WriteAt (w : World) (b : Nat) (k i : Int) (v : Value) (s q : Int) : Prop :=
  w.cell? ⟨b, 0, none⟩ = some (.int .i64 k) ∧ w.cell? ⟨b, 1, none⟩ = some (.int .i64 i) ∧ w.cell? ⟨b, 2, none⟩ = some v ∧ w.cell? ⟨b, 3, none⟩ = some (.int .i64 s) ∧ w.cell? ⟨b, 4, none⟩ = some (.int .i64 q)
theorem WriteAt.later {w w' : World} {b : Nat} {k i s q : Int} {v : Value} (h : WriteAt w b k i v s q) (hb : Below w.heap.size w w') : WriteAt w' b k i v s q :=
  ⟨cell_keep hb h.1, cell_keep hb h.2.1, cell_keep hb h.2.2.1, cell_keep hb h.2.2.2.1, cell_keep hb h.2.2.2.2⟩

/-- The write at an element's place. -/
def WriteAtO (w : World) (b o : Nat) (k i : Int) (v : Value) (s q : Int) : Prop :=
  w.cell? ⟨b, o, none⟩ = some (.int .i64 k) ∧ w.cell? ⟨b, o + 1, none⟩ = some (.int .i64 i) ∧ w.cell? ⟨b, o + 2, none⟩ = some v ∧ w.cell? ⟨b, o + 3, none⟩ = some (.int .i64 s) ∧ w.cell? ⟨b, o + 4, none⟩ = some (.int .i64 q)

set_option maxRecDepth 100000 in
set_option maxHeartbeats 1000000 in
theorem l3FaultO (b o : Nat) (k i : Int) (v : Value) (s q : Int) (zs : List Int) (w : World) (hc : WriteAtO w b o k i v s q) (h : IsInts w v zs) :
    Calls Try.prog 87 #[.pointer (some ⟨b, o, none⟩)] w fun e w' => e = .returned (.int .i64 (writeFault k i zs s q)) ∧ w' = w := by
  have hv : ∃ a c, v = .slice a zs.length c := by obtain ⟨a, c, h, -⟩ := h; exact ⟨a, c, h⟩
  obtain ⟨av, cv, rfl⟩ := hv
  obtain ⟨c0, c1, c2, c3, c4⟩ := hc
  have HH := hide h
  clear h
  generalize hF : writeFault k i zs s q = F
  have HF := hide hF
  clear hF
  cases d1 : (decide (1 ≤ k) && decide (k ≤ 2)) with
  | false =>
    have hE : F = 1 := by rw [← unhide HF, writeFault, kindB, d1]; rfl
    subst hE
    go_enter Try.func87, Try.ntmps87
    go_wp2_with fail
    refine (inC k 1 2 _).mono ?_
    rintro e w1 ⟨rfl, rfl⟩
    rw [d1]
    go_wp2_with fail
    go_ret
    exact ⟨rfl, rfl⟩
  | true =>
    have hk : k = 1 ∨ k = 2 := by
      simp only [Bool.and_eq_true, decide_eq_true_eq] at d1
      omega
    clear d1
    rcases hk with rfl | rfl
    · have hK : kindB 1 zs.length = true := rfl
      cases dI : (decide (1 ≤ i) && decide (i ≤ 999)) with
      | false =>
        have hE : F = 3 := by rw [← unhide HF, writeFault, hK, if_pos rfl, boundB, dI]; rfl
        subst hE
        go_enter Try.func87, Try.ntmps87
        go_wp2_with fail
        refine (inC 1 1 2 _).mono ?_
        rintro e w1 ⟨rfl, rfl⟩
        go_wp2_with fail
        refine (idC i _).mono ?_
        rintro e w1 ⟨rfl, rfl⟩
        rw [dI]
        go_wp2_with fail
        go_ret
        exact ⟨rfl, rfl⟩
      | true =>
        cases dS : (decide (1 ≤ s) && decide (s ≤ 9)) with
        | false =>
          have hE : F = 3 := by rw [← unhide HF, writeFault, hK, if_pos rfl, boundB, dI, dS]; rfl
          subst hE
          go_enter Try.func87, Try.ntmps87
          go_wp2_with fail
          refine (inC 1 1 2 _).mono ?_
          rintro e w1 ⟨rfl, rfl⟩
          go_wp2_with fail
          refine (idC i _).mono ?_
          rintro e w1 ⟨rfl, rfl⟩
          rw [dI]
          go_wp2_with fail
          refine (sessionC s _).mono ?_
          rintro e w1 ⟨rfl, rfl⟩
          rw [dS]
          go_wp2_with fail
          go_ret
          exact ⟨rfl, rfl⟩
        | true =>
          cases dQ : (decide (1 ≤ q) && decide (q ≤ 999)) with
          | false =>
            have hE : F = 3 := by rw [← unhide HF, writeFault, hK, if_pos rfl, boundB, dI, dS, dQ]; rfl
            subst hE
            go_enter Try.func87, Try.ntmps87
            go_wp2_with fail
            refine (inC 1 1 2 _).mono ?_
            rintro e w1 ⟨rfl, rfl⟩
            go_wp2_with fail
            refine (idC i _).mono ?_
            rintro e w1 ⟨rfl, rfl⟩
            rw [dI]
            go_wp2_with fail
            refine (sessionC s _).mono ?_
            rintro e w1 ⟨rfl, rfl⟩
            rw [dS]
            go_wp2_with fail
            refine (inC q 1 999 _).mono ?_
            rintro e w1 ⟨rfl, rfl⟩
            rw [dQ]
            go_wp2_with fail
            go_ret
            exact ⟨rfl, rfl⟩
          | true =>
            have hE : F = vecFault zs := by rw [← unhide HF, writeFault, hK, if_pos rfl, boundB, dI, dS, dQ]; rfl
            subst hE
            go_enter Try.func87, Try.ntmps87
            go_wp2_with fail
            refine (inC 1 1 2 _).mono ?_
            rintro e w1 ⟨rfl, rfl⟩
            go_wp2_with fail
            refine (idC i _).mono ?_
            rintro e w1 ⟨rfl, rfl⟩
            rw [dI]
            go_wp2_with fail
            refine (sessionC s _).mono ?_
            rintro e w1 ⟨rfl, rfl⟩
            rw [dS]
            go_wp2_with fail
            refine (inC q 1 999 _).mono ?_
            rintro e w1 ⟨rfl, rfl⟩
            rw [dQ]
            go_wp2_with fail
            refine (modelFault _ zs _ (unhide HH)).mono ?_
            rintro e w1 ⟨rfl, rfl⟩
            go_wp2_with fail
            go_ret
            exact ⟨rfl, rfl⟩
    · by_cases hz : zs.length = 0
      · obtain rfl : zs = [] := List.eq_nil_of_length_eq_zero hz
        have hK : kindB 2 ([] : List Int).length = true := rfl
        simp only [List.length_nil] at c2 hK
        clear hz
        cases dI : (decide (1 ≤ i) && decide (i ≤ 999)) with
        | false =>
          have hE : F = 3 := by rw [← unhide HF, writeFault, show kindB 2 ([] : List Int).length = true from rfl, if_pos rfl, boundB, dI]; rfl
          subst hE
          go_enter Try.func87, Try.ntmps87
          go_wp2_with fail
          refine (inC 2 1 2 _).mono ?_
          rintro e w1 ⟨rfl, rfl⟩
          go_wp2_with fail
          refine (idC i _).mono ?_
          rintro e w1 ⟨rfl, rfl⟩
          rw [dI]
          go_wp2_with fail
          go_ret
          exact ⟨rfl, rfl⟩
        | true =>
          cases dS : (decide (1 ≤ s) && decide (s ≤ 9)) with
          | false =>
            have hE : F = 3 := by rw [← unhide HF, writeFault, show kindB 2 ([] : List Int).length = true from rfl, if_pos rfl, boundB, dI, dS]; rfl
            subst hE
            go_enter Try.func87, Try.ntmps87
            go_wp2_with fail
            refine (inC 2 1 2 _).mono ?_
            rintro e w1 ⟨rfl, rfl⟩
            go_wp2_with fail
            refine (idC i _).mono ?_
            rintro e w1 ⟨rfl, rfl⟩
            rw [dI]
            go_wp2_with fail
            refine (sessionC s _).mono ?_
            rintro e w1 ⟨rfl, rfl⟩
            rw [dS]
            go_wp2_with fail
            go_ret
            exact ⟨rfl, rfl⟩
          | true =>
            cases dQ : (decide (1 ≤ q) && decide (q ≤ 999)) with
            | false =>
              have hE : F = 3 := by rw [← unhide HF, writeFault, show kindB 2 ([] : List Int).length = true from rfl, if_pos rfl, boundB, dI, dS, dQ]; rfl
              subst hE
              go_enter Try.func87, Try.ntmps87
              go_wp2_with fail
              refine (inC 2 1 2 _).mono ?_
              rintro e w1 ⟨rfl, rfl⟩
              go_wp2_with fail
              refine (idC i _).mono ?_
              rintro e w1 ⟨rfl, rfl⟩
              rw [dI]
              go_wp2_with fail
              refine (sessionC s _).mono ?_
              rintro e w1 ⟨rfl, rfl⟩
              rw [dS]
              go_wp2_with fail
              refine (inC q 1 999 _).mono ?_
              rintro e w1 ⟨rfl, rfl⟩
              rw [dQ]
              go_wp2_with fail
              go_ret
              exact ⟨rfl, rfl⟩
            | true =>
              have hE : F = 0 := by rw [← unhide HF, writeFault, show kindB 2 ([] : List Int).length = true from rfl, if_pos rfl, boundB, dI, dS, dQ]; rfl
              subst hE
              go_enter Try.func87, Try.ntmps87
              go_wp2_with fail
              refine (inC 2 1 2 _).mono ?_
              rintro e w1 ⟨rfl, rfl⟩
              go_wp2_with fail
              refine (idC i _).mono ?_
              rintro e w1 ⟨rfl, rfl⟩
              rw [dI]
              go_wp2_with fail
              refine (sessionC s _).mono ?_
              rintro e w1 ⟨rfl, rfl⟩
              rw [dS]
              go_wp2_with fail
              refine (inC q 1 999 _).mono ?_
              rintro e w1 ⟨rfl, rfl⟩
              rw [dQ]
              go_wp2_with fail
              go_ret
              exact ⟨rfl, rfl⟩
      · have hE : F = 1 := by
          have : kindB 2 zs.length = false := by simp [kindB]; omega
          rw [← unhide HF, writeFault, this]; rfl
        subst hE
        obtain ⟨m, hm⟩ : ∃ m, zs.length = m + 1 := ⟨zs.length - 1, by omega⟩
        rw [hm] at c2
        clear hz hm
        go_enter Try.func87, Try.ntmps87
        go_wp2_with fail
        refine (inC 2 1 2 _).mono ?_
        rintro e w1 ⟨rfl, rfl⟩
        go_wp2_with fail
        go_ret
        exact ⟨rfl, rfl⟩

theorem l3Fault (b : Nat) (k i : Int) (v : Value) (s q : Int) (zs : List Int) (w : World) (hc : WriteAt w b k i v s q) (h : IsInts w v zs) :
    Calls Try.prog 87 #[.pointer (some ⟨b, 0, none⟩)] w fun e w' => e = .returned (.int .i64 (writeFault k i zs s q)) ∧ w' = w :=
  l3FaultO b 0 k i v s q zs w hc h

end Go.Proofs.Ytbogjepkdcknfaa

namespace Go.Proofs.Ytbogjepkdcknfaa
open Go.RowKit

/-- A write without a fault. -/
theorem writeFault_zero {k i s q : Int} {zs : List Int} (h : writeFault k i zs s q = 0) : (1 ≤ i ∧ i ≤ 999) ∧ (1 ≤ s ∧ s ≤ 9) ∧ (1 ≤ q ∧ q ≤ 999) ∧ ((k = 1 ∧ vecFault zs = 0) ∨ (k = 2 ∧ zs = [])) := by
  unfold writeFault at h
  split at h
  · next hk =>
    split at h
    · next hb =>
      simp only [kindB, Bool.and_eq_true, decide_eq_true_eq, Bool.not_eq_true', Bool.and_eq_false_iff] at hk
      simp only [boundB, Bool.and_eq_true, decide_eq_true_eq] at hb
      refine ⟨hb.1, hb.2.1, hb.2.2, ?_⟩
      by_cases h1 : k = 1
      · rw [if_pos h1] at h
        exact Or.inl ⟨h1, h⟩
      · have h2 : k = 2 := by omega
        refine Or.inr ⟨h2, ?_⟩
        rcases hk.2 with h3 | h3
        · simp [h2] at h3
        · simp at h3
          exact h3
    · omega
  · omega

end Go.Proofs.Ytbogjepkdcknfaa

namespace Go.Proofs.Ytbogjepkdcknfaa
open Go.RowKit

def wF (x : DWrite) : Int := writeFault x.kind x.id x.vec x.session x.seq
def applyI (xs : List DItem) (x : DWrite) : List DItem := if x.kind = 2 then dropI xs x.id else if roomB xs x.id then putI xs x.id x.vec else xs
def ofI (ws : List DWrite) : List DItem := ws.foldl applyI []
def wsFrom : List DWrite → Int
  | [] => 0
  | x :: xs => if wF x = 0 then wsFrom xs else wF x
def writesF (ws : List DWrite) : Int := if 200 < ws.length then 2 else wsFrom ws
def applyR (xs : List DItem) (x : DWrite) : DTableResult := if tableFault xs = 0 then (if wF x = 0 then ⟨0, applyI xs x⟩ else ⟨wF x, []⟩) else ⟨tableFault xs, []⟩
def tableOfR (ws : List DWrite) : DTableResult := if writesF ws = 0 then ⟨0, ofI ws⟩ else ⟨writesF ws, []⟩

theorem idB_of {z : Int} (h : 1 ≤ z ∧ z ≤ 999) : idB z = true := by simp only [idB, Bool.and_eq_true, decide_eq_true_eq]; exact h
theorem right_apply {xs : List DItem} (h : Right xs) {x : DWrite} (hx : wF x = 0) : Right (applyI xs x) := by
  obtain ⟨hi, -, -, hk⟩ := writeFault_zero hx
  unfold applyI
  split
  · exact right_drop h _
  · rename_i h2
    split
    · rename_i hr
      rcases hk with ⟨-, hv⟩ | ⟨hk, -⟩
      · exact right_put h (idB_of hi) hv (room_true hr)
      · exact absurd hk h2
    · exact h
theorem ofI_snoc (ws : List DWrite) (k : Nat) (h : k < ws.length) : ofI (ws.take (k + 1)) = applyI (ofI (ws.take k)) ws[k] := by
  rw [ofI, List.take_succ_eq_append_getElem h, List.foldl_append]
  rfl
theorem right_of_writes (ws : List DWrite) (h : ∀ x ∈ ws, wF x = 0) : Right (ofI ws) := by
  have : ∀ (ys : List DWrite) (xs : List DItem), Right xs → (∀ x ∈ ys, wF x = 0) → Right (ys.foldl applyI xs) := by
    intro ys
    induction ys with
    | nil => intro xs hx _; exact hx
    | cons y ys ih =>
      intro xs hx hy
      exact ih _ (right_apply hx (hy y (by simp))) fun x hx => hy x (List.mem_cons_of_mem _ hx)
  exact this ws [] right_nil h
theorem wsFrom_at (ws : List DWrite) (k : Nat) (h : k < ws.length) (hz : ∀ j (hj : j < ws.length), j < k → wF ws[j] = 0) (hn : wF ws[k] ≠ 0) : wsFrom ws = wF ws[k] := by
  induction ws generalizing k with
  | nil => simp at h
  | cons x xs ih =>
    match k with
    | 0 => rw [wsFrom, if_neg (by simpa using hn)]; rfl
    | k + 1 =>
      have h0 : wF x = 0 := hz 0 (by simp) (by omega)
      rw [wsFrom, if_pos h0]
      exact ih k (by simpa using h) (fun j hj hjk => hz (j + 1) (by simpa using hj) (by omega)) (by simpa using hn)
theorem wsFrom_all (ws : List DWrite) (hz : ∀ j (hj : j < ws.length), wF ws[j] = 0) : wsFrom ws = 0 := by
  induction ws with
  | nil => rfl
  | cons x xs ih =>
    have h0 : wF x = 0 := hz 0 (by simp)
    rw [wsFrom, if_pos h0]
    exact ih fun j hj => hz (j + 1) (by simpa using hj)
theorem wsFrom_zero {ws : List DWrite} (h : wsFrom ws = 0) : ∀ x ∈ ws, wF x = 0 := by
  induction ws with
  | nil => simp
  | cons x xs ih =>
    rw [wsFrom] at h
    by_cases h0 : wF x = 0
    · rw [if_pos h0] at h
      intro y hy
      rcases List.mem_cons.1 hy with rfl | hy
      · exact h0
      · exact ih h y hy
    · rw [if_neg h0] at h; exact absurd h h0
theorem writesF_zero {ws : List DWrite} (h : writesF ws = 0) : ws.length ≤ 200 ∧ ∀ x ∈ ws, wF x = 0 := by
  unfold writesF at h
  by_cases hn : 200 < ws.length
  · rw [if_pos hn] at h; cases h
  · rw [if_neg hn] at h; exact ⟨by omega, wsFrom_zero h⟩
theorem wF_vals (x : DWrite) : 0 ≤ wF x ∧ wF x ≤ 3 := by
  have hv := vecFault_vals x.vec
  unfold wF writeFault
  split
  · split
    · split
      · exact hv
      · decide
    · decide
  · decide
theorem wF_wf (x : DWrite) : (Lit.int .i64 (wF x)).wf = true := wf_of_bd (by have := wF_vals x; omega)
theorem wsFrom_vals (ws : List DWrite) : 0 ≤ wsFrom ws ∧ wsFrom ws ≤ 3 := by
  induction ws with
  | nil => decide
  | cons x xs ih =>
    rw [wsFrom]
    split
    · exact ih
    · exact wF_vals x
theorem writesF_wf (ws : List DWrite) : (Lit.int .i64 (writesF ws)).wf = true := by
  have := wsFrom_vals ws
  unfold writesF
  split
  · decide
  · exact wf_of_bd (by omega)

end Go.Proofs.Ytbogjepkdcknfaa

namespace Go.Proofs.Ytbogjepkdcknfaa
open Go.RowKit

def ofB (s : Int) (x : DWrite) : Bool := decide (x.session = s)
def sameB (s q : Int) (x : DWrite) : Bool := decide (x.session = s) && decide (x.seq = q)
/-- The greatest number of a session. -/
def lastI (ws : List DWrite) (s : Int) : Int := ws.foldl (fun n x => if x.session = s then max n x.seq else n) 0
/-- How many writes there are up to the first one of a session and number; 0: there is none. -/
def seenFrom (s q : Int) : Nat → List DWrite → Nat
  | _, [] => 0
  | n, x :: xs => if x.session = s ∧ x.seq = q then n + 1 else seenFrom s q (n + 1) xs
def seenI (ws : List DWrite) (s q : Int) : Nat := seenFrom s q 0 ws
/-- Of each session the numbers rise. -/
def onceB : List DWrite → List DWrite → Bool
  | _, [] => true
  | pre, x :: xs => decide (lastI pre x.session < x.seq) && onceB (pre ++ [x]) xs
def askedF (ws : List DWrite) (s : Int) : Int := if writesF ws = 0 then (if 1 ≤ s ∧ s ≤ 9 then 0 else 3) else writesF ws

theorem lastI_nil (s : Int) : lastI [] s = 0 := rfl
theorem lastI_snoc (ws : List DWrite) (x : DWrite) (s : Int) : lastI (ws ++ [x]) s = if x.session = s then max (lastI ws s) x.seq else lastI ws s := by
  simp [lastI]
theorem lastI_take (ws : List DWrite) (k : Nat) (h : k < ws.length) (s : Int) : lastI (ws.take (k + 1)) s = if ws[k].session = s then max (lastI (ws.take k) s) ws[k].seq else lastI (ws.take k) s := by
  rw [List.take_succ_eq_append_getElem h, lastI_snoc]
theorem seenFrom_snoc (s q : Int) (x : DWrite) : ∀ (ws : List DWrite) (n : Nat), seenFrom s q n (ws ++ [x]) = if seenFrom s q n ws = 0 then (if x.session = s ∧ x.seq = q then n + ws.length + 1 else 0) else seenFrom s q n ws
  | [], n => by simp [seenFrom]
  | y :: ws, n => by
    rw [List.cons_append, seenFrom, seenFrom]
    by_cases h : y.session = s ∧ y.seq = q
    · rw [if_pos h, if_pos h, if_neg (by omega)]
    · rw [if_neg h, if_neg h, seenFrom_snoc s q x ws (n + 1)]
      simp only [List.length_cons]
      rw [show n + 1 + ws.length + 1 = n + (ws.length + 1) + 1 by omega]
theorem seenI_snoc (ws : List DWrite) (x : DWrite) (s q : Int) : seenI (ws ++ [x]) s q = if seenI ws s q = 0 then (if x.session = s ∧ x.seq = q then ws.length + 1 else 0) else seenI ws s q := by
  have := seenFrom_snoc s q x ws 0
  rw [Nat.zero_add] at this
  exact this
theorem seenI_le (ws : List DWrite) (s q : Int) : seenI ws s q ≤ ws.length := by
  have : ∀ (ws : List DWrite) (n : Nat), seenFrom s q n ws ≤ n + ws.length := by
    intro ws
    induction ws with
    | nil => intro n; simp [seenFrom]
    | cons x xs ih =>
      intro n
      rw [seenFrom]
      split
      · simp only [List.length_cons]; omega
      · have := ih (n + 1)
        simp only [List.length_cons]
        omega
  have := this ws 0
  rw [Nat.zero_add] at this
  exact this
theorem seenFrom_at (s q : Int) : ∀ (ws : List DWrite) (n k : Nat) (h : k < ws.length), (∀ j (hj : j < ws.length), j < k → ¬ (ws[j].session = s ∧ ws[j].seq = q)) → (ws[k].session = s ∧ ws[k].seq = q) → seenFrom s q n ws = n + k + 1
  | [], _, _, h, _, _ => by simp at h
  | x :: xs, n, 0, _, _, hk => by rw [seenFrom, if_pos (by simpa using hk)]
  | x :: xs, n, k + 1, h, hn, hk => by
    have h0 := hn 0 (by simp) (by omega)
    rw [seenFrom, if_neg (by simpa using h0), seenFrom_at s q xs (n + 1) k (by simpa using h) (fun j hj hjk => by have := hn (j + 1) (by simpa using hj) (by omega); simpa using this) (by simpa using hk)]
    omega
theorem seenI_at {s q : Int} {ws : List DWrite} {k : Nat} (h : k < ws.length) (hn : ∀ j (hj : j < ws.length), j < k → ¬ (ws[j].session = s ∧ ws[j].seq = q)) (hk : ws[k].session = s ∧ ws[k].seq = q) : seenI ws s q = k + 1 := by
  have := seenFrom_at s q ws 0 k h hn hk
  rw [Nat.zero_add] at this
  exact this
theorem seenI_none {s q : Int} {ws : List DWrite} (hn : ∀ j (hj : j < ws.length), ¬ (ws[j].session = s ∧ ws[j].seq = q)) : seenI ws s q = 0 := by
  have : ∀ (ws : List DWrite) (n : Nat), (∀ j (hj : j < ws.length), ¬ (ws[j].session = s ∧ ws[j].seq = q)) → seenFrom s q n ws = 0 := by
    intro ws
    induction ws with
    | nil => intro n _; rfl
    | cons x xs ih =>
      intro n hn
      have h0 := hn 0 (by simp)
      rw [seenFrom, if_neg (by simpa using h0)]
      exact ih (n + 1) fun j hj => by have := hn (j + 1) (by simpa using hj); simpa using this
  exact this ws 0 hn
theorem seenI_zero {ws : List DWrite} {s q : Int} (h : seenI ws s q = 0) : ∀ x ∈ ws, ¬ (x.session = s ∧ x.seq = q) := by
  have : ∀ (ws : List DWrite) (n : Nat), seenFrom s q n ws = 0 → ∀ x ∈ ws, ¬ (x.session = s ∧ x.seq = q) := by
    intro ws
    induction ws with
    | nil => intro n _ x hx; simp at hx
    | cons y xs ih =>
      intro n h x hx
      rw [seenFrom] at h
      split at h
      · omega
      · rename_i hy
        rcases List.mem_cons.1 hx with rfl | hx
        · exact hy
        · exact ih (n + 1) h x hx
  exact this ws 0 h
theorem lastI_nonneg (ws : List DWrite) (s : Int) : 0 ≤ lastI ws s := by
  have : ∀ (ws : List DWrite) (n : Int), 0 ≤ n → 0 ≤ ws.foldl (fun n x => if x.session = s then max n x.seq else n) n := by
    intro ws
    induction ws with
    | nil => intro n h; exact h
    | cons x xs ih =>
      intro n h
      rw [List.foldl_cons]
      apply ih
      split <;> omega
  exact this ws 0 (Int.le_refl _)
theorem lastI_le (ws : List DWrite) (s : Int) (h : ∀ x ∈ ws, x.seq ≤ 999) : lastI ws s ≤ 999 := by
  have : ∀ (ws : List DWrite) (n : Int), n ≤ 999 → (∀ x ∈ ws, x.seq ≤ 999) → ws.foldl (fun n x => if x.session = s then max n x.seq else n) n ≤ 999 := by
    intro ws
    induction ws with
    | nil => intro n h _; exact h
    | cons x xs ih =>
      intro n h hx
      rw [List.foldl_cons]
      apply ih
      · have := hx x (by simp)
        split <;> omega
      · intro y hy; exact hx y (List.mem_cons_of_mem _ hy)
  exact this ws 0 (by omega) h
theorem onceB_at : ∀ (ws pre : List DWrite) (k : Nat) (h : k < ws.length), (ws[k]).seq ≤ lastI (pre ++ ws.take k) (ws[k]).session → onceB pre ws = false
  | [], _, _, h, _ => by simp at h
  | x :: xs, pre, 0, _, hk => by
    have : ¬ (lastI pre x.session < x.seq) := by simpa using hk
    simp [onceB, this]
  | x :: xs, pre, k + 1, h, hk => by
    rw [onceB, onceB_at xs (pre ++ [x]) k (by simpa using h) (by simpa using hk), Bool.and_false]
theorem onceB_all : ∀ (ws pre : List DWrite), (∀ k (h : k < ws.length), lastI (pre ++ ws.take k) (ws[k]).session < (ws[k]).seq) → onceB pre ws = true
  | [], _, _ => rfl
  | x :: xs, pre, h => by
    have h0 := h 0 (by simp)
    rw [onceB, onceB_all xs (pre ++ [x]) fun k hk => by have := h (k + 1) (by simpa using hk); simpa using this]
    simpa using h0
def onceR (ws : List DWrite) : Bool := decide (writesF ws = 0) && onceB [] ws
theorem wF_seq {x : DWrite} (h : wF x = 0) : 1 ≤ x.session ∧ x.session ≤ 9 ∧ 1 ≤ x.seq ∧ x.seq ≤ 999 := by
  obtain ⟨-, h1, h2, -⟩ := writeFault_zero h
  exact ⟨h1.1, h1.2, h2.1, h2.2⟩

end Go.Proofs.Ytbogjepkdcknfaa

namespace Go.Proofs.Ytbogjepkdcknfaa
open Go.RowKit

structure DIntResult where
  code : Int
  value : Int

def Lay.tIntResult : Lay DIntResult := Lay.via (Lay.pair Lay.int Lay.int) (fun x => (x.code, x.value)) (fun p => ⟨p.1, p.2⟩)

theorem lies_IntResult {w : World} {cs : List Value} {x : DIntResult} {bl : List Nat} : Lay.tIntResult.lies w cs x bl ↔ cs = [.int .i64 x.code, .int .i64 x.value] ∧ bl = [] ∧ (Lit.int .i64 x.code).wf = true ∧ (Lit.int .i64 x.value).wf = true := by
  constructor
  · intro h
    obtain ⟨c0_, r0_, e0_, s0_, rfl, rfl, h0, h1⟩ := h
    obtain ⟨rfl, w0, rfl⟩ := h0
    obtain ⟨rfl, w1, rfl⟩ := h1
    exact ⟨by simp, by simp, w0, w1⟩
  · rintro ⟨rfl, hbl, w0, w1⟩
    rw [hbl]
    exact ⟨[.int .i64 x.code], [.int .i64 x.value], [], [], rfl, by simp, ⟨rfl, w0, rfl⟩, ⟨rfl, w1, rfl⟩⟩

end Go.Proofs.Ytbogjepkdcknfaa

namespace Go.Proofs.Ytbogjepkdcknfaa
open Go.RowKit

structure DWritesResult where
  code : Int
  writes : List DWrite

def Lay.tWritesResult : Lay DWritesResult := Lay.via (Lay.pair Lay.int (Lay.sl Lay.tWrite)) (fun x => (x.code, x.writes)) (fun p => ⟨p.1, p.2⟩)

theorem lies_WritesResult {w : World} {cs : List Value} {x : DWritesResult} {bl : List Nat} : Lay.tWritesResult.lies w cs x bl ↔ ∃ (a1 : Option Addr) (d1 : Nat) (b1 : List Nat), cs = [.int .i64 x.code, .slice a1 x.writes.length d1] ∧ bl = b1 ∧ (Lit.int .i64 x.code).wf = true ∧ (Lay.sl Lay.tWrite).lies w [.slice a1 x.writes.length d1] x.writes b1 := by
  constructor
  · intro h
    obtain ⟨c0_, r0_, e0_, s0_, rfl, rfl, h0, h1⟩ := h
    obtain ⟨rfl, w0, rfl⟩ := h0
    have k1 := h1
    obtain ⟨a1, d1, rfl, -⟩ := k1
    exact ⟨a1, d1, s0_, by simp, by simp, w0, h1⟩
  · rintro ⟨a1, d1, b1, rfl, hbl, w0, l1⟩
    rw [hbl]
    exact ⟨[.int .i64 x.code], [.slice a1 x.writes.length d1], [], b1, rfl, by simp, ⟨rfl, w0, rfl⟩, l1⟩

theorem open_WritesResult {w : World} {cs : List Value} {x : DWritesResult} (h : Lay.tWritesResult.Reads w cs x) : ∃ (a1 : Option Addr) (d1 : Nat), cs = [.int .i64 x.code, .slice a1 x.writes.length d1] ∧ (Lay.sl Lay.tWrite).Reads w [.slice a1 x.writes.length d1] x.writes := by
  obtain ⟨bl, h⟩ := h
  obtain ⟨a1, d1, b1, rfl, -, w0, l1⟩ := lies_WritesResult.1 h
  exact ⟨a1, d1, rfl, ⟨_, l1⟩⟩

end Go.Proofs.Ytbogjepkdcknfaa

namespace Go.Proofs.Ytbogjepkdcknfaa
open Go.RowKit

def lastR (ws : List DWrite) (s : Int) : DIntResult := if askedF ws s = 0 then ⟨0, lastI ws s⟩ else ⟨askedF ws s, 0⟩
def seenR (ws : List DWrite) (s q : Int) : DIntResult := if askedF ws s = 0 then (if 1 ≤ q ∧ q ≤ 999 then (if seenI ws s q = 0 then ⟨4, 0⟩ else ⟨0, seenI ws s q⟩) else ⟨3, 0⟩) else ⟨askedF ws s, 0⟩
def ofL (ws : List DWrite) (s : Int) : List DWrite := ws.filter fun x => decide (x.session = s)
def ofR (ws : List DWrite) (s : Int) : DWritesResult := if askedF ws s = 0 then ⟨0, ofL ws s⟩ else ⟨askedF ws s, []⟩
theorem asked_bad {ws : List DWrite} (s : Int) (h : writesF ws ≠ 0) : askedF ws s = writesF ws := by rw [askedF, if_neg h]
theorem asked_out {ws : List DWrite} {s : Int} (h : writesF ws = 0) (hs : ¬ (1 ≤ s ∧ s ≤ 9)) : askedF ws s = 3 := by rw [askedF, if_pos h, if_neg hs]
theorem asked_ok {ws : List DWrite} {s : Int} (h : writesF ws = 0) (hs : 1 ≤ s ∧ s ≤ 9) : askedF ws s = 0 := by rw [askedF, if_pos h, if_pos hs]
theorem last_bd {ws : List DWrite} (s : Int) (h : writesF ws = 0) : 0 ≤ lastI ws s ∧ lastI ws s ≤ 999 := ⟨lastI_nonneg ws s, lastI_le ws s fun x hx => (wF_seq ((writesF_zero h).2 x hx)).2.2.2⟩
theorem dec9 {s : Int} (hs : 1 ≤ s ∧ s ≤ 9) : (decide (1 ≤ s) && decide (s ≤ 9)) = true := by simp [hs.1, hs.2]
theorem dec9n {s : Int} (hs : ¬ (1 ≤ s ∧ s ≤ 9)) : (decide (1 ≤ s) && decide (s ≤ 9)) = false := by
  rw [Bool.eq_false_iff]
  intro hb
  simp only [Bool.and_eq_true, decide_eq_true_eq] at hb
  exact hs hb
theorem dec999 {s : Int} (hs : 1 ≤ s ∧ s ≤ 999) : (decide (1 ≤ s) && decide (s ≤ 999)) = true := by simp [hs.1, hs.2]
theorem dec999n {s : Int} (hs : ¬ (1 ≤ s ∧ s ≤ 999)) : (decide (1 ≤ s) && decide (s ≤ 999)) = false := by
  rw [Bool.eq_false_iff]
  intro hb
  simp only [Bool.and_eq_true, decide_eq_true_eq] at hb
  exact hs hb
theorem own_IntR {w : World} {c z : Int} {lo hi : Nat} (hc : (Lit.int .i64 c).wf = true) (hz : (Lit.int .i64 z).wf = true) : Lay.tIntResult.OwnIn w [.int .i64 c, .int .i64 z] ⟨c, z⟩ lo hi :=
  ⟨[], ⟨lies_IntResult.2 ⟨rfl, rfl, hc, hz⟩, by simp, by simp⟩, by simp⟩
theorem wsF_wf (ws : List DWrite) : (Lit.int .i64 (writesF ws)).wf = true := by
  have : 0 ≤ writesF ws ∧ writesF ws ≤ 3 := by
    unfold writesF
    split
    · omega
    · induction ws with
      | nil => simp [wsFrom]
      | cons x xs ih =>
        rw [wsFrom]
        split
        · exact ih (by rename_i h _; simp only [List.length_cons] at h; omega)
        · exact wF_vals x
  exact wf_of_bd (by omega)

end Go.Proofs.Ytbogjepkdcknfaa

namespace Go.Proofs.Ytbogjepkdcknfaa
open Go.RowKit

structure DOnceResult where
  code : Int
  isNew : Bool
  place : Int
  writes : List DWrite

def Lay.tOnceResult : Lay DOnceResult := Lay.via (Lay.pair Lay.int (Lay.pair Lay.bool (Lay.pair Lay.int (Lay.sl Lay.tWrite)))) (fun x => (x.code, x.isNew, x.place, x.writes)) (fun p => ⟨p.1, p.2.1, p.2.2.1, p.2.2.2⟩)

theorem lies_OnceResult {w : World} {cs : List Value} {x : DOnceResult} {bl : List Nat} : Lay.tOnceResult.lies w cs x bl ↔ ∃ (a3 : Option Addr) (d3 : Nat) (b3 : List Nat), cs = [.int .i64 x.code, .bool x.isNew, .int .i64 x.place, .slice a3 x.writes.length d3] ∧ bl = b3 ∧ (Lit.int .i64 x.code).wf = true ∧ (Lit.int .i64 x.place).wf = true ∧ (Lay.sl Lay.tWrite).lies w [.slice a3 x.writes.length d3] x.writes b3 := by
  constructor
  · intro h
    obtain ⟨c0_, r0_, e0_, s0_, rfl, rfl, h0, ⟨c1_, r1_, e1_, s1_, rfl, rfl, h1, ⟨c2_, r2_, e2_, s2_, rfl, rfl, h2, h3⟩⟩⟩ := h
    obtain ⟨rfl, w0, rfl⟩ := h0
    obtain ⟨rfl, rfl⟩ := h1
    obtain ⟨rfl, w2, rfl⟩ := h2
    have k3 := h3
    obtain ⟨a3, d3, rfl, -⟩ := k3
    exact ⟨a3, d3, s2_, by simp, by simp, w0, w2, h3⟩
  · rintro ⟨a3, d3, b3, rfl, hbl, w0, w2, l3⟩
    rw [hbl]
    exact ⟨[.int .i64 x.code], [.bool x.isNew] ++ ([.int .i64 x.place] ++ [.slice a3 x.writes.length d3]), [], [] ++ ([] ++ (b3)), rfl, by simp, ⟨rfl, w0, rfl⟩, ⟨[.bool x.isNew], [.int .i64 x.place] ++ [.slice a3 x.writes.length d3], [], [] ++ (b3), rfl, by simp, ⟨rfl, rfl⟩, ⟨[.int .i64 x.place], [.slice a3 x.writes.length d3], [], b3, rfl, by simp, ⟨rfl, w2, rfl⟩, l3⟩⟩⟩

theorem open_OnceResult {w : World} {cs : List Value} {x : DOnceResult} (h : Lay.tOnceResult.Reads w cs x) : ∃ (a3 : Option Addr) (d3 : Nat), cs = [.int .i64 x.code, .bool x.isNew, .int .i64 x.place, .slice a3 x.writes.length d3] ∧ (Lay.sl Lay.tWrite).Reads w [.slice a3 x.writes.length d3] x.writes := by
  obtain ⟨bl, h⟩ := h
  obtain ⟨a3, d3, b3, rfl, -, w0, w2, l3⟩ := lies_OnceResult.1 h
  exact ⟨a3, d3, rfl, ⟨_, l3⟩⟩

end Go.Proofs.Ytbogjepkdcknfaa

namespace Go.Proofs.Ytbogjepkdcknfaa
open Go.RowKit

def appR (ws : List DWrite) (x : DWrite) : DOnceResult :=
  if writesF ws = 0 then
    if wF x = 0 then
      if seenI ws x.session x.seq = 0 then
        if x.seq < lastI ws x.session then ⟨7, false, 0, []⟩ else if 200 ≤ ws.length then ⟨2, false, 0, []⟩ else ⟨0, true, (ws.length : Int) + 1, ws ++ [x]⟩
      else ⟨0, false, seenI ws x.session x.seq, ws⟩
    else ⟨wF x, false, 0, []⟩
  else ⟨writesF ws, false, 0, []⟩
theorem appR_wrong {ws : List DWrite} {x : DWrite} (h : writesF ws ≠ 0) : appR ws x = ⟨writesF ws, false, 0, []⟩ := by rw [appR, if_neg h]
theorem appR_bad {ws : List DWrite} {x : DWrite} (h : writesF ws = 0) (hf : wF x ≠ 0) : appR ws x = ⟨wF x, false, 0, []⟩ := by rw [appR, if_pos h, if_neg hf]
theorem appR_seen {ws : List DWrite} {x : DWrite} (h : writesF ws = 0) (hf : wF x = 0) (hs : seenI ws x.session x.seq ≠ 0) : appR ws x = ⟨0, false, seenI ws x.session x.seq, ws⟩ := by rw [appR, if_pos h, if_pos hf, if_neg hs]
theorem appR_old {ws : List DWrite} {x : DWrite} (h : writesF ws = 0) (hf : wF x = 0) (hs : seenI ws x.session x.seq = 0) (c : x.seq < lastI ws x.session) : appR ws x = ⟨7, false, 0, []⟩ := by rw [appR, if_pos h, if_pos hf, if_pos hs, if_pos c]
theorem appR_full {ws : List DWrite} {x : DWrite} (h : writesF ws = 0) (hf : wF x = 0) (hs : seenI ws x.session x.seq = 0) (c : ¬ x.seq < lastI ws x.session) (c2 : 200 ≤ ws.length) : appR ws x = ⟨2, false, 0, []⟩ := by rw [appR, if_pos h, if_pos hf, if_pos hs, if_neg c, if_pos c2]
theorem appR_new {ws : List DWrite} {x : DWrite} (h : writesF ws = 0) (hf : wF x = 0) (hs : seenI ws x.session x.seq = 0) (c : ¬ x.seq < lastI ws x.session) (c2 : ¬ 200 ≤ ws.length) : appR ws x = ⟨0, true, (ws.length : Int) + 1, ws ++ [x]⟩ := by rw [appR, if_pos h, if_pos hf, if_pos hs, if_neg c, if_neg c2]

end Go.Proofs.Ytbogjepkdcknfaa

namespace Go.Proofs.Ytbogjepkdcknfaa
open Go.RowKit

structure DNodeResult where
  code : Int
  place : Int
  node : DNode

def Lay.tNodeResult : Lay DNodeResult := Lay.via (Lay.pair Lay.int (Lay.pair Lay.int Lay.tNode)) (fun x => (x.code, x.place, x.node)) (fun p => ⟨p.1, p.2.1, p.2.2⟩)

theorem lies_NodeResult {w : World} {cs : List Value} {x : DNodeResult} {bl : List Nat} : Lay.tNodeResult.lies w cs x bl ↔ ∃ (a6 : Option Addr) (d6 : Nat) (b6 : List Nat), cs = [.int .i64 x.code, .int .i64 x.place, .int .i64 x.node.id, .bool x.node.up, .int .i64 x.node.epoch, .int .i64 x.node.lease, .slice a6 x.node.writes.length d6, .int .i64 x.node.sure, .int .i64 x.node.clean] ∧ bl = b6 ∧ (Lit.int .i64 x.code).wf = true ∧ (Lit.int .i64 x.place).wf = true ∧ (Lit.int .i64 x.node.id).wf = true ∧ (Lit.int .i64 x.node.epoch).wf = true ∧ (Lit.int .i64 x.node.lease).wf = true ∧ (Lay.sl Lay.tWrite).lies w [.slice a6 x.node.writes.length d6] x.node.writes b6 ∧ (Lit.int .i64 x.node.sure).wf = true ∧ (Lit.int .i64 x.node.clean).wf = true := by
  constructor
  · intro h
    obtain ⟨c0_, r0_, e0_, s0_, rfl, rfl, h0, ⟨c1_, r1_, e1_, s1_, rfl, rfl, h1, h2⟩⟩ := h
    obtain ⟨rfl, w0, rfl⟩ := h0
    obtain ⟨rfl, w1, rfl⟩ := h1
    obtain ⟨a6, d6, q6, rfl, hq2, w2, w4, w5, l6, w7, w8⟩ := lies_Node.1 h2
    exact ⟨a6, d6, q6, by simp, by simp [hq2], w0, w1, w2, w4, w5, l6, w7, w8⟩
  · rintro ⟨a6, d6, b6, rfl, hbl, w0, w1, w2, w4, w5, l6, w7, w8⟩
    rw [hbl]
    exact ⟨[.int .i64 x.code], [.int .i64 x.place] ++ [.int .i64 x.node.id, .bool x.node.up, .int .i64 x.node.epoch, .int .i64 x.node.lease, .slice a6 x.node.writes.length d6, .int .i64 x.node.sure, .int .i64 x.node.clean], [], [] ++ (b6), rfl, by simp, ⟨rfl, w0, rfl⟩, ⟨[.int .i64 x.place], [.int .i64 x.node.id, .bool x.node.up, .int .i64 x.node.epoch, .int .i64 x.node.lease, .slice a6 x.node.writes.length d6, .int .i64 x.node.sure, .int .i64 x.node.clean], [], b6, rfl, by simp, ⟨rfl, w1, rfl⟩, lies_Node.2 ⟨a6, d6, b6, rfl, rfl, w2, w4, w5, l6, w7, w8⟩⟩⟩

theorem open_NodeResult {w : World} {cs : List Value} {x : DNodeResult} (h : Lay.tNodeResult.Reads w cs x) : ∃ (a6 : Option Addr) (d6 : Nat), cs = [.int .i64 x.code, .int .i64 x.place, .int .i64 x.node.id, .bool x.node.up, .int .i64 x.node.epoch, .int .i64 x.node.lease, .slice a6 x.node.writes.length d6, .int .i64 x.node.sure, .int .i64 x.node.clean] ∧ Lay.tNode.Reads w [.int .i64 x.node.id, .bool x.node.up, .int .i64 x.node.epoch, .int .i64 x.node.lease, .slice a6 x.node.writes.length d6, .int .i64 x.node.sure, .int .i64 x.node.clean] x.node := by
  obtain ⟨bl, h⟩ := h
  obtain ⟨a6, d6, b6, rfl, -, w0, w1, w2, w4, w5, l6, w7, w8⟩ := lies_NodeResult.1 h
  exact ⟨a6, d6, rfl, ⟨_, lies_Node.2 ⟨a6, d6, _, rfl, rfl, w2, w4, w5, l6, w7, w8⟩⟩⟩

end Go.Proofs.Ytbogjepkdcknfaa

namespace Go.Proofs.Ytbogjepkdcknfaa
open Go.RowKit

def nodeFault (x : DNode) : Int :=
  if 1 ≤ x.id ∧ x.id ≤ 5 ∧ 0 ≤ x.epoch ∧ x.epoch ≤ 999 ∧ 0 ≤ x.lease ∧ x.lease ≤ 9999 then
    if 40 < x.writes.length then 2
    else if wsFrom x.writes ≠ 0 then wsFrom x.writes
    else if onceB [] x.writes = false then 6
    else if 0 ≤ x.sure ∧ x.sure ≤ x.writes.length ∧ 0 ≤ x.clean ∧ x.clean ≤ x.sure then
      if x.up = false ∧ ¬ (x.sure = x.writes.length ∧ x.clean = 0 ∧ x.lease = 0) then 1 else 0
    else 3
  else 3
def askedN (x : DNode) : Int := if nodeFault x = 0 then (if x.up = true then 0 else 10) else nodeFault x
def noNode : DNode := ⟨0, false, 0, 0, [], 0, 0⟩
def badNode (c : Int) : DNodeResult := ⟨c, 0, noNode⟩
def newNodeR (id : Int) : DNodeResult := if 1 ≤ id ∧ id ≤ 5 then ⟨0, 0, ⟨id, true, 0, 0, [], 0, 0⟩⟩ else badNode 3
def withWrites (x : DNode) (ws : List DWrite) : DNode := ⟨x.id, x.up, x.epoch, x.lease, ws, x.sure, x.clean⟩
def takeR (x : DNode) (y : DWrite) : DNodeResult :=
  if askedN x = 0 then
    if (appR x.writes y).code = 0 then
      if 40 < (appR x.writes y).writes.length then badNode 2 else ⟨0, (appR x.writes y).place, withWrites x (appR x.writes y).writes⟩
    else badNode (appR x.writes y).code
  else badNode (askedN x)
def syncR (x : DNode) : DNodeResult := if askedN x = 0 then ⟨0, x.writes.length, ⟨x.id, x.up, x.epoch, x.lease, x.writes, x.writes.length, x.clean⟩⟩ else badNode (askedN x)
def cleanR (x : DNode) (i : Int) : DNodeResult :=
  if askedN x = 0 then (if 0 ≤ i ∧ i ≤ 40 then ⟨0, 0, ⟨x.id, x.up, x.epoch, x.lease, x.writes, x.sure, max x.clean (min i x.sure)⟩⟩ else badNode 3) else badNode (askedN x)
def crashN (x : DNode) (k : Int) : DNode := ⟨x.id, false, x.epoch, 0, x.writes.take (x.sure + k).toNat, x.sure + k, 0⟩
def crashR (x : DNode) (k : Int) : DNodeResult :=
  if askedN x = 0 then (if 0 ≤ k ∧ k ≤ x.writes.length - x.sure then ⟨0, 0, crashN x k⟩ else badNode 3) else badNode (askedN x)
def dirtyB (x : DNode) (id : Int) : Bool := (x.writes.drop x.clean.toNat).any fun y => y.id == id
def dirtyR (x : DNode) (id : Int) : Bool := decide (nodeFault x = 0) && dirtyB x id
def stateR (x : DNode) (c : Int) : DTableResult :=
  if nodeFault x = 0 then (if 0 ≤ c ∧ c ≤ x.writes.length then ⟨0, ofI (x.writes.take c.toNat)⟩ else ⟨3, []⟩) else ⟨nodeFault x, []⟩

theorem nodeFault_vals (x : DNode) : 0 ≤ nodeFault x ∧ nodeFault x ≤ 6 := by
  have := wsFrom_vals x.writes
  unfold nodeFault
  split
  · split
    · omega
    · split
      · omega
      · split
        · omega
        · split
          · split <;> omega
          · omega
  · omega
theorem nodeFault_wf (x : DNode) : (Lit.int .i64 (nodeFault x)).wf = true := wf_of_bd (by have := nodeFault_vals x; omega)
theorem askedN_wf (x : DNode) : (Lit.int .i64 (askedN x)).wf = true := by
  refine wf_of_bd ?_
  have := nodeFault_vals x
  unfold askedN
  split
  · split <;> omega
  · omega
/-- A node without a fault. -/
structure NodeOK (x : DNode) : Prop where
  id : 1 ≤ x.id ∧ x.id ≤ 5
  epoch : 0 ≤ x.epoch ∧ x.epoch ≤ 999
  lease : 0 ≤ x.lease ∧ x.lease ≤ 9999
  len : x.writes.length ≤ 40
  ws : ∀ y ∈ x.writes, wF y = 0
  once : onceB [] x.writes = true
  sure : 0 ≤ x.sure ∧ x.sure ≤ x.writes.length
  clean : 0 ≤ x.clean ∧ x.clean ≤ x.sure
  down : x.up = false → x.sure = x.writes.length ∧ x.clean = 0 ∧ x.lease = 0
theorem nodeFault_zero {x : DNode} (h : nodeFault x = 0) : NodeOK x := by
  unfold nodeFault at h
  split at h
  · rename_i h1
    split at h
    · simp at h
    · rename_i h2
      split at h
      · rename_i h3; exact absurd h h3
      · rename_i h3
        split at h
        · simp at h
        · rename_i h4
          split at h
          · rename_i h5
            split at h
            · simp at h
            · rename_i h6
              refine ⟨by omega, by omega, by omega, by omega, wsFrom_zero (by simpa using h3), by simpa using h4, by omega, by omega, fun hu => ?_⟩
              exact Classical.byContradiction fun hc => h6 ⟨hu, hc⟩
          · simp at h
  · simp at h
theorem NodeOK.fault {x : DNode} (h : NodeOK x) : nodeFault x = 0 := by
  unfold nodeFault
  have h1 := h.id; have h2 := h.epoch; have h3 := h.lease; have h4 := h.len; have h5 := h.sure; have h6 := h.clean
  rw [if_pos (by omega), if_neg (by omega), if_neg (by simpa using wsFrom_all x.writes fun j hj => h.ws _ (List.getElem_mem _)), if_neg (by simp [h.once]), if_pos (by omega), if_neg]
  rintro ⟨hu, hc⟩
  exact hc (h.down hu)
theorem NodeOK.writesF {x : DNode} (h : NodeOK x) : writesF x.writes = 0 := by
  rw [Proofs.Ytbogjepkdcknfaa.writesF, if_neg (by have := h.len; omega)]
  exact wsFrom_all x.writes fun j hj => h.ws _ (List.getElem_mem _)
theorem askedN_zero {x : DNode} (h : askedN x = 0) : NodeOK x ∧ x.up = true := by
  unfold askedN at h
  split at h
  · rename_i h1
    split at h
    · rename_i h2; exact ⟨nodeFault_zero h1, h2⟩
    · simp at h
  · rename_i h1; exact absurd h h1
theorem takeR_bad {x : DNode} {y : DWrite} (h : askedN x ≠ 0) : takeR x y = badNode (askedN x) := by rw [takeR, if_neg h]
theorem syncR_bad {x : DNode} (h : askedN x ≠ 0) : syncR x = badNode (askedN x) := by rw [syncR, if_neg h]
theorem cleanR_bad {x : DNode} {i : Int} (h : askedN x ≠ 0) : cleanR x i = badNode (askedN x) := by rw [cleanR, if_neg h]
theorem crashR_bad {x : DNode} {i : Int} (h : askedN x ≠ 0) : crashR x i = badNode (askedN x) := by rw [crashR, if_neg h]
end Go.Proofs.Ytbogjepkdcknfaa

namespace Go.Proofs.Ytbogjepkdcknfaa
open Go.RowKit

theorem vcnt_NodeResult (x : DNodeResult) : Lay.tNodeResult.vcnt x = Lay.tNode.vcnt x.node := by
  show 0 + (0 + (Lay.tNode.vcnt x.node)) = Lay.tNode.vcnt x.node
  omega
theorem mkv_NodeResult (k : Int) (x : DNodeResult) : Lay.tNodeResult.mkv k x = ⟨x.code, x.place, Lay.tNode.mkv (k) x.node⟩ := by
  simp [Lay.tNodeResult, Lay.via, Lay.pair, Lay.int]
theorem own_NodeResult {w : World} {cs : List Value} {x : DNodeResult} {bl : List Nat} (h : Lay.tNodeResult.Own w cs x bl) : ∃ (a6 : Option Addr) (d6 : Nat) (g2 : List Nat), cs = [.int .i64 x.code, .int .i64 x.place, .int .i64 x.node.id, .bool x.node.up, .int .i64 x.node.epoch, .int .i64 x.node.lease, .slice a6 x.node.writes.length d6, .int .i64 x.node.sure, .int .i64 x.node.clean] ∧ bl = g2 ∧ Lay.tNode.Own w [.int .i64 x.node.id, .bool x.node.up, .int .i64 x.node.epoch, .int .i64 x.node.lease, .slice a6 x.node.writes.length d6, .int .i64 x.node.sure, .int .i64 x.node.clean] x.node g2 ∧ (Lit.int .i64 x.code).wf = true ∧ (Lit.int .i64 x.place).wf = true := by
  obtain ⟨hl, hn, hf⟩ := h
  obtain ⟨a6, d6, b6, rfl, hbl, w0, w1, w2, w4, w5, l6, w7, w8⟩ := lies_NodeResult.1 hl
  rw [hbl] at hn hf
  exact ⟨a6, d6, b6, rfl, hbl, ⟨lies_Node.2 ⟨a6, d6, b6, rfl, rfl, w2, w4, w5, l6, w7, w8⟩, hn, hf⟩, w0, w1⟩
theorem mkOwn_NodeResult {w : World} {x : DNodeResult} {c2 : List Value} {g2 : List Nat} (O2 : Lay.tNode.Own w c2 x.node g2) (v0 : (Lit.int .i64 x.code).wf = true) (v1 : (Lit.int .i64 x.place).wf = true) (hn : (g2).Nodup) : Lay.tNodeResult.Own w ([.int .i64 x.code] ++ ([.int .i64 x.place] ++ c2)) x (g2) := by
  refine ⟨⟨[.int .i64 x.code], [.int .i64 x.place] ++ c2, [], [] ++ g2, rfl, by simp, ⟨rfl, v0, rfl⟩, ⟨[.int .i64 x.place], c2, [], g2, rfl, rfl, ⟨rfl, v1, rfl⟩, O2.1⟩⟩, hn, ?_⟩
  intro b hb o
  exact O2.2.2 b hb o

end Go.Proofs.Ytbogjepkdcknfaa

namespace Go.Proofs.Ytbogjepkdcknfaa
open Go.RowKit

theorem lies_store {α : Type} {A : Lay α} {w w4 : World} {cs vs : List Value} {y : α} {lo hi : Nat} (h : A.LiesIn w4 cs y lo hi) (hlo : w.heap.size < lo) (hhi : hi ≤ w4.heap.size) :
    A.LiesIn (setAll w4 w.heap.size 0 vs) cs y w.heap.size (setAll w4 w.heap.size 0 vs).heap.size := by
  rw [size_setAll]
  exact (h.ext (ext_setAll (fun q => q = w.heap.size) (Ext.refl _ _) _ _ _ rfl) (fun q h1 h2 h3 => by omega)).mono (by omega) hhi
theorem own_store {α : Type} {A : Lay α} {w w4 : World} {cs vs : List Value} {y : α} {lo hi : Nat} (h : A.OwnIn w4 cs y lo hi) (hlo : w.heap.size < lo) (hhi : hi ≤ w4.heap.size) :
    A.OwnIn (setAll w4 w.heap.size 0 vs) cs y w.heap.size (setAll w4 w.heap.size 0 vs).heap.size := by
  rw [size_setAll]
  exact (h.ext (ext_setAll (fun q => q = w.heap.size) (Ext.refl _ _) _ _ _ rfl) (fun q h1 h2 h3 => by omega)).mono (by omega) hhi

/-- The block s alone may turn, and it is none of those that the answer lies in. -/
theorem lies_store' {α : Type} {A : Lay α} {w4 : World} {s : Nat} {cs vs : List Value} {y : α} {lo hi : Nat} (h : A.LiesIn w4 cs y lo hi) (hs : s < lo) : A.LiesIn (setAll w4 s 0 vs) cs y lo hi :=
  h.ext (ext_setAll (fun q => q = s) (Ext.refl _ _) _ _ _ rfl) (fun q h1 h2 h3 => by omega)
theorem own_store' {α : Type} {A : Lay α} {w4 : World} {s : Nat} {cs vs : List Value} {y : α} {lo hi : Nat} (h : A.OwnIn w4 cs y lo hi) (hs : s < lo) : A.OwnIn (setAll w4 s 0 vs) cs y lo hi :=
  h.ext (ext_setAll (fun q => q = s) (Ext.refl _ _) _ _ _ rfl) (fun q h1 h2 h3 => by omega)

theorem nil_own {α : Type} {A : Lay α} {w : World} {lo hi : Nat} : (Lay.sl A).OwnIn w [.slice none 0 0] [] lo hi := ⟨[], ⟨⟨none, 0, rfl, by simp, Or.inl ⟨rfl, rfl⟩⟩, by simp, by simp⟩, by simp⟩

end Go.Proofs.Ytbogjepkdcknfaa

namespace Go.Proofs.Ytbogjepkdcknfaa
open Go.RowKit

set_option maxRecDepth 10000 in
set_option maxHeartbeats 1000000 in
theorem specWrites_pos (b off cap : Nat) (ws : List DWrite) (w : World) (h : (Lay.sl Lay.tWrite).Reads w [.slice (some ⟨b, off, none⟩) ws.length cap] ws) (hbl : b < w.heap.size) (hn : ws.length ≤ 200) :
    Calls Try.prog 67 #[.slice (some ⟨b, off, none⟩) ws.length cap] w fun e w' => e = .returned (.int .i64 (writesF ws)) ∧ w' = w := by
  have HW : Hid (writesF ws = wsFrom ws) := by show writesF ws = wsFrom ws; rw [writesF, if_neg (by omega)]
  have H := hide h
  clear h
  go_enter Try.func67, Try.ntmps67
  go_wp2_with fail
  go_loop [3] (fun i => ∃ k : Nat, k ≤ ws.length ∧ i = .int .i64 k ∧ (∀ j (hj : j < ws.length), j < k → wF ws[j] = 0)) (fun i => ws.length - (intOf i).toNat)
  case atStart => exact ⟨0, Nat.zero_le _, rfl, fun j _ hj => by omega⟩
  case round =>
    obtain ⟨k, hk, rfl, hz⟩ := hrel
    by_cases hlt : k < ws.length
    · obtain ⟨row, hc, hr⟩ := Lay.row_at (unhide H) hlt
      obtain ⟨a2, d2, rfl, R2⟩ := open_Write hr
      have c0 : w.cell? ⟨b, off + k * 5, none⟩ = some (.int .i64 (ws[k]).kind) := ((Below.refl w.heap.size w).cell (p := ⟨b, off + k * 5, none⟩) hbl).trans (hc 0 (by decide))
      have c1 : w.cell? ⟨b, off + k * 5 + 1, none⟩ = some (.int .i64 (ws[k]).id) := ((Below.refl w.heap.size w).cell (p := ⟨b, off + k * 5 + 1, none⟩) hbl).trans (hc 1 (by decide))
      have c2 : w.cell? ⟨b, off + k * 5 + 2, none⟩ = some (.slice a2 (ws[k]).vec.length d2) := ((Below.refl w.heap.size w).cell (p := ⟨b, off + k * 5 + 2, none⟩) hbl).trans (hc 2 (by decide))
      have c3 : w.cell? ⟨b, off + k * 5 + 3, none⟩ = some (.int .i64 (ws[k]).session) := ((Below.refl w.heap.size w).cell (p := ⟨b, off + k * 5 + 3, none⟩) hbl).trans (hc 3 (by decide))
      have c4 : w.cell? ⟨b, off + k * 5 + 4, none⟩ = some (.int .i64 (ws[k]).seq) := ((Below.refl w.heap.size w).cell (p := ⟨b, off + k * 5 + 4, none⟩) hbl).trans (hc 4 (by decide))
      have HZ := hide hz
      have HAT : Hid (wF ws[k] ≠ 0 → writesF ws = wF ws[k]) := fun hn => (unhide HW).trans (wsFrom_at ws k hlt hz hn)
      have HZ2 : Hid (wF ws[k] = 0 → ∀ j (hj : j < ws.length), j < k + 1 → wF ws[j] = 0) := by
        intro h0 j hj hjk
        by_cases hjk2 : j < k
        · exact unhide HZ j hj hjk2
        · obtain rfl : j = k := by omega
          exact h0
      clear hc hr hz HZ
      generalize hx : ws[k] = x at *
      clear hx
      have L := l3FaultO b (off + k * 5) x.kind x.id _ x.session x.seq x.vec w ⟨c0, c1, c2, c3, c4⟩ (Lay.ints_reads R2)
      rw [show writeFault x.kind x.id x.vec x.session x.seq = wF x from rfl] at L
      have HL := hide L
      clear L R2 c0 c1 c2 c3 c4
      go_wp2_with fail
      refine (unhide HL).mono ?_
      rintro e w ⟨rfl, rfl⟩
      by_cases hf : wF x = 0
      · rw [hf]
        have HZ3 := hide (unhide HZ2 hf)
        clear hf HZ2 HAT HL
        go_wp2_with fail
        go_round
        case rel => exact ⟨k + 1, by omega, by go_num, unhide HZ3⟩
        case measure => simp [intOf]; omega
      · have hd : (wF x != 0) = true := by simpa using hf
        have HG := hide (unhide HAT hf)
        clear hf HZ2 HAT HL
        go_wp2_with fail
        go_ret
        exact ⟨by rw [unhide HG]; rfl, rfl⟩
    · have HG : Hid (writesF ws = 0) := (unhide HW).trans (wsFrom_all ws fun j hj => hz j hj (by omega))
      clear hz H
      go_wp2_with fail
      go_ret
      exact ⟨by rw [unhide HG]; rfl, rfl⟩

set_option maxRecDepth 10000 in
theorem specWrites (v : Value) (ws : List DWrite) (w : World) (h : (Lay.sl Lay.tWrite).Reads w [v] ws) :
    Calls Try.prog 67 #[v] w fun e w' => e = .returned (.int .i64 (writesF ws)) ∧ w' = w := by
  obtain ⟨ao, cap, rfl⟩ := open_sl h
  by_cases hn : ws.length ≤ 200
  · by_cases hp : 0 < ws.length
    · obtain ⟨b, off, rfl, hbl⟩ := Lay.sl_addr h hp
      exact specWrites_pos b off cap ws w h hbl hn
    · obtain rfl : ws = [] := List.eq_nil_of_length_eq_zero (by omega)
      clear h hn hp
      go_enter Try.func67, Try.ntmps67
      go_wp2_with fail
      refine wp_loop_rounds 1 ?_
      rw [rounds_succ]
      go_wp2_with fail
      go_ret
      exact ⟨rfl, rfl⟩
  · have e : writesF ws = 2 := by rw [writesF, if_pos (by omega)]
    rw [e]
    have hd : decide ((200 : Int) < (ws.length : Int)) = true := by simp; omega
    clear h e
    go_enter Try.func67, Try.ntmps67
    go_wp2_with fail
    go_ret
    exact ⟨rfl, rfl⟩

end Go.Proofs.Ytbogjepkdcknfaa

namespace Go.Proofs.Ytbogjepkdcknfaa
open Go.RowKit

theorem l1MaxC (x y : Int) (w : World) : Calls Try.prog 52 #[.int .i64 x, .int .i64 y] w fun e w' => e = .returned (.int .i64 (max x y)) ∧ w' = w := by
  by_cases h : y < x
  · have d : decide (y < x) = true := by simpa using h
    have e : max x y = x := by omega
    rw [e]
    go_enter Try.func52, Try.ntmps52
    go_wp2
    go_ret
    exact ⟨rfl, rfl⟩
  · have d : decide (y < x) = false := by simpa using h
    have e : max x y = y := by omega
    rw [e]
    go_enter Try.func52, Try.ntmps52
    go_wp2
    go_ret
    exact ⟨rfl, rfl⟩

set_option maxRecDepth 10000 in
set_option maxHeartbeats 1000000 in
theorem l5Last_pos (b off cap : Nat) (ws : List DWrite) (s : Int) (w : World) (h : (Lay.sl Lay.tWrite).Reads w [.slice (some ⟨b, off, none⟩) ws.length cap] ws) (hbl : b < w.heap.size) (hn : ws.length ≤ 10000000) :
    Calls Try.prog 88 #[.slice (some ⟨b, off, none⟩) ws.length cap, .int .i64 s] w fun e w' => e = .returned (.int .i64 (lastI ws s)) ∧ w' = w := by
  have H := hide h
  clear h
  go_enter Try.func88, Try.ntmps88
  go_wp2_with fail
  go_loop [5, 6] (fun m i => ∃ k : Nat, k ≤ ws.length ∧ i = .int .i64 k ∧ m = .int .i64 (lastI (ws.take k) s)) (fun _ i => ws.length - (intOf i).toNat)
  case atStart => exact ⟨0, Nat.zero_le _, rfl, rfl⟩
  case round =>
    obtain ⟨k, hk, rfl, rfl⟩ := hrel
    by_cases hlt : k < ws.length
    · obtain ⟨row, hc, hr⟩ := Lay.row_at (unhide H) hlt
      obtain ⟨a2, d2, rfl, R2⟩ := open_Write hr
      have c3 : w.cell? ⟨b, off + k * 5 + 3, none⟩ = some (.int .i64 (ws[k]).session) := hc 3 (by decide)
      have c4 : w.cell? ⟨b, off + k * 5 + 4, none⟩ = some (.int .i64 (ws[k]).seq) := hc 4 (by decide)
      have HT := hide (lastI_take ws k hlt s)
      clear hc hr R2
      generalize hx : ws[k] = x at *
      clear hx
      by_cases hs : x.session = s
      · have ds : (x.session == s) = true := by simpa using hs
        have HL := hide (fun W => l1MaxC (lastI (ws.take k) s) x.seq W)
        have HT2 : Hid (lastI (ws.take (k + 1)) s = max (lastI (ws.take k) s) x.seq) := by
          have := unhide HT
          rw [if_pos hs] at this
          exact this
        clear HT hs
        generalize hl : lastI (ws.take k) s = l at *
        clear hl
        go_wp2_with fail
        refine (unhide HL _).mono ?_
        rintro e w2 ⟨rfl, rfl⟩
        go_wp2_with fail
        go_round
        case rel => exact ⟨k + 1, by omega, by go_num, by rw [unhide HT2]⟩
        case measure => simp [intOf]; omega
      · have ds : (x.session == s) = false := by simpa using hs
        have HT2 : Hid (lastI (ws.take (k + 1)) s = lastI (ws.take k) s) := by
          have := unhide HT
          rw [if_neg hs] at this
          exact this
        clear HT hs
        go_wp2_with fail
        go_round
        case rel => exact ⟨k + 1, by omega, by go_num, by rw [unhide HT2]⟩
        case measure => simp [intOf]; omega
    · obtain rfl : k = ws.length := by omega
      rw [List.take_length]
      clear H
      go_wp2_with fail
      go_ret
      exact ⟨rfl, rfl⟩

theorem l5LastC (v : Value) (ws : List DWrite) (s : Int) (w : World) (h : (Lay.sl Lay.tWrite).Reads w [v] ws) (hn : ws.length ≤ 10000000) :
    Calls Try.prog 88 #[v, .int .i64 s] w fun e w' => e = .returned (.int .i64 (lastI ws s)) ∧ w' = w := by
  obtain ⟨ao, cap, rfl⟩ := open_sl h
  by_cases hp : 0 < ws.length
  · obtain ⟨b, off, rfl, hbl⟩ := Lay.sl_addr h hp
    exact l5Last_pos b off cap ws s w h hbl hn
  · obtain rfl : ws = [] := List.eq_nil_of_length_eq_zero (by omega)
    clear h hn hp
    go_enter Try.func88, Try.ntmps88
    go_wp2_with fail
    refine wp_loop_rounds 1 ?_
    rw [rounds_succ]
    go_wp2_with fail
    go_ret
    exact ⟨rfl, rfl⟩

end Go.Proofs.Ytbogjepkdcknfaa

namespace Go.Proofs.Ytbogjepkdcknfaa
open Go.RowKit


end Go.Proofs.Ytbogjepkdcknfaa
