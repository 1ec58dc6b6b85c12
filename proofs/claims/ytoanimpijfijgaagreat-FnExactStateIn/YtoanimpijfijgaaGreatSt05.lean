/-
  Texts of this proof in one: MaHitS, MaEntryS, MaWorld, EqItem, EqItemS, EqTableResult, MaItemS, MaTableResult, MkItemS, MkTableResult, LawXStateIn, LayWorldResult, WrBox, InB, InC, Fault.
  Their conditions stand in their theorems.
-/
import Derived.Test.YtoanimpijfijgaaGreatChecked
import Derived.Test.YtoanimpijfijgaaGreatSt01
import Derived.Test.YtoanimpijfijgaaGreatSt04
import Derived.Test.YtoanimpijfijgaaGreatSt00
import Derived.Test.YtoanimpijfijgaaGreatSt02
import Derived.Deep.RegionHeld3
import Derived.Test.YtoanimpijfijgaaGreatSt03
import Derived.Deep.CutRange
import Derived.BigQuiet
import Derived.Deep.QuietTactic
import Derived.WalkSmall
set_option maxRecDepth 100000
set_option maxHeartbeats 4000000
namespace Go.Proofs.YtoanimpijfijgaaGreat
open Go.RowKit
theorem cnt_Hit (x : DHit) : Lay.tHit.cnt x = 2 := by
 show 1 + (1) = 2
 omega
theorem mkd_Hit (k : Int) (x : DHit) : Lay.tHit.mkd k x = ⟨k, k + 1⟩ := rfl
theorem vcnt_HitS (xs : List DHit) : (Lay.sl Lay.tHit).vcnt xs = cntAll Lay.tHit.cnt xs := rfl
theorem markHit_pos (b off cap : Nat) (xs : List DHit) (bl : List Nat) (k : Int) (w : World) (h : (Lay.sl Lay.tHit).Own w [.slice (some ⟨b, off, none⟩) xs.length cap] xs bl) (hk : 0 ≤ k) (hk2 : k + (cntAll Lay.tHit.cnt xs : Nat) ≤ 1000000000) :
  Calls Tryz.prog 107 #[.slice (some ⟨b, off, none⟩) xs.length cap, .int .i64 k] w fun e w' => e = .returned (.int .i64 (k + (cntAll Lay.tHit.cnt xs : Nat))) ∧ (Lay.sl Lay.tHit).Own w' [.slice (some ⟨b, off, none⟩) xs.length cap] (mkAll Lay.tHit.cnt Lay.tHit.mkd k xs) bl ∧ Ext (fun q => q ∈ bl) w w' := by
 have hbig := h.reads.big
 have H := yh h
 clear h
 go_enter Tryz.func107, Tryz.ntmps107
 go_wp2_with fail
 go_loopw [1, 5] (fun kk i wr => ∃ (j : Nat) (kj : Int), j ≤ xs.length ∧ i = .int .i64 j ∧ kj = k + (cntAll Lay.tHit.cnt (xs.take j) : Nat) ∧ kk = .int .i64 kj ∧ (Lay.sl Lay.tHit).Own wr [.slice (some ⟨b, off, none⟩) xs.length cap] (mkPre Lay.tHit.cnt Lay.tHit.mkd k xs j) bl ∧ Ext (fun q => q ∈ bl) w wr) (fun _ i _ => xs.length - (intOf i).toNat)
 case atStart => exact ⟨0, k, Nat.zero_le _, rfl, by simp [cntAll], rfl, by rw [mkPre_zero]; exact uh H, Ext.refl _ _⟩
 case round =>
  obtain ⟨j, kj, hj, rfl, hkj, rfl, hO, hX⟩ := hrel
  clear H
  by_cases hlt : j < xs.length
  ·
   have hj2 : j < (mkPre Lay.tHit.cnt Lay.tHit.mkd k xs j).length := by rw [mkPre_len _ _ _ _ _ hj]; exact hlt
   obtain ⟨row, blk, R, O, hbk, hin, hfin⟩ := Lay.own_upd hO hj2
   rw [mkPre_get _ _ _ _ _ hlt] at O
   have HT := yh (Lay.cntAll_take (f := Lay.tHit.cnt) hlt)
   have hle := Lay.cntAll_take_le (f := Lay.tHit.cnt) (xs := xs) (k := j + 1)
   rw [uh HT] at hle
   have HM : Hid (∀ y, y = Lay.tHit.mkd kj xs[j] → (mkPre Lay.tHit.cnt Lay.tHit.mkd k xs j).set j y = mkPre Lay.tHit.cnt Lay.tHit.mkd k xs (j + 1)) := fun y e => by rw [e, hkj]; exact mkPre_set _ _ _ _ _ hlt
   have HF := yh hfin
   have HX := yh hX
   have HI := yh hin
   clear hO hfin hX hin hj2
   generalize hx : xs[j] = x at *
   clear hx
   have hcn := cnt_Hit x
   have HD := yh (mkd_Hit kj x)
   have hb1 : 0 ≤ kj := by omega
   have hb2 : kj + (Lay.tHit.cnt x : Int) ≤ 1000000000 := by omega
   have HK := yh hkj
   clear hkj hle
   have hbl0 : blk = [] := by have := (lies_Hit.1 O.1).2.1; exact this
   obtain ⟨rfl, -, -⟩ := lies_Hit.1 O.1
   clear O
   have l1 : b < wr.heap.size := R.lt
   have c0 : wr.cell? ⟨b, off + j * 2, none⟩ = some (.int .i64 x.id) := R.at 0 _ rfl
   have f0 : wr.frozen? ⟨b, off + j * 2, none⟩ = false := R.soft _
   have c1 : wr.cell? ⟨b, off + j * 2 + 1, none⟩ = some (.int .i64 x.score) := R.at 1 _ rfl
   have f1 : wr.frozen? ⟨b, off + j * 2 + 1, none⟩ = false := R.soft _
   have R0_ : RowAt wr ((wr.setCell ⟨b, off + j * 2, none⟩ (.int .i64 kj)).setCell ⟨b, off + j * 2 + 1, none⟩ (.int .i64 (kj + 1))) b (off + j * 2) 2 [.int .i64 kj, .int .i64 (kj + 1)] blk := ((R.set 0 (.int .i64 kj) (by decide)).set 1 (.int .i64 (kj + 1)) (by decide))
   have E0_ : Ext (fun q => q = b) wr ((wr.setCell ⟨b, off + j * 2, none⟩ (.int .i64 kj)).setCell ⟨b, off + j * 2 + 1, none⟩ (.int .i64 (kj + 1))) := (((Ext.refl (fun q => q = b) _).setCell ⟨b, off + j * 2, none⟩ (.int .i64 kj) rfl).setCell ⟨b, off + j * 2 + 1, none⟩ (.int .i64 (kj + 1)) rfl)
   clear R E0_
   have R := R0_
   clear R0_
   have HR := yh R
   clear R
   go_wp2_with fail
   go_roundw
   case rel =>
    refine ⟨j + 1, _, by omega, by go_num, ?_, rfl, ?_, ?_⟩
    ·
     rw [uh HT, hcn]
     have := uh HK
     omega
    ·
     rw [← uh HM _ (uh HD).symm]
     exact uh HF _ _ _ (uh HR) ⟨lies_Hit.2 ⟨rfl, hbl0, (show (Lit.int .i64 (kj)).wf = true from wf_of_bd (by omega)), (show (Lit.int .i64 (kj + 1)).wf = true from wf_of_bd (by omega))⟩, by rw [hbl0]; exact List.nodup_nil, by rw [hbl0]; simp⟩
    exact (uh HX).trans ((uh HR).ext.mono fun q _ hq => uh HI q (by rcases hq with h | h; exact Or.inl h.symm; exact Or.inr h))
   case measure => simp [intOf]; omega
  obtain rfl : j = xs.length := by omega
  rw [mkPre_all] at hO
  rw [List.take_length] at hkj
  have HK := yh hkj
  clear hkj
  have HO := yh hO
  have HX := yh hX
  clear hO hX
  go_wp2_with fail
  go_ret
  exact ⟨by rw [← uh HK]; rfl, uh HO, uh HX⟩
theorem markHit_zero (ao : Option Addr) (cap : Nat) (k : Int) (w : World) :
  Calls Tryz.prog 107 #[.slice ao 0 cap, .int .i64 k] w fun e w' => e = .returned (.int .i64 k) ∧ w' = w := by
 go_enter Tryz.func107, Tryz.ntmps107
 go_wp2_with fail
 refine wp_loop_rounds 1 ?_
 rw [rounds_succ]
 go_wp2_with fail
 go_ret
 exact ⟨rfl, rfl⟩
theorem mark_HitS (v : Value) (xs : List DHit) (bl : List Nat) (k : Int) (w : World) (h : (Lay.sl Lay.tHit).Own w [v] xs bl) (hk : 0 ≤ k) (hk2 : k + (Lay.sl Lay.tHit).vcnt xs ≤ 1000000000) :
  Calls Tryz.prog 107 #[v, .int .i64 k] w fun e w' => e = .returned (.int .i64 (k + (Lay.sl Lay.tHit).vcnt xs)) ∧ (Lay.sl Lay.tHit).Own w' [v] ((Lay.sl Lay.tHit).mkv k xs) bl ∧ Ext (fun q => q ∈ bl) w w' := by
 obtain ⟨ao, cap, rfl⟩ := open_sl h.reads
 by_cases hp : 0 < xs.length
 ·
  obtain ⟨b, off, rfl, hbl⟩ := Lay.sl_addr h.reads hp
  exact markHit_pos b off cap xs bl k w h hk hk2
 obtain rfl : xs = [] := List.eq_nil_of_length_eq_zero (by omega)
 refine (markHit_zero ao cap k w).mono ?_
 rintro e w' ⟨rfl, rfl⟩
 exact ⟨by rw [vcnt_HitS]; simp [cntAll], h, Ext.refl _ _⟩
theorem cnt_Entry (x : DEntry) : Lay.tEntry.cnt x = 8 + (Lay.sl Lay.int).vcnt x.query + (Lay.sl Lay.int).vcnt x.vec + (Lay.sl Lay.tHit).vcnt x.hits := by
 show 1 + (1 + (1 + (1 + ((Lay.sl Lay.int).vcnt x.query + (1 + (1 + (1 + (1 + ((Lay.sl Lay.int).vcnt x.vec + ((Lay.sl Lay.tHit).vcnt x.hits)))))))))) = 8 + (Lay.sl Lay.int).vcnt x.query + (Lay.sl Lay.int).vcnt x.vec + (Lay.sl Lay.tHit).vcnt x.hits
 omega
theorem mkd_Entry (k : Int) (x : DEntry) : Lay.tEntry.mkd k x = ⟨k, k + 1, k + 1 + 1, k + 1 + 1 + 1, (Lay.sl Lay.int).mkv (k + 1 + 1 + 1 + 1) x.query, k + 1 + 1 + 1 + 1 + ((Lay.sl Lay.int).vcnt x.query : Nat), k + 1 + 1 + 1 + 1 + ((Lay.sl Lay.int).vcnt x.query : Nat) + 1, k + 1 + 1 + 1 + 1 + ((Lay.sl Lay.int).vcnt x.query : Nat) + 1 + 1, k + 1 + 1 + 1 + 1 + ((Lay.sl Lay.int).vcnt x.query : Nat) + 1 + 1 + 1, (Lay.sl Lay.int).mkv (k + 1 + 1 + 1 + 1 + ((Lay.sl Lay.int).vcnt x.query : Nat) + 1 + 1 + 1 + 1) x.vec, (Lay.sl Lay.tHit).mkv (k + 1 + 1 + 1 + 1 + ((Lay.sl Lay.int).vcnt x.query : Nat) + 1 + 1 + 1 + 1 + ((Lay.sl Lay.int).vcnt x.vec : Nat)) x.hits⟩ := rfl
theorem vcnt_EntryS (xs : List DEntry) : (Lay.sl Lay.tEntry).vcnt xs = cntAll Lay.tEntry.cnt xs := rfl
theorem markEntry_pos (b off cap : Nat) (xs : List DEntry) (bl : List Nat) (k : Int) (w : World) (h : (Lay.sl Lay.tEntry).Own w [.slice (some ⟨b, off, none⟩) xs.length cap] xs bl) (hk : 0 ≤ k) (hk2 : k + (cntAll Lay.tEntry.cnt xs : Nat) ≤ 1000000000) :
  Calls Tryz.prog 80 #[.slice (some ⟨b, off, none⟩) xs.length cap, .int .i64 k] w fun e w' => e = .returned (.int .i64 (k + (cntAll Lay.tEntry.cnt xs : Nat))) ∧ (Lay.sl Lay.tEntry).Own w' [.slice (some ⟨b, off, none⟩) xs.length cap] (mkAll Lay.tEntry.cnt Lay.tEntry.mkd k xs) bl ∧ Ext (fun q => q ∈ bl) w w' := by
 have hbig := h.reads.big
 have H := yh h
 clear h
 go_enter Tryz.func80, Tryz.ntmps80
 go_wp2_with fail
 go_loopw [1, 5] (fun kk i wr => ∃ (j : Nat) (kj : Int), j ≤ xs.length ∧ i = .int .i64 j ∧ kj = k + (cntAll Lay.tEntry.cnt (xs.take j) : Nat) ∧ kk = .int .i64 kj ∧ (Lay.sl Lay.tEntry).Own wr [.slice (some ⟨b, off, none⟩) xs.length cap] (mkPre Lay.tEntry.cnt Lay.tEntry.mkd k xs j) bl ∧ Ext (fun q => q ∈ bl) w wr) (fun _ i _ => xs.length - (intOf i).toNat)
 case atStart => exact ⟨0, k, Nat.zero_le _, rfl, by simp [cntAll], rfl, by rw [mkPre_zero]; exact uh H, Ext.refl _ _⟩
 case round =>
  obtain ⟨j, kj, hj, rfl, hkj, rfl, hO, hX⟩ := hrel
  clear H
  by_cases hlt : j < xs.length
  ·
   have hj2 : j < (mkPre Lay.tEntry.cnt Lay.tEntry.mkd k xs j).length := by rw [mkPre_len _ _ _ _ _ hj]; exact hlt
   obtain ⟨row, blk, R, O, hbk, hin, hfin⟩ := Lay.own_upd hO hj2
   rw [mkPre_get _ _ _ _ _ hlt] at O
   have HT := yh (Lay.cntAll_take (f := Lay.tEntry.cnt) hlt)
   have hle := Lay.cntAll_take_le (f := Lay.tEntry.cnt) (xs := xs) (k := j + 1)
   rw [uh HT] at hle
   have HM : Hid (∀ y, y = Lay.tEntry.mkd kj xs[j] → (mkPre Lay.tEntry.cnt Lay.tEntry.mkd k xs j).set j y = mkPre Lay.tEntry.cnt Lay.tEntry.mkd k xs (j + 1)) := fun y e => by rw [e, hkj]; exact mkPre_set _ _ _ _ _ hlt
   have HF := yh hfin
   have HX := yh hX
   have HI := yh hin
   clear hO hfin hX hin hj2
   generalize hx : xs[j] = x at *
   clear hx
   have hcn := cnt_Entry x
   have HD0 := mkd_Entry kj x
   have hb1 : 0 ≤ kj := by omega
   have hb2 : kj + (Lay.tEntry.cnt x : Int) ≤ 1000000000 := by omega
   have HK := yh hkj
   clear hkj hle
   have HD := yh HD0
   clear HD0
   have hnd := O.2.1
   obtain ⟨a4, d4, a9, d9, a10, d10, g4, g9, g10, rfl, hbl, O4, O9, O10, v0, v1, v2, v3, v5, v6, v7, v8⟩ := own_Entry O
   clear O
   have HN : Hid ((g4 ++ (g9 ++ g10)).Nodup) := by rw [hbl] at hnd; exact hnd
   have HBL := yh hbl
   have hm4 : ∀ c ∈ g4, c ∈ blk := fun c hc => by rw [hbl]; simp [hc]
   have HM4 := yh hm4
   have HB4 : Hid (b ∉ g4) := fun hc => hbk (hm4 b hc)
   clear hm4
   have hm9 : ∀ c ∈ g9, c ∈ blk := fun c hc => by rw [hbl]; simp [hc]
   have HM9 := yh hm9
   have HB9 : Hid (b ∉ g9) := fun hc => hbk (hm9 b hc)
   clear hm9
   have hm10 : ∀ c ∈ g10, c ∈ blk := fun c hc => by rw [hbl]; simp [hc]
   have HM10 := yh hm10
   have HB10 : Hid (b ∉ g10) := fun hc => hbk (hm10 b hc)
   clear hm10
   have HJ4_9 : Hid (∀ c ∈ g4, c ∉ g9) := fun c h1 h2 => (List.nodup_append.1 (uh HN)).2.2 c h1 c (List.mem_append_left _ h2) rfl
   have HJ4_10 : Hid (∀ c ∈ g4, c ∉ g10) := fun c h1 h2 => (List.nodup_append.1 (uh HN)).2.2 c h1 c (List.mem_append_right _ h2) rfl
   have HJ9_10 : Hid (∀ c ∈ g9, c ∉ g10) := fun c h1 h2 => (List.nodup_append.1 (List.nodup_append.1 (uh HN)).2.1).2.2 c h1 c h2 rfl
   clear hnd hbl
   have P4 := yh O4
   clear O4
   have P9 := yh O9
   clear O9
   have P10 := yh O10
   clear O10
   have HR := yh R
   have l1 : b < wr.heap.size := R.lt
   clear R
   have c0 : wr.cell? ⟨b, off + j * 11, none⟩ = some (.int .i64 x.kind) := (uh HR).at 0 _ rfl
   have f0 : wr.frozen? ⟨b, off + j * 11, none⟩ = false := (uh HR).soft _
   have c1 : wr.cell? ⟨b, off + j * 11 + 1, none⟩ = some (.int .i64 x.session) := (uh HR).at 1 _ rfl
   have f1 : wr.frozen? ⟨b, off + j * 11 + 1, none⟩ = false := (uh HR).soft _
   have c2 : wr.cell? ⟨b, off + j * 11 + 2, none⟩ = some (.int .i64 x.seq) := (uh HR).at 2 _ rfl
   have f2 : wr.frozen? ⟨b, off + j * 11 + 2, none⟩ = false := (uh HR).soft _
   have c3 : wr.cell? ⟨b, off + j * 11 + 3, none⟩ = some (.int .i64 x.id) := (uh HR).at 3 _ rfl
   have f3 : wr.frozen? ⟨b, off + j * 11 + 3, none⟩ = false := (uh HR).soft _
   have c4 : wr.cell? ⟨b, off + j * 11 + 4, none⟩ = some (.slice a4 x.query.length d4) := (uh HR).at 4 _ rfl
   have E0_ : Ext (fun q => q = b) wr ((((wr.setCell ⟨b, off + j * 11, none⟩ (.int .i64 kj)).setCell ⟨b, off + j * 11 + 1, none⟩ (.int .i64 (kj + 1))).setCell ⟨b, off + j * 11 + 2, none⟩ (.int .i64 (kj + 1 + 1))).setCell ⟨b, off + j * 11 + 3, none⟩ (.int .i64 (kj + 1 + 1 + 1))) := (((((Ext.refl (fun q => q = b) _).setCell ⟨b, off + j * 11, none⟩ (.int .i64 kj) rfl).setCell ⟨b, off + j * 11 + 1, none⟩ (.int .i64 (kj + 1)) rfl).setCell ⟨b, off + j * 11 + 2, none⟩ (.int .i64 (kj + 1 + 1)) rfl).setCell ⟨b, off + j * 11 + 3, none⟩ (.int .i64 (kj + 1 + 1 + 1)) rfl)
   have HR0_ : Hid (RowAt wr ((((wr.setCell ⟨b, off + j * 11, none⟩ (.int .i64 kj)).setCell ⟨b, off + j * 11 + 1, none⟩ (.int .i64 (kj + 1))).setCell ⟨b, off + j * 11 + 2, none⟩ (.int .i64 (kj + 1 + 1))).setCell ⟨b, off + j * 11 + 3, none⟩ (.int .i64 (kj + 1 + 1 + 1))) b (off + j * 11) 11 [.int .i64 kj, .int .i64 (kj + 1), .int .i64 (kj + 1 + 1), .int .i64 (kj + 1 + 1 + 1), .slice a4 x.query.length d4, .int .i64 x.k, .int .i64 x.start, .int .i64 x.fin, .int .i64 x.place, .slice a9 x.vec.length d9, .slice a10 x.hits.length d10] blk) := (((((uh HR).set 0 (.int .i64 kj) (by decide)).set 1 (.int .i64 (kj + 1)) (by decide)).set 2 (.int .i64 (kj + 1 + 1)) (by decide)).set 3 (.int .i64 (kj + 1 + 1 + 1)) (by decide))
   replace P4 := yh ((uh P4).ext E0_ (fun c hc e => uh HB4 (e ▸ hc)))
   replace P9 := yh ((uh P9).ext E0_ (fun c hc e => uh HB9 (e ▸ hc)))
   replace P10 := yh ((uh P10).ext E0_ (fun c hc e => uh HB10 (e ▸ hc)))
   clear HR E0_
   have HR := HR0_
   clear HR0_
   go_wp2_with fail
   refine (mark_Int64S _ x.query g4 (kj + 1 + 1 + 1 + 1) _ (uh P4) (by omega) (by omega)).mono ?_
   rintro e u0 ⟨rfl, Q, E2⟩
   replace HR := yh ((uh HR).call E2 (uh HM4) (uh HB4))
   replace P9 := yh ((uh P9).ext E2 (fun c hc h2 => uh HJ4_9 c h2 hc))
   replace P10 := yh ((uh P10).ext E2 (fun c hc h2 => uh HJ4_10 c h2 hc))
   clear P4
   have P4 := yh Q
   clear Q E2 l1 c0 f0 c1 f1 c2 f2 c3 f3 c4
   have l1 : b < u0.heap.size := (uh HR).lt
   have c5 : u0.cell? ⟨b, off + j * 11 + 5, none⟩ = some (.int .i64 x.k) := (uh HR).at 5 _ rfl
   have f5 : u0.frozen? ⟨b, off + j * 11 + 5, none⟩ = false := (uh HR).soft _
   have c6 : u0.cell? ⟨b, off + j * 11 + 6, none⟩ = some (.int .i64 x.start) := (uh HR).at 6 _ rfl
   have f6 : u0.frozen? ⟨b, off + j * 11 + 6, none⟩ = false := (uh HR).soft _
   have c7 : u0.cell? ⟨b, off + j * 11 + 7, none⟩ = some (.int .i64 x.fin) := (uh HR).at 7 _ rfl
   have f7 : u0.frozen? ⟨b, off + j * 11 + 7, none⟩ = false := (uh HR).soft _
   have c8 : u0.cell? ⟨b, off + j * 11 + 8, none⟩ = some (.int .i64 x.place) := (uh HR).at 8 _ rfl
   have f8 : u0.frozen? ⟨b, off + j * 11 + 8, none⟩ = false := (uh HR).soft _
   have c9 : u0.cell? ⟨b, off + j * 11 + 9, none⟩ = some (.slice a9 x.vec.length d9) := (uh HR).at 9 _ rfl
   have E1_ : Ext (fun q => q = b) u0 ((((u0.setCell ⟨b, off + j * 11 + 5, none⟩ (.int .i64 (kj + 1 + 1 + 1 + 1 + ((Lay.sl Lay.int).vcnt x.query : Nat)))).setCell ⟨b, off + j * 11 + 6, none⟩ (.int .i64 (kj + 1 + 1 + 1 + 1 + ((Lay.sl Lay.int).vcnt x.query : Nat) + 1))).setCell ⟨b, off + j * 11 + 7, none⟩ (.int .i64 (kj + 1 + 1 + 1 + 1 + ((Lay.sl Lay.int).vcnt x.query : Nat) + 1 + 1))).setCell ⟨b, off + j * 11 + 8, none⟩ (.int .i64 (kj + 1 + 1 + 1 + 1 + ((Lay.sl Lay.int).vcnt x.query : Nat) + 1 + 1 + 1))) := (((((Ext.refl (fun q => q = b) _).setCell ⟨b, off + j * 11 + 5, none⟩ (.int .i64 (kj + 1 + 1 + 1 + 1 + ((Lay.sl Lay.int).vcnt x.query : Nat))) rfl).setCell ⟨b, off + j * 11 + 6, none⟩ (.int .i64 (kj + 1 + 1 + 1 + 1 + ((Lay.sl Lay.int).vcnt x.query : Nat) + 1)) rfl).setCell ⟨b, off + j * 11 + 7, none⟩ (.int .i64 (kj + 1 + 1 + 1 + 1 + ((Lay.sl Lay.int).vcnt x.query : Nat) + 1 + 1)) rfl).setCell ⟨b, off + j * 11 + 8, none⟩ (.int .i64 (kj + 1 + 1 + 1 + 1 + ((Lay.sl Lay.int).vcnt x.query : Nat) + 1 + 1 + 1)) rfl)
   have HR1_ : Hid (RowAt wr ((((u0.setCell ⟨b, off + j * 11 + 5, none⟩ (.int .i64 (kj + 1 + 1 + 1 + 1 + ((Lay.sl Lay.int).vcnt x.query : Nat)))).setCell ⟨b, off + j * 11 + 6, none⟩ (.int .i64 (kj + 1 + 1 + 1 + 1 + ((Lay.sl Lay.int).vcnt x.query : Nat) + 1))).setCell ⟨b, off + j * 11 + 7, none⟩ (.int .i64 (kj + 1 + 1 + 1 + 1 + ((Lay.sl Lay.int).vcnt x.query : Nat) + 1 + 1))).setCell ⟨b, off + j * 11 + 8, none⟩ (.int .i64 (kj + 1 + 1 + 1 + 1 + ((Lay.sl Lay.int).vcnt x.query : Nat) + 1 + 1 + 1))) b (off + j * 11) 11 [.int .i64 kj, .int .i64 (kj + 1), .int .i64 (kj + 1 + 1), .int .i64 (kj + 1 + 1 + 1), .slice a4 x.query.length d4, .int .i64 (kj + 1 + 1 + 1 + 1 + ((Lay.sl Lay.int).vcnt x.query : Nat)), .int .i64 (kj + 1 + 1 + 1 + 1 + ((Lay.sl Lay.int).vcnt x.query : Nat) + 1), .int .i64 (kj + 1 + 1 + 1 + 1 + ((Lay.sl Lay.int).vcnt x.query : Nat) + 1 + 1), .int .i64 (kj + 1 + 1 + 1 + 1 + ((Lay.sl Lay.int).vcnt x.query : Nat) + 1 + 1 + 1), .slice a9 x.vec.length d9, .slice a10 x.hits.length d10] blk) := (((((uh HR).set 5 (.int .i64 (kj + 1 + 1 + 1 + 1 + ((Lay.sl Lay.int).vcnt x.query : Nat))) (by decide)).set 6 (.int .i64 (kj + 1 + 1 + 1 + 1 + ((Lay.sl Lay.int).vcnt x.query : Nat) + 1)) (by decide)).set 7 (.int .i64 (kj + 1 + 1 + 1 + 1 + ((Lay.sl Lay.int).vcnt x.query : Nat) + 1 + 1)) (by decide)).set 8 (.int .i64 (kj + 1 + 1 + 1 + 1 + ((Lay.sl Lay.int).vcnt x.query : Nat) + 1 + 1 + 1)) (by decide))
   replace P4 := yh ((uh P4).ext E1_ (fun c hc e => uh HB4 (e ▸ hc)))
   replace P9 := yh ((uh P9).ext E1_ (fun c hc e => uh HB9 (e ▸ hc)))
   replace P10 := yh ((uh P10).ext E1_ (fun c hc e => uh HB10 (e ▸ hc)))
   clear HR E1_
   have HR := HR1_
   clear HR1_
   go_wp2_with fail
   refine (mark_Int64S _ x.vec g9 (kj + 1 + 1 + 1 + 1 + ((Lay.sl Lay.int).vcnt x.query : Nat) + 1 + 1 + 1 + 1) _ (uh P9) (by omega) (by omega)).mono ?_
   rintro e u1 ⟨rfl, Q, E2⟩
   replace HR := yh ((uh HR).call E2 (uh HM9) (uh HB9))
   replace P4 := yh ((uh P4).ext E2 (fun c hc h2 => uh HJ4_9 c hc h2))
   replace P10 := yh ((uh P10).ext E2 (fun c hc h2 => uh HJ9_10 c h2 hc))
   clear P9
   have P9 := yh Q
   clear Q E2 l1 c5 f5 c6 f6 c7 f7 c8 f8 c9
   have l1 : b < u1.heap.size := (uh HR).lt
   have c10 : u1.cell? ⟨b, off + j * 11 + 10, none⟩ = some (.slice a10 x.hits.length d10) := (uh HR).at 10 _ rfl
   go_wp2_with fail
   refine (mark_HitS _ x.hits g10 (kj + 1 + 1 + 1 + 1 + ((Lay.sl Lay.int).vcnt x.query : Nat) + 1 + 1 + 1 + 1 + ((Lay.sl Lay.int).vcnt x.vec : Nat)) _ (uh P10) (by omega) (by omega)).mono ?_
   rintro e u2 ⟨rfl, Q, E2⟩
   replace HR := yh ((uh HR).call E2 (uh HM10) (uh HB10))
   replace P4 := yh ((uh P4).ext E2 (fun c hc h2 => uh HJ4_10 c hc h2))
   replace P9 := yh ((uh P9).ext E2 (fun c hc h2 => uh HJ9_10 c hc h2))
   clear P10
   have P10 := yh Q
   clear Q E2 l1 c10
   have l1 : b < u2.heap.size := (uh HR).lt
   go_wp2_with fail
   go_roundw
   case rel =>
    refine ⟨j + 1, _, by omega, by go_num, ?_, rfl, ?_, ?_⟩
    ·
     rw [uh HT, hcn]
     have := uh HK
     omega
    ·
     rw [← uh HM _ (uh HD).symm]
     exact uh HF _ _ _ (uh HR) (by rw [uh HBL]; exact mkOwn_Entry (x := ⟨kj, kj + 1, kj + 1 + 1, kj + 1 + 1 + 1, (Lay.sl Lay.int).mkv (kj + 1 + 1 + 1 + 1) x.query, kj + 1 + 1 + 1 + 1 + ((Lay.sl Lay.int).vcnt x.query : Nat), kj + 1 + 1 + 1 + 1 + ((Lay.sl Lay.int).vcnt x.query : Nat) + 1, kj + 1 + 1 + 1 + 1 + ((Lay.sl Lay.int).vcnt x.query : Nat) + 1 + 1, kj + 1 + 1 + 1 + 1 + ((Lay.sl Lay.int).vcnt x.query : Nat) + 1 + 1 + 1, (Lay.sl Lay.int).mkv (kj + 1 + 1 + 1 + 1 + ((Lay.sl Lay.int).vcnt x.query : Nat) + 1 + 1 + 1 + 1) x.vec, (Lay.sl Lay.tHit).mkv (kj + 1 + 1 + 1 + 1 + ((Lay.sl Lay.int).vcnt x.query : Nat) + 1 + 1 + 1 + 1 + ((Lay.sl Lay.int).vcnt x.vec : Nat)) x.hits⟩) (uh P4) (uh P9) (uh P10) (show (Lit.int .i64 (kj)).wf = true from wf_of_bd (by omega)) (show (Lit.int .i64 (kj + 1)).wf = true from wf_of_bd (by omega)) (show (Lit.int .i64 (kj + 1 + 1)).wf = true from wf_of_bd (by omega)) (show (Lit.int .i64 (kj + 1 + 1 + 1)).wf = true from wf_of_bd (by omega)) (show (Lit.int .i64 (kj + 1 + 1 + 1 + 1 + ((Lay.sl Lay.int).vcnt x.query : Nat))).wf = true from wf_of_bd (by omega)) (show (Lit.int .i64 (kj + 1 + 1 + 1 + 1 + ((Lay.sl Lay.int).vcnt x.query : Nat) + 1)).wf = true from wf_of_bd (by omega)) (show (Lit.int .i64 (kj + 1 + 1 + 1 + 1 + ((Lay.sl Lay.int).vcnt x.query : Nat) + 1 + 1)).wf = true from wf_of_bd (by omega)) (show (Lit.int .i64 (kj + 1 + 1 + 1 + 1 + ((Lay.sl Lay.int).vcnt x.query : Nat) + 1 + 1 + 1)).wf = true from wf_of_bd (by omega)) (uh HN))
    exact (uh HX).trans ((uh HR).ext.mono fun q _ hq => uh HI q (by rcases hq with h | h; exact Or.inl h.symm; exact Or.inr h))
   case measure => simp [intOf]; omega
  obtain rfl : j = xs.length := by omega
  rw [mkPre_all] at hO
  rw [List.take_length] at hkj
  have HK := yh hkj
  clear hkj
  have HO := yh hO
  have HX := yh hX
  clear hO hX
  go_wp2_with fail
  go_ret
  exact ⟨by rw [← uh HK]; rfl, uh HO, uh HX⟩
theorem markEntry_zero (ao : Option Addr) (cap : Nat) (k : Int) (w : World) :
  Calls Tryz.prog 80 #[.slice ao 0 cap, .int .i64 k] w fun e w' => e = .returned (.int .i64 k) ∧ w' = w := by
 go_enter Tryz.func80, Tryz.ntmps80
 go_wp2_with fail
 refine wp_loop_rounds 1 ?_
 rw [rounds_succ]
 go_wp2_with fail
 go_ret
 exact ⟨rfl, rfl⟩
theorem mark_EntryS (v : Value) (xs : List DEntry) (bl : List Nat) (k : Int) (w : World) (h : (Lay.sl Lay.tEntry).Own w [v] xs bl) (hk : 0 ≤ k) (hk2 : k + (Lay.sl Lay.tEntry).vcnt xs ≤ 1000000000) :
  Calls Tryz.prog 80 #[v, .int .i64 k] w fun e w' => e = .returned (.int .i64 (k + (Lay.sl Lay.tEntry).vcnt xs)) ∧ (Lay.sl Lay.tEntry).Own w' [v] ((Lay.sl Lay.tEntry).mkv k xs) bl ∧ Ext (fun q => q ∈ bl) w w' := by
 obtain ⟨ao, cap, rfl⟩ := open_sl h.reads
 by_cases hp : 0 < xs.length
 ·
  obtain ⟨b, off, rfl, hbl⟩ := Lay.sl_addr h.reads hp
  exact markEntry_pos b off cap xs bl k w h hk hk2
 obtain rfl : xs = [] := List.eq_nil_of_length_eq_zero (by omega)
 refine (markEntry_zero ao cap k w).mono ?_
 rintro e w' ⟨rfl, rfl⟩
 exact ⟨by rw [vcnt_EntryS]; simp [cntAll], h, Ext.refl _ _⟩
theorem mark_World (cs : List Value) (x : DWorld) (bl : List Nat) (k : Int) (w : World) (h : Lay.tWorld.Own w cs x bl) (hk : 0 ≤ k) (hk2 : k + Lay.tWorld.vcnt x ≤ 1000000000) :
  Calls Tryz.prog 21 #[.agg cs.toArray, .int .i64 k] w fun e w' => e = .returned (.int .i64 (k + Lay.tWorld.vcnt x)) ∧ Lay.tWorld.Own w' cs (Lay.tWorld.mkv k x) bl ∧ Ext (fun q => q ∈ bl) w w' := by
 have hlt := h.lt
 have hnd := h.2.1
 rw [vcnt_World] at hk2
 obtain ⟨a3, d3, a4, d4, a5, d5, a6, d6, g2, g4, g5, g6, rfl, hbl, O2, O4, O5, O6, v0, v1⟩ := own_World h
 clear h
 have HB0 : Below w.heap.size w (w.alloc (.cells #[.int .i64 x.now, .int .i64 x.events, .int .i64 x.chain.epoch, .slice a3 x.chain.ids.length d3, .slice a4 x.nodes.length d4, .slice a5 x.msgs.length d5, .slice a6 x.history.length d6] 36)) := (Below.refl _ _).alloc (Nat.le_refl _) _
 have bA : Box w.heap.size #[.int .i64 x.now, .int .i64 x.events, .int .i64 x.chain.epoch, .slice a3 x.chain.ids.length d3, .slice a4 x.nodes.length d4, .slice a5 x.msgs.length d5, .slice a6 x.history.length d6] 36 (w.alloc (.cells #[.int .i64 x.now, .int .i64 x.events, .int .i64 x.chain.epoch, .slice a3 x.chain.ids.length d3, .slice a4 x.nodes.length d4, .slice a5 x.msgs.length d5, .slice a6 x.history.length d6] 36)) w.heap.size := newBox (Nat.le_refl _)
 have HN := yh hnd
 have HV := yh (vcnt_World x)
 have HM := yh (mkv_World k x)
 clear hnd
 go_enter Tryz.func21, Tryz.ntmps21
 go_wp2_with fail
 generalize w.alloc (.cells #[.int .i64 x.now, .int .i64 x.events, .int .i64 x.chain.epoch, .slice a3 x.chain.ids.length d3, .slice a4 x.nodes.length d4, .slice a5 x.msgs.length d5, .slice a6 x.history.length d6] 36) = W0 at *
 replace O2 := O2.later HB0
 replace O4 := O4.later HB0
 replace O5 := O5.later HB0
 replace O6 := O6.later HB0
 have hsz := HB0.size
 have EX : Ext (fun q => q ∈ bl) w W0 := ext_of_below HB0 _
 have hs0 := bA.lt
 refine (mark_Chain _ x.chain g2 (k) _ O2 (by omega) (by omega)).mono ?_
 rintro e w1 ⟨rfl, Q2, E2⟩
 replace O4 := O4.ext E2 (fun b hb hb2 => by subst hbl; exact absurd rfl ((by have := uh HN; simp_all [List.nodup_append] : ∀ p ∈ g2, ∀ q ∈ g4, p ≠ q) b hb2 b hb))
 replace O5 := O5.ext E2 (fun b hb hb2 => by subst hbl; exact absurd rfl ((by have := uh HN; simp_all [List.nodup_append] : ∀ p ∈ g2, ∀ q ∈ g5, p ≠ q) b hb2 b hb))
 replace O6 := O6.ext E2 (fun b hb hb2 => by subst hbl; exact absurd rfl ((by have := uh HN; simp_all [List.nodup_append] : ∀ p ∈ g2, ∀ q ∈ g6, p ≠ q) b hb2 b hb))
 replace EX := EX.trans (E2.mono fun b _ hb => by rw [hbl]; simp [hb])
 replace bA := bA.ext E2 (fun hm => by have := hlt w.heap.size (by rw [hbl]; simp [hm]); omega)
 clear E2
 have p4 := bA.at 4 _ rfl
 have p5 := bA.at 5 _ rfl
 have p6 := bA.at 6 _ rfl
 have HA := yh bA
 have HX := yh EX
 have HL := yh hlt
 have HBL := yh hbl
 clear bA EX hlt hbl
 have P2 := yh Q2
 clear Q2
 have P4 := yh O4
 clear O4
 have P5 := yh O5
 clear O5
 have P6 := yh O6
 clear O6
 clear O2
 go_wp2_with fail
 have bA := uh HA
 have EX := uh HX
 have hlt := uh HL
 have hbl := uh HBL
 clear HA HX HL HBL
 have Q2 := uh P2
 clear P2
 have O4 := uh P4
 clear P4
 have O5 := uh P5
 clear P5
 have O6 := uh P6
 clear P6
 clear p4
 clear p5
 clear p6
 refine (mark_NodeS _ x.nodes g4 (k + (Lay.tChain.vcnt x.chain : Int)) _ O4 (by omega) (by omega)).mono ?_
 rintro e w2 ⟨rfl, Q4, E4⟩
 replace Q2 := Q2.ext E4 (fun b hb hb2 => by subst hbl; exact absurd rfl ((by have := uh HN; simp_all [List.nodup_append] : ∀ p ∈ g2, ∀ q ∈ g4, p ≠ q) b hb b hb2))
 replace O5 := O5.ext E4 (fun b hb hb2 => by subst hbl; exact absurd rfl ((by have := uh HN; simp_all [List.nodup_append] : ∀ p ∈ g4, ∀ q ∈ g5, p ≠ q) b hb2 b hb))
 replace O6 := O6.ext E4 (fun b hb hb2 => by subst hbl; exact absurd rfl ((by have := uh HN; simp_all [List.nodup_append] : ∀ p ∈ g4, ∀ q ∈ g6, p ≠ q) b hb2 b hb))
 replace EX := EX.trans (E4.mono fun b _ hb => by rw [hbl]; simp [hb])
 replace bA := bA.ext E4 (fun hm => by have := hlt w.heap.size (by rw [hbl]; simp [hm]); omega)
 clear E4
 have p5 := bA.at 5 _ rfl
 have p6 := bA.at 6 _ rfl
 have HA := yh bA
 have HX := yh EX
 have HL := yh hlt
 have HBL := yh hbl
 clear bA EX hlt hbl
 have P2 := yh Q2
 clear Q2
 have P4 := yh Q4
 clear Q4
 have P5 := yh O5
 clear O5
 have P6 := yh O6
 clear O6
 clear O4
 go_wp2_with fail
 have bA := uh HA
 have EX := uh HX
 have hlt := uh HL
 have hbl := uh HBL
 clear HA HX HL HBL
 have Q2 := uh P2
 clear P2
 have Q4 := uh P4
 clear P4
 have O5 := uh P5
 clear P5
 have O6 := uh P6
 clear P6
 clear p5
 clear p6
 refine (mark_MsgS _ x.msgs g5 (k + (Lay.tChain.vcnt x.chain : Int) + ((Lay.sl Lay.tNode).vcnt x.nodes : Int)) _ O5 (by omega) (by omega)).mono ?_
 rintro e w3 ⟨rfl, Q5, E5⟩
 replace Q2 := Q2.ext E5 (fun b hb hb2 => by subst hbl; exact absurd rfl ((by have := uh HN; simp_all [List.nodup_append] : ∀ p ∈ g2, ∀ q ∈ g5, p ≠ q) b hb b hb2))
 replace Q4 := Q4.ext E5 (fun b hb hb2 => by subst hbl; exact absurd rfl ((by have := uh HN; simp_all [List.nodup_append] : ∀ p ∈ g4, ∀ q ∈ g5, p ≠ q) b hb b hb2))
 replace O6 := O6.ext E5 (fun b hb hb2 => by subst hbl; exact absurd rfl ((by have := uh HN; simp_all [List.nodup_append] : ∀ p ∈ g5, ∀ q ∈ g6, p ≠ q) b hb2 b hb))
 replace EX := EX.trans (E5.mono fun b _ hb => by rw [hbl]; simp [hb])
 replace bA := bA.ext E5 (fun hm => by have := hlt w.heap.size (by rw [hbl]; simp [hm]); omega)
 clear E5
 have p6 := bA.at 6 _ rfl
 have HA := yh bA
 have HX := yh EX
 have HL := yh hlt
 have HBL := yh hbl
 clear bA EX hlt hbl
 have P2 := yh Q2
 clear Q2
 have P4 := yh Q4
 clear Q4
 have P5 := yh Q5
 clear Q5
 have P6 := yh O6
 clear O6
 clear O5
 go_wp2_with fail
 have bA := uh HA
 have EX := uh HX
 have hlt := uh HL
 have hbl := uh HBL
 clear HA HX HL HBL
 have Q2 := uh P2
 clear P2
 have Q4 := uh P4
 clear P4
 have Q5 := uh P5
 clear P5
 have O6 := uh P6
 clear P6
 clear p6
 refine (mark_EntryS _ x.history g6 (k + (Lay.tChain.vcnt x.chain : Int) + ((Lay.sl Lay.tNode).vcnt x.nodes : Int) + ((Lay.sl Lay.tMsg).vcnt x.msgs : Int)) _ O6 (by omega) (by omega)).mono ?_
 rintro e w4 ⟨rfl, Q6, E6⟩
 replace Q2 := Q2.ext E6 (fun b hb hb2 => by subst hbl; exact absurd rfl ((by have := uh HN; simp_all [List.nodup_append] : ∀ p ∈ g2, ∀ q ∈ g6, p ≠ q) b hb b hb2))
 replace Q4 := Q4.ext E6 (fun b hb hb2 => by subst hbl; exact absurd rfl ((by have := uh HN; simp_all [List.nodup_append] : ∀ p ∈ g4, ∀ q ∈ g6, p ≠ q) b hb b hb2))
 replace Q5 := Q5.ext E6 (fun b hb hb2 => by subst hbl; exact absurd rfl ((by have := uh HN; simp_all [List.nodup_append] : ∀ p ∈ g5, ∀ q ∈ g6, p ≠ q) b hb b hb2))
 replace EX := EX.trans (E6.mono fun b _ hb => by rw [hbl]; simp [hb])
 replace bA := bA.ext E6 (fun hm => by have := hlt w.heap.size (by rw [hbl]; simp [hm]); omega)
 clear E6
 have HA := yh bA
 have HX := yh EX
 have HL := yh hlt
 have HBL := yh hbl
 clear bA EX hlt hbl
 have P2 := yh Q2
 clear Q2
 have P4 := yh Q4
 clear Q4
 have P5 := yh Q5
 clear Q5
 have P6 := yh Q6
 clear Q6
 clear O6
 go_wp2_with fail
 go_ret
 refine ⟨?_, ?_, uh HX⟩
 ·
  rw [show k + (Lay.tWorld.vcnt x : Int) = k + (Lay.tChain.vcnt x.chain : Int) + ((Lay.sl Lay.tNode).vcnt x.nodes : Int) + ((Lay.sl Lay.tMsg).vcnt x.msgs : Int) + ((Lay.sl Lay.tEntry).vcnt x.history : Int) by rw [uh HV]; omega]
  rfl
 have e := uh HBL
 subst e
 rw [uh HM]
 exact mkOwn_World (x := ⟨x.now, x.events, Lay.tChain.mkv (k) x.chain, (Lay.sl Lay.tNode).mkv (k + (Lay.tChain.vcnt x.chain : Int)) x.nodes, (Lay.sl Lay.tMsg).mkv (k + (Lay.tChain.vcnt x.chain : Int) + ((Lay.sl Lay.tNode).vcnt x.nodes : Int)) x.msgs, (Lay.sl Lay.tEntry).mkv (k + (Lay.tChain.vcnt x.chain : Int) + ((Lay.sl Lay.tNode).vcnt x.nodes : Int) + ((Lay.sl Lay.tMsg).vcnt x.msgs : Int)) x.history⟩) (uh P2) (uh P4) (uh P5) (uh P6) v0 v1 (uh HN)
theorem eq_Item (cs cs2 : List Value) (x : DItem) (w : World) (h : Lay.tItem.Reads w cs x) (h2 : Lay.tItem.Reads w cs2 x) :
  Calls Tryz.prog 206 #[.agg cs.toArray, .agg cs2.toArray] w fun e w' => e = .returned (.bool true) ∧ Below w.heap.size w w' := by
 obtain ⟨a1, d1, rfl, R1⟩ := open_Item h
 obtain ⟨a1z, d1z, rfl, R1z⟩ := open_Item h2
 clear h h2
 have e0 : (x.id != x.id) = false := by simp
 have HB0 : Below w.heap.size w ((w.alloc (.cells #[.int .i64 x.id, .slice a1 x.vec.length d1] 125)).alloc (.cells #[.int .i64 x.id, .slice a1z x.vec.length d1z] 125)) := ((Below.refl _ _).alloc (Nat.le_refl _) _).alloc (by simp) _
 have bA : Box w.heap.size #[.int .i64 x.id, .slice a1 x.vec.length d1] 125 ((w.alloc (.cells #[.int .i64 x.id, .slice a1 x.vec.length d1] 125)).alloc (.cells #[.int .i64 x.id, .slice a1z x.vec.length d1z] 125)) w.heap.size := (newBox (Nat.le_refl _)).grow _
 have bC : Box w.heap.size #[.int .i64 x.id, .slice a1z x.vec.length d1z] 125 ((w.alloc (.cells #[.int .i64 x.id, .slice a1 x.vec.length d1] 125)).alloc (.cells #[.int .i64 x.id, .slice a1z x.vec.length d1z] 125)) (w.heap.size + 1) := newBoxAt (by omega) (by simp)
 go_enter Tryz.func206, Tryz.ntmps206
 go_wp2_with fail
 generalize (w.alloc (.cells #[.int .i64 x.id, .slice a1 x.vec.length d1] 125)).alloc (.cells #[.int .i64 x.id, .slice a1z x.vec.length d1z] 125) = W0 at *
 replace R1 := R1.later HB0
 replace R1z := R1z.later HB0
 refine (eq_Int64S _ _ x.vec _ R1 R1z).mono ?_
 rintro e w1 ⟨rfl, hb⟩
 replace bA := bA.keep hb
 replace bC := bC.keep hb
 replace HB0 := HB0.trans (hb.mono HB0.size)
 clear hb
 have HB := yh HB0
 have HA := yh bA
 have HC := yh bC
 clear HB0 bA bC
 go_wp2_with fail
 go_ret
 exact ⟨rfl, uh HB⟩
theorem eq_ItemS (v v2 : Value) (xs : List DItem) (w : World) (h : (Lay.sl Lay.tItem).Reads w [v] xs) (h2 : (Lay.sl Lay.tItem).Reads w [v2] xs) :
  Calls Tryz.prog 121 #[v, v2] w fun e w' => e = .returned (.bool true) ∧ Below w.heap.size w w' := by
 have hbig := h.big
 obtain ⟨ao, cap, rfl⟩ := open_sl h
 obtain ⟨ao2, cap2, rfl⟩ := open_sl h2
 by_cases hp : 0 < xs.length
 ·
  obtain ⟨b, off, rfl, hbl⟩ := Lay.sl_addr h hp
  obtain ⟨b2, off2, rfl, hbl2⟩ := Lay.sl_addr h2 hp
  have H := yh h
  have H2 := yh h2
  clear h h2
  go_enter Tryz.func121, Tryz.ntmps121
  go_wp2_with fail
  go_loopw [5] (fun i wr => ∃ k : Nat, k ≤ xs.length ∧ i = .int .i64 k ∧ Below w.heap.size w wr) (fun i _ => xs.length - (intOf i).toNat)
  case atStart => exact ⟨0, Nat.zero_le _, rfl, Below.refl _ _⟩
  case round =>
   obtain ⟨k, hk, rfl, hB⟩ := hrel
   by_cases hlt : k < xs.length
   ·
    obtain ⟨row, hc, hr⟩ := Lay.row_at (uh H) hlt
    obtain ⟨rowz, hcz, hrz⟩ := Lay.row_at (uh H2) hlt
    have hr2 := hr
    obtain ⟨a1, d1, rfl, -⟩ := open_Item hr2
    have hrz2 := hrz
    obtain ⟨a1z, d1z, rfl, -⟩ := open_Item hrz2
    have c0 : w.cell? ⟨b, off + k * 2, none⟩ = some (.int .i64 (xs[k]).id) := ((Below.refl w.heap.size w).cell (p := ⟨b, off + k * 2, none⟩) hbl).trans (hc 0 (by decide))
    have c1 : w.cell? ⟨b, off + k * 2 + 1, none⟩ = some (.slice a1 (xs[k]).vec.length d1) := ((Below.refl w.heap.size w).cell (p := ⟨b, off + k * 2 + 1, none⟩) hbl).trans (hc 1 (by decide))
    have c0z : w.cell? ⟨b2, off2 + k * 2, none⟩ = some (.int .i64 (xs[k]).id) := ((Below.refl w.heap.size w).cell (p := ⟨b2, off2 + k * 2, none⟩) hbl2).trans (hcz 0 (by decide))
    have c1z : w.cell? ⟨b2, off2 + k * 2 + 1, none⟩ = some (.slice a1z (xs[k]).vec.length d1z) := ((Below.refl w.heap.size w).cell (p := ⟨b2, off2 + k * 2 + 1, none⟩) hbl2).trans (hcz 1 (by decide))
    clear hc hcz
    have HR := yh hr
    have HRZ := yh hrz
    clear hr hrz
    have HB := yh hB
    clear hB
    generalize hxk : xs[k] = x at *
    clear hxk
    have i1 : (0 : Int) ≤ (k : Int) := by omega
    have i2 : (k : Int) < (xs.length : Int) := by omega
    go_wp2_with fail
    refine wp_region_noPanic ?_
    refine wp_region_held_drew (S := fun w' => Below w.heap.size w w') (by kernel_rfl) (uh HB).drew (fun zq => ?_)
    generalize wr.drew = wD at zq ⊢
    refine tkH (i := 0) (oi := ⟨some 17, .move (.tmp 0), 64, "exact.go:466", #[], none⟩) (v := ?v0) rfl ?h0 zq ?r0
    case h0 => intro _ _; go_simp; try with_reducible rfl
    refine tkH (i := 1) (oi := ⟨some 18, .move (.tmp 5), 3, "exact.go:466", #[], none⟩) (v := ?v1) rfl ?h1 zq ?r1
    case h1 => intro _ _; go_simp; try with_reducible rfl
    refine tkH (i := 2) (oi := ⟨some 19, .indexAddr 64 (.tmp 17) (.tmp 18), 0, "exact.go:466", #[⟨0, .data⟩, ⟨1, .data⟩], none⟩) (v := ?v2) rfl ?h2 zq ?r2
    case h2 => intro _ _; go_simp; try with_reducible rfl
    refine tkH (i := 3) (oi := ⟨some 20, .load 125 (.tmp 19), 125, "exact.go:466", #[⟨2, .data⟩], none⟩) (v := ?v3) rfl ?h3 zq ?r3
    case h3 =>
     intro wS hSw
     have y0 := (hSw.cell (p := ⟨b, off + k * 2, none⟩) hbl).trans c0
     have y1 := (hSw.cell (p := ⟨b, off + k * 2 + 1, none⟩) hbl).trans c1
     clear hSw
     (try dsimp only at hSw)
     go_simp
     try with_reducible rfl
    refine tkH (i := 4) (oi := ⟨some 21, .move (.tmp 1), 64, "exact.go:466", #[], none⟩) (v := ?v4) rfl ?h4 zq ?r4
    case h4 => intro _ _; go_simp; try with_reducible rfl
    refine tkH (i := 5) (oi := ⟨some 22, .move (.tmp 5), 3, "exact.go:466", #[], none⟩) (v := ?v5) rfl ?h5 zq ?r5
    case h5 => intro _ _; go_simp; try with_reducible rfl
    refine tkH (i := 6) (oi := ⟨some 23, .indexAddr 64 (.tmp 21) (.tmp 22), 0, "exact.go:466", #[⟨4, .data⟩, ⟨5, .data⟩], none⟩) (v := ?v6) rfl ?h6 zq ?r6
    case h6 => intro _ _; go_simp; try with_reducible rfl
    refine tkH (i := 7) (oi := ⟨some 24, .load 125 (.tmp 23), 125, "exact.go:466", #[⟨6, .data⟩], none⟩) (v := ?v7) rfl ?h7 zq ?r7
    case h7 =>
     intro wS hSw
     have y0z := (hSw.cell (p := ⟨b2, off2 + k * 2, none⟩) hbl2).trans c0z
     have y1z := (hSw.cell (p := ⟨b2, off2 + k * 2 + 1, none⟩) hbl2).trans c1z
     clear hSw
     (try dsimp only at hSw)
     go_simp
     try with_reducible rfl
    refine rdH (i := 8) (oi := ⟨some 25, .call { callee := .value (.func 206), args := #[.tmp 20, .tmp 24], argTypes := #[125, 125] }, 4, "exact.go:466", #[⟨3, .data⟩, ⟨7, .data⟩], none⟩) rfl (fun K hK => ?_)
    go_simp
    go_at_call 206
    refine (eq_Item _ _ x _ ((uh HR).later zq) ((uh HRZ).later zq)).mono ?_
    rintro e w3 ⟨rfl, hbw⟩
    try go_wp2_with fail
    refine hK.out _ _ (zq.trans (hbw.mono zq.size)) (fun zq => ?_)
    clear hK K
    try simp only [Act.put, pz, py, px]
    refine tkH (i := 9) (oi := ⟨some 26, .unOp .not 4 (.tmp 25), 4, "exact.go:466", #[⟨8, .data⟩], none⟩) (v := ?v9) rfl ?h9 zq ?r9
    case h9 => intro _ _; go_simp; try with_reducible rfl
    refine wpAnyH_done (by kernel_rfl) ?_ _
    refine NoPanic.normal ?_
    have HB3 := yh zq
    clear zq c0 c0z c1 c1z HB
    go_wp2_with fail
    go_roundw
    case rel => exact ⟨k + 1, by omega, by go_num, uh HB3⟩
    case measure => simp [intOf]; omega
   have HB := yh hB
   clear hB
   go_wp2_with fail
   go_ret
   exact ⟨rfl, uh HB⟩
 obtain rfl : xs = [] := List.eq_nil_of_length_eq_zero (by omega)
 clear h h2 hp
 simp only [List.length_nil] at *
 go_enter Tryz.func121, Tryz.ntmps121
 go_wp2_with fail
 refine wp_loop_rounds 1 ?_
 rw [rounds_succ]
 go_wp2_with fail
 go_ret
 exact ⟨rfl, Below.refl _ _⟩
theorem eq_TableResult (cs cs2 : List Value) (x : DTableResult) (w : World) (h : Lay.tTableResult.Reads w cs x) (h2 : Lay.tTableResult.Reads w cs2 x) :
  Calls Tryz.prog 51 #[.agg cs.toArray, .agg cs2.toArray] w fun e w' => e = .returned (.bool true) ∧ Below w.heap.size w w' := by
 obtain ⟨a1, d1, rfl, R1⟩ := open_TableResult h
 obtain ⟨a1z, d1z, rfl, R1z⟩ := open_TableResult h2
 clear h h2
 have e0 : (x.code != x.code) = false := by simp
 have HB0 : Below w.heap.size w ((w.alloc (.cells #[.int .i64 x.code, .slice a1 x.items.length d1] 66)).alloc (.cells #[.int .i64 x.code, .slice a1z x.items.length d1z] 66)) := ((Below.refl _ _).alloc (Nat.le_refl _) _).alloc (by simp) _
 have bA : Box w.heap.size #[.int .i64 x.code, .slice a1 x.items.length d1] 66 ((w.alloc (.cells #[.int .i64 x.code, .slice a1 x.items.length d1] 66)).alloc (.cells #[.int .i64 x.code, .slice a1z x.items.length d1z] 66)) w.heap.size := (newBox (Nat.le_refl _)).grow _
 have bC : Box w.heap.size #[.int .i64 x.code, .slice a1z x.items.length d1z] 66 ((w.alloc (.cells #[.int .i64 x.code, .slice a1 x.items.length d1] 66)).alloc (.cells #[.int .i64 x.code, .slice a1z x.items.length d1z] 66)) (w.heap.size + 1) := newBoxAt (by omega) (by simp)
 go_enter Tryz.func51, Tryz.ntmps51
 go_wp2_with fail
 generalize (w.alloc (.cells #[.int .i64 x.code, .slice a1 x.items.length d1] 66)).alloc (.cells #[.int .i64 x.code, .slice a1z x.items.length d1z] 66) = W0 at *
 replace R1 := R1.later HB0
 replace R1z := R1z.later HB0
 refine (eq_ItemS _ _ x.items _ R1 R1z).mono ?_
 rintro e w1 ⟨rfl, hb⟩
 replace bA := bA.keep hb
 replace bC := bC.keep hb
 replace HB0 := HB0.trans (hb.mono HB0.size)
 clear hb
 have HB := yh HB0
 have HA := yh bA
 have HC := yh bC
 clear HB0 bA bC
 go_wp2_with fail
 go_ret
 exact ⟨rfl, uh HB⟩
theorem cnt_Item (x : DItem) : Lay.tItem.cnt x = 1 + (Lay.sl Lay.int).vcnt x.vec := by
 show 1 + ((Lay.sl Lay.int).vcnt x.vec) = 1 + (Lay.sl Lay.int).vcnt x.vec
 omega
theorem mkd_Item (k : Int) (x : DItem) : Lay.tItem.mkd k x = ⟨k, (Lay.sl Lay.int).mkv (k + 1) x.vec⟩ := rfl
theorem vcnt_ItemS (xs : List DItem) : (Lay.sl Lay.tItem).vcnt xs = cntAll Lay.tItem.cnt xs := rfl
theorem mkv_ItemS (k : Int) (xs : List DItem) : (Lay.sl Lay.tItem).mkv k xs = mkAll Lay.tItem.cnt Lay.tItem.mkd k xs := rfl
theorem markItem_pos (b off cap : Nat) (xs : List DItem) (bl : List Nat) (k : Int) (w : World) (h : (Lay.sl Lay.tItem).Own w [.slice (some ⟨b, off, none⟩) xs.length cap] xs bl) (hk : 0 ≤ k) (hk2 : k + (cntAll Lay.tItem.cnt xs : Nat) ≤ 1000000000) :
  Calls Tryz.prog 122 #[.slice (some ⟨b, off, none⟩) xs.length cap, .int .i64 k] w fun e w' => e = .returned (.int .i64 (k + (cntAll Lay.tItem.cnt xs : Nat))) ∧ (Lay.sl Lay.tItem).Own w' [.slice (some ⟨b, off, none⟩) xs.length cap] (mkAll Lay.tItem.cnt Lay.tItem.mkd k xs) bl ∧ Ext (fun q => q ∈ bl) w w' := by
 have hbig := h.reads.big
 have H := yh h
 clear h
 go_enter Tryz.func122, Tryz.ntmps122
 go_wp2_with fail
 go_loopw [1, 5] (fun kk i wr => ∃ (j : Nat) (kj : Int), j ≤ xs.length ∧ i = .int .i64 j ∧ kj = k + (cntAll Lay.tItem.cnt (xs.take j) : Nat) ∧ kk = .int .i64 kj ∧ (Lay.sl Lay.tItem).Own wr [.slice (some ⟨b, off, none⟩) xs.length cap] (mkPre Lay.tItem.cnt Lay.tItem.mkd k xs j) bl ∧ Ext (fun q => q ∈ bl) w wr) (fun _ i _ => xs.length - (intOf i).toNat)
 case atStart => exact ⟨0, k, Nat.zero_le _, rfl, by simp [cntAll], rfl, by rw [mkPre_zero]; exact uh H, Ext.refl _ _⟩
 case round =>
  obtain ⟨j, kj, hj, rfl, hkj, rfl, hO, hX⟩ := hrel
  clear H
  by_cases hlt : j < xs.length
  ·
   have hj2 : j < (mkPre Lay.tItem.cnt Lay.tItem.mkd k xs j).length := by rw [mkPre_len _ _ _ _ _ hj]; exact hlt
   obtain ⟨row, blk, R, O, hbk, hin, hfin⟩ := Lay.own_upd hO hj2
   rw [mkPre_get _ _ _ _ _ hlt] at O
   have HT := yh (Lay.cntAll_take (f := Lay.tItem.cnt) hlt)
   have hle := Lay.cntAll_take_le (f := Lay.tItem.cnt) (xs := xs) (k := j + 1)
   rw [uh HT] at hle
   have HM : Hid (∀ y, y = Lay.tItem.mkd kj xs[j] → (mkPre Lay.tItem.cnt Lay.tItem.mkd k xs j).set j y = mkPre Lay.tItem.cnt Lay.tItem.mkd k xs (j + 1)) := fun y e => by rw [e, hkj]; exact mkPre_set _ _ _ _ _ hlt
   have HF := yh hfin
   have HX := yh hX
   have HI := yh hin
   clear hO hfin hX hin hj2
   generalize hx : xs[j] = x at *
   clear hx
   have hcn := cnt_Item x
   have HD := yh (mkd_Item kj x)
   have hb1 : 0 ≤ kj := by omega
   have hb2 : kj + (Lay.tItem.cnt x : Int) ≤ 1000000000 := by omega
   have HK := yh hkj
   clear hkj hle
   have hnd := O.2.1
   obtain ⟨a1, d1, g1, rfl, hbl, O1, v0⟩ := own_Item O
   clear O
   subst hbl
   have HN := yh hnd
   clear hnd
   have l1 : b < wr.heap.size := R.lt
   have c0 : wr.cell? ⟨b, off + j * 2, none⟩ = some (.int .i64 x.id) := R.at 0 _ rfl
   have f0 : wr.frozen? ⟨b, off + j * 2, none⟩ = false := R.soft _
   have c1 : wr.cell? ⟨b, off + j * 2 + 1, none⟩ = some (.slice a1 x.vec.length d1) := R.at 1 _ rfl
   have R0_ : RowAt wr (wr.setCell ⟨b, off + j * 2, none⟩ (.int .i64 kj)) b (off + j * 2) 2 [.int .i64 kj, .slice a1 x.vec.length d1] blk := (R.set 0 (.int .i64 kj) (by decide))
   have E0_ : Ext (fun q => q = b) wr (wr.setCell ⟨b, off + j * 2, none⟩ (.int .i64 kj)) := ((Ext.refl (fun q => q = b) _).setCell ⟨b, off + j * 2, none⟩ (.int .i64 kj) rfl)
   have O1_ := O1.ext E0_ (fun c hc e => hbk (e ▸ hc))
   clear O1
   have O1 := O1_
   clear O1_
   clear R E0_
   have R := R0_
   clear R0_
   have HR := yh R
   clear R
   go_wp2_with fail
   refine (mark_Int64S _ x.vec blk (kj + 1) _ O1 (by omega) (by omega)).mono ?_
   rintro e w2 ⟨rfl, Q1, E2⟩
   have R := (uh HR).call E2 (fun _ h => h) hbk
   clear E2 O1 HR c0 c1 f0
   clear l1
   have l1 : b < w2.heap.size := R.lt
   have HR := yh R
   clear R
   have HQ := yh Q1
   clear Q1
   go_wp2_with fail
   go_roundw
   case rel =>
    refine ⟨j + 1, _, by omega, by go_num, ?_, rfl, ?_, ?_⟩
    ·
     rw [uh HT, hcn]
     have := uh HK
     omega
    ·
     rw [← uh HM _ (uh HD).symm]
     exact uh HF _ _ _ (uh HR) (mkOwn_Item (x := ⟨kj, (Lay.sl Lay.int).mkv (kj + 1) x.vec⟩) (uh HQ) (show (Lit.int .i64 (kj)).wf = true from wf_of_bd (by omega)) (uh HN))
    exact (uh HX).trans ((uh HR).ext.mono fun q _ hq => uh HI q (by rcases hq with h | h; exact Or.inl h.symm; exact Or.inr h))
   case measure => simp [intOf]; omega
  obtain rfl : j = xs.length := by omega
  rw [mkPre_all] at hO
  rw [List.take_length] at hkj
  have HK := yh hkj
  clear hkj
  have HO := yh hO
  have HX := yh hX
  clear hO hX
  go_wp2_with fail
  go_ret
  exact ⟨by rw [← uh HK]; rfl, uh HO, uh HX⟩
theorem markItem_zero (ao : Option Addr) (cap : Nat) (k : Int) (w : World) :
  Calls Tryz.prog 122 #[.slice ao 0 cap, .int .i64 k] w fun e w' => e = .returned (.int .i64 k) ∧ w' = w := by
 go_enter Tryz.func122, Tryz.ntmps122
 go_wp2_with fail
 refine wp_loop_rounds 1 ?_
 rw [rounds_succ]
 go_wp2_with fail
 go_ret
 exact ⟨rfl, rfl⟩
theorem mark_ItemS (v : Value) (xs : List DItem) (bl : List Nat) (k : Int) (w : World) (h : (Lay.sl Lay.tItem).Own w [v] xs bl) (hk : 0 ≤ k) (hk2 : k + (Lay.sl Lay.tItem).vcnt xs ≤ 1000000000) :
  Calls Tryz.prog 122 #[v, .int .i64 k] w fun e w' => e = .returned (.int .i64 (k + (Lay.sl Lay.tItem).vcnt xs)) ∧ (Lay.sl Lay.tItem).Own w' [v] ((Lay.sl Lay.tItem).mkv k xs) bl ∧ Ext (fun q => q ∈ bl) w w' := by
 obtain ⟨ao, cap, rfl⟩ := open_sl h.reads
 by_cases hp : 0 < xs.length
 ·
  obtain ⟨b, off, rfl, hbl⟩ := Lay.sl_addr h.reads hp
  exact markItem_pos b off cap xs bl k w h hk hk2
 obtain rfl : xs = [] := List.eq_nil_of_length_eq_zero (by omega)
 refine (markItem_zero ao cap k w).mono ?_
 rintro e w' ⟨rfl, rfl⟩
 exact ⟨by rw [vcnt_ItemS]; simp [cntAll], h, Ext.refl _ _⟩
theorem mark_TableResult (cs : List Value) (x : DTableResult) (bl : List Nat) (k : Int) (w : World) (h : Lay.tTableResult.Own w cs x bl) (hk : 0 ≤ k) (hk2 : k + Lay.tTableResult.vcnt x ≤ 1000000000) :
  Calls Tryz.prog 52 #[.agg cs.toArray, .int .i64 k] w fun e w' => e = .returned (.int .i64 (k + Lay.tTableResult.vcnt x)) ∧ Lay.tTableResult.Own w' cs (Lay.tTableResult.mkv k x) bl ∧ Ext (fun q => q ∈ bl) w w' := by
 have hlt := h.lt
 have hnd := h.2.1
 rw [vcnt_TableResult] at hk2
 obtain ⟨a1, d1, g1, rfl, hbl, O1, v0⟩ := own_TableResult h
 clear h
 have HB0 : Below w.heap.size w (w.alloc (.cells #[.int .i64 x.code, .slice a1 x.items.length d1] 66)) := (Below.refl _ _).alloc (Nat.le_refl _) _
 have bA : Box w.heap.size #[.int .i64 x.code, .slice a1 x.items.length d1] 66 (w.alloc (.cells #[.int .i64 x.code, .slice a1 x.items.length d1] 66)) w.heap.size := newBox (Nat.le_refl _)
 have HN := yh hnd
 have HV := yh (vcnt_TableResult x)
 have HM := yh (mkv_TableResult k x)
 clear hnd
 go_enter Tryz.func52, Tryz.ntmps52
 go_wp2_with fail
 generalize w.alloc (.cells #[.int .i64 x.code, .slice a1 x.items.length d1] 66) = W0 at *
 replace O1 := O1.later HB0
 have hsz := HB0.size
 have EX : Ext (fun q => q ∈ bl) w W0 := ext_of_below HB0 _
 have hs0 := bA.lt
 refine (mark_ItemS _ x.items g1 (k) _ O1 (by omega) (by omega)).mono ?_
 rintro e w1 ⟨rfl, Q1, E1⟩
 replace EX := EX.trans (E1.mono fun b _ hb => by rw [hbl]; simp [hb])
 replace bA := bA.ext E1 (fun hm => by have := hlt w.heap.size (by rw [hbl]; simp [hm]); omega)
 clear E1
 have HA := yh bA
 have HX := yh EX
 have HL := yh hlt
 have HBL := yh hbl
 clear bA EX hlt hbl
 have P1 := yh Q1
 clear Q1
 clear O1
 go_wp2_with fail
 go_ret
 refine ⟨?_, ?_, uh HX⟩
 ·
  rw [show k + (Lay.tTableResult.vcnt x : Int) = k + ((Lay.sl Lay.tItem).vcnt x.items : Int) by rw [uh HV]]
  rfl
 have e := uh HBL
 subst e
 rw [uh HM]
 exact mkOwn_TableResult (x := ⟨x.code, (Lay.sl Lay.tItem).mkv (k) x.items⟩) (uh P1) v0 (uh HN)
theorem heldItem_pos (b off cap : Nat) (xs : List DItem) (k : Int) (w : World) (h : (Lay.sl Lay.tItem).Reads w [.slice (some ⟨b, off, none⟩) (mkAll Lay.tItem.cnt Lay.tItem.mkd k xs).length cap] (mkAll Lay.tItem.cnt Lay.tItem.mkd k xs)) (hbl : b < w.heap.size) (hk : 0 ≤ k) (hk2 : k + (cntAll Lay.tItem.cnt xs : Nat) ≤ 1000000000) :
  Calls Tryz.prog 123 #[.slice (some ⟨b, off, none⟩) xs.length cap, .int .i64 k] w fun e w' => e = .returned (.int .i64 (k + (cntAll Lay.tItem.cnt xs : Nat))) ∧ Below w.heap.size w w' := by
 have hbig := h.big
 rw [mkAll_size] at hbig
 have H := yh h
 clear h
 go_enter Tryz.func123, Tryz.ntmps123
 go_wp2_with fail
 go_loopw [1, 5] (fun kk i wr => ∃ (j : Nat) (kj : Int), j ≤ xs.length ∧ i = .int .i64 j ∧ kj = k + (cntAll Lay.tItem.cnt (xs.take j) : Nat) ∧ kk = .int .i64 kj ∧ Below w.heap.size w wr) (fun _ i _ => xs.length - (intOf i).toNat)
 case atStart => exact ⟨0, k, Nat.zero_le _, rfl, by simp [cntAll], rfl, Below.refl _ _⟩
 case round =>
  obtain ⟨j, kj, hj, rfl, hkj, rfl, hB⟩ := hrel
  by_cases hlt : j < xs.length
  ·
   have hj2 : j < (mkAll Lay.tItem.cnt Lay.tItem.mkd k xs).length := by rw [mkAll_size]; exact hlt
   obtain ⟨row, hc, hr⟩ := Lay.row_at (uh H) hj2
   rw [mkAll_at _ _ _ _ _ hlt hj2, ← hkj, mkd_Item] at hr
   have HT := yh (Lay.cntAll_take (f := Lay.tItem.cnt) hlt)
   have hle := Lay.cntAll_take_le (f := Lay.tItem.cnt) (xs := xs) (k := j + 1)
   rw [uh HT] at hle
   clear hj2
   generalize hx : xs[j] = x at *
   clear hx
   have hcn := cnt_Item x
   have hb1 : 0 ≤ kj := by omega
   have hb2 : kj + (Lay.tItem.cnt x : Int) ≤ 1000000000 := by omega
   have HK := yh hkj
   clear hkj hle
   replace hr := hr.later hB
   obtain ⟨a1, d1, rfl, R1⟩ := open_Item hr
   clear hr
   generalize hn : (⟨kj, (Lay.sl Lay.int).mkv (kj + 1) x.vec⟩ : DItem).vec.length = n1 at *
   clear hn
   have c0 : wr.cell? ⟨b, off + j * 2, none⟩ = some (.int .i64 (kj)) := (hB.cell (p := ⟨b, off + j * 2, none⟩) hbl).trans (hc 0 (by decide))
   have e0 : ((kj : Int) != (kj : Int)) = false := by simp
   have c1 : wr.cell? ⟨b, off + j * 2 + 1, none⟩ = some (.slice a1 n1 d1) := (hB.cell (p := ⟨b, off + j * 2 + 1, none⟩) hbl).trans (hc 1 (by decide))
   have HB := yh hB
   clear hB hc
   go_wp2_with fail
   refine (held_Int64S _ x.vec (kj + 1) _ R1 (by omega) (by omega)).mono ?_
   rintro e w2 ⟨rfl, hb⟩
   have l1 : b < wr.heap.size := Nat.lt_of_lt_of_le hbl (uh HB).size
   replace HB := yh ((uh HB).trans (hb.mono (uh HB).size))
   clear hb R1 l1 c0 c1
   have hq : decide (kj + 1 + ((Lay.sl Lay.int).vcnt x.vec : Int) < 0) = false := by simp; omega
   go_wp2_with fail
   go_roundw
   case rel => exact ⟨j + 1, _, by omega, by go_num, (by rw [uh HT, hcn]; have := uh HK; omega), rfl, uh HB⟩
   case measure => simp [intOf]; omega
  obtain rfl : j = xs.length := by omega
  rw [List.take_length] at hkj
  have HK := yh hkj
  have HB := yh hB
  clear hB hkj
  go_wp2_with fail
  go_ret
  exact ⟨by rw [← uh HK]; rfl, uh HB⟩
theorem heldItem_zero (ao : Option Addr) (cap : Nat) (k : Int) (w : World) :
  Calls Tryz.prog 123 #[.slice ao 0 cap, .int .i64 k] w fun e w' => e = .returned (.int .i64 k) ∧ w' = w := by
 go_enter Tryz.func123, Tryz.ntmps123
 go_wp2_with fail
 refine wp_loop_rounds 1 ?_
 rw [rounds_succ]
 go_wp2_with fail
 go_ret
 exact ⟨rfl, rfl⟩
theorem held_ItemS (v : Value) (xs : List DItem) (k : Int) (w : World) (h : (Lay.sl Lay.tItem).Reads w [v] ((Lay.sl Lay.tItem).mkv k xs)) (hk : 0 ≤ k) (hk2 : k + (Lay.sl Lay.tItem).vcnt xs ≤ 1000000000) :
  Calls Tryz.prog 123 #[v, .int .i64 k] w fun e w' => e = .returned (.int .i64 (k + (Lay.sl Lay.tItem).vcnt xs)) ∧ Below w.heap.size w w' := by
 rw [mkv_ItemS] at h
 obtain ⟨ao, cap, rfl⟩ := open_sl h
 by_cases hp : 0 < xs.length
 ·
  obtain ⟨b, off, rfl, hbl⟩ := Lay.sl_addr h (by rw [mkAll_size]; exact hp)
  have L := heldItem_pos b off cap xs k w h hbl hk hk2
  rw [mkAll_size]
  exact L
 obtain rfl : xs = [] := List.eq_nil_of_length_eq_zero (by omega)
 refine (heldItem_zero ao cap k w).mono ?_
 rintro e w' ⟨rfl, rfl⟩
 exact ⟨by rw [vcnt_ItemS]; simp [cntAll], Below.refl _ _⟩
theorem held_TableResult (cs : List Value) (x : DTableResult) (k : Int) (w : World) (h : Lay.tTableResult.Reads w cs (Lay.tTableResult.mkv k x)) (hk : 0 ≤ k) (hk2 : k + Lay.tTableResult.vcnt x ≤ 1000000000) :
  Calls Tryz.prog 53 #[.agg cs.toArray, .int .i64 k] w fun e w' => e = .returned (.int .i64 (k + Lay.tTableResult.vcnt x)) ∧ Below w.heap.size w w' := by
 rw [mkv_TableResult] at h
 rw [vcnt_TableResult] at hk2
 have HV := yh (vcnt_TableResult x)
 obtain ⟨a1, d1, rfl, R1⟩ := open_TableResult h
 clear h
 generalize hn1 : (⟨x.code, (Lay.sl Lay.tItem).mkv (k) x.items⟩ : DTableResult).items.length = n1 at *
 clear hn1
 have HB0 : Below w.heap.size w (w.alloc (.cells #[.int .i64 x.code, .slice a1 n1 d1] 66)) := (Below.refl _ _).alloc (Nat.le_refl _) _
 have bA : Box w.heap.size #[.int .i64 x.code, .slice a1 n1 d1] 66 (w.alloc (.cells #[.int .i64 x.code, .slice a1 n1 d1] 66)) w.heap.size := newBox (Nat.le_refl _)
 go_enter Tryz.func53, Tryz.ntmps53
 go_wp2_with fail
 generalize w.alloc (.cells #[.int .i64 x.code, .slice a1 n1 d1] 66) = W0 at *
 replace R1 := R1.later HB0
 refine (held_ItemS _ x.items (k) _ R1 (by omega) (by omega)).mono ?_
 rintro e w1 ⟨rfl, hb⟩
 replace HB0 := HB0.trans (hb.mono HB0.size)
 replace bA := bA.keep hb
 have HA := yh bA
 have HX := yh HB0
 clear bA HB0 hb R1
 have hq : decide (k + ((Lay.sl Lay.tItem).vcnt x.items : Int) < 0) = false := by simp; omega
 go_wp2_with fail
 clear hq
 go_ret
 refine ⟨?_, uh HX⟩
 rw [show k + (Lay.tTableResult.vcnt x : Int) = k + ((Lay.sl Lay.tItem).vcnt x.items : Int) by rw [uh HV]]
 rfl
theorem lawx_StateIn (u0 : List Value) (x0 : DWorld) (y : DTableResult) (w : World) (A0 : Lay.tWorld.Reads w u0 x0) (NS : Lay.tWorld.sz x0 ≤ 1048576)
  (hS : ∀ (W : World) (u0 : List Value), Lay.tWorld.Reads W u0 x0 → Calls Tryz.prog 49 #[.agg u0.toArray] W fun e w' => ∃ cs, e = .returned (.agg cs.toArray) ∧ Lay.tTableResult.Reads w' cs y ∧ Below W.heap.size W w')
  (hI : ∀ (W : World) (u0 : List Value), Lay.tWorld.Reads W u0 x0 → Calls Tryz.prog 50 #[.agg u0.toArray] W fun e w' => ∃ cs, e = .returned (.agg cs.toArray) ∧ Lay.tTableResult.OwnIn w' cs y W.heap.size w'.heap.size ∧ Below W.heap.size W w') (hc : Lay.tTableResult.vcnt y ≤ 100000000) :
  Calls Tryz.prog 13 #[.agg u0.toArray] w fun e w' => e = .returned (.bool true) ∧ Below w.heap.size w w' := by
 obtain ⟨a3p0, d3p0, a4p0, d4p0, a5p0, d5p0, a6p0, d6p0, rfl, -, -, -, -⟩ := open_World A0
 have HS := yh hS
 have HI := yh hI
 clear hS hI
 have HA0 := yh A0.liesIn
 clear A0
 have N0 : Lay.tWorld.sz x0 ≤ 1048576 := by omega
 have HN0 := yh N0
 clear N0
 have HC := yh hc
 clear hc
 have HNS := yh NS
 clear NS
 have HB := yh (Below.refl w.heap.size w)
 go_enter Tryz.func13, Tryz.ntmps13
 go_wp2_with fail
 have nb : Below w.heap.size w (w.alloc (.cells #[.int .i64 x0.now, .int .i64 x0.events, .int .i64 x0.chain.epoch, .slice a3p0 x0.chain.ids.length d3p0, .slice a4p0 x0.nodes.length d4p0, .slice a5p0 x0.msgs.length d5p0, .slice a6p0 x0.history.length d6p0] 29)) := (Below.refl w.heap.size w).alloc (Nat.le_refl _) _
 have P0 : Hid (Box w.heap.size #[.int .i64 x0.now, .int .i64 x0.events, .int .i64 x0.chain.epoch, .slice a3p0 x0.chain.ids.length d3p0, .slice a4p0 x0.nodes.length d4p0, .slice a5p0 x0.msgs.length d5p0, .slice a6p0 x0.history.length d6p0] 29 (w.alloc (.cells #[.int .i64 x0.now, .int .i64 x0.events, .int .i64 x0.chain.epoch, .slice a3p0 x0.chain.ids.length d3p0, .slice a4p0 x0.nodes.length d4p0, .slice a5p0 x0.msgs.length d5p0, .slice a6p0 x0.history.length d6p0] 29)) (w.heap.size)) := newBoxAt (by omega) (by simp)
 generalize haw1 : (w.alloc (.cells #[.int .i64 x0.now, .int .i64 x0.events, .int .i64 x0.chain.epoch, .slice a3p0 x0.chain.ids.length d3p0, .slice a4p0 x0.nodes.length d4p0, .slice a5p0 x0.msgs.length d5p0, .slice a6p0 x0.history.length d6p0] 29)) = w1 at *
 have Gw1 : w.heap.size + 1 ≤ w1.heap.size := by rw [← haw1]; simp
 clear haw1
 replace HA0 := yh ((uh HA0).later nb)
 have Zw1 : w.heap.size ≤ w1.heap.size := nb.size
 replace HB := yh ((uh HB).trans (nb.mono (by omega)))
 clear nb
 have hns := uh HNS
 refine (sz_World _ x0 (1048576) w1 (uh HA0).reads (by omega)).mono ?_
 rintro e w2 ⟨rfl, hb⟩
 replace HA0 := yh ((uh HA0).later hb)
 replace P0 := yh ((uh P0).keep hb)
 have Zw2 : w1.heap.size ≤ w2.heap.size := hb.size
 replace HB := yh ((uh HB).trans (hb.mono (by omega)))
 clear hb
 rw [szR_ok (by omega)]
 have hq0 : decide (((1048576 - Lay.tWorld.sz x0 : Nat) : Int) < 0) = false := by simp
 clear hns
 have l0P0 := (uh P0).at 0 _ rfl
 have l1P0 := (uh P0).at 1 _ rfl
 have l2P0 := (uh P0).at 2 _ rfl
 have l3P0 := (uh P0).at 3 _ rfl
 have l4P0 := (uh P0).at 4 _ rfl
 have l5P0 := (uh P0).at 5 _ rfl
 have l6P0 := (uh P0).at 6 _ rfl
 have ltP0 : w.heap.size < w2.heap.size := by omega
 simp only [ga, gb, gc] at l0P0 l1P0 l2P0 l3P0 l4P0 l5P0 l6P0
 go_wp2_with fail
 clear l0P0 l1P0 l2P0 l3P0 l4P0 l5P0 l6P0 ltP0
 clear hq0
 refine (to_World _ x0 w2 (uh HA0).reads (uh HN0)).mono ?_
 rintro e w3 ⟨vc0, rfl, O, hb⟩
 replace HA0 := yh ((uh HA0).later hb)
 replace P0 := yh ((uh P0).keep hb)
 have Zw3 : w2.heap.size ≤ w3.heap.size := hb.size
 replace HB := yh ((uh HB).trans (hb.mono (by omega)))
 clear hb
 obtain ⟨a3c0, d3c0, a4c0, d4c0, a5c0, d5c0, a6c0, d6c0, rfl, -, -, -, -⟩ := open_World O.reads
 have Hc0 := yh O
 clear O
 have l0P0 := (uh P0).at 0 _ rfl
 have l1P0 := (uh P0).at 1 _ rfl
 have l2P0 := (uh P0).at 2 _ rfl
 have l3P0 := (uh P0).at 3 _ rfl
 have l4P0 := (uh P0).at 4 _ rfl
 have l5P0 := (uh P0).at 5 _ rfl
 have l6P0 := (uh P0).at 6 _ rfl
 have ltP0 : w.heap.size < w3.heap.size := by omega
 simp only [ga, gb, gc] at l0P0 l1P0 l2P0 l3P0 l4P0 l5P0 l6P0
 go_wp2_with fail
 clear l0P0 l1P0 l2P0 l3P0 l4P0 l5P0 l6P0 ltP0
 refine (uh HS w3 _ (uh Hc0).reads).mono ?_
 rintro e w4 ⟨cs, rfl, O, hb⟩
 replace HA0 := yh ((uh HA0).later hb)
 replace P0 := yh ((uh P0).keep hb)
 replace Hc0 := yh ((uh Hc0).later hb)
 have Zw4 : w3.heap.size ≤ w4.heap.size := hb.size
 replace HB := yh ((uh HB).trans (hb.mono (by omega)))
 clear hb
 obtain ⟨a1W, d1W, rfl, -⟩ := open_TableResult O
 have HW := yh O.liesIn
 clear O
 have nb : Below w4.heap.size w4 (w4.alloc (.cells #[.int .i64 y.code, .slice a1W y.items.length d1W] 66)) := (Below.refl _ _).alloc (Nat.le_refl _) _
 have YW : Hid (Box w4.heap.size #[.int .i64 y.code, .slice a1W y.items.length d1W] 66 (w4.alloc (.cells #[.int .i64 y.code, .slice a1W y.items.length d1W] 66)) w4.heap.size) := newBox (Nat.le_refl _)
 clear Hc0
 have l0P0 := (uh P0).at 0 _ rfl
 have l1P0 := (uh P0).at 1 _ rfl
 have l2P0 := (uh P0).at 2 _ rfl
 have l3P0 := (uh P0).at 3 _ rfl
 have l4P0 := (uh P0).at 4 _ rfl
 have l5P0 := (uh P0).at 5 _ rfl
 have l6P0 := (uh P0).at 6 _ rfl
 have ltP0 : w.heap.size < w4.heap.size := by omega
 simp only [ga, gb, gc] at l0P0 l1P0 l2P0 l3P0 l4P0 l5P0 l6P0
 go_wp2_with fail
 clear l0P0 l1P0 l2P0 l3P0 l4P0 l5P0 l6P0 ltP0
 generalize haw5 : w4.alloc (.cells #[.int .i64 y.code, .slice a1W y.items.length d1W] 66) = w5 at *
 have Gw5 : w4.heap.size < w5.heap.size := by rw [← haw5]; simp
 clear haw5
 replace HA0 := yh ((uh HA0).later nb)
 replace P0 := yh ((uh P0).keep nb)
 replace HW := yh ((uh HW).later nb)
 have Zw5 : w4.heap.size ≤ w5.heap.size := nb.size
 replace HB := yh ((uh HB).trans (nb.mono (by omega)))
 clear nb
 refine (to_World _ x0 w5 (uh HA0).reads (uh HN0)).mono ?_
 rintro e w6 ⟨vx0, rfl, O, hb⟩
 replace HA0 := yh ((uh HA0).later hb)
 replace P0 := yh ((uh P0).keep hb)
 replace HW := yh ((uh HW).later hb)
 replace YW := yh ((uh YW).keep hb)
 have Zw6 : w5.heap.size ≤ w6.heap.size := hb.size
 replace HB := yh ((uh HB).trans (hb.mono (by omega)))
 clear hb
 obtain ⟨a3x0, d3x0, a4x0, d4x0, a5x0, d5x0, a6x0, d6x0, rfl, -, -, -, -⟩ := open_World O.reads
 have Hx0 := yh O
 clear O
 have nb : Below w6.heap.size w6 (w6.alloc (.cells #[.int .i64 x0.now, .int .i64 x0.events, .int .i64 x0.chain.epoch, .slice a3x0 x0.chain.ids.length d3x0, .slice a4x0 x0.nodes.length d4x0, .slice a5x0 x0.msgs.length d5x0, .slice a6x0 x0.history.length d6x0] 36)) := (Below.refl _ _).alloc (Nat.le_refl _) _
 have X0 : Hid (Box w6.heap.size #[.int .i64 x0.now, .int .i64 x0.events, .int .i64 x0.chain.epoch, .slice a3x0 x0.chain.ids.length d3x0, .slice a4x0 x0.nodes.length d4x0, .slice a5x0 x0.msgs.length d5x0, .slice a6x0 x0.history.length d6x0] 36 (w6.alloc (.cells #[.int .i64 x0.now, .int .i64 x0.events, .int .i64 x0.chain.epoch, .slice a3x0 x0.chain.ids.length d3x0, .slice a4x0 x0.nodes.length d4x0, .slice a5x0 x0.msgs.length d5x0, .slice a6x0 x0.history.length d6x0] 36)) w6.heap.size) := newBox (Nat.le_refl _)
 have l0P0 := (uh P0).at 0 _ rfl
 have l1P0 := (uh P0).at 1 _ rfl
 have l2P0 := (uh P0).at 2 _ rfl
 have l3P0 := (uh P0).at 3 _ rfl
 have l4P0 := (uh P0).at 4 _ rfl
 have l5P0 := (uh P0).at 5 _ rfl
 have l6P0 := (uh P0).at 6 _ rfl
 have ltP0 : w.heap.size < w6.heap.size := by omega
 have l0YW := (uh YW).at 0 _ rfl
 have l1YW := (uh YW).at 1 _ rfl
 have ltYW : w4.heap.size < w6.heap.size := by omega
 simp only [ga, gb, gc] at l0P0 l1P0 l2P0 l3P0 l4P0 l5P0 l6P0 l0YW l1YW
 go_wp2_with fail
 clear l0P0 l1P0 l2P0 l3P0 l4P0 l5P0 l6P0 ltP0 l0YW l1YW ltYW
 generalize haw7 : w6.alloc (.cells #[.int .i64 x0.now, .int .i64 x0.events, .int .i64 x0.chain.epoch, .slice a3x0 x0.chain.ids.length d3x0, .slice a4x0 x0.nodes.length d4x0, .slice a5x0 x0.msgs.length d5x0, .slice a6x0 x0.history.length d6x0] 36) = w7 at *
 have Gw7 : w6.heap.size < w7.heap.size := by rw [← haw7]; simp
 clear haw7
 replace HA0 := yh ((uh HA0).later nb)
 replace P0 := yh ((uh P0).keep nb)
 replace HW := yh ((uh HW).later nb)
 replace YW := yh ((uh YW).keep nb)
 replace Hx0 := yh ((uh Hx0).later nb)
 have Zw7 : w6.heap.size ≤ w7.heap.size := nb.size
 replace HB := yh ((uh HB).trans (nb.mono (by omega)))
 clear nb
 refine (uh HI w7 _ (uh Hx0).reads).mono ?_
 rintro e w8 ⟨cs, rfl, O, hb⟩
 replace HA0 := yh ((uh HA0).later hb)
 replace P0 := yh ((uh P0).keep hb)
 replace HW := yh ((uh HW).later hb)
 replace YW := yh ((uh YW).keep hb)
 replace Hx0 := yh ((uh Hx0).later hb)
 replace X0 := yh ((uh X0).keep hb)
 have Zw8 : w7.heap.size ≤ w8.heap.size := hb.size
 replace HB := yh ((uh HB).trans (hb.mono (by omega)))
 clear hb
 obtain ⟨a1G, d1G, rfl, -⟩ := open_TableResult O.reads
 have HG := yh O
 clear O
 have nb : Below w8.heap.size w8 (w8.alloc (.cells #[.int .i64 y.code, .slice a1G y.items.length d1G] 66)) := (Below.refl _ _).alloc (Nat.le_refl _) _
 have YG : Hid (Box w8.heap.size #[.int .i64 y.code, .slice a1G y.items.length d1G] 66 (w8.alloc (.cells #[.int .i64 y.code, .slice a1G y.items.length d1G] 66)) w8.heap.size) := newBox (Nat.le_refl _)
 have l0P0 := (uh P0).at 0 _ rfl
 have l1P0 := (uh P0).at 1 _ rfl
 have l2P0 := (uh P0).at 2 _ rfl
 have l3P0 := (uh P0).at 3 _ rfl
 have l4P0 := (uh P0).at 4 _ rfl
 have l5P0 := (uh P0).at 5 _ rfl
 have l6P0 := (uh P0).at 6 _ rfl
 have ltP0 : w.heap.size < w8.heap.size := by omega
 have l0YW := (uh YW).at 0 _ rfl
 have l1YW := (uh YW).at 1 _ rfl
 have ltYW : w4.heap.size < w8.heap.size := by omega
 have l0X0 := (uh X0).at 0 _ rfl
 have l1X0 := (uh X0).at 1 _ rfl
 have l2X0 := (uh X0).at 2 _ rfl
 have l3X0 := (uh X0).at 3 _ rfl
 have l4X0 := (uh X0).at 4 _ rfl
 have l5X0 := (uh X0).at 5 _ rfl
 have l6X0 := (uh X0).at 6 _ rfl
 have ltX0 : w6.heap.size < w8.heap.size := by omega
 simp only [ga, gb, gc] at l0P0 l1P0 l2P0 l3P0 l4P0 l5P0 l6P0 l0YW l1YW l0X0 l1X0 l2X0 l3X0 l4X0 l5X0 l6X0
 go_wp2_with fail
 clear l0P0 l1P0 l2P0 l3P0 l4P0 l5P0 l6P0 ltP0 l0YW l1YW ltYW l0X0 l1X0 l2X0 l3X0 l4X0 l5X0 l6X0 ltX0
 generalize haw9 : w8.alloc (.cells #[.int .i64 y.code, .slice a1G y.items.length d1G] 66) = w9 at *
 have Gw9 : w8.heap.size < w9.heap.size := by rw [← haw9]; simp
 clear haw9
 replace HA0 := yh ((uh HA0).later nb)
 replace P0 := yh ((uh P0).keep nb)
 replace HW := yh ((uh HW).later nb)
 replace YW := yh ((uh YW).keep nb)
 replace Hx0 := yh ((uh Hx0).later nb)
 replace X0 := yh ((uh X0).keep nb)
 replace HG := yh ((uh HG).later nb)
 have Zw9 : w8.heap.size ≤ w9.heap.size := nb.size
 replace HB := yh ((uh HB).trans (nb.mono (by omega)))
 clear nb
 refine (eq_TableResult _ _ y w9 (uh HG).reads (uh HW).reads).mono ?_
 rintro e w10 ⟨rfl, hb⟩
 replace HA0 := yh ((uh HA0).later hb)
 replace P0 := yh ((uh P0).keep hb)
 replace HW := yh ((uh HW).later hb)
 replace YW := yh ((uh YW).keep hb)
 replace Hx0 := yh ((uh Hx0).later hb)
 replace X0 := yh ((uh X0).keep hb)
 replace HG := yh ((uh HG).later hb)
 replace YG := yh ((uh YG).keep hb)
 have Zw10 : w9.heap.size ≤ w10.heap.size := hb.size
 replace HB := yh ((uh HB).trans (hb.mono (by omega)))
 clear hb
 have l0P0 := (uh P0).at 0 _ rfl
 have l1P0 := (uh P0).at 1 _ rfl
 have l2P0 := (uh P0).at 2 _ rfl
 have l3P0 := (uh P0).at 3 _ rfl
 have l4P0 := (uh P0).at 4 _ rfl
 have l5P0 := (uh P0).at 5 _ rfl
 have l6P0 := (uh P0).at 6 _ rfl
 have ltP0 : w.heap.size < w10.heap.size := by omega
 have l0YW := (uh YW).at 0 _ rfl
 have l1YW := (uh YW).at 1 _ rfl
 have ltYW : w4.heap.size < w10.heap.size := by omega
 have l0X0 := (uh X0).at 0 _ rfl
 have l1X0 := (uh X0).at 1 _ rfl
 have l2X0 := (uh X0).at 2 _ rfl
 have l3X0 := (uh X0).at 3 _ rfl
 have l4X0 := (uh X0).at 4 _ rfl
 have l5X0 := (uh X0).at 5 _ rfl
 have l6X0 := (uh X0).at 6 _ rfl
 have ltX0 : w6.heap.size < w10.heap.size := by omega
 have l0YG := (uh YG).at 0 _ rfl
 have l1YG := (uh YG).at 1 _ rfl
 have ltYG : w8.heap.size < w10.heap.size := by omega
 simp only [ga, gb, gc] at l0P0 l1P0 l2P0 l3P0 l4P0 l5P0 l6P0 l0YW l1YW l0X0 l1X0 l2X0 l3X0 l4X0 l5X0 l6X0 l0YG l1YG
 go_wp2_with fail
 clear l0P0 l1P0 l2P0 l3P0 l4P0 l5P0 l6P0 ltP0 l0YW l1YW ltYW l0X0 l1X0 l2X0 l3X0 l4X0 l5X0 l6X0 ltX0 l0YG l1YG ltYG
 have l0P0 := (uh P0).at 0 _ rfl
 have l1P0 := (uh P0).at 1 _ rfl
 have l2P0 := (uh P0).at 2 _ rfl
 have l3P0 := (uh P0).at 3 _ rfl
 have l4P0 := (uh P0).at 4 _ rfl
 have l5P0 := (uh P0).at 5 _ rfl
 have l6P0 := (uh P0).at 6 _ rfl
 have ltP0 : w.heap.size < w10.heap.size := by omega
 have l0X0 := (uh X0).at 0 _ rfl
 have l1X0 := (uh X0).at 1 _ rfl
 have l2X0 := (uh X0).at 2 _ rfl
 have l3X0 := (uh X0).at 3 _ rfl
 have l4X0 := (uh X0).at 4 _ rfl
 have l5X0 := (uh X0).at 5 _ rfl
 have l6X0 := (uh X0).at 6 _ rfl
 have ltX0 : w6.heap.size < w10.heap.size := by omega
 simp only [ga, gb, gc] at l0P0 l1P0 l2P0 l3P0 l4P0 l5P0 l6P0 l0X0 l1X0 l2X0 l3X0 l4X0 l5X0 l6X0
 refine wp_region_noPanic ?_
 refine wp_region_held_drew (S := fun w' => Below w10.heap.size w10 w') (by kernel_rfl) (Below.refl _ _).drew (fun zq => ?_)
 generalize w10.drew = wD at zq ⊢
 refine tkH (i := 0) (oi := ⟨some 27, .load 36 (.tmp 5), 36, "exact.go:5216", #[], none⟩) (v := ?vs00) rfl ?hs00 zq ?rs00
 case hs00 =>
  intro wS hSw
  have y0P0 := (hSw.cell (p := ⟨w.heap.size, 0, none⟩) ltP0).trans l0P0
  have y1P0 := (hSw.cell (p := ⟨w.heap.size, 1, none⟩) ltP0).trans l1P0
  have y2P0 := (hSw.cell (p := ⟨w.heap.size, 2, none⟩) ltP0).trans l2P0
  have y3P0 := (hSw.cell (p := ⟨w.heap.size, 3, none⟩) ltP0).trans l3P0
  have y4P0 := (hSw.cell (p := ⟨w.heap.size, 4, none⟩) ltP0).trans l4P0
  have y5P0 := (hSw.cell (p := ⟨w.heap.size, 5, none⟩) ltP0).trans l5P0
  have y6P0 := (hSw.cell (p := ⟨w.heap.size, 6, none⟩) ltP0).trans l6P0
  have y0X0 := (hSw.cell (p := ⟨w6.heap.size, 0, none⟩) ltX0).trans l0X0
  have y1X0 := (hSw.cell (p := ⟨w6.heap.size, 1, none⟩) ltX0).trans l1X0
  have y2X0 := (hSw.cell (p := ⟨w6.heap.size, 2, none⟩) ltX0).trans l2X0
  have y3X0 := (hSw.cell (p := ⟨w6.heap.size, 3, none⟩) ltX0).trans l3X0
  have y4X0 := (hSw.cell (p := ⟨w6.heap.size, 4, none⟩) ltX0).trans l4X0
  have y5X0 := (hSw.cell (p := ⟨w6.heap.size, 5, none⟩) ltX0).trans l5X0
  have y6X0 := (hSw.cell (p := ⟨w6.heap.size, 6, none⟩) ltX0).trans l6X0
  clear hSw
  (try dsimp only at hSw)
  go_simp
  try with_reducible rfl
 refine tkH (i := 1) (oi := ⟨some 28, .load 29 (.tmp 1), 29, "exact.go:5216", #[], none⟩) (v := ?vs01) rfl ?hs01 zq ?rs01
 case hs01 =>
  intro wS hSw
  have y0P0 := (hSw.cell (p := ⟨w.heap.size, 0, none⟩) ltP0).trans l0P0
  have y1P0 := (hSw.cell (p := ⟨w.heap.size, 1, none⟩) ltP0).trans l1P0
  have y2P0 := (hSw.cell (p := ⟨w.heap.size, 2, none⟩) ltP0).trans l2P0
  have y3P0 := (hSw.cell (p := ⟨w.heap.size, 3, none⟩) ltP0).trans l3P0
  have y4P0 := (hSw.cell (p := ⟨w.heap.size, 4, none⟩) ltP0).trans l4P0
  have y5P0 := (hSw.cell (p := ⟨w.heap.size, 5, none⟩) ltP0).trans l5P0
  have y6P0 := (hSw.cell (p := ⟨w.heap.size, 6, none⟩) ltP0).trans l6P0
  have y0X0 := (hSw.cell (p := ⟨w6.heap.size, 0, none⟩) ltX0).trans l0X0
  have y1X0 := (hSw.cell (p := ⟨w6.heap.size, 1, none⟩) ltX0).trans l1X0
  have y2X0 := (hSw.cell (p := ⟨w6.heap.size, 2, none⟩) ltX0).trans l2X0
  have y3X0 := (hSw.cell (p := ⟨w6.heap.size, 3, none⟩) ltX0).trans l3X0
  have y4X0 := (hSw.cell (p := ⟨w6.heap.size, 4, none⟩) ltX0).trans l4X0
  have y5X0 := (hSw.cell (p := ⟨w6.heap.size, 5, none⟩) ltX0).trans l5X0
  have y6X0 := (hSw.cell (p := ⟨w6.heap.size, 6, none⟩) ltX0).trans l6X0
  clear hSw
  (try dsimp only at hSw)
  go_simp
  try with_reducible rfl
 refine rdH (i := 2) (oi := ⟨some 29, .call { callee := .value (.func 17), args := #[.tmp 28], argTypes := #[29] }, 36, "exact.go:5216", #[⟨1, .data⟩], none⟩) rfl (fun K hK => ?_)
 go_simp
 go_at_call 17
 refine (to_World _ x0 _ ((uh HA0).reads.later zq) (uh HN0)).mono ?_
 rintro e wT ⟨vT, rfl, OT, hbw⟩
 have RT := OT.reads
 obtain ⟨a3T, d3T, a4T, d4T, a5T, d5T, a6T, d6T, rfl, -, -, -, -⟩ := open_World RT
 try go_wp2_with fail
 refine hK.out _ _ (zq.trans (hbw.mono zq.size)) (fun zq => ?_)
 clear hK K
 try simp only [Act.put, pz, py, px]
 refine rdH (i := 3) (oi := ⟨some 30, .call { callee := .value (.func 20), args := #[.tmp 27, .tmp 29], argTypes := #[36, 36] }, 4, "exact.go:5216", #[⟨0, .data⟩, ⟨2, .data⟩, ⟨2, .chain⟩], none⟩) rfl (fun K hK => ?_)
 go_simp
 go_at_call 20
 refine (eq_World _ _ x0 _ ((uh Hx0).reads.later zq) RT).mono ?_
 rintro e wU0 ⟨rfl, hbw⟩
 try go_wp2_with fail
 refine hK.out _ _ (zq.trans (hbw.mono zq.size)) (fun zq => ?_)
 clear hK K
 try simp only [Act.put, pz, py, px]
 refine tkH (i := 4) (oi := ⟨some 31, .unOp .not 4 (.tmp 30), 4, "exact.go:5216", #[⟨3, .data⟩], none⟩) (v := ?vs04) rfl ?hs04 zq ?rs04
 case hs04 => intro _ _; go_simp; try with_reducible rfl
 refine wpAnyH_done (by kernel_rfl) ?_ _
 refine NoPanic.normal ?_
 clear l0P0 l1P0 l2P0 l3P0 l4P0 l5P0 l6P0 ltP0 l0X0 l1X0 l2X0 l3X0 l4X0 l5X0 l6X0 ltX0 OT RT
 have hb : Below w10.heap.size w10 wU0 := zq
 clear zq hbw
 replace HA0 := yh ((uh HA0).later hb)
 replace P0 := yh ((uh P0).keep hb)
 replace HW := yh ((uh HW).later hb)
 replace YW := yh ((uh YW).keep hb)
 replace Hx0 := yh ((uh Hx0).later hb)
 replace X0 := yh ((uh X0).keep hb)
 replace HG := yh ((uh HG).later hb)
 replace YG := yh ((uh YG).keep hb)
 have ZwU0 : w10.heap.size ≤ wU0.heap.size := hb.size
 replace HB := yh ((uh HB).trans (hb.mono (by omega)))
 clear hb
 have l0P0 := (uh P0).at 0 _ rfl
 have l1P0 := (uh P0).at 1 _ rfl
 have l2P0 := (uh P0).at 2 _ rfl
 have l3P0 := (uh P0).at 3 _ rfl
 have l4P0 := (uh P0).at 4 _ rfl
 have l5P0 := (uh P0).at 5 _ rfl
 have l6P0 := (uh P0).at 6 _ rfl
 have ltP0 : w.heap.size < wU0.heap.size := by omega
 have l0YW := (uh YW).at 0 _ rfl
 have l1YW := (uh YW).at 1 _ rfl
 have ltYW : w4.heap.size < wU0.heap.size := by omega
 have l0X0 := (uh X0).at 0 _ rfl
 have l1X0 := (uh X0).at 1 _ rfl
 have l2X0 := (uh X0).at 2 _ rfl
 have l3X0 := (uh X0).at 3 _ rfl
 have l4X0 := (uh X0).at 4 _ rfl
 have l5X0 := (uh X0).at 5 _ rfl
 have l6X0 := (uh X0).at 6 _ rfl
 have ltX0 : w6.heap.size < wU0.heap.size := by omega
 have l0YG := (uh YG).at 0 _ rfl
 have l1YG := (uh YG).at 1 _ rfl
 have ltYG : w8.heap.size < wU0.heap.size := by omega
 simp only [ga, gb, gc] at l0P0 l1P0 l2P0 l3P0 l4P0 l5P0 l6P0 l0YW l1YW l0X0 l1X0 l2X0 l3X0 l4X0 l5X0 l6X0 l0YG l1YG
 go_wp2_with fail
 clear l0P0 l1P0 l2P0 l3P0 l4P0 l5P0 l6P0 ltP0 l0YW l1YW ltYW l0X0 l1X0 l2X0 l3X0 l4X0 l5X0 l6X0 ltX0 l0YG l1YG ltYG
 obtain ⟨bl, O, hbl⟩ := uh Hx0
 clear Hx0
 have HCx0 := few_bound (A := Lay.tWorld) (few_via (few_pair few_int (few_pair few_int (few_pair (few_via (few_pair few_int (few_sl few_int))) (few_pair (few_sl (few_via (few_pair few_int (few_pair few_bool (few_pair few_int (few_pair few_int (few_pair (few_sl (few_via (few_pair few_int (few_pair few_int (few_pair (few_sl few_int) (few_pair few_int few_int)))))) (few_pair few_int few_int)))))))) (few_pair (few_sl (few_via (few_pair few_int (few_pair few_int (few_pair few_int (few_pair few_int (few_pair few_int (few_via (few_pair few_int (few_pair few_int (few_pair (few_sl few_int) (few_pair few_int few_int)))))))))))) (few_sl (few_via (few_pair few_int (few_pair few_int (few_pair few_int (few_pair few_int (few_pair (few_sl few_int) (few_pair few_int (few_pair few_int (few_pair few_int (few_pair few_int (few_pair (few_sl few_int) (few_sl (few_via (few_pair few_int few_int))))))))))))))))))))) (uh HN0) (by omega)
 refine (mark_World _ x0 bl (1) wU0 O (by omega) (by omega)).mono ?_
 rintro e w12 ⟨rfl, -, E⟩
 replace E := E.mono (S' := within w5.heap.size w6.heap.size) fun b _ hb => hbl b hb
 clear hbl O
 have zlo : w.heap.size ≤ w5.heap.size ∧ w6.heap.size ≤ wU0.heap.size := by omega
 replace HA0 := yh ((uh HA0).ext E (within_out (by omega)))
 replace P0 := yh ((uh P0).ext E (fun q => by simp only [within] at q; omega))
 replace HW := yh ((uh HW).ext E (within_out (by omega)))
 replace YW := yh ((uh YW).ext E (fun q => by simp only [within] at q; omega))
 replace X0 := yh ((uh X0).ext E (fun q => by simp only [within] at q; omega))
 replace HG := yh ((uh HG).ext E (within_out (by omega)))
 replace YG := yh ((uh YG).ext E (fun q => by simp only [within] at q; omega))
 have Zw12 : wU0.heap.size ≤ w12.heap.size := E.size
 replace HB := yh ((uh HB).trans (E.below (by omega) (fun k h q => by simp only [within] at q; omega)))
 clear E
 clear zlo
 obtain ⟨mk, hmk⟩ : ∃ mk : Int, mk = 1 + (Lay.tWorld.vcnt x0 : Int) := ⟨_, rfl⟩
 rw [← hmk]
 have hm3 : decide (mk < 0) = false := decide_eq_false (by omega)
 clear hmk HCx0
 have l0P0 := (uh P0).at 0 _ rfl
 have l1P0 := (uh P0).at 1 _ rfl
 have l2P0 := (uh P0).at 2 _ rfl
 have l3P0 := (uh P0).at 3 _ rfl
 have l4P0 := (uh P0).at 4 _ rfl
 have l5P0 := (uh P0).at 5 _ rfl
 have l6P0 := (uh P0).at 6 _ rfl
 have ltP0 : w.heap.size < w12.heap.size := by omega
 have l0YW := (uh YW).at 0 _ rfl
 have l1YW := (uh YW).at 1 _ rfl
 have ltYW : w4.heap.size < w12.heap.size := by omega
 have l0X0 := (uh X0).at 0 _ rfl
 have l1X0 := (uh X0).at 1 _ rfl
 have l2X0 := (uh X0).at 2 _ rfl
 have l3X0 := (uh X0).at 3 _ rfl
 have l4X0 := (uh X0).at 4 _ rfl
 have l5X0 := (uh X0).at 5 _ rfl
 have l6X0 := (uh X0).at 6 _ rfl
 have ltX0 : w6.heap.size < w12.heap.size := by omega
 have l0YG := (uh YG).at 0 _ rfl
 have l1YG := (uh YG).at 1 _ rfl
 have ltYG : w8.heap.size < w12.heap.size := by omega
 simp only [ga, gb, gc] at l0P0 l1P0 l2P0 l3P0 l4P0 l5P0 l6P0 l0YW l1YW l0X0 l1X0 l2X0 l3X0 l4X0 l5X0 l6X0 l0YG l1YG
 go_wp2_with fail
 clear l0P0 l1P0 l2P0 l3P0 l4P0 l5P0 l6P0 ltP0 l0YW l1YW ltYW l0X0 l1X0 l2X0 l3X0 l4X0 l5X0 l6X0 ltX0 l0YG l1YG ltYG
 refine (eq_TableResult _ _ y w12 (uh HG).reads (uh HW).reads).mono ?_
 rintro e w13 ⟨rfl, hb⟩
 replace HA0 := yh ((uh HA0).later hb)
 replace P0 := yh ((uh P0).keep hb)
 replace HW := yh ((uh HW).later hb)
 replace YW := yh ((uh YW).keep hb)
 replace X0 := yh ((uh X0).keep hb)
 replace HG := yh ((uh HG).later hb)
 replace YG := yh ((uh YG).keep hb)
 have Zw13 : w12.heap.size ≤ w13.heap.size := hb.size
 replace HB := yh ((uh HB).trans (hb.mono (by omega)))
 clear hb
 clear hm3
 have l0P0 := (uh P0).at 0 _ rfl
 have l1P0 := (uh P0).at 1 _ rfl
 have l2P0 := (uh P0).at 2 _ rfl
 have l3P0 := (uh P0).at 3 _ rfl
 have l4P0 := (uh P0).at 4 _ rfl
 have l5P0 := (uh P0).at 5 _ rfl
 have l6P0 := (uh P0).at 6 _ rfl
 have ltP0 : w.heap.size < w13.heap.size := by omega
 have l0YW := (uh YW).at 0 _ rfl
 have l1YW := (uh YW).at 1 _ rfl
 have ltYW : w4.heap.size < w13.heap.size := by omega
 have l0X0 := (uh X0).at 0 _ rfl
 have l1X0 := (uh X0).at 1 _ rfl
 have l2X0 := (uh X0).at 2 _ rfl
 have l3X0 := (uh X0).at 3 _ rfl
 have l4X0 := (uh X0).at 4 _ rfl
 have l5X0 := (uh X0).at 5 _ rfl
 have l6X0 := (uh X0).at 6 _ rfl
 have ltX0 : w6.heap.size < w13.heap.size := by omega
 have l0YG := (uh YG).at 0 _ rfl
 have l1YG := (uh YG).at 1 _ rfl
 have ltYG : w8.heap.size < w13.heap.size := by omega
 simp only [ga, gb, gc] at l0P0 l1P0 l2P0 l3P0 l4P0 l5P0 l6P0 l0YW l1YW l0X0 l1X0 l2X0 l3X0 l4X0 l5X0 l6X0 l0YG l1YG
 go_wp2_with fail
 clear l0P0 l1P0 l2P0 l3P0 l4P0 l5P0 l6P0 ltP0 l0YW l1YW ltYW l0X0 l1X0 l2X0 l3X0 l4X0 l5X0 l6X0 ltX0 l0YG l1YG ltYG
 obtain ⟨bl, O, hbl⟩ := uh HG
 clear HG
 have hcy := uh HC
 refine (mark_TableResult _ y bl 1 w13 O (by omega) (by omega)).mono ?_
 rintro e w14 ⟨rfl, O2, E⟩
 replace E := E.mono (S' := within w7.heap.size w8.heap.size) fun b _ hb => hbl b hb
 have HG : Hid (Lay.tTableResult.OwnIn w14 _ (Lay.tTableResult.mkv 1 y) w7.heap.size w8.heap.size) := ⟨bl, O2, hbl⟩
 clear hbl O O2
 have zlo : w.heap.size ≤ w7.heap.size ∧ w8.heap.size ≤ w13.heap.size := by omega
 replace HA0 := yh ((uh HA0).ext E (within_out (by omega)))
 replace P0 := yh ((uh P0).ext E (fun q => by simp only [within] at q; omega))
 replace HW := yh ((uh HW).ext E (within_out (by omega)))
 replace YW := yh ((uh YW).ext E (fun q => by simp only [within] at q; omega))
 replace X0 := yh ((uh X0).ext E (fun q => by simp only [within] at q; omega))
 replace YG := yh ((uh YG).ext E (fun q => by simp only [within] at q; omega))
 have Zw14 : w13.heap.size ≤ w14.heap.size := E.size
 replace HB := yh ((uh HB).trans (E.below (by omega) (fun k h q => by simp only [within] at q; omega)))
 clear E
 clear zlo
 have hq0 : decide (1 + (Lay.tTableResult.vcnt y : Int) < 0) = false := decide_eq_false (by omega)
 have hq1 : ((1 + (Lay.tTableResult.vcnt y : Int)) != (1 + (Lay.tTableResult.vcnt y : Int))) = false := by simp
 clear hcy
 have l0P0 := (uh P0).at 0 _ rfl
 have l1P0 := (uh P0).at 1 _ rfl
 have l2P0 := (uh P0).at 2 _ rfl
 have l3P0 := (uh P0).at 3 _ rfl
 have l4P0 := (uh P0).at 4 _ rfl
 have l5P0 := (uh P0).at 5 _ rfl
 have l6P0 := (uh P0).at 6 _ rfl
 have ltP0 : w.heap.size < w14.heap.size := by omega
 have l0YW := (uh YW).at 0 _ rfl
 have l1YW := (uh YW).at 1 _ rfl
 have ltYW : w4.heap.size < w14.heap.size := by omega
 have l0X0 := (uh X0).at 0 _ rfl
 have l1X0 := (uh X0).at 1 _ rfl
 have l2X0 := (uh X0).at 2 _ rfl
 have l3X0 := (uh X0).at 3 _ rfl
 have l4X0 := (uh X0).at 4 _ rfl
 have l5X0 := (uh X0).at 5 _ rfl
 have l6X0 := (uh X0).at 6 _ rfl
 have ltX0 : w6.heap.size < w14.heap.size := by omega
 have l0YG := (uh YG).at 0 _ rfl
 have l1YG := (uh YG).at 1 _ rfl
 have ltYG : w8.heap.size < w14.heap.size := by omega
 simp only [ga, gb, gc] at l0P0 l1P0 l2P0 l3P0 l4P0 l5P0 l6P0 l0YW l1YW l0X0 l1X0 l2X0 l3X0 l4X0 l5X0 l6X0 l0YG l1YG
 go_wp2_with fail
 clear l0P0 l1P0 l2P0 l3P0 l4P0 l5P0 l6P0 ltP0 l0YW l1YW ltYW l0X0 l1X0 l2X0 l3X0 l4X0 l5X0 l6X0 ltX0 l0YG l1YG ltYG
 refine (held_TableResult _ y 1 w14 (uh HG).reads (by omega) (by have := uh HC; omega)).mono ?_
 rintro e w15 ⟨rfl, hb⟩
 replace HA0 := yh ((uh HA0).later hb)
 replace P0 := yh ((uh P0).keep hb)
 replace HW := yh ((uh HW).later hb)
 replace YW := yh ((uh YW).keep hb)
 replace X0 := yh ((uh X0).keep hb)
 replace YG := yh ((uh YG).keep hb)
 replace HG := yh ((uh HG).later hb)
 have Zw15 : w14.heap.size ≤ w15.heap.size := hb.size
 replace HB := yh ((uh HB).trans (hb.mono (by omega)))
 clear hb
 have l0P0 := (uh P0).at 0 _ rfl
 have l1P0 := (uh P0).at 1 _ rfl
 have l2P0 := (uh P0).at 2 _ rfl
 have l3P0 := (uh P0).at 3 _ rfl
 have l4P0 := (uh P0).at 4 _ rfl
 have l5P0 := (uh P0).at 5 _ rfl
 have l6P0 := (uh P0).at 6 _ rfl
 have ltP0 : w.heap.size < w15.heap.size := by omega
 have l0YW := (uh YW).at 0 _ rfl
 have l1YW := (uh YW).at 1 _ rfl
 have ltYW : w4.heap.size < w15.heap.size := by omega
 have l0X0 := (uh X0).at 0 _ rfl
 have l1X0 := (uh X0).at 1 _ rfl
 have l2X0 := (uh X0).at 2 _ rfl
 have l3X0 := (uh X0).at 3 _ rfl
 have l4X0 := (uh X0).at 4 _ rfl
 have l5X0 := (uh X0).at 5 _ rfl
 have l6X0 := (uh X0).at 6 _ rfl
 have ltX0 : w6.heap.size < w15.heap.size := by omega
 have l0YG := (uh YG).at 0 _ rfl
 have l1YG := (uh YG).at 1 _ rfl
 have ltYG : w8.heap.size < w15.heap.size := by omega
 simp only [ga, gb, gc] at l0P0 l1P0 l2P0 l3P0 l4P0 l5P0 l6P0 l0YW l1YW l0X0 l1X0 l2X0 l3X0 l4X0 l5X0 l6X0 l0YG l1YG
 go_wp2_with fail
 clear l0P0 l1P0 l2P0 l3P0 l4P0 l5P0 l6P0 ltP0 l0YW l1YW ltYW l0X0 l1X0 l2X0 l3X0 l4X0 l5X0 l6X0 ltX0 l0YG l1YG ltYG
 refine (to_World _ x0 w15 (uh HA0).reads (uh HN0)).mono ?_
 rintro e w16 ⟨vf0, rfl, O, hb⟩
 replace HA0 := yh ((uh HA0).later hb)
 replace P0 := yh ((uh P0).keep hb)
 replace HW := yh ((uh HW).later hb)
 replace YW := yh ((uh YW).keep hb)
 replace X0 := yh ((uh X0).keep hb)
 replace YG := yh ((uh YG).keep hb)
 replace HG := yh ((uh HG).later hb)
 have Zw16 : w15.heap.size ≤ w16.heap.size := hb.size
 replace HB := yh ((uh HB).trans (hb.mono (by omega)))
 clear hb
 obtain ⟨a3f0, d3f0, a4f0, d4f0, a5f0, d5f0, a6f0, d6f0, rfl, -, -, -, -⟩ := open_World O.reads
 have Hf0 := yh O
 clear O
 have l0P0 := (uh P0).at 0 _ rfl
 have l1P0 := (uh P0).at 1 _ rfl
 have l2P0 := (uh P0).at 2 _ rfl
 have l3P0 := (uh P0).at 3 _ rfl
 have l4P0 := (uh P0).at 4 _ rfl
 have l5P0 := (uh P0).at 5 _ rfl
 have l6P0 := (uh P0).at 6 _ rfl
 have ltP0 : w.heap.size < w16.heap.size := by omega
 have l0YW := (uh YW).at 0 _ rfl
 have l1YW := (uh YW).at 1 _ rfl
 have ltYW : w4.heap.size < w16.heap.size := by omega
 have l0X0 := (uh X0).at 0 _ rfl
 have l1X0 := (uh X0).at 1 _ rfl
 have l2X0 := (uh X0).at 2 _ rfl
 have l3X0 := (uh X0).at 3 _ rfl
 have l4X0 := (uh X0).at 4 _ rfl
 have l5X0 := (uh X0).at 5 _ rfl
 have l6X0 := (uh X0).at 6 _ rfl
 have ltX0 : w6.heap.size < w16.heap.size := by omega
 have l0YG := (uh YG).at 0 _ rfl
 have l1YG := (uh YG).at 1 _ rfl
 have ltYG : w8.heap.size < w16.heap.size := by omega
 simp only [ga, gb, gc] at l0P0 l1P0 l2P0 l3P0 l4P0 l5P0 l6P0 l0YW l1YW l0X0 l1X0 l2X0 l3X0 l4X0 l5X0 l6X0 l0YG l1YG
 go_wp2_with fail
 clear l0P0 l1P0 l2P0 l3P0 l4P0 l5P0 l6P0 ltP0 l0YW l1YW ltYW l0X0 l1X0 l2X0 l3X0 l4X0 l5X0 l6X0 ltX0 l0YG l1YG ltYG
 refine (uh HI w16 _ (uh Hf0).reads).mono ?_
 rintro e w17 ⟨cs, rfl, O, hb⟩
 replace HA0 := yh ((uh HA0).later hb)
 replace P0 := yh ((uh P0).keep hb)
 replace HW := yh ((uh HW).later hb)
 replace YW := yh ((uh YW).keep hb)
 replace X0 := yh ((uh X0).keep hb)
 replace YG := yh ((uh YG).keep hb)
 replace HG := yh ((uh HG).later hb)
 replace Hf0 := yh ((uh Hf0).later hb)
 have Zw17 : w16.heap.size ≤ w17.heap.size := hb.size
 replace HB := yh ((uh HB).trans (hb.mono (by omega)))
 clear hb
 obtain ⟨a1K, d1K, rfl, -⟩ := open_TableResult O.reads
 have HK := yh O
 clear O
 have nb : Below w17.heap.size w17 (w17.alloc (.cells #[.int .i64 y.code, .slice a1K y.items.length d1K] 66)) := (Below.refl _ _).alloc (Nat.le_refl _) _
 have YK : Hid (Box w17.heap.size #[.int .i64 y.code, .slice a1K y.items.length d1K] 66 (w17.alloc (.cells #[.int .i64 y.code, .slice a1K y.items.length d1K] 66)) w17.heap.size) := newBox (Nat.le_refl _)
 clear Hf0
 have l0P0 := (uh P0).at 0 _ rfl
 have l1P0 := (uh P0).at 1 _ rfl
 have l2P0 := (uh P0).at 2 _ rfl
 have l3P0 := (uh P0).at 3 _ rfl
 have l4P0 := (uh P0).at 4 _ rfl
 have l5P0 := (uh P0).at 5 _ rfl
 have l6P0 := (uh P0).at 6 _ rfl
 have ltP0 : w.heap.size < w17.heap.size := by omega
 have l0YW := (uh YW).at 0 _ rfl
 have l1YW := (uh YW).at 1 _ rfl
 have ltYW : w4.heap.size < w17.heap.size := by omega
 have l0X0 := (uh X0).at 0 _ rfl
 have l1X0 := (uh X0).at 1 _ rfl
 have l2X0 := (uh X0).at 2 _ rfl
 have l3X0 := (uh X0).at 3 _ rfl
 have l4X0 := (uh X0).at 4 _ rfl
 have l5X0 := (uh X0).at 5 _ rfl
 have l6X0 := (uh X0).at 6 _ rfl
 have ltX0 : w6.heap.size < w17.heap.size := by omega
 have l0YG := (uh YG).at 0 _ rfl
 have l1YG := (uh YG).at 1 _ rfl
 have ltYG : w8.heap.size < w17.heap.size := by omega
 simp only [ga, gb, gc] at l0P0 l1P0 l2P0 l3P0 l4P0 l5P0 l6P0 l0YW l1YW l0X0 l1X0 l2X0 l3X0 l4X0 l5X0 l6X0 l0YG l1YG
 go_wp2_with fail
 clear l0P0 l1P0 l2P0 l3P0 l4P0 l5P0 l6P0 ltP0 l0YW l1YW ltYW l0X0 l1X0 l2X0 l3X0 l4X0 l5X0 l6X0 ltX0 l0YG l1YG ltYG
 generalize haw18 : w17.alloc (.cells #[.int .i64 y.code, .slice a1K y.items.length d1K] 66) = w18 at *
 have Gw18 : w17.heap.size < w18.heap.size := by rw [← haw18]; simp
 clear haw18
 replace HA0 := yh ((uh HA0).later nb)
 replace P0 := yh ((uh P0).keep nb)
 replace HW := yh ((uh HW).later nb)
 replace YW := yh ((uh YW).keep nb)
 replace X0 := yh ((uh X0).keep nb)
 replace YG := yh ((uh YG).keep nb)
 replace HG := yh ((uh HG).later nb)
 replace HK := yh ((uh HK).later nb)
 have Zw18 : w17.heap.size ≤ w18.heap.size := nb.size
 replace HB := yh ((uh HB).trans (nb.mono (by omega)))
 clear nb
 refine (eq_TableResult _ _ y w18 (uh HK).reads (uh HW).reads).mono ?_
 rintro e w19 ⟨rfl, hb⟩
 replace HA0 := yh ((uh HA0).later hb)
 replace P0 := yh ((uh P0).keep hb)
 replace HW := yh ((uh HW).later hb)
 replace YW := yh ((uh YW).keep hb)
 replace X0 := yh ((uh X0).keep hb)
 replace YG := yh ((uh YG).keep hb)
 replace HG := yh ((uh HG).later hb)
 replace HK := yh ((uh HK).later hb)
 replace YK := yh ((uh YK).keep hb)
 have Zw19 : w18.heap.size ≤ w19.heap.size := hb.size
 replace HB := yh ((uh HB).trans (hb.mono (by omega)))
 clear hb
 clear HK
 clear YK
 have l0P0 := (uh P0).at 0 _ rfl
 have l1P0 := (uh P0).at 1 _ rfl
 have l2P0 := (uh P0).at 2 _ rfl
 have l3P0 := (uh P0).at 3 _ rfl
 have l4P0 := (uh P0).at 4 _ rfl
 have l5P0 := (uh P0).at 5 _ rfl
 have l6P0 := (uh P0).at 6 _ rfl
 have ltP0 : w.heap.size < w19.heap.size := by omega
 have l0YW := (uh YW).at 0 _ rfl
 have l1YW := (uh YW).at 1 _ rfl
 have ltYW : w4.heap.size < w19.heap.size := by omega
 have l0X0 := (uh X0).at 0 _ rfl
 have l1X0 := (uh X0).at 1 _ rfl
 have l2X0 := (uh X0).at 2 _ rfl
 have l3X0 := (uh X0).at 3 _ rfl
 have l4X0 := (uh X0).at 4 _ rfl
 have l5X0 := (uh X0).at 5 _ rfl
 have l6X0 := (uh X0).at 6 _ rfl
 have ltX0 : w6.heap.size < w19.heap.size := by omega
 have l0YG := (uh YG).at 0 _ rfl
 have l1YG := (uh YG).at 1 _ rfl
 have ltYG : w8.heap.size < w19.heap.size := by omega
 simp only [ga, gb, gc] at l0P0 l1P0 l2P0 l3P0 l4P0 l5P0 l6P0 l0YW l1YW l0X0 l1X0 l2X0 l3X0 l4X0 l5X0 l6X0 l0YG l1YG
 go_wp2_with fail
 clear l0P0 l1P0 l2P0 l3P0 l4P0 l5P0 l6P0 ltP0 l0YW l1YW ltYW l0X0 l1X0 l2X0 l3X0 l4X0 l5X0 l6X0 ltX0 l0YG l1YG ltYG
 refine (held_TableResult _ y 1 w19 (uh HG).reads (by omega) (by have := uh HC; omega)).mono ?_
 rintro e w20 ⟨rfl, hb⟩
 replace HA0 := yh ((uh HA0).later hb)
 replace P0 := yh ((uh P0).keep hb)
 replace HW := yh ((uh HW).later hb)
 replace YW := yh ((uh YW).keep hb)
 replace X0 := yh ((uh X0).keep hb)
 replace YG := yh ((uh YG).keep hb)
 replace HG := yh ((uh HG).later hb)
 have Zw20 : w19.heap.size ≤ w20.heap.size := hb.size
 replace HB := yh ((uh HB).trans (hb.mono (by omega)))
 clear hb
 have l0P0 := (uh P0).at 0 _ rfl
 have l1P0 := (uh P0).at 1 _ rfl
 have l2P0 := (uh P0).at 2 _ rfl
 have l3P0 := (uh P0).at 3 _ rfl
 have l4P0 := (uh P0).at 4 _ rfl
 have l5P0 := (uh P0).at 5 _ rfl
 have l6P0 := (uh P0).at 6 _ rfl
 have ltP0 : w.heap.size < w20.heap.size := by omega
 have l0YW := (uh YW).at 0 _ rfl
 have l1YW := (uh YW).at 1 _ rfl
 have ltYW : w4.heap.size < w20.heap.size := by omega
 have l0X0 := (uh X0).at 0 _ rfl
 have l1X0 := (uh X0).at 1 _ rfl
 have l2X0 := (uh X0).at 2 _ rfl
 have l3X0 := (uh X0).at 3 _ rfl
 have l4X0 := (uh X0).at 4 _ rfl
 have l5X0 := (uh X0).at 5 _ rfl
 have l6X0 := (uh X0).at 6 _ rfl
 have ltX0 : w6.heap.size < w20.heap.size := by omega
 have l0YG := (uh YG).at 0 _ rfl
 have l1YG := (uh YG).at 1 _ rfl
 have ltYG : w8.heap.size < w20.heap.size := by omega
 simp only [ga, gb, gc] at l0P0 l1P0 l2P0 l3P0 l4P0 l5P0 l6P0 l0YW l1YW l0X0 l1X0 l2X0 l3X0 l4X0 l5X0 l6X0 l0YG l1YG
 go_wp2_with fail
 clear l0P0 l1P0 l2P0 l3P0 l4P0 l5P0 l6P0 ltP0 l0YW l1YW ltYW l0X0 l1X0 l2X0 l3X0 l4X0 l5X0 l6X0 ltX0 l0YG l1YG ltYG
 go_ret
 exact ⟨rfl, uh HB⟩
theorem lawover_StateIn (u0 : List Value) (x0 : DWorld) (w : World) (A0 : Lay.tWorld.Reads w u0 x0) (NS : 1048576 < Lay.tWorld.sz x0) :
  Calls Tryz.prog 13 #[.agg u0.toArray] w fun e w' => e = .returned (.bool true) ∧ Below w.heap.size w w' := by
 obtain ⟨a3p0, d3p0, a4p0, d4p0, a5p0, d5p0, a6p0, d6p0, rfl, -, -, -, -⟩ := open_World A0
 have HA0 := yh A0.liesIn
 clear A0
 have HB := yh (Below.refl w.heap.size w)
 go_enter Tryz.func13, Tryz.ntmps13
 go_wp2_with fail
 have nb : Below w.heap.size w (w.alloc (.cells #[.int .i64 x0.now, .int .i64 x0.events, .int .i64 x0.chain.epoch, .slice a3p0 x0.chain.ids.length d3p0, .slice a4p0 x0.nodes.length d4p0, .slice a5p0 x0.msgs.length d5p0, .slice a6p0 x0.history.length d6p0] 29)) := (Below.refl w.heap.size w).alloc (Nat.le_refl _) _
 have P0 : Hid (Box w.heap.size #[.int .i64 x0.now, .int .i64 x0.events, .int .i64 x0.chain.epoch, .slice a3p0 x0.chain.ids.length d3p0, .slice a4p0 x0.nodes.length d4p0, .slice a5p0 x0.msgs.length d5p0, .slice a6p0 x0.history.length d6p0] 29 (w.alloc (.cells #[.int .i64 x0.now, .int .i64 x0.events, .int .i64 x0.chain.epoch, .slice a3p0 x0.chain.ids.length d3p0, .slice a4p0 x0.nodes.length d4p0, .slice a5p0 x0.msgs.length d5p0, .slice a6p0 x0.history.length d6p0] 29)) (w.heap.size)) := newBoxAt (by omega) (by simp)
 generalize haw1 : (w.alloc (.cells #[.int .i64 x0.now, .int .i64 x0.events, .int .i64 x0.chain.epoch, .slice a3p0 x0.chain.ids.length d3p0, .slice a4p0 x0.nodes.length d4p0, .slice a5p0 x0.msgs.length d5p0, .slice a6p0 x0.history.length d6p0] 29)) = w1 at *
 have Gw1 : w.heap.size + 1 ≤ w1.heap.size := by rw [← haw1]; simp
 clear haw1
 replace HA0 := yh ((uh HA0).later nb)
 have Zw1 : w.heap.size ≤ w1.heap.size := nb.size
 replace HB := yh ((uh HB).trans (nb.mono (by omega)))
 clear nb
 refine (sz_World _ x0 (1048576) w1 (uh HA0).reads (by omega)).mono ?_
 rintro e w2 ⟨rfl, hb⟩
 replace HA0 := yh ((uh HA0).later hb)
 replace P0 := yh ((uh P0).keep hb)
 have Zw2 : w1.heap.size ≤ w2.heap.size := hb.size
 replace HB := yh ((uh HB).trans (hb.mono (by omega)))
 clear hb
 rw [szR_many (by omega)]
 go_wp2_with fail
 go_ret
 exact ⟨rfl, uh HB⟩
theorem Box.alloc {lo : Nat} {cs : Array Value} {T : TypeId} {W : World} {s : Nat} (h : Box lo cs T W s) (o : Obj) : Box lo cs T (W.alloc o) s := ⟨h.1, (Below.heap_alloc W o s h.lt).trans h.2⟩
theorem inC (v lo hi : Int) (w : World) :
  Calls Tryz.prog 64 #[.int .i64 v, .int .i64 lo, .int .i64 hi] w fun e w' => e = .returned (.bool (decide (lo ≤ v) && decide (v ≤ hi))) ∧ w' = w := by
 by_cases h1 : lo ≤ v
 ·
  have d1 : decide (lo ≤ v) = true := by simpa using h1
  rw [d1]
  cases d2 : decide (v ≤ hi) <;>
  ·
   go_enter Tryz.func64, Tryz.ntmps64
   go_wp2_with fail
   go_ret
   exact ⟨rfl, rfl⟩
 have d1 : decide (lo ≤ v) = false := by simpa using h1
 rw [d1]
 go_enter Tryz.func64, Tryz.ntmps64
 go_wp2_with fail
 go_ret
 exact ⟨rfl, rfl⟩
theorem idC (x : Int) (w : World) : Calls Tryz.prog 99 #[.int .i64 x] w fun e w' => e = .returned (.bool (decide (1 ≤ x) && decide (x ≤ 999))) ∧ w' = w := by
 go_enter Tryz.func99, Tryz.ntmps99
 go_wp2_with fail
 refine (inC x 1 999 _).mono ?_
 rintro e w1 ⟨rfl, rfl⟩
 go_wp2_with fail
 go_ret
 exact ⟨rfl, rfl⟩
theorem sessionC (x : Int) (w : World) : Calls Tryz.prog 311 #[.int .i64 x] w fun e w' => e = .returned (.bool (decide (1 ≤ x) && decide (x ≤ 9))) ∧ w' = w := by
 go_enter Tryz.func311, Tryz.ntmps311
 go_wp2_with fail
 refine (inC x 1 9 _).mono ?_
 rintro e w1 ⟨rfl, rfl⟩
 go_wp2_with fail
 go_ret
 exact ⟨rfl, rfl⟩
theorem implFault_len (ao : Option Addr) (n cap : Nat) (w : World) (h : n ≠ 3) :
  Calls Tryz.prog 252 #[.slice ao n cap] w fun e w' => e = .returned (.int .i64 1) ∧ w' = w := by
 have h3 : ((n : Int) != 3) = true := by rw [bne_iff_ne]; omega
 go_enter Tryz.func252, Tryz.ntmps252
 go_wp2
 go_ret
 exact ⟨rfl, rfl⟩
theorem implFault_three (b off cap : Nat) (zs : List Int) (w : World) (h : zs.length = 3) (hc : ∀ j, j < 3 → w.cell? ⟨b, off + j, none⟩ = some (.int .i64 (zs.getD j 0))) :
  Calls Tryz.prog 252 #[.slice (some ⟨b, off, none⟩) 3 cap] w fun e w' => e = .returned (.int .i64 (vecFault zs)) ∧ w' = w := by
 go_enter Tryz.func252, Tryz.ntmps252
 go_wp2
 go_loop [10] (fun i => ∃ k : Nat, k ≤ 3 ∧ i = .int .i64 k ∧ ∀ j, j < k → partB (zs.getD j 0) = true) (fun i => 3 - (intOf i).toNat)
 case atStart => exact ⟨0, Nat.zero_le _, rfl, fun j hj => by omega⟩
 case round =>
  obtain ⟨k, hk, rfl, hg⟩ := hrel
  have HG : Hid (∀ j, j < k → partB (zs.getD j 0) = true) := hg
  have HL : Hid (zs.length = 3) := h
  clear hg h
  by_cases hlt : k < 3
  ·
   have hcx : w.cell? ⟨b, off + k, none⟩ = some (.int .i64 (zs.getD k 0)) := hc k hlt
   obtain ⟨z, hz⟩ : ∃ z, z = zs.getD k 0 := ⟨_, rfl⟩
   rw [← hz] at hcx
   have HZ : Hid (z = zs.getD k 0) := hz
   clear hz hc
   cases hp : partB z with
   | true =>
    have hb := partB_true hp
    have HP : Hid (partB z = true) := hp
    clear hp
    obtain ⟨hb1, hb2⟩ := hb
    go_wp2
    go_round
    case rel =>
     refine ⟨k + 1, by omega, by go_num, fun j hj => ?_⟩
     by_cases hjk : j < k
     ·
      exact HG.out j hjk
     rw [show j = k by omega, ← HZ.out]; exact HP.out
    case measure => simp [intOf]; omega
   | false =>
    have HV : Hid (vecFault zs = 3) := vecFault_bad HL.out k hlt (by rw [← HZ.out]; exact hp)
    have hb := partB_false hp
    clear hp
    rcases hb with hb | hb
    ·
     go_wp2
     go_ret
     exact ⟨by rw [HV.out]; rfl, rfl⟩
    have hb1 : -1000 ≤ z := by omega
    have hd : decide (z ≤ 1000) = false := by simp; omega
    go_wp2
    go_ret
    exact ⟨by rw [HV.out]; rfl, rfl⟩
  have HV : Hid (vecFault zs = 0) := vecFault_ok HL.out (fun j hj => HG.out j (by omega))
  go_wp2
  go_ret
  exact ⟨by rw [HV.out]; rfl, rfl⟩
theorem modelFault_len (ao : Option Addr) (n cap : Nat) (w : World) (h : n ≠ 3) :
  Calls Tryz.prog 110 #[.slice ao n cap] w fun e w' => e = .returned (.int .i64 1) ∧ w' = w := by
 have h3 : ((n : Int) != 3) = true := by rw [bne_iff_ne]; omega
 go_enter Tryz.func110, Tryz.ntmps110
 go_wp2
 go_ret
 exact ⟨rfl, rfl⟩
theorem modelFault_three (b off cap : Nat) (zs : List Int) (w : World) (h : zs.length = 3) (hc : ∀ j, j < 3 → w.cell? ⟨b, off + j, none⟩ = some (.int .i64 (zs.getD j 0))) :
  Calls Tryz.prog 110 #[.slice (some ⟨b, off, none⟩) 3 cap] w fun e w' => e = .returned (.int .i64 (vecFault zs)) ∧ w' = w := by
 go_enter Tryz.func110, Tryz.ntmps110
 go_wp2
 go_loop [3] (fun i => ∃ k : Nat, k ≤ 3 ∧ i = .int .i64 k ∧ ∀ j, j < k → partB (zs.getD j 0) = true) (fun i => 3 - (intOf i).toNat)
 case atStart => exact ⟨0, Nat.zero_le _, rfl, fun j hj => by omega⟩
 case round =>
  obtain ⟨k, hk, rfl, hg⟩ := hrel
  have HG : Hid (∀ j, j < k → partB (zs.getD j 0) = true) := hg
  have HL : Hid (zs.length = 3) := h
  clear hg h
  by_cases hlt : k < 3
  ·
   have hcx : w.cell? ⟨b, off + k, none⟩ = some (.int .i64 (zs.getD k 0)) := hc k hlt
   obtain ⟨z, hz⟩ : ∃ z, z = zs.getD k 0 := ⟨_, rfl⟩
   rw [← hz] at hcx
   have HZ : Hid (z = zs.getD k 0) := hz
   clear hz hc
   cases hp : partB z with
   | true =>
    have hb := partB_true hp
    have HP : Hid (partB z = true) := hp
    clear hp
    obtain ⟨hb1, hb2⟩ := hb
    go_wp2
    go_round
    case rel =>
     refine ⟨k + 1, by omega, by go_num, fun j hj => ?_⟩
     by_cases hjk : j < k
     ·
      exact HG.out j hjk
     rw [show j = k by omega, ← HZ.out]; exact HP.out
    case measure => simp [intOf]; omega
   | false =>
    have HV : Hid (vecFault zs = 3) := vecFault_bad HL.out k hlt (by rw [← HZ.out]; exact hp)
    have hb := partB_false hp
    clear hp
    rcases hb with hb | hb
    ·
     go_wp2
     go_ret
     exact ⟨by rw [HV.out]; rfl, rfl⟩
    have hb1 : -1000 ≤ z := by omega
    have hd : decide (z ≤ 1000) = false := by simp; omega
    go_wp2
    go_ret
    exact ⟨by rw [HV.out]; rfl, rfl⟩
  have HV : Hid (vecFault zs = 0) := vecFault_ok HL.out (fun j hj => HG.out j (by omega))
  go_wp2
  go_ret
  exact ⟨by rw [HV.out]; rfl, rfl⟩
theorem implFault (v : Value) (zs : List Int) (w : World) (h : IsInts w v zs) :
  Calls Tryz.prog 252 #[v] w fun e w' => e = .returned (.int .i64 (vecFault zs)) ∧ w' = w := by
 obtain ⟨ao, cap, rfl, hwf, hc⟩ := h
 by_cases h3 : zs.length = 3
 ·
  obtain ⟨b, off, rfl, hc1⟩ := hc (by omega)
  rw [h3] at hc1 ⊢
  exact implFault_three b off cap zs w h3 hc1
 rw [vecFault_len h3]
 exact implFault_len ao zs.length cap w h3
theorem modelFault (v : Value) (zs : List Int) (w : World) (h : IsInts w v zs) :
  Calls Tryz.prog 110 #[v] w fun e w' => e = .returned (.int .i64 (vecFault zs)) ∧ w' = w := by
 obtain ⟨ao, cap, rfl, hwf, hc⟩ := h
 by_cases h3 : zs.length = 3
 ·
  obtain ⟨b, off, rfl, hc1⟩ := hc (by omega)
  rw [h3] at hc1 ⊢
  exact modelFault_three b off cap zs w h3 hc1
 rw [vecFault_len h3]
 exact modelFault_len ao zs.length cap w h3
end Go.Proofs.YtoanimpijfijgaaGreat
