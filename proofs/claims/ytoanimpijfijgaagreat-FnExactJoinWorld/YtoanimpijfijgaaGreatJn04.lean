/-
  Texts of this proof in one: MaEntryS, MaWorld, LayWorldResult, EqWorldResult, OwnWorldResult, MaWorldResult, MkChain, MkWriteS, MkNodeS, MkMsgS, MkHitS, MkEntryS, MkWorld, MkWorldResult.
  Their conditions stand in their theorems.
-/
import Derived.Test.YtoanimpijfijgaaGreatChecked
import Derived.Test.YtoanimpijfijgaaGreatJn03
import Derived.Test.YtoanimpijfijgaaGreatJn01
import Derived.Test.YtoanimpijfijgaaGreatJn00
set_option maxRecDepth 100000
set_option maxHeartbeats 4000000
namespace Go.Proofs.YtoanimpijfijgaaGreat
open Go.RowKit
theorem cnt_Entry (x : DEntry) : Lay.tEntry.cnt x = 8 + (Lay.sl Lay.int).vcnt x.query + (Lay.sl Lay.int).vcnt x.vec + (Lay.sl Lay.tHit).vcnt x.hits := by
 show 1 + (1 + (1 + (1 + ((Lay.sl Lay.int).vcnt x.query + (1 + (1 + (1 + (1 + ((Lay.sl Lay.int).vcnt x.vec + ((Lay.sl Lay.tHit).vcnt x.hits)))))))))) = 8 + (Lay.sl Lay.int).vcnt x.query + (Lay.sl Lay.int).vcnt x.vec + (Lay.sl Lay.tHit).vcnt x.hits
 omega
theorem mkd_Entry (k : Int) (x : DEntry) : Lay.tEntry.mkd k x = ⟨k, k + 1, k + 1 + 1, k + 1 + 1 + 1, (Lay.sl Lay.int).mkv (k + 1 + 1 + 1 + 1) x.query, k + 1 + 1 + 1 + 1 + ((Lay.sl Lay.int).vcnt x.query : Nat), k + 1 + 1 + 1 + 1 + ((Lay.sl Lay.int).vcnt x.query : Nat) + 1, k + 1 + 1 + 1 + 1 + ((Lay.sl Lay.int).vcnt x.query : Nat) + 1 + 1, k + 1 + 1 + 1 + 1 + ((Lay.sl Lay.int).vcnt x.query : Nat) + 1 + 1 + 1, (Lay.sl Lay.int).mkv (k + 1 + 1 + 1 + 1 + ((Lay.sl Lay.int).vcnt x.query : Nat) + 1 + 1 + 1 + 1) x.vec, (Lay.sl Lay.tHit).mkv (k + 1 + 1 + 1 + 1 + ((Lay.sl Lay.int).vcnt x.query : Nat) + 1 + 1 + 1 + 1 + ((Lay.sl Lay.int).vcnt x.vec : Nat)) x.hits⟩ := rfl
theorem vcnt_EntryS (xs : List DEntry) : (Lay.sl Lay.tEntry).vcnt xs = cntAll Lay.tEntry.cnt xs := rfl
theorem mkv_EntryS (k : Int) (xs : List DEntry) : (Lay.sl Lay.tEntry).mkv k xs = mkAll Lay.tEntry.cnt Lay.tEntry.mkd k xs := rfl
theorem markEntry_pos (b off cap : Nat) (xs : List DEntry) (bl : List Nat) (k : Int) (w : World) (h : (Lay.sl Lay.tEntry).Own w [.slice (some ⟨b, off, none⟩) xs.length cap] xs bl) (hk : 0 ≤ k) (hk2 : k + (cntAll Lay.tEntry.cnt xs : Nat) ≤ 1000000000) :
  Calls Tryz.prog 80 #[.slice (some ⟨b, off, none⟩) xs.length cap, .int .i64 k] w fun e w' => e = .returned (.int .i64 (k + (cntAll Lay.tEntry.cnt xs : Nat))) ∧ (Lay.sl Lay.tEntry).Own w' [.slice (some ⟨b, off, none⟩) xs.length cap] (mkAll Lay.tEntry.cnt Lay.tEntry.mkd k xs) bl ∧ Ext (fun q => q ∈ bl) w w' := by
 have hbig := h.reads.big
 have H := yh h
 clear h
 go_enter Tryz.func80, Tryz.ntmps80
 go_wp2_with fail
 go_loopw [1, 5] (fun kk i wr => ∃ (j : Nat) (kj : Int), j ≤ xs.length ∧ i = .int .i64 j ∧ kj = k + (cntAll Lay.tEntry.cnt (xs.take j) : Nat) ∧ kk = .int .i64 kj ∧ (Lay.sl Lay.tEntry).Own wr [.slice (some ⟨b, off, none⟩) xs.length cap] (mkPre Lay.tEntry.cnt Lay.tEntry.mkd k xs j) bl ∧ Ext (fun q => q ∈ bl) w wr) (fun _ i _ => xs.length - (intOf i).toNat)
 case atStart => exact ⟨0, k, Nat.zero_le _, rfl, by simp [cntAll], rfl, by rw [mkPre_zero]; exact uh H, Ext.refl _ _⟩
 case round =>
  obtain ⟨j, kj, hj, rfl, hkj, rfl, hO, hX⟩ := hrel
  clear H
  by_cases hlt : j < xs.length
  ·
   have hj2 : j < (mkPre Lay.tEntry.cnt Lay.tEntry.mkd k xs j).length := by rw [mkPre_len _ _ _ _ _ hj]; exact hlt
   obtain ⟨row, blk, R, O, hbk, hin, hfin⟩ := Lay.own_upd hO hj2
   rw [mkPre_get _ _ _ _ _ hlt] at O
   have HT := yh (Lay.cntAll_take (f := Lay.tEntry.cnt) hlt)
   have hle := Lay.cntAll_take_le (f := Lay.tEntry.cnt) (xs := xs) (k := j + 1)
   rw [uh HT] at hle
   have HM : Hid (∀ y, y = Lay.tEntry.mkd kj xs[j] → (mkPre Lay.tEntry.cnt Lay.tEntry.mkd k xs j).set j y = mkPre Lay.tEntry.cnt Lay.tEntry.mkd k xs (j + 1)) := fun y e => by rw [e, hkj]; exact mkPre_set _ _ _ _ _ hlt
   have HF := yh hfin
   have HX := yh hX
   have HI := yh hin
   clear hO hfin hX hin hj2
   generalize hx : xs[j] = x at *
   clear hx
   have hcn := cnt_Entry x
   have HD0 := mkd_Entry kj x
   have hb1 : 0 ≤ kj := by omega
   have hb2 : kj + (Lay.tEntry.cnt x : Int) ≤ 1000000000 := by omega
   have HK := yh hkj
   clear hkj hle
   have HD := yh HD0
   clear HD0
   have hnd := O.2.1
   obtain ⟨a4, d4, a9, d9, a10, d10, g4, g9, g10, rfl, hbl, O4, O9, O10, v0, v1, v2, v3, v5, v6, v7, v8⟩ := own_Entry O
   clear O
   have HN : Hid ((g4 ++ (g9 ++ g10)).Nodup) := by rw [hbl] at hnd; exact hnd
   have HBL := yh hbl
   have hm4 : ∀ c ∈ g4, c ∈ blk := fun c hc => by rw [hbl]; simp [hc]
   have HM4 := yh hm4
   have HB4 : Hid (b ∉ g4) := fun hc => hbk (hm4 b hc)
   clear hm4
   have hm9 : ∀ c ∈ g9, c ∈ blk := fun c hc => by rw [hbl]; simp [hc]
   have HM9 := yh hm9
   have HB9 : Hid (b ∉ g9) := fun hc => hbk (hm9 b hc)
   clear hm9
   have hm10 : ∀ c ∈ g10, c ∈ blk := fun c hc => by rw [hbl]; simp [hc]
   have HM10 := yh hm10
   have HB10 : Hid (b ∉ g10) := fun hc => hbk (hm10 b hc)
   clear hm10
   have HJ4_9 : Hid (∀ c ∈ g4, c ∉ g9) := fun c h1 h2 => (List.nodup_append.1 (uh HN)).2.2 c h1 c (List.mem_append_left _ h2) rfl
   have HJ4_10 : Hid (∀ c ∈ g4, c ∉ g10) := fun c h1 h2 => (List.nodup_append.1 (uh HN)).2.2 c h1 c (List.mem_append_right _ h2) rfl
   have HJ9_10 : Hid (∀ c ∈ g9, c ∉ g10) := fun c h1 h2 => (List.nodup_append.1 (List.nodup_append.1 (uh HN)).2.1).2.2 c h1 c h2 rfl
   clear hnd hbl
   have P4 := yh O4
   clear O4
   have P9 := yh O9
   clear O9
   have P10 := yh O10
   clear O10
   have HR := yh R
   have l1 : b < wr.heap.size := R.lt
   clear R
   have c0 : wr.cell? ⟨b, off + j * 11, none⟩ = some (.int .i64 x.kind) := (uh HR).at 0 _ rfl
   have f0 : wr.frozen? ⟨b, off + j * 11, none⟩ = false := (uh HR).soft _
   have c1 : wr.cell? ⟨b, off + j * 11 + 1, none⟩ = some (.int .i64 x.session) := (uh HR).at 1 _ rfl
   have f1 : wr.frozen? ⟨b, off + j * 11 + 1, none⟩ = false := (uh HR).soft _
   have c2 : wr.cell? ⟨b, off + j * 11 + 2, none⟩ = some (.int .i64 x.seq) := (uh HR).at 2 _ rfl
   have f2 : wr.frozen? ⟨b, off + j * 11 + 2, none⟩ = false := (uh HR).soft _
   have c3 : wr.cell? ⟨b, off + j * 11 + 3, none⟩ = some (.int .i64 x.id) := (uh HR).at 3 _ rfl
   have f3 : wr.frozen? ⟨b, off + j * 11 + 3, none⟩ = false := (uh HR).soft _
   have c4 : wr.cell? ⟨b, off + j * 11 + 4, none⟩ = some (.slice a4 x.query.length d4) := (uh HR).at 4 _ rfl
   have E0_ : Ext (fun q => q = b) wr ((((wr.setCell ⟨b, off + j * 11, none⟩ (.int .i64 kj)).setCell ⟨b, off + j * 11 + 1, none⟩ (.int .i64 (kj + 1))).setCell ⟨b, off + j * 11 + 2, none⟩ (.int .i64 (kj + 1 + 1))).setCell ⟨b, off + j * 11 + 3, none⟩ (.int .i64 (kj + 1 + 1 + 1))) := (((((Ext.refl (fun q => q = b) _).setCell ⟨b, off + j * 11, none⟩ (.int .i64 kj) rfl).setCell ⟨b, off + j * 11 + 1, none⟩ (.int .i64 (kj + 1)) rfl).setCell ⟨b, off + j * 11 + 2, none⟩ (.int .i64 (kj + 1 + 1)) rfl).setCell ⟨b, off + j * 11 + 3, none⟩ (.int .i64 (kj + 1 + 1 + 1)) rfl)
   have HR0_ : Hid (RowAt wr ((((wr.setCell ⟨b, off + j * 11, none⟩ (.int .i64 kj)).setCell ⟨b, off + j * 11 + 1, none⟩ (.int .i64 (kj + 1))).setCell ⟨b, off + j * 11 + 2, none⟩ (.int .i64 (kj + 1 + 1))).setCell ⟨b, off + j * 11 + 3, none⟩ (.int .i64 (kj + 1 + 1 + 1))) b (off + j * 11) 11 [.int .i64 kj, .int .i64 (kj + 1), .int .i64 (kj + 1 + 1), .int .i64 (kj + 1 + 1 + 1), .slice a4 x.query.length d4, .int .i64 x.k, .int .i64 x.start, .int .i64 x.fin, .int .i64 x.place, .slice a9 x.vec.length d9, .slice a10 x.hits.length d10] blk) := (((((uh HR).set 0 (.int .i64 kj) (by decide)).set 1 (.int .i64 (kj + 1)) (by decide)).set 2 (.int .i64 (kj + 1 + 1)) (by decide)).set 3 (.int .i64 (kj + 1 + 1 + 1)) (by decide))
   replace P4 := yh ((uh P4).ext E0_ (fun c hc e => uh HB4 (e ▸ hc)))
   replace P9 := yh ((uh P9).ext E0_ (fun c hc e => uh HB9 (e ▸ hc)))
   replace P10 := yh ((uh P10).ext E0_ (fun c hc e => uh HB10 (e ▸ hc)))
   clear HR E0_
   have HR := HR0_
   clear HR0_
   go_wp2_with fail
   refine (mark_Int64S _ x.query g4 (kj + 1 + 1 + 1 + 1) _ (uh P4) (by omega) (by omega)).mono ?_
   rintro e u0 ⟨rfl, Q, E2⟩
   replace HR := yh ((uh HR).call E2 (uh HM4) (uh HB4))
   replace P9 := yh ((uh P9).ext E2 (fun c hc h2 => uh HJ4_9 c h2 hc))
   replace P10 := yh ((uh P10).ext E2 (fun c hc h2 => uh HJ4_10 c h2 hc))
   clear P4
   have P4 := yh Q
   clear Q E2 l1 c0 f0 c1 f1 c2 f2 c3 f3 c4
   have l1 : b < u0.heap.size := (uh HR).lt
   have c5 : u0.cell? ⟨b, off + j * 11 + 5, none⟩ = some (.int .i64 x.k) := (uh HR).at 5 _ rfl
   have f5 : u0.frozen? ⟨b, off + j * 11 + 5, none⟩ = false := (uh HR).soft _
   have c6 : u0.cell? ⟨b, off + j * 11 + 6, none⟩ = some (.int .i64 x.start) := (uh HR).at 6 _ rfl
   have f6 : u0.frozen? ⟨b, off + j * 11 + 6, none⟩ = false := (uh HR).soft _
   have c7 : u0.cell? ⟨b, off + j * 11 + 7, none⟩ = some (.int .i64 x.fin) := (uh HR).at 7 _ rfl
   have f7 : u0.frozen? ⟨b, off + j * 11 + 7, none⟩ = false := (uh HR).soft _
   have c8 : u0.cell? ⟨b, off + j * 11 + 8, none⟩ = some (.int .i64 x.place) := (uh HR).at 8 _ rfl
   have f8 : u0.frozen? ⟨b, off + j * 11 + 8, none⟩ = false := (uh HR).soft _
   have c9 : u0.cell? ⟨b, off + j * 11 + 9, none⟩ = some (.slice a9 x.vec.length d9) := (uh HR).at 9 _ rfl
   have E1_ : Ext (fun q => q = b) u0 ((((u0.setCell ⟨b, off + j * 11 + 5, none⟩ (.int .i64 (kj + 1 + 1 + 1 + 1 + ((Lay.sl Lay.int).vcnt x.query : Nat)))).setCell ⟨b, off + j * 11 + 6, none⟩ (.int .i64 (kj + 1 + 1 + 1 + 1 + ((Lay.sl Lay.int).vcnt x.query : Nat) + 1))).setCell ⟨b, off + j * 11 + 7, none⟩ (.int .i64 (kj + 1 + 1 + 1 + 1 + ((Lay.sl Lay.int).vcnt x.query : Nat) + 1 + 1))).setCell ⟨b, off + j * 11 + 8, none⟩ (.int .i64 (kj + 1 + 1 + 1 + 1 + ((Lay.sl Lay.int).vcnt x.query : Nat) + 1 + 1 + 1))) := (((((Ext.refl (fun q => q = b) _).setCell ⟨b, off + j * 11 + 5, none⟩ (.int .i64 (kj + 1 + 1 + 1 + 1 + ((Lay.sl Lay.int).vcnt x.query : Nat))) rfl).setCell ⟨b, off + j * 11 + 6, none⟩ (.int .i64 (kj + 1 + 1 + 1 + 1 + ((Lay.sl Lay.int).vcnt x.query : Nat) + 1)) rfl).setCell ⟨b, off + j * 11 + 7, none⟩ (.int .i64 (kj + 1 + 1 + 1 + 1 + ((Lay.sl Lay.int).vcnt x.query : Nat) + 1 + 1)) rfl).setCell ⟨b, off + j * 11 + 8, none⟩ (.int .i64 (kj + 1 + 1 + 1 + 1 + ((Lay.sl Lay.int).vcnt x.query : Nat) + 1 + 1 + 1)) rfl)
   have HR1_ : Hid (RowAt wr ((((u0.setCell ⟨b, off + j * 11 + 5, none⟩ (.int .i64 (kj + 1 + 1 + 1 + 1 + ((Lay.sl Lay.int).vcnt x.query : Nat)))).setCell ⟨b, off + j * 11 + 6, none⟩ (.int .i64 (kj + 1 + 1 + 1 + 1 + ((Lay.sl Lay.int).vcnt x.query : Nat) + 1))).setCell ⟨b, off + j * 11 + 7, none⟩ (.int .i64 (kj + 1 + 1 + 1 + 1 + ((Lay.sl Lay.int).vcnt x.query : Nat) + 1 + 1))).setCell ⟨b, off + j * 11 + 8, none⟩ (.int .i64 (kj + 1 + 1 + 1 + 1 + ((Lay.sl Lay.int).vcnt x.query : Nat) + 1 + 1 + 1))) b (off + j * 11) 11 [.int .i64 kj, .int .i64 (kj + 1), .int .i64 (kj + 1 + 1), .int .i64 (kj + 1 + 1 + 1), .slice a4 x.query.length d4, .int .i64 (kj + 1 + 1 + 1 + 1 + ((Lay.sl Lay.int).vcnt x.query : Nat)), .int .i64 (kj + 1 + 1 + 1 + 1 + ((Lay.sl Lay.int).vcnt x.query : Nat) + 1), .int .i64 (kj + 1 + 1 + 1 + 1 + ((Lay.sl Lay.int).vcnt x.query : Nat) + 1 + 1), .int .i64 (kj + 1 + 1 + 1 + 1 + ((Lay.sl Lay.int).vcnt x.query : Nat) + 1 + 1 + 1), .slice a9 x.vec.length d9, .slice a10 x.hits.length d10] blk) := (((((uh HR).set 5 (.int .i64 (kj + 1 + 1 + 1 + 1 + ((Lay.sl Lay.int).vcnt x.query : Nat))) (by decide)).set 6 (.int .i64 (kj + 1 + 1 + 1 + 1 + ((Lay.sl Lay.int).vcnt x.query : Nat) + 1)) (by decide)).set 7 (.int .i64 (kj + 1 + 1 + 1 + 1 + ((Lay.sl Lay.int).vcnt x.query : Nat) + 1 + 1)) (by decide)).set 8 (.int .i64 (kj + 1 + 1 + 1 + 1 + ((Lay.sl Lay.int).vcnt x.query : Nat) + 1 + 1 + 1)) (by decide))
   replace P4 := yh ((uh P4).ext E1_ (fun c hc e => uh HB4 (e ▸ hc)))
   replace P9 := yh ((uh P9).ext E1_ (fun c hc e => uh HB9 (e ▸ hc)))
   replace P10 := yh ((uh P10).ext E1_ (fun c hc e => uh HB10 (e ▸ hc)))
   clear HR E1_
   have HR := HR1_
   clear HR1_
   go_wp2_with fail
   refine (mark_Int64S _ x.vec g9 (kj + 1 + 1 + 1 + 1 + ((Lay.sl Lay.int).vcnt x.query : Nat) + 1 + 1 + 1 + 1) _ (uh P9) (by omega) (by omega)).mono ?_
   rintro e u1 ⟨rfl, Q, E2⟩
   replace HR := yh ((uh HR).call E2 (uh HM9) (uh HB9))
   replace P4 := yh ((uh P4).ext E2 (fun c hc h2 => uh HJ4_9 c hc h2))
   replace P10 := yh ((uh P10).ext E2 (fun c hc h2 => uh HJ9_10 c h2 hc))
   clear P9
   have P9 := yh Q
   clear Q E2 l1 c5 f5 c6 f6 c7 f7 c8 f8 c9
   have l1 : b < u1.heap.size := (uh HR).lt
   have c10 : u1.cell? ⟨b, off + j * 11 + 10, none⟩ = some (.slice a10 x.hits.length d10) := (uh HR).at 10 _ rfl
   go_wp2_with fail
   refine (mark_HitS _ x.hits g10 (kj + 1 + 1 + 1 + 1 + ((Lay.sl Lay.int).vcnt x.query : Nat) + 1 + 1 + 1 + 1 + ((Lay.sl Lay.int).vcnt x.vec : Nat)) _ (uh P10) (by omega) (by omega)).mono ?_
   rintro e u2 ⟨rfl, Q, E2⟩
   replace HR := yh ((uh HR).call E2 (uh HM10) (uh HB10))
   replace P4 := yh ((uh P4).ext E2 (fun c hc h2 => uh HJ4_10 c hc h2))
   replace P9 := yh ((uh P9).ext E2 (fun c hc h2 => uh HJ9_10 c hc h2))
   clear P10
   have P10 := yh Q
   clear Q E2 l1 c10
   have l1 : b < u2.heap.size := (uh HR).lt
   go_wp2_with fail
   go_roundw
   case rel =>
    refine ⟨j + 1, _, by omega, by go_num, ?_, rfl, ?_, ?_⟩
    ·
     rw [uh HT, hcn]
     have := uh HK
     omega
    ·
     rw [← uh HM _ (uh HD).symm]
     exact uh HF _ _ _ (uh HR) (by rw [uh HBL]; exact mkOwn_Entry (x := ⟨kj, kj + 1, kj + 1 + 1, kj + 1 + 1 + 1, (Lay.sl Lay.int).mkv (kj + 1 + 1 + 1 + 1) x.query, kj + 1 + 1 + 1 + 1 + ((Lay.sl Lay.int).vcnt x.query : Nat), kj + 1 + 1 + 1 + 1 + ((Lay.sl Lay.int).vcnt x.query : Nat) + 1, kj + 1 + 1 + 1 + 1 + ((Lay.sl Lay.int).vcnt x.query : Nat) + 1 + 1, kj + 1 + 1 + 1 + 1 + ((Lay.sl Lay.int).vcnt x.query : Nat) + 1 + 1 + 1, (Lay.sl Lay.int).mkv (kj + 1 + 1 + 1 + 1 + ((Lay.sl Lay.int).vcnt x.query : Nat) + 1 + 1 + 1 + 1) x.vec, (Lay.sl Lay.tHit).mkv (kj + 1 + 1 + 1 + 1 + ((Lay.sl Lay.int).vcnt x.query : Nat) + 1 + 1 + 1 + 1 + ((Lay.sl Lay.int).vcnt x.vec : Nat)) x.hits⟩) (uh P4) (uh P9) (uh P10) (show (Lit.int .i64 (kj)).wf = true from wf_of_bd (by omega)) (show (Lit.int .i64 (kj + 1)).wf = true from wf_of_bd (by omega)) (show (Lit.int .i64 (kj + 1 + 1)).wf = true from wf_of_bd (by omega)) (show (Lit.int .i64 (kj + 1 + 1 + 1)).wf = true from wf_of_bd (by omega)) (show (Lit.int .i64 (kj + 1 + 1 + 1 + 1 + ((Lay.sl Lay.int).vcnt x.query : Nat))).wf = true from wf_of_bd (by omega)) (show (Lit.int .i64 (kj + 1 + 1 + 1 + 1 + ((Lay.sl Lay.int).vcnt x.query : Nat) + 1)).wf = true from wf_of_bd (by omega)) (show (Lit.int .i64 (kj + 1 + 1 + 1 + 1 + ((Lay.sl Lay.int).vcnt x.query : Nat) + 1 + 1)).wf = true from wf_of_bd (by omega)) (show (Lit.int .i64 (kj + 1 + 1 + 1 + 1 + ((Lay.sl Lay.int).vcnt x.query : Nat) + 1 + 1 + 1)).wf = true from wf_of_bd (by omega)) (uh HN))
    exact (uh HX).trans ((uh HR).ext.mono fun q _ hq => uh HI q (by rcases hq with h | h; exact Or.inl h.symm; exact Or.inr h))
   case measure => simp [intOf]; omega
  obtain rfl : j = xs.length := by omega
  rw [mkPre_all] at hO
  rw [List.take_length] at hkj
  have HK := yh hkj
  clear hkj
  have HO := yh hO
  have HX := yh hX
  clear hO hX
  go_wp2_with fail
  go_ret
  exact ⟨by rw [← uh HK]; rfl, uh HO, uh HX⟩
theorem markEntry_zero (ao : Option Addr) (cap : Nat) (k : Int) (w : World) :
  Calls Tryz.prog 80 #[.slice ao 0 cap, .int .i64 k] w fun e w' => e = .returned (.int .i64 k) ∧ w' = w := by
 go_enter Tryz.func80, Tryz.ntmps80
 go_wp2_with fail
 refine wp_loop_rounds 1 ?_
 rw [rounds_succ]
 go_wp2_with fail
 go_ret
 exact ⟨rfl, rfl⟩
theorem mark_EntryS (v : Value) (xs : List DEntry) (bl : List Nat) (k : Int) (w : World) (h : (Lay.sl Lay.tEntry).Own w [v] xs bl) (hk : 0 ≤ k) (hk2 : k + (Lay.sl Lay.tEntry).vcnt xs ≤ 1000000000) :
  Calls Tryz.prog 80 #[v, .int .i64 k] w fun e w' => e = .returned (.int .i64 (k + (Lay.sl Lay.tEntry).vcnt xs)) ∧ (Lay.sl Lay.tEntry).Own w' [v] ((Lay.sl Lay.tEntry).mkv k xs) bl ∧ Ext (fun q => q ∈ bl) w w' := by
 obtain ⟨ao, cap, rfl⟩ := open_sl h.reads
 by_cases hp : 0 < xs.length
 ·
  obtain ⟨b, off, rfl, hbl⟩ := Lay.sl_addr h.reads hp
  exact markEntry_pos b off cap xs bl k w h hk hk2
 obtain rfl : xs = [] := List.eq_nil_of_length_eq_zero (by omega)
 refine (markEntry_zero ao cap k w).mono ?_
 rintro e w' ⟨rfl, rfl⟩
 exact ⟨by rw [vcnt_EntryS]; simp [cntAll], h, Ext.refl _ _⟩
theorem mark_World (cs : List Value) (x : DWorld) (bl : List Nat) (k : Int) (w : World) (h : Lay.tWorld.Own w cs x bl) (hk : 0 ≤ k) (hk2 : k + Lay.tWorld.vcnt x ≤ 1000000000) :
  Calls Tryz.prog 21 #[.agg cs.toArray, .int .i64 k] w fun e w' => e = .returned (.int .i64 (k + Lay.tWorld.vcnt x)) ∧ Lay.tWorld.Own w' cs (Lay.tWorld.mkv k x) bl ∧ Ext (fun q => q ∈ bl) w w' := by
 have hlt := h.lt
 have hnd := h.2.1
 rw [vcnt_World] at hk2
 obtain ⟨a3, d3, a4, d4, a5, d5, a6, d6, g2, g4, g5, g6, rfl, hbl, O2, O4, O5, O6, v0, v1⟩ := own_World h
 clear h
 have HB0 : Below w.heap.size w (w.alloc (.cells #[.int .i64 x.now, .int .i64 x.events, .int .i64 x.chain.epoch, .slice a3 x.chain.ids.length d3, .slice a4 x.nodes.length d4, .slice a5 x.msgs.length d5, .slice a6 x.history.length d6] 36)) := (Below.refl _ _).alloc (Nat.le_refl _) _
 have bA : Box w.heap.size #[.int .i64 x.now, .int .i64 x.events, .int .i64 x.chain.epoch, .slice a3 x.chain.ids.length d3, .slice a4 x.nodes.length d4, .slice a5 x.msgs.length d5, .slice a6 x.history.length d6] 36 (w.alloc (.cells #[.int .i64 x.now, .int .i64 x.events, .int .i64 x.chain.epoch, .slice a3 x.chain.ids.length d3, .slice a4 x.nodes.length d4, .slice a5 x.msgs.length d5, .slice a6 x.history.length d6] 36)) w.heap.size := newBox (Nat.le_refl _)
 have HN := yh hnd
 have HV := yh (vcnt_World x)
 have HM := yh (mkv_World k x)
 clear hnd
 go_enter Tryz.func21, Tryz.ntmps21
 go_wp2_with fail
 generalize w.alloc (.cells #[.int .i64 x.now, .int .i64 x.events, .int .i64 x.chain.epoch, .slice a3 x.chain.ids.length d3, .slice a4 x.nodes.length d4, .slice a5 x.msgs.length d5, .slice a6 x.history.length d6] 36) = W0 at *
 replace O2 := O2.later HB0
 replace O4 := O4.later HB0
 replace O5 := O5.later HB0
 replace O6 := O6.later HB0
 have hsz := HB0.size
 have EX : Ext (fun q => q ∈ bl) w W0 := ext_of_below HB0 _
 have hs0 := bA.lt
 refine (mark_Chain _ x.chain g2 (k) _ O2 (by omega) (by omega)).mono ?_
 rintro e w1 ⟨rfl, Q2, E2⟩
 replace O4 := O4.ext E2 (fun b hb hb2 => by subst hbl; exact absurd rfl ((by have := uh HN; simp_all [List.nodup_append] : ∀ p ∈ g2, ∀ q ∈ g4, p ≠ q) b hb2 b hb))
 replace O5 := O5.ext E2 (fun b hb hb2 => by subst hbl; exact absurd rfl ((by have := uh HN; simp_all [List.nodup_append] : ∀ p ∈ g2, ∀ q ∈ g5, p ≠ q) b hb2 b hb))
 replace O6 := O6.ext E2 (fun b hb hb2 => by subst hbl; exact absurd rfl ((by have := uh HN; simp_all [List.nodup_append] : ∀ p ∈ g2, ∀ q ∈ g6, p ≠ q) b hb2 b hb))
 replace EX := EX.trans (E2.mono fun b _ hb => by rw [hbl]; simp [hb])
 replace bA := bA.ext E2 (fun hm => by have := hlt w.heap.size (by rw [hbl]; simp [hm]); omega)
 clear E2
 have p4 := bA.at 4 _ rfl
 have p5 := bA.at 5 _ rfl
 have p6 := bA.at 6 _ rfl
 have HA := yh bA
 have HX := yh EX
 have HL := yh hlt
 have HBL := yh hbl
 clear bA EX hlt hbl
 have P2 := yh Q2
 clear Q2
 have P4 := yh O4
 clear O4
 have P5 := yh O5
 clear O5
 have P6 := yh O6
 clear O6
 clear O2
 go_wp2_with fail
 have bA := uh HA
 have EX := uh HX
 have hlt := uh HL
 have hbl := uh HBL
 clear HA HX HL HBL
 have Q2 := uh P2
 clear P2
 have O4 := uh P4
 clear P4
 have O5 := uh P5
 clear P5
 have O6 := uh P6
 clear P6
 clear p4
 clear p5
 clear p6
 refine (mark_NodeS _ x.nodes g4 (k + (Lay.tChain.vcnt x.chain : Int)) _ O4 (by omega) (by omega)).mono ?_
 rintro e w2 ⟨rfl, Q4, E4⟩
 replace Q2 := Q2.ext E4 (fun b hb hb2 => by subst hbl; exact absurd rfl ((by have := uh HN; simp_all [List.nodup_append] : ∀ p ∈ g2, ∀ q ∈ g4, p ≠ q) b hb b hb2))
 replace O5 := O5.ext E4 (fun b hb hb2 => by subst hbl; exact absurd rfl ((by have := uh HN; simp_all [List.nodup_append] : ∀ p ∈ g4, ∀ q ∈ g5, p ≠ q) b hb2 b hb))
 replace O6 := O6.ext E4 (fun b hb hb2 => by subst hbl; exact absurd rfl ((by have := uh HN; simp_all [List.nodup_append] : ∀ p ∈ g4, ∀ q ∈ g6, p ≠ q) b hb2 b hb))
 replace EX := EX.trans (E4.mono fun b _ hb => by rw [hbl]; simp [hb])
 replace bA := bA.ext E4 (fun hm => by have := hlt w.heap.size (by rw [hbl]; simp [hm]); omega)
 clear E4
 have p5 := bA.at 5 _ rfl
 have p6 := bA.at 6 _ rfl
 have HA := yh bA
 have HX := yh EX
 have HL := yh hlt
 have HBL := yh hbl
 clear bA EX hlt hbl
 have P2 := yh Q2
 clear Q2
 have P4 := yh Q4
 clear Q4
 have P5 := yh O5
 clear O5
 have P6 := yh O6
 clear O6
 clear O4
 go_wp2_with fail
 have bA := uh HA
 have EX := uh HX
 have hlt := uh HL
 have hbl := uh HBL
 clear HA HX HL HBL
 have Q2 := uh P2
 clear P2
 have Q4 := uh P4
 clear P4
 have O5 := uh P5
 clear P5
 have O6 := uh P6
 clear P6
 clear p5
 clear p6
 refine (mark_MsgS _ x.msgs g5 (k + (Lay.tChain.vcnt x.chain : Int) + ((Lay.sl Lay.tNode).vcnt x.nodes : Int)) _ O5 (by omega) (by omega)).mono ?_
 rintro e w3 ⟨rfl, Q5, E5⟩
 replace Q2 := Q2.ext E5 (fun b hb hb2 => by subst hbl; exact absurd rfl ((by have := uh HN; simp_all [List.nodup_append] : ∀ p ∈ g2, ∀ q ∈ g5, p ≠ q) b hb b hb2))
 replace Q4 := Q4.ext E5 (fun b hb hb2 => by subst hbl; exact absurd rfl ((by have := uh HN; simp_all [List.nodup_append] : ∀ p ∈ g4, ∀ q ∈ g5, p ≠ q) b hb b hb2))
 replace O6 := O6.ext E5 (fun b hb hb2 => by subst hbl; exact absurd rfl ((by have := uh HN; simp_all [List.nodup_append] : ∀ p ∈ g5, ∀ q ∈ g6, p ≠ q) b hb2 b hb))
 replace EX := EX.trans (E5.mono fun b _ hb => by rw [hbl]; simp [hb])
 replace bA := bA.ext E5 (fun hm => by have := hlt w.heap.size (by rw [hbl]; simp [hm]); omega)
 clear E5
 have p6 := bA.at 6 _ rfl
 have HA := yh bA
 have HX := yh EX
 have HL := yh hlt
 have HBL := yh hbl
 clear bA EX hlt hbl
 have P2 := yh Q2
 clear Q2
 have P4 := yh Q4
 clear Q4
 have P5 := yh Q5
 clear Q5
 have P6 := yh O6
 clear O6
 clear O5
 go_wp2_with fail
 have bA := uh HA
 have EX := uh HX
 have hlt := uh HL
 have hbl := uh HBL
 clear HA HX HL HBL
 have Q2 := uh P2
 clear P2
 have Q4 := uh P4
 clear P4
 have Q5 := uh P5
 clear P5
 have O6 := uh P6
 clear P6
 clear p6
 refine (mark_EntryS _ x.history g6 (k + (Lay.tChain.vcnt x.chain : Int) + ((Lay.sl Lay.tNode).vcnt x.nodes : Int) + ((Lay.sl Lay.tMsg).vcnt x.msgs : Int)) _ O6 (by omega) (by omega)).mono ?_
 rintro e w4 ⟨rfl, Q6, E6⟩
 replace Q2 := Q2.ext E6 (fun b hb hb2 => by subst hbl; exact absurd rfl ((by have := uh HN; simp_all [List.nodup_append] : ∀ p ∈ g2, ∀ q ∈ g6, p ≠ q) b hb b hb2))
 replace Q4 := Q4.ext E6 (fun b hb hb2 => by subst hbl; exact absurd rfl ((by have := uh HN; simp_all [List.nodup_append] : ∀ p ∈ g4, ∀ q ∈ g6, p ≠ q) b hb b hb2))
 replace Q5 := Q5.ext E6 (fun b hb hb2 => by subst hbl; exact absurd rfl ((by have := uh HN; simp_all [List.nodup_append] : ∀ p ∈ g5, ∀ q ∈ g6, p ≠ q) b hb b hb2))
 replace EX := EX.trans (E6.mono fun b _ hb => by rw [hbl]; simp [hb])
 replace bA := bA.ext E6 (fun hm => by have := hlt w.heap.size (by rw [hbl]; simp [hm]); omega)
 clear E6
 have HA := yh bA
 have HX := yh EX
 have HL := yh hlt
 have HBL := yh hbl
 clear bA EX hlt hbl
 have P2 := yh Q2
 clear Q2
 have P4 := yh Q4
 clear Q4
 have P5 := yh Q5
 clear Q5
 have P6 := yh Q6
 clear Q6
 clear O6
 go_wp2_with fail
 go_ret
 refine ⟨?_, ?_, uh HX⟩
 ·
  rw [show k + (Lay.tWorld.vcnt x : Int) = k + (Lay.tChain.vcnt x.chain : Int) + ((Lay.sl Lay.tNode).vcnt x.nodes : Int) + ((Lay.sl Lay.tMsg).vcnt x.msgs : Int) + ((Lay.sl Lay.tEntry).vcnt x.history : Int) by rw [uh HV]; omega]
  rfl
 have e := uh HBL
 subst e
 rw [uh HM]
 exact mkOwn_World (x := ⟨x.now, x.events, Lay.tChain.mkv (k) x.chain, (Lay.sl Lay.tNode).mkv (k + (Lay.tChain.vcnt x.chain : Int)) x.nodes, (Lay.sl Lay.tMsg).mkv (k + (Lay.tChain.vcnt x.chain : Int) + ((Lay.sl Lay.tNode).vcnt x.nodes : Int)) x.msgs, (Lay.sl Lay.tEntry).mkv (k + (Lay.tChain.vcnt x.chain : Int) + ((Lay.sl Lay.tNode).vcnt x.nodes : Int) + ((Lay.sl Lay.tMsg).vcnt x.msgs : Int)) x.history⟩) (uh P2) (uh P4) (uh P5) (uh P6) v0 v1 (uh HN)
structure DWorldResult where
 code : Int
 moved : Bool
 world : DWorld
def Lay.tWorldResult : Lay DWorldResult := Lay.via (Lay.pair Lay.int (Lay.pair Lay.bool Lay.tWorld)) (fun x => (x.code, x.moved, x.world)) (fun p => ⟨p.1, p.2.1, p.2.2⟩)
theorem lies_WorldResult {w : World} {cs : List Value} {x : DWorldResult} {bl : List Nat} : Lay.tWorldResult.lies w cs x bl ↔ ∃ (a5 : Option Addr) (d5 : Nat) (b5 : List Nat) (a6 : Option Addr) (d6 : Nat) (b6 : List Nat) (a7 : Option Addr) (d7 : Nat) (b7 : List Nat) (a8 : Option Addr) (d8 : Nat) (b8 : List Nat), cs = [.int .i64 x.code, .bool x.moved, .int .i64 x.world.now, .int .i64 x.world.events, .int .i64 x.world.chain.epoch, .slice a5 x.world.chain.ids.length d5, .slice a6 x.world.nodes.length d6, .slice a7 x.world.msgs.length d7, .slice a8 x.world.history.length d8] ∧ bl = b5 ++ (b6 ++ (b7 ++ b8)) ∧ (Lit.int .i64 x.code).wf = true ∧ (Lit.int .i64 x.world.now).wf = true ∧ (Lit.int .i64 x.world.events).wf = true ∧ (Lit.int .i64 x.world.chain.epoch).wf = true ∧ (Lay.sl Lay.int).lies w [.slice a5 x.world.chain.ids.length d5] x.world.chain.ids b5 ∧ (Lay.sl Lay.tNode).lies w [.slice a6 x.world.nodes.length d6] x.world.nodes b6 ∧ (Lay.sl Lay.tMsg).lies w [.slice a7 x.world.msgs.length d7] x.world.msgs b7 ∧ (Lay.sl Lay.tEntry).lies w [.slice a8 x.world.history.length d8] x.world.history b8 := by
 constructor
 ·
  intro h
  obtain ⟨c0_, r0_, e0_, s0_, rfl, rfl, h0, ⟨c1_, r1_, e1_, s1_, rfl, rfl, h1, h2⟩⟩ := h
  obtain ⟨rfl, w0, rfl⟩ := h0
  obtain ⟨rfl, rfl⟩ := h1
  obtain ⟨a5, d5, q5, a6, d6, q6, a7, d7, q7, a8, d8, q8, rfl, hq2, w2, w3, w4, l5, l6, l7, l8⟩ := lies_World.1 h2
  exact ⟨a5, d5, q5, a6, d6, q6, a7, d7, q7, a8, d8, q8, by simp, by simp [hq2], w0, w2, w3, w4, l5, l6, l7, l8⟩
 rintro ⟨a5, d5, b5, a6, d6, b6, a7, d7, b7, a8, d8, b8, rfl, hbl, w0, w2, w3, w4, l5, l6, l7, l8⟩
 rw [hbl]
 exact ⟨[.int .i64 x.code], [.bool x.moved] ++ [.int .i64 x.world.now, .int .i64 x.world.events, .int .i64 x.world.chain.epoch, .slice a5 x.world.chain.ids.length d5, .slice a6 x.world.nodes.length d6, .slice a7 x.world.msgs.length d7, .slice a8 x.world.history.length d8], [], [] ++ (b5 ++ (b6 ++ (b7 ++ b8))), rfl, by simp, ⟨rfl, w0, rfl⟩, ⟨[.bool x.moved], [.int .i64 x.world.now, .int .i64 x.world.events, .int .i64 x.world.chain.epoch, .slice a5 x.world.chain.ids.length d5, .slice a6 x.world.nodes.length d6, .slice a7 x.world.msgs.length d7, .slice a8 x.world.history.length d8], [], b5 ++ (b6 ++ (b7 ++ b8)), rfl, by simp, ⟨rfl, rfl⟩, lies_World.2 ⟨a5, d5, b5, a6, d6, b6, a7, d7, b7, a8, d8, b8, rfl, rfl, w2, w3, w4, l5, l6, l7, l8⟩⟩⟩
theorem open_WorldResult {w : World} {cs : List Value} {x : DWorldResult} (h : Lay.tWorldResult.Reads w cs x) : ∃ (a5 : Option Addr) (d5 : Nat) (a6 : Option Addr) (d6 : Nat) (a7 : Option Addr) (d7 : Nat) (a8 : Option Addr) (d8 : Nat), cs = [.int .i64 x.code, .bool x.moved, .int .i64 x.world.now, .int .i64 x.world.events, .int .i64 x.world.chain.epoch, .slice a5 x.world.chain.ids.length d5, .slice a6 x.world.nodes.length d6, .slice a7 x.world.msgs.length d7, .slice a8 x.world.history.length d8] ∧ Lay.tWorld.Reads w [.int .i64 x.world.now, .int .i64 x.world.events, .int .i64 x.world.chain.epoch, .slice a5 x.world.chain.ids.length d5, .slice a6 x.world.nodes.length d6, .slice a7 x.world.msgs.length d7, .slice a8 x.world.history.length d8] x.world := by
 obtain ⟨bl, h⟩ := h
 obtain ⟨a5, d5, b5, a6, d6, b6, a7, d7, b7, a8, d8, b8, rfl, -, w0, w2, w3, w4, l5, l6, l7, l8⟩ := lies_WorldResult.1 h
 exact ⟨a5, d5, a6, d6, a7, d7, a8, d8, rfl, ⟨_, lies_World.2 ⟨a5, d5, _, a6, d6, _, a7, d7, _, a8, d8, _, rfl, rfl, w2, w3, w4, l5, l6, l7, l8⟩⟩⟩
theorem eq_WorldResult (cs cs2 : List Value) (x : DWorldResult) (w : World) (h : Lay.tWorldResult.Reads w cs x) (h2 : Lay.tWorldResult.Reads w cs2 x) :
  Calls Tryz.prog 19 #[.agg cs.toArray, .agg cs2.toArray] w fun e w' => e = .returned (.bool true) ∧ Below w.heap.size w w' := by
 obtain ⟨a5, d5, a6, d6, a7, d7, a8, d8, rfl, R2⟩ := open_WorldResult h
 obtain ⟨a5z, d5z, a6z, d6z, a7z, d7z, a8z, d8z, rfl, R2z⟩ := open_WorldResult h2
 clear h h2
 have e0 : (x.code != x.code) = false := by simp
 have e1 : (x.moved != x.moved) = false := by simp
 have e2 : (x.world.now != x.world.now) = false := by simp
 have e3 : (x.world.events != x.world.events) = false := by simp
 have e4 : (x.world.chain.epoch != x.world.chain.epoch) = false := by simp
 have HB0 : Below w.heap.size w ((w.alloc (.cells #[.int .i64 x.code, .bool x.moved, .int .i64 x.world.now, .int .i64 x.world.events, .int .i64 x.world.chain.epoch, .slice a5 x.world.chain.ids.length d5, .slice a6 x.world.nodes.length d6, .slice a7 x.world.msgs.length d7, .slice a8 x.world.history.length d8] 38)).alloc (.cells #[.int .i64 x.code, .bool x.moved, .int .i64 x.world.now, .int .i64 x.world.events, .int .i64 x.world.chain.epoch, .slice a5z x.world.chain.ids.length d5z, .slice a6z x.world.nodes.length d6z, .slice a7z x.world.msgs.length d7z, .slice a8z x.world.history.length d8z] 38)) := ((Below.refl _ _).alloc (Nat.le_refl _) _).alloc (by simp) _
 have bA : Box w.heap.size #[.int .i64 x.code, .bool x.moved, .int .i64 x.world.now, .int .i64 x.world.events, .int .i64 x.world.chain.epoch, .slice a5 x.world.chain.ids.length d5, .slice a6 x.world.nodes.length d6, .slice a7 x.world.msgs.length d7, .slice a8 x.world.history.length d8] 38 ((w.alloc (.cells #[.int .i64 x.code, .bool x.moved, .int .i64 x.world.now, .int .i64 x.world.events, .int .i64 x.world.chain.epoch, .slice a5 x.world.chain.ids.length d5, .slice a6 x.world.nodes.length d6, .slice a7 x.world.msgs.length d7, .slice a8 x.world.history.length d8] 38)).alloc (.cells #[.int .i64 x.code, .bool x.moved, .int .i64 x.world.now, .int .i64 x.world.events, .int .i64 x.world.chain.epoch, .slice a5z x.world.chain.ids.length d5z, .slice a6z x.world.nodes.length d6z, .slice a7z x.world.msgs.length d7z, .slice a8z x.world.history.length d8z] 38)) w.heap.size := (newBox (Nat.le_refl _)).grow _
 have bC : Box w.heap.size #[.int .i64 x.code, .bool x.moved, .int .i64 x.world.now, .int .i64 x.world.events, .int .i64 x.world.chain.epoch, .slice a5z x.world.chain.ids.length d5z, .slice a6z x.world.nodes.length d6z, .slice a7z x.world.msgs.length d7z, .slice a8z x.world.history.length d8z] 38 ((w.alloc (.cells #[.int .i64 x.code, .bool x.moved, .int .i64 x.world.now, .int .i64 x.world.events, .int .i64 x.world.chain.epoch, .slice a5 x.world.chain.ids.length d5, .slice a6 x.world.nodes.length d6, .slice a7 x.world.msgs.length d7, .slice a8 x.world.history.length d8] 38)).alloc (.cells #[.int .i64 x.code, .bool x.moved, .int .i64 x.world.now, .int .i64 x.world.events, .int .i64 x.world.chain.epoch, .slice a5z x.world.chain.ids.length d5z, .slice a6z x.world.nodes.length d6z, .slice a7z x.world.msgs.length d7z, .slice a8z x.world.history.length d8z] 38)) (w.heap.size + 1) := newBoxAt (by omega) (by simp)
 go_enter Tryz.func19, Tryz.ntmps19
 go_wp2_with fail
 generalize (w.alloc (.cells #[.int .i64 x.code, .bool x.moved, .int .i64 x.world.now, .int .i64 x.world.events, .int .i64 x.world.chain.epoch, .slice a5 x.world.chain.ids.length d5, .slice a6 x.world.nodes.length d6, .slice a7 x.world.msgs.length d7, .slice a8 x.world.history.length d8] 38)).alloc (.cells #[.int .i64 x.code, .bool x.moved, .int .i64 x.world.now, .int .i64 x.world.events, .int .i64 x.world.chain.epoch, .slice a5z x.world.chain.ids.length d5z, .slice a6z x.world.nodes.length d6z, .slice a7z x.world.msgs.length d7z, .slice a8z x.world.history.length d8z] 38) = W0 at *
 replace R2 := R2.later HB0
 replace R2z := R2z.later HB0
 refine (eq_World _ _ x.world _ R2 R2z).mono ?_
 rintro e w1 ⟨rfl, hb⟩
 replace bA := bA.keep hb
 replace bC := bC.keep hb
 replace HB0 := HB0.trans (hb.mono HB0.size)
 clear hb
 have HB := yh HB0
 have HA := yh bA
 have HC := yh bC
 clear HB0 bA bC
 go_wp2_with fail
 go_ret
 exact ⟨rfl, uh HB⟩
theorem vcnt_WorldResult (x : DWorldResult) : Lay.tWorldResult.vcnt x = Lay.tWorld.vcnt x.world := by
 show 0 + (0 + (Lay.tWorld.vcnt x.world)) = Lay.tWorld.vcnt x.world
 omega
theorem mkv_WorldResult (k : Int) (x : DWorldResult) : Lay.tWorldResult.mkv k x = ⟨x.code, x.moved, Lay.tWorld.mkv (k) x.world⟩ := by
 simp [Lay.tWorldResult, Lay.via, Lay.pair, Lay.int, Lay.bool]
theorem own_WorldResult {w : World} {cs : List Value} {x : DWorldResult} {bl : List Nat} (h : Lay.tWorldResult.Own w cs x bl) : ∃ (a5 : Option Addr) (d5 : Nat) (a6 : Option Addr) (d6 : Nat) (a7 : Option Addr) (d7 : Nat) (a8 : Option Addr) (d8 : Nat) (g2 : List Nat), cs = [.int .i64 x.code, .bool x.moved, .int .i64 x.world.now, .int .i64 x.world.events, .int .i64 x.world.chain.epoch, .slice a5 x.world.chain.ids.length d5, .slice a6 x.world.nodes.length d6, .slice a7 x.world.msgs.length d7, .slice a8 x.world.history.length d8] ∧ bl = g2 ∧ Lay.tWorld.Own w [.int .i64 x.world.now, .int .i64 x.world.events, .int .i64 x.world.chain.epoch, .slice a5 x.world.chain.ids.length d5, .slice a6 x.world.nodes.length d6, .slice a7 x.world.msgs.length d7, .slice a8 x.world.history.length d8] x.world g2 ∧ (Lit.int .i64 x.code).wf = true := by
 obtain ⟨hl, hn, hf⟩ := h
 obtain ⟨a5, d5, b5, a6, d6, b6, a7, d7, b7, a8, d8, b8, rfl, hbl, w0, w2, w3, w4, l5, l6, l7, l8⟩ := lies_WorldResult.1 hl
 rw [hbl] at hn hf
 simp only [List.nodup_append, List.mem_append] at hn hf
 exact ⟨a5, d5, a6, d6, a7, d7, a8, d8, (b5 ++ (b6 ++ (b7 ++ b8))), rfl, by first | exact hbl | (rw [hbl]; simp only [List.append_assoc]), ⟨lies_World.2 ⟨a5, d5, b5, a6, d6, b6, a7, d7, b7, a8, d8, b8, rfl, rfl, w2, w3, w4, l5, l6, l7, l8⟩, by simp_all [List.nodup_append], fun b hb => hf b (by simp_all)⟩, w0⟩
theorem mkOwn_WorldResult {w : World} {x : DWorldResult} {c2 : List Value} {g2 : List Nat} (O2 : Lay.tWorld.Own w c2 x.world g2) (v0 : (Lit.int .i64 x.code).wf = true) (hn : (g2).Nodup) : Lay.tWorldResult.Own w ([.int .i64 x.code] ++ ([.bool x.moved] ++ c2)) x (g2) := by
 refine ⟨⟨[.int .i64 x.code], [.bool x.moved] ++ c2, [], [] ++ g2, rfl, by simp, ⟨rfl, v0, rfl⟩, ⟨[.bool x.moved], c2, [], g2, rfl, rfl, ⟨rfl, rfl⟩, O2.1⟩⟩, hn, ?_⟩
 intro b hb o
 exact O2.2.2 b hb o
theorem mark_WorldResult (cs : List Value) (x : DWorldResult) (bl : List Nat) (k : Int) (w : World) (h : Lay.tWorldResult.Own w cs x bl) (hk : 0 ≤ k) (hk2 : k + Lay.tWorldResult.vcnt x ≤ 1000000000) :
  Calls Tryz.prog 22 #[.agg cs.toArray, .int .i64 k] w fun e w' => e = .returned (.int .i64 (k + Lay.tWorldResult.vcnt x)) ∧ Lay.tWorldResult.Own w' cs (Lay.tWorldResult.mkv k x) bl ∧ Ext (fun q => q ∈ bl) w w' := by
 have hlt := h.lt
 have hnd := h.2.1
 rw [vcnt_WorldResult] at hk2
 obtain ⟨a5, d5, a6, d6, a7, d7, a8, d8, g2, rfl, hbl, O2, v0⟩ := own_WorldResult h
 clear h
 have HB0 : Below w.heap.size w (w.alloc (.cells #[.int .i64 x.code, .bool x.moved, .int .i64 x.world.now, .int .i64 x.world.events, .int .i64 x.world.chain.epoch, .slice a5 x.world.chain.ids.length d5, .slice a6 x.world.nodes.length d6, .slice a7 x.world.msgs.length d7, .slice a8 x.world.history.length d8] 38)) := (Below.refl _ _).alloc (Nat.le_refl _) _
 have bA : Box w.heap.size #[.int .i64 x.code, .bool x.moved, .int .i64 x.world.now, .int .i64 x.world.events, .int .i64 x.world.chain.epoch, .slice a5 x.world.chain.ids.length d5, .slice a6 x.world.nodes.length d6, .slice a7 x.world.msgs.length d7, .slice a8 x.world.history.length d8] 38 (w.alloc (.cells #[.int .i64 x.code, .bool x.moved, .int .i64 x.world.now, .int .i64 x.world.events, .int .i64 x.world.chain.epoch, .slice a5 x.world.chain.ids.length d5, .slice a6 x.world.nodes.length d6, .slice a7 x.world.msgs.length d7, .slice a8 x.world.history.length d8] 38)) w.heap.size := newBox (Nat.le_refl _)
 have HN := yh hnd
 have HV := yh (vcnt_WorldResult x)
 have HM := yh (mkv_WorldResult k x)
 clear hnd
 go_enter Tryz.func22, Tryz.ntmps22
 go_wp2_with fail
 generalize w.alloc (.cells #[.int .i64 x.code, .bool x.moved, .int .i64 x.world.now, .int .i64 x.world.events, .int .i64 x.world.chain.epoch, .slice a5 x.world.chain.ids.length d5, .slice a6 x.world.nodes.length d6, .slice a7 x.world.msgs.length d7, .slice a8 x.world.history.length d8] 38) = W0 at *
 replace O2 := O2.later HB0
 have hsz := HB0.size
 have EX : Ext (fun q => q ∈ bl) w W0 := ext_of_below HB0 _
 have hs0 := bA.lt
 refine (mark_World _ x.world g2 (k) _ O2 (by omega) (by omega)).mono ?_
 rintro e w1 ⟨rfl, Q2, E2⟩
 replace EX := EX.trans (E2.mono fun b _ hb => by rw [hbl]; simp [hb])
 replace bA := bA.ext E2 (fun hm => by have := hlt w.heap.size (by rw [hbl]; simp [hm]); omega)
 clear E2
 have HA := yh bA
 have HX := yh EX
 have HL := yh hlt
 have HBL := yh hbl
 clear bA EX hlt hbl
 have P2 := yh Q2
 clear Q2
 clear O2
 go_wp2_with fail
 go_ret
 refine ⟨?_, ?_, uh HX⟩
 ·
  rw [show k + (Lay.tWorldResult.vcnt x : Int) = k + (Lay.tWorld.vcnt x.world : Int) by rw [uh HV]]
  rfl
 have e := uh HBL
 subst e
 rw [uh HM]
 exact mkOwn_WorldResult (x := ⟨x.code, x.moved, Lay.tWorld.mkv (k) x.world⟩) (uh P2) v0 (uh HN)
theorem held_Chain (cs : List Value) (x : DChain) (k : Int) (w : World) (h : Lay.tChain.Reads w cs (Lay.tChain.mkv k x)) (hk : 0 ≤ k) (hk2 : k + Lay.tChain.vcnt x ≤ 1000000000) :
  Calls Tryz.prog 147 #[.agg cs.toArray, .int .i64 k] w fun e w' => e = .returned (.int .i64 (k + Lay.tChain.vcnt x)) ∧ Below w.heap.size w w' := by
 rw [mkv_Chain] at h
 rw [vcnt_Chain] at hk2
 have HV := yh (vcnt_Chain x)
 obtain ⟨a1, d1, rfl, R1⟩ := open_Chain h
 clear h
 generalize hn1 : (⟨x.epoch, (Lay.sl Lay.int).mkv (k) x.ids⟩ : DChain).ids.length = n1 at *
 clear hn1
 have HB0 : Below w.heap.size w (w.alloc (.cells #[.int .i64 x.epoch, .slice a1 n1 d1] 31)) := (Below.refl _ _).alloc (Nat.le_refl _) _
 have bA : Box w.heap.size #[.int .i64 x.epoch, .slice a1 n1 d1] 31 (w.alloc (.cells #[.int .i64 x.epoch, .slice a1 n1 d1] 31)) w.heap.size := newBox (Nat.le_refl _)
 go_enter Tryz.func147, Tryz.ntmps147
 go_wp2_with fail
 generalize w.alloc (.cells #[.int .i64 x.epoch, .slice a1 n1 d1] 31) = W0 at *
 replace R1 := R1.later HB0
 refine (held_Int64S _ x.ids (k) _ R1 (by omega) (by omega)).mono ?_
 rintro e w1 ⟨rfl, hb⟩
 replace HB0 := HB0.trans (hb.mono HB0.size)
 replace bA := bA.keep hb
 have HA := yh bA
 have HX := yh HB0
 clear bA HB0 hb R1
 have hq : decide (k + ((Lay.sl Lay.int).vcnt x.ids : Int) < 0) = false := by simp; omega
 go_wp2_with fail
 clear hq
 go_ret
 refine ⟨?_, uh HX⟩
 rw [show k + (Lay.tChain.vcnt x : Int) = k + ((Lay.sl Lay.int).vcnt x.ids : Int) by rw [uh HV]]
 rfl
theorem heldWrite_pos (b off cap : Nat) (xs : List DWrite) (k : Int) (w : World) (h : (Lay.sl Lay.tWrite).Reads w [.slice (some ⟨b, off, none⟩) (mkAll Lay.tWrite.cnt Lay.tWrite.mkd k xs).length cap] (mkAll Lay.tWrite.cnt Lay.tWrite.mkd k xs)) (hbl : b < w.heap.size) (hk : 0 ≤ k) (hk2 : k + (cntAll Lay.tWrite.cnt xs : Nat) ≤ 1000000000) :
  Calls Tryz.prog 221 #[.slice (some ⟨b, off, none⟩) xs.length cap, .int .i64 k] w fun e w' => e = .returned (.int .i64 (k + (cntAll Lay.tWrite.cnt xs : Nat))) ∧ Below w.heap.size w w' := by
 have hbig := h.big
 rw [mkAll_size] at hbig
 have H := yh h
 clear h
 go_enter Tryz.func221, Tryz.ntmps221
 go_wp2_with fail
 go_loopw [1, 5] (fun kk i wr => ∃ (j : Nat) (kj : Int), j ≤ xs.length ∧ i = .int .i64 j ∧ kj = k + (cntAll Lay.tWrite.cnt (xs.take j) : Nat) ∧ kk = .int .i64 kj ∧ Below w.heap.size w wr) (fun _ i _ => xs.length - (intOf i).toNat)
 case atStart => exact ⟨0, k, Nat.zero_le _, rfl, by simp [cntAll], rfl, Below.refl _ _⟩
 case round =>
  obtain ⟨j, kj, hj, rfl, hkj, rfl, hB⟩ := hrel
  by_cases hlt : j < xs.length
  ·
   have hj2 : j < (mkAll Lay.tWrite.cnt Lay.tWrite.mkd k xs).length := by rw [mkAll_size]; exact hlt
   obtain ⟨row, hc, hr⟩ := Lay.row_at (uh H) hj2
   rw [mkAll_at _ _ _ _ _ hlt hj2, ← hkj, mkd_Write] at hr
   have HT := yh (Lay.cntAll_take (f := Lay.tWrite.cnt) hlt)
   have hle := Lay.cntAll_take_le (f := Lay.tWrite.cnt) (xs := xs) (k := j + 1)
   rw [uh HT] at hle
   clear hj2
   generalize hx : xs[j] = x at *
   clear hx
   have hcn := cnt_Write x
   have hb1 : 0 ≤ kj := by omega
   have hb2 : kj + (Lay.tWrite.cnt x : Int) ≤ 1000000000 := by omega
   have HK := yh hkj
   clear hkj hle
   replace hr := hr.later hB
   obtain ⟨a2, d2, rfl, R2⟩ := open_Write hr
   clear hr
   generalize hn : (⟨kj, kj + 1, (Lay.sl Lay.int).mkv (kj + 1 + 1) x.vec, kj + 1 + 1 + ((Lay.sl Lay.int).vcnt x.vec : Nat), kj + 1 + 1 + ((Lay.sl Lay.int).vcnt x.vec : Nat) + 1⟩ : DWrite).vec.length = n1 at *
   clear hn
   have c0 : wr.cell? ⟨b, off + j * 5, none⟩ = some (.int .i64 (kj)) := (hB.cell (p := ⟨b, off + j * 5, none⟩) hbl).trans (hc 0 (by decide))
   have e0 : ((kj : Int) != (kj : Int)) = false := by simp
   have c1 : wr.cell? ⟨b, off + j * 5 + 1, none⟩ = some (.int .i64 (kj + 1)) := (hB.cell (p := ⟨b, off + j * 5 + 1, none⟩) hbl).trans (hc 1 (by decide))
   have e1 : ((kj + 1 : Int) != (kj + 1 : Int)) = false := by simp
   have c2 : wr.cell? ⟨b, off + j * 5 + 2, none⟩ = some (.slice a2 n1 d2) := (hB.cell (p := ⟨b, off + j * 5 + 2, none⟩) hbl).trans (hc 2 (by decide))
   have c3 : wr.cell? ⟨b, off + j * 5 + 3, none⟩ = some (.int .i64 (kj + 1 + 1 + ((Lay.sl Lay.int).vcnt x.vec : Nat))) := (hB.cell (p := ⟨b, off + j * 5 + 3, none⟩) hbl).trans (hc 3 (by decide))
   have e3 : ((kj + 1 + 1 + ((Lay.sl Lay.int).vcnt x.vec : Nat) : Int) != (kj + 1 + 1 + ((Lay.sl Lay.int).vcnt x.vec : Nat) : Int)) = false := by simp
   have c4 : wr.cell? ⟨b, off + j * 5 + 4, none⟩ = some (.int .i64 (kj + 1 + 1 + ((Lay.sl Lay.int).vcnt x.vec : Nat) + 1)) := (hB.cell (p := ⟨b, off + j * 5 + 4, none⟩) hbl).trans (hc 4 (by decide))
   have e4 : ((kj + 1 + 1 + ((Lay.sl Lay.int).vcnt x.vec : Nat) + 1 : Int) != (kj + 1 + 1 + ((Lay.sl Lay.int).vcnt x.vec : Nat) + 1 : Int)) = false := by simp
   have HB := yh hB
   clear hB hc
   go_wp2_with fail
   refine (held_Int64S _ x.vec (kj + 1 + 1) _ R2 (by omega) (by omega)).mono ?_
   rintro e w2 ⟨rfl, hb⟩
   have l1 : b < wr.heap.size := Nat.lt_of_lt_of_le hbl (uh HB).size
   replace c3 := (hb.cell (p := ⟨b, off + j * 5 + 3, none⟩) l1).trans c3
   replace c4 := (hb.cell (p := ⟨b, off + j * 5 + 4, none⟩) l1).trans c4
   replace HB := yh ((uh HB).trans (hb.mono (uh HB).size))
   clear hb R2 l1 c0 c1 c2
   have hq : decide (kj + 1 + 1 + ((Lay.sl Lay.int).vcnt x.vec : Int) < 0) = false := by simp; omega
   go_wp2_with fail
   go_roundw
   case rel => exact ⟨j + 1, _, by omega, by go_num, (by rw [uh HT, hcn]; have := uh HK; omega), rfl, uh HB⟩
   case measure => simp [intOf]; omega
  obtain rfl : j = xs.length := by omega
  rw [List.take_length] at hkj
  have HK := yh hkj
  have HB := yh hB
  clear hB hkj
  go_wp2_with fail
  go_ret
  exact ⟨by rw [← uh HK]; rfl, uh HB⟩
theorem heldWrite_zero (ao : Option Addr) (cap : Nat) (k : Int) (w : World) :
  Calls Tryz.prog 221 #[.slice ao 0 cap, .int .i64 k] w fun e w' => e = .returned (.int .i64 k) ∧ w' = w := by
 go_enter Tryz.func221, Tryz.ntmps221
 go_wp2_with fail
 refine wp_loop_rounds 1 ?_
 rw [rounds_succ]
 go_wp2_with fail
 go_ret
 exact ⟨rfl, rfl⟩
theorem held_WriteS (v : Value) (xs : List DWrite) (k : Int) (w : World) (h : (Lay.sl Lay.tWrite).Reads w [v] ((Lay.sl Lay.tWrite).mkv k xs)) (hk : 0 ≤ k) (hk2 : k + (Lay.sl Lay.tWrite).vcnt xs ≤ 1000000000) :
  Calls Tryz.prog 221 #[v, .int .i64 k] w fun e w' => e = .returned (.int .i64 (k + (Lay.sl Lay.tWrite).vcnt xs)) ∧ Below w.heap.size w w' := by
 rw [mkv_WriteS] at h
 obtain ⟨ao, cap, rfl⟩ := open_sl h
 by_cases hp : 0 < xs.length
 ·
  obtain ⟨b, off, rfl, hbl⟩ := Lay.sl_addr h (by rw [mkAll_size]; exact hp)
  have L := heldWrite_pos b off cap xs k w h hbl hk hk2
  rw [mkAll_size]
  exact L
 obtain rfl : xs = [] := List.eq_nil_of_length_eq_zero (by omega)
 refine (heldWrite_zero ao cap k w).mono ?_
 rintro e w' ⟨rfl, rfl⟩
 exact ⟨by rw [vcnt_WriteS]; simp [cntAll], Below.refl _ _⟩
theorem heldNode_pos (b off cap : Nat) (xs : List DNode) (k : Int) (w : World) (h : (Lay.sl Lay.tNode).Reads w [.slice (some ⟨b, off, none⟩) (mkAll Lay.tNode.cnt Lay.tNode.mkd k xs).length cap] (mkAll Lay.tNode.cnt Lay.tNode.mkd k xs)) (hbl : b < w.heap.size) (hk : 0 ≤ k) (hk2 : k + (cntAll Lay.tNode.cnt xs : Nat) ≤ 1000000000) :
  Calls Tryz.prog 148 #[.slice (some ⟨b, off, none⟩) xs.length cap, .int .i64 k] w fun e w' => e = .returned (.int .i64 (k + (cntAll Lay.tNode.cnt xs : Nat))) ∧ Below w.heap.size w w' := by
 have hbig := h.big
 rw [mkAll_size] at hbig
 have H := yh h
 clear h
 go_enter Tryz.func148, Tryz.ntmps148
 go_wp2_with fail
 go_loopw [1, 5] (fun kk i wr => ∃ (j : Nat) (kj : Int), j ≤ xs.length ∧ i = .int .i64 j ∧ kj = k + (cntAll Lay.tNode.cnt (xs.take j) : Nat) ∧ kk = .int .i64 kj ∧ Below w.heap.size w wr) (fun _ i _ => xs.length - (intOf i).toNat)
 case atStart => exact ⟨0, k, Nat.zero_le _, rfl, by simp [cntAll], rfl, Below.refl _ _⟩
 case round =>
  obtain ⟨j, kj, hj, rfl, hkj, rfl, hB⟩ := hrel
  by_cases hlt : j < xs.length
  ·
   have hj2 : j < (mkAll Lay.tNode.cnt Lay.tNode.mkd k xs).length := by rw [mkAll_size]; exact hlt
   obtain ⟨row, hc, hr⟩ := Lay.row_at (uh H) hj2
   rw [mkAll_at _ _ _ _ _ hlt hj2, ← hkj, mkd_Node] at hr
   have HT := yh (Lay.cntAll_take (f := Lay.tNode.cnt) hlt)
   have hle := Lay.cntAll_take_le (f := Lay.tNode.cnt) (xs := xs) (k := j + 1)
   rw [uh HT] at hle
   clear hj2
   generalize hx : xs[j] = x at *
   clear hx
   have hcn := cnt_Node x
   have hb1 : 0 ≤ kj := by omega
   have hb2 : kj + (Lay.tNode.cnt x : Int) ≤ 1000000000 := by omega
   have HK := yh hkj
   clear hkj hle
   replace hr := hr.later hB
   obtain ⟨a4, d4, rfl, R4⟩ := open_Node hr
   clear hr
   generalize hn4 : (⟨kj, ((kj + 1).tmod 3 == 0), kj + 1 + 1, kj + 1 + 1 + 1, (Lay.sl Lay.tWrite).mkv (kj + 1 + 1 + 1 + 1) x.writes, kj + 1 + 1 + 1 + 1 + ((Lay.sl Lay.tWrite).vcnt x.writes : Nat), kj + 1 + 1 + 1 + 1 + ((Lay.sl Lay.tWrite).vcnt x.writes : Nat) + 1⟩ : DNode).writes.length = n4 at *
   clear hn4
   have c0 : wr.cell? ⟨b, off + j * 7, none⟩ = some (.int .i64 (kj)) := (hB.cell (p := ⟨b, off + j * 7, none⟩) hbl).trans (hc 0 (by decide))
   have e0 : ((kj : Int) != (kj : Int)) = false := by simp
   have c1 : wr.cell? ⟨b, off + j * 7 + 1, none⟩ = some (.bool ((kj + 1) % 3 == 0)) := by rw [← Int.tmod_eq_emod_of_nonneg (show (0 : Int) ≤ kj + 1 by omega)]; exact (hB.cell (p := ⟨b, off + j * 7 + 1, none⟩) hbl).trans (hc 1 (by decide))
   have e1 : (((kj + 1) % 3 == 0) != ((kj + 1) % 3 == 0)) = false := by simp
   have c2 : wr.cell? ⟨b, off + j * 7 + 2, none⟩ = some (.int .i64 (kj + 1 + 1)) := (hB.cell (p := ⟨b, off + j * 7 + 2, none⟩) hbl).trans (hc 2 (by decide))
   have e2 : ((kj + 1 + 1 : Int) != (kj + 1 + 1 : Int)) = false := by simp
   have c3 : wr.cell? ⟨b, off + j * 7 + 3, none⟩ = some (.int .i64 (kj + 1 + 1 + 1)) := (hB.cell (p := ⟨b, off + j * 7 + 3, none⟩) hbl).trans (hc 3 (by decide))
   have e3 : ((kj + 1 + 1 + 1 : Int) != (kj + 1 + 1 + 1 : Int)) = false := by simp
   have c4 : wr.cell? ⟨b, off + j * 7 + 4, none⟩ = some (.slice a4 n4 d4) := (hB.cell (p := ⟨b, off + j * 7 + 4, none⟩) hbl).trans (hc 4 (by decide))
   have c5 : wr.cell? ⟨b, off + j * 7 + 5, none⟩ = some (.int .i64 (kj + 1 + 1 + 1 + 1 + ((Lay.sl Lay.tWrite).vcnt x.writes : Nat))) := (hB.cell (p := ⟨b, off + j * 7 + 5, none⟩) hbl).trans (hc 5 (by decide))
   have e5 : ((kj + 1 + 1 + 1 + 1 + ((Lay.sl Lay.tWrite).vcnt x.writes : Nat) : Int) != (kj + 1 + 1 + 1 + 1 + ((Lay.sl Lay.tWrite).vcnt x.writes : Nat) : Int)) = false := by simp
   have c6 : wr.cell? ⟨b, off + j * 7 + 6, none⟩ = some (.int .i64 (kj + 1 + 1 + 1 + 1 + ((Lay.sl Lay.tWrite).vcnt x.writes : Nat) + 1)) := (hB.cell (p := ⟨b, off + j * 7 + 6, none⟩) hbl).trans (hc 6 (by decide))
   have e6 : ((kj + 1 + 1 + 1 + 1 + ((Lay.sl Lay.tWrite).vcnt x.writes : Nat) + 1 : Int) != (kj + 1 + 1 + 1 + 1 + ((Lay.sl Lay.tWrite).vcnt x.writes : Nat) + 1 : Int)) = false := by simp
   have l1 : b < wr.heap.size := Nat.lt_of_lt_of_le hbl hB.size
   have HB := yh hB
   clear hB hc
   have P4 := yh R4
   clear R4
   go_wp2_with fail
   refine (held_WriteS _ x.writes (kj + 1 + 1 + 1 + 1) _ (uh P4) (by omega) (by omega)).mono ?_
   rintro e u0 ⟨rfl, hb⟩
   replace c5 := (hb.cell (p := ⟨b, off + j * 7 + 5, none⟩) l1).trans c5
   replace c6 := (hb.cell (p := ⟨b, off + j * 7 + 6, none⟩) l1).trans c6
   replace HB := yh ((uh HB).trans (hb.mono (uh HB).size))
   replace l1 := Nat.lt_of_lt_of_le l1 hb.size
   clear hb P4 c4
   have hq : decide (kj + 1 + 1 + 1 + 1 + ((Lay.sl Lay.tWrite).vcnt x.writes : Int) < 0) = false := by simp; omega
   go_wp2_with fail
   go_roundw
   case rel => exact ⟨j + 1, _, by omega, by go_num, (by rw [uh HT, hcn]; have := uh HK; omega), rfl, uh HB⟩
   case measure => simp [intOf]; omega
  obtain rfl : j = xs.length := by omega
  rw [List.take_length] at hkj
  have HK := yh hkj
  have HB := yh hB
  clear hB hkj
  go_wp2_with fail
  go_ret
  exact ⟨by rw [← uh HK]; rfl, uh HB⟩
theorem heldNode_zero (ao : Option Addr) (cap : Nat) (k : Int) (w : World) :
  Calls Tryz.prog 148 #[.slice ao 0 cap, .int .i64 k] w fun e w' => e = .returned (.int .i64 k) ∧ w' = w := by
 go_enter Tryz.func148, Tryz.ntmps148
 go_wp2_with fail
 refine wp_loop_rounds 1 ?_
 rw [rounds_succ]
 go_wp2_with fail
 go_ret
 exact ⟨rfl, rfl⟩
theorem held_NodeS (v : Value) (xs : List DNode) (k : Int) (w : World) (h : (Lay.sl Lay.tNode).Reads w [v] ((Lay.sl Lay.tNode).mkv k xs)) (hk : 0 ≤ k) (hk2 : k + (Lay.sl Lay.tNode).vcnt xs ≤ 1000000000) :
  Calls Tryz.prog 148 #[v, .int .i64 k] w fun e w' => e = .returned (.int .i64 (k + (Lay.sl Lay.tNode).vcnt xs)) ∧ Below w.heap.size w w' := by
 rw [mkv_NodeS] at h
 obtain ⟨ao, cap, rfl⟩ := open_sl h
 by_cases hp : 0 < xs.length
 ·
  obtain ⟨b, off, rfl, hbl⟩ := Lay.sl_addr h (by rw [mkAll_size]; exact hp)
  have L := heldNode_pos b off cap xs k w h hbl hk hk2
  rw [mkAll_size]
  exact L
 obtain rfl : xs = [] := List.eq_nil_of_length_eq_zero (by omega)
 refine (heldNode_zero ao cap k w).mono ?_
 rintro e w' ⟨rfl, rfl⟩
 exact ⟨by rw [vcnt_NodeS]; simp [cntAll], Below.refl _ _⟩
theorem heldMsg_pos (b off cap : Nat) (xs : List DMsg) (k : Int) (w : World) (h : (Lay.sl Lay.tMsg).Reads w [.slice (some ⟨b, off, none⟩) (mkAll Lay.tMsg.cnt Lay.tMsg.mkd k xs).length cap] (mkAll Lay.tMsg.cnt Lay.tMsg.mkd k xs)) (hbl : b < w.heap.size) (hk : 0 ≤ k) (hk2 : k + (cntAll Lay.tMsg.cnt xs : Nat) ≤ 1000000000) :
  Calls Tryz.prog 149 #[.slice (some ⟨b, off, none⟩) xs.length cap, .int .i64 k] w fun e w' => e = .returned (.int .i64 (k + (cntAll Lay.tMsg.cnt xs : Nat))) ∧ Below w.heap.size w w' := by
 have hbig := h.big
 rw [mkAll_size] at hbig
 have H := yh h
 clear h
 go_enter Tryz.func149, Tryz.ntmps149
 go_wp2_with fail
 go_loopw [1, 5] (fun kk i wr => ∃ (j : Nat) (kj : Int), j ≤ xs.length ∧ i = .int .i64 j ∧ kj = k + (cntAll Lay.tMsg.cnt (xs.take j) : Nat) ∧ kk = .int .i64 kj ∧ Below w.heap.size w wr) (fun _ i _ => xs.length - (intOf i).toNat)
 case atStart => exact ⟨0, k, Nat.zero_le _, rfl, by simp [cntAll], rfl, Below.refl _ _⟩
 case round =>
  obtain ⟨j, kj, hj, rfl, hkj, rfl, hB⟩ := hrel
  by_cases hlt : j < xs.length
  ·
   have hj2 : j < (mkAll Lay.tMsg.cnt Lay.tMsg.mkd k xs).length := by rw [mkAll_size]; exact hlt
   obtain ⟨row, hc, hr⟩ := Lay.row_at (uh H) hj2
   rw [mkAll_at _ _ _ _ _ hlt hj2, ← hkj, mkd_Msg] at hr
   have HT := yh (Lay.cntAll_take (f := Lay.tMsg.cnt) hlt)
   have hle := Lay.cntAll_take_le (f := Lay.tMsg.cnt) (xs := xs) (k := j + 1)
   rw [uh HT] at hle
   clear hj2
   generalize hx : xs[j] = x at *
   clear hx
   have hcn := cnt_Msg x
   have hb1 : 0 ≤ kj := by omega
   have hb2 : kj + (Lay.tMsg.cnt x : Int) ≤ 1000000000 := by omega
   have HK := yh hkj
   clear hkj hle
   replace hr := hr.later hB
   obtain ⟨a7, d7, rfl, RW⟩ := open_Msg hr
   obtain ⟨_, _, e9, R7⟩ := open_Write RW
   simp only [List.cons.injEq, Value.slice.injEq, true_and, and_true] at e9
   obtain ⟨rfl, rfl⟩ := e9
   clear hr RW
   generalize hn : (⟨kj, kj + 1, kj + 1 + 1, kj + 1 + 1 + 1, kj + 1 + 1 + 1 + 1, ⟨kj + 1 + 1 + 1 + 1 + 1, kj + 1 + 1 + 1 + 1 + 1 + 1, (Lay.sl Lay.int).mkv (kj + 1 + 1 + 1 + 1 + 1 + 1 + 1) x.write.vec, kj + 1 + 1 + 1 + 1 + 1 + 1 + 1 + ((Lay.sl Lay.int).vcnt x.write.vec : Nat), kj + 1 + 1 + 1 + 1 + 1 + 1 + 1 + ((Lay.sl Lay.int).vcnt x.write.vec : Nat) + 1⟩⟩ : DMsg).write.vec.length = n1 at *
   clear hn
   have c0 : wr.cell? ⟨b, off + j * 10, none⟩ = some (.int .i64 (kj)) := (hB.cell (p := ⟨b, off + j * 10, none⟩) hbl).trans (hc 0 (by decide))
   have e0 : ((kj : Int) != (kj : Int)) = false := by simp
   have c1 : wr.cell? ⟨b, off + j * 10 + 1, none⟩ = some (.int .i64 (kj + 1)) := (hB.cell (p := ⟨b, off + j * 10 + 1, none⟩) hbl).trans (hc 1 (by decide))
   have e1 : ((kj + 1 : Int) != (kj + 1 : Int)) = false := by simp
   have c2 : wr.cell? ⟨b, off + j * 10 + 2, none⟩ = some (.int .i64 (kj + 1 + 1)) := (hB.cell (p := ⟨b, off + j * 10 + 2, none⟩) hbl).trans (hc 2 (by decide))
   have e2 : ((kj + 1 + 1 : Int) != (kj + 1 + 1 : Int)) = false := by simp
   have c3 : wr.cell? ⟨b, off + j * 10 + 3, none⟩ = some (.int .i64 (kj + 1 + 1 + 1)) := (hB.cell (p := ⟨b, off + j * 10 + 3, none⟩) hbl).trans (hc 3 (by decide))
   have e3 : ((kj + 1 + 1 + 1 : Int) != (kj + 1 + 1 + 1 : Int)) = false := by simp
   have c4 : wr.cell? ⟨b, off + j * 10 + 4, none⟩ = some (.int .i64 (kj + 1 + 1 + 1 + 1)) := (hB.cell (p := ⟨b, off + j * 10 + 4, none⟩) hbl).trans (hc 4 (by decide))
   have e4 : ((kj + 1 + 1 + 1 + 1 : Int) != (kj + 1 + 1 + 1 + 1 : Int)) = false := by simp
   have c5 : wr.cell? ⟨b, off + j * 10 + 5, none⟩ = some (.int .i64 (kj + 1 + 1 + 1 + 1 + 1)) := (hB.cell (p := ⟨b, off + j * 10 + 5, none⟩) hbl).trans (hc 5 (by decide))
   have e5 : ((kj + 1 + 1 + 1 + 1 + 1 : Int) != (kj + 1 + 1 + 1 + 1 + 1 : Int)) = false := by simp
   have c6 : wr.cell? ⟨b, off + j * 10 + 6, none⟩ = some (.int .i64 (kj + 1 + 1 + 1 + 1 + 1 + 1)) := (hB.cell (p := ⟨b, off + j * 10 + 6, none⟩) hbl).trans (hc 6 (by decide))
   have e6 : ((kj + 1 + 1 + 1 + 1 + 1 + 1 : Int) != (kj + 1 + 1 + 1 + 1 + 1 + 1 : Int)) = false := by simp
   have c7 : wr.cell? ⟨b, off + j * 10 + 7, none⟩ = some (.slice a7 n1 d7) := (hB.cell (p := ⟨b, off + j * 10 + 7, none⟩) hbl).trans (hc 7 (by decide))
   have c8 : wr.cell? ⟨b, off + j * 10 + 8, none⟩ = some (.int .i64 (kj + 1 + 1 + 1 + 1 + 1 + 1 + 1 + ((Lay.sl Lay.int).vcnt x.write.vec : Nat))) := (hB.cell (p := ⟨b, off + j * 10 + 8, none⟩) hbl).trans (hc 8 (by decide))
   have e8 : ((kj + 1 + 1 + 1 + 1 + 1 + 1 + 1 + ((Lay.sl Lay.int).vcnt x.write.vec : Nat) : Int) != (kj + 1 + 1 + 1 + 1 + 1 + 1 + 1 + ((Lay.sl Lay.int).vcnt x.write.vec : Nat) : Int)) = false := by simp
   have c9 : wr.cell? ⟨b, off + j * 10 + 9, none⟩ = some (.int .i64 (kj + 1 + 1 + 1 + 1 + 1 + 1 + 1 + ((Lay.sl Lay.int).vcnt x.write.vec : Nat) + 1)) := (hB.cell (p := ⟨b, off + j * 10 + 9, none⟩) hbl).trans (hc 9 (by decide))
   have e9 : ((kj + 1 + 1 + 1 + 1 + 1 + 1 + 1 + ((Lay.sl Lay.int).vcnt x.write.vec : Nat) + 1 : Int) != (kj + 1 + 1 + 1 + 1 + 1 + 1 + 1 + ((Lay.sl Lay.int).vcnt x.write.vec : Nat) + 1 : Int)) = false := by simp
   have HB := yh hB
   clear hB hc
   go_wp2_with fail
   refine (held_Int64S _ x.write.vec (kj + 1 + 1 + 1 + 1 + 1 + 1 + 1) _ R7 (by omega) (by omega)).mono ?_
   rintro e w2 ⟨rfl, hb⟩
   have l1 : b < wr.heap.size := Nat.lt_of_lt_of_le hbl (uh HB).size
   replace c8 := (hb.cell (p := ⟨b, off + j * 10 + 8, none⟩) l1).trans c8
   replace c9 := (hb.cell (p := ⟨b, off + j * 10 + 9, none⟩) l1).trans c9
   replace HB := yh ((uh HB).trans (hb.mono (uh HB).size))
   clear hb R7 l1 c0 c1 c2 c3 c4 c5 c6 c7
   have hq : decide (kj + 1 + 1 + 1 + 1 + 1 + 1 + 1 + ((Lay.sl Lay.int).vcnt x.write.vec : Int) < 0) = false := by simp; omega
   go_wp2_with fail
   go_roundw
   case rel => exact ⟨j + 1, _, by omega, by go_num, (by rw [uh HT, hcn]; have := uh HK; omega), rfl, uh HB⟩
   case measure => simp [intOf]; omega
  obtain rfl : j = xs.length := by omega
  rw [List.take_length] at hkj
  have HK := yh hkj
  have HB := yh hB
  clear hB hkj
  go_wp2_with fail
  go_ret
  exact ⟨by rw [← uh HK]; rfl, uh HB⟩
theorem heldMsg_zero (ao : Option Addr) (cap : Nat) (k : Int) (w : World) :
  Calls Tryz.prog 149 #[.slice ao 0 cap, .int .i64 k] w fun e w' => e = .returned (.int .i64 k) ∧ w' = w := by
 go_enter Tryz.func149, Tryz.ntmps149
 go_wp2_with fail
 refine wp_loop_rounds 1 ?_
 rw [rounds_succ]
 go_wp2_with fail
 go_ret
 exact ⟨rfl, rfl⟩
theorem held_MsgS (v : Value) (xs : List DMsg) (k : Int) (w : World) (h : (Lay.sl Lay.tMsg).Reads w [v] ((Lay.sl Lay.tMsg).mkv k xs)) (hk : 0 ≤ k) (hk2 : k + (Lay.sl Lay.tMsg).vcnt xs ≤ 1000000000) :
  Calls Tryz.prog 149 #[v, .int .i64 k] w fun e w' => e = .returned (.int .i64 (k + (Lay.sl Lay.tMsg).vcnt xs)) ∧ Below w.heap.size w w' := by
 rw [mkv_MsgS] at h
 obtain ⟨ao, cap, rfl⟩ := open_sl h
 by_cases hp : 0 < xs.length
 ·
  obtain ⟨b, off, rfl, hbl⟩ := Lay.sl_addr h (by rw [mkAll_size]; exact hp)
  have L := heldMsg_pos b off cap xs k w h hbl hk hk2
  rw [mkAll_size]
  exact L
 obtain rfl : xs = [] := List.eq_nil_of_length_eq_zero (by omega)
 refine (heldMsg_zero ao cap k w).mono ?_
 rintro e w' ⟨rfl, rfl⟩
 exact ⟨by rw [vcnt_MsgS]; simp [cntAll], Below.refl _ _⟩
theorem heldHit_pos (b off cap : Nat) (xs : List DHit) (k : Int) (w : World) (h : (Lay.sl Lay.tHit).Reads w [.slice (some ⟨b, off, none⟩) (mkAll Lay.tHit.cnt Lay.tHit.mkd k xs).length cap] (mkAll Lay.tHit.cnt Lay.tHit.mkd k xs)) (hbl : b < w.heap.size) (hk : 0 ≤ k) (hk2 : k + (cntAll Lay.tHit.cnt xs : Nat) ≤ 1000000000) :
  Calls Tryz.prog 109 #[.slice (some ⟨b, off, none⟩) xs.length cap, .int .i64 k] w fun e w' => e = .returned (.int .i64 (k + (cntAll Lay.tHit.cnt xs : Nat))) ∧ Below w.heap.size w w' := by
 have hbig := h.big
 rw [mkAll_size] at hbig
 have H := yh h
 clear h
 go_enter Tryz.func109, Tryz.ntmps109
 go_wp2_with fail
 go_loopw [1, 5] (fun kk i wr => ∃ (j : Nat) (kj : Int), j ≤ xs.length ∧ i = .int .i64 j ∧ kj = k + (cntAll Lay.tHit.cnt (xs.take j) : Nat) ∧ kk = .int .i64 kj ∧ Below w.heap.size w wr) (fun _ i _ => xs.length - (intOf i).toNat)
 case atStart => exact ⟨0, k, Nat.zero_le _, rfl, by simp [cntAll], rfl, Below.refl _ _⟩
 case round =>
  obtain ⟨j, kj, hj, rfl, hkj, rfl, hB⟩ := hrel
  by_cases hlt : j < xs.length
  ·
   have hj2 : j < (mkAll Lay.tHit.cnt Lay.tHit.mkd k xs).length := by rw [mkAll_size]; exact hlt
   obtain ⟨row, hc, hr⟩ := Lay.row_at (uh H) hj2
   rw [mkAll_at _ _ _ _ _ hlt hj2, ← hkj, mkd_Hit] at hr
   have HT := yh (Lay.cntAll_take (f := Lay.tHit.cnt) hlt)
   have hle := Lay.cntAll_take_le (f := Lay.tHit.cnt) (xs := xs) (k := j + 1)
   rw [uh HT] at hle
   clear hj2
   generalize hx : xs[j] = x at *
   clear hx
   have hcn := cnt_Hit x
   have hb1 : 0 ≤ kj := by omega
   have hb2 : kj + (Lay.tHit.cnt x : Int) ≤ 1000000000 := by omega
   have HK := yh hkj
   clear hkj hle
   replace hr := hr.later hB
   obtain ⟨blo, hlo⟩ := hr
   obtain ⟨rfl, -⟩ := lies_Hit.1 hlo
   clear hlo
   have c0 : wr.cell? ⟨b, off + j * 2, none⟩ = some (.int .i64 (kj)) := (hB.cell (p := ⟨b, off + j * 2, none⟩) hbl).trans (hc 0 (by decide))
   have e0 : ((kj : Int) != (kj : Int)) = false := by simp
   have c1 : wr.cell? ⟨b, off + j * 2 + 1, none⟩ = some (.int .i64 (kj + 1)) := (hB.cell (p := ⟨b, off + j * 2 + 1, none⟩) hbl).trans (hc 1 (by decide))
   have e1 : ((kj + 1 : Int) != (kj + 1 : Int)) = false := by simp
   have HB := yh hB
   clear hB hc
   go_wp2_with fail
   go_roundw
   case rel => exact ⟨j + 1, _, by omega, by go_num, (by rw [uh HT, hcn]; have := uh HK; omega), rfl, uh HB⟩
   case measure => simp [intOf]; omega
  obtain rfl : j = xs.length := by omega
  rw [List.take_length] at hkj
  have HK := yh hkj
  have HB := yh hB
  clear hB hkj
  go_wp2_with fail
  go_ret
  exact ⟨by rw [← uh HK]; rfl, uh HB⟩
theorem heldHit_zero (ao : Option Addr) (cap : Nat) (k : Int) (w : World) :
  Calls Tryz.prog 109 #[.slice ao 0 cap, .int .i64 k] w fun e w' => e = .returned (.int .i64 k) ∧ w' = w := by
 go_enter Tryz.func109, Tryz.ntmps109
 go_wp2_with fail
 refine wp_loop_rounds 1 ?_
 rw [rounds_succ]
 go_wp2_with fail
 go_ret
 exact ⟨rfl, rfl⟩
theorem held_HitS (v : Value) (xs : List DHit) (k : Int) (w : World) (h : (Lay.sl Lay.tHit).Reads w [v] ((Lay.sl Lay.tHit).mkv k xs)) (hk : 0 ≤ k) (hk2 : k + (Lay.sl Lay.tHit).vcnt xs ≤ 1000000000) :
  Calls Tryz.prog 109 #[v, .int .i64 k] w fun e w' => e = .returned (.int .i64 (k + (Lay.sl Lay.tHit).vcnt xs)) ∧ Below w.heap.size w w' := by
 rw [mkv_HitS] at h
 obtain ⟨ao, cap, rfl⟩ := open_sl h
 by_cases hp : 0 < xs.length
 ·
  obtain ⟨b, off, rfl, hbl⟩ := Lay.sl_addr h (by rw [mkAll_size]; exact hp)
  have L := heldHit_pos b off cap xs k w h hbl hk hk2
  rw [mkAll_size]
  exact L
 obtain rfl : xs = [] := List.eq_nil_of_length_eq_zero (by omega)
 refine (heldHit_zero ao cap k w).mono ?_
 rintro e w' ⟨rfl, rfl⟩
 exact ⟨by rw [vcnt_HitS]; simp [cntAll], Below.refl _ _⟩
theorem heldEntry_pos (b off cap : Nat) (xs : List DEntry) (k : Int) (w : World) (h : (Lay.sl Lay.tEntry).Reads w [.slice (some ⟨b, off, none⟩) (mkAll Lay.tEntry.cnt Lay.tEntry.mkd k xs).length cap] (mkAll Lay.tEntry.cnt Lay.tEntry.mkd k xs)) (hbl : b < w.heap.size) (hk : 0 ≤ k) (hk2 : k + (cntAll Lay.tEntry.cnt xs : Nat) ≤ 1000000000) :
  Calls Tryz.prog 150 #[.slice (some ⟨b, off, none⟩) xs.length cap, .int .i64 k] w fun e w' => e = .returned (.int .i64 (k + (cntAll Lay.tEntry.cnt xs : Nat))) ∧ Below w.heap.size w w' := by
 have hbig := h.big
 rw [mkAll_size] at hbig
 have H := yh h
 clear h
 go_enter Tryz.func150, Tryz.ntmps150
 go_wp2_with fail
 go_loopw [1, 5] (fun kk i wr => ∃ (j : Nat) (kj : Int), j ≤ xs.length ∧ i = .int .i64 j ∧ kj = k + (cntAll Lay.tEntry.cnt (xs.take j) : Nat) ∧ kk = .int .i64 kj ∧ Below w.heap.size w wr) (fun _ i _ => xs.length - (intOf i).toNat)
 case atStart => exact ⟨0, k, Nat.zero_le _, rfl, by simp [cntAll], rfl, Below.refl _ _⟩
 case round =>
  obtain ⟨j, kj, hj, rfl, hkj, rfl, hB⟩ := hrel
  by_cases hlt : j < xs.length
  ·
   have hj2 : j < (mkAll Lay.tEntry.cnt Lay.tEntry.mkd k xs).length := by rw [mkAll_size]; exact hlt
   obtain ⟨row, hc, hr⟩ := Lay.row_at (uh H) hj2
   rw [mkAll_at _ _ _ _ _ hlt hj2, ← hkj, mkd_Entry] at hr
   have HT := yh (Lay.cntAll_take (f := Lay.tEntry.cnt) hlt)
   have hle := Lay.cntAll_take_le (f := Lay.tEntry.cnt) (xs := xs) (k := j + 1)
   rw [uh HT] at hle
   clear hj2
   generalize hx : xs[j] = x at *
   clear hx
   have hcn := cnt_Entry x
   have hb1 : 0 ≤ kj := by omega
   have hb2 : kj + (Lay.tEntry.cnt x : Int) ≤ 1000000000 := by omega
   have HK := yh hkj
   clear hkj hle
   replace hr := hr.later hB
   obtain ⟨a4, d4, a9, d9, a10, d10, rfl, R4, R9, R10⟩ := open_Entry hr
   clear hr
   generalize hn4 : (⟨kj, kj + 1, kj + 1 + 1, kj + 1 + 1 + 1, (Lay.sl Lay.int).mkv (kj + 1 + 1 + 1 + 1) x.query, kj + 1 + 1 + 1 + 1 + ((Lay.sl Lay.int).vcnt x.query : Nat), kj + 1 + 1 + 1 + 1 + ((Lay.sl Lay.int).vcnt x.query : Nat) + 1, kj + 1 + 1 + 1 + 1 + ((Lay.sl Lay.int).vcnt x.query : Nat) + 1 + 1, kj + 1 + 1 + 1 + 1 + ((Lay.sl Lay.int).vcnt x.query : Nat) + 1 + 1 + 1, (Lay.sl Lay.int).mkv (kj + 1 + 1 + 1 + 1 + ((Lay.sl Lay.int).vcnt x.query : Nat) + 1 + 1 + 1 + 1) x.vec, (Lay.sl Lay.tHit).mkv (kj + 1 + 1 + 1 + 1 + ((Lay.sl Lay.int).vcnt x.query : Nat) + 1 + 1 + 1 + 1 + ((Lay.sl Lay.int).vcnt x.vec : Nat)) x.hits⟩ : DEntry).query.length = n4 at *
   generalize hn9 : (⟨kj, kj + 1, kj + 1 + 1, kj + 1 + 1 + 1, (Lay.sl Lay.int).mkv (kj + 1 + 1 + 1 + 1) x.query, kj + 1 + 1 + 1 + 1 + ((Lay.sl Lay.int).vcnt x.query : Nat), kj + 1 + 1 + 1 + 1 + ((Lay.sl Lay.int).vcnt x.query : Nat) + 1, kj + 1 + 1 + 1 + 1 + ((Lay.sl Lay.int).vcnt x.query : Nat) + 1 + 1, kj + 1 + 1 + 1 + 1 + ((Lay.sl Lay.int).vcnt x.query : Nat) + 1 + 1 + 1, (Lay.sl Lay.int).mkv (kj + 1 + 1 + 1 + 1 + ((Lay.sl Lay.int).vcnt x.query : Nat) + 1 + 1 + 1 + 1) x.vec, (Lay.sl Lay.tHit).mkv (kj + 1 + 1 + 1 + 1 + ((Lay.sl Lay.int).vcnt x.query : Nat) + 1 + 1 + 1 + 1 + ((Lay.sl Lay.int).vcnt x.vec : Nat)) x.hits⟩ : DEntry).vec.length = n9 at *
   generalize hn10 : (⟨kj, kj + 1, kj + 1 + 1, kj + 1 + 1 + 1, (Lay.sl Lay.int).mkv (kj + 1 + 1 + 1 + 1) x.query, kj + 1 + 1 + 1 + 1 + ((Lay.sl Lay.int).vcnt x.query : Nat), kj + 1 + 1 + 1 + 1 + ((Lay.sl Lay.int).vcnt x.query : Nat) + 1, kj + 1 + 1 + 1 + 1 + ((Lay.sl Lay.int).vcnt x.query : Nat) + 1 + 1, kj + 1 + 1 + 1 + 1 + ((Lay.sl Lay.int).vcnt x.query : Nat) + 1 + 1 + 1, (Lay.sl Lay.int).mkv (kj + 1 + 1 + 1 + 1 + ((Lay.sl Lay.int).vcnt x.query : Nat) + 1 + 1 + 1 + 1) x.vec, (Lay.sl Lay.tHit).mkv (kj + 1 + 1 + 1 + 1 + ((Lay.sl Lay.int).vcnt x.query : Nat) + 1 + 1 + 1 + 1 + ((Lay.sl Lay.int).vcnt x.vec : Nat)) x.hits⟩ : DEntry).hits.length = n10 at *
   clear hn4 hn9 hn10
   have c0 : wr.cell? ⟨b, off + j * 11, none⟩ = some (.int .i64 (kj)) := (hB.cell (p := ⟨b, off + j * 11, none⟩) hbl).trans (hc 0 (by decide))
   have e0 : ((kj : Int) != (kj : Int)) = false := by simp
   have c1 : wr.cell? ⟨b, off + j * 11 + 1, none⟩ = some (.int .i64 (kj + 1)) := (hB.cell (p := ⟨b, off + j * 11 + 1, none⟩) hbl).trans (hc 1 (by decide))
   have e1 : ((kj + 1 : Int) != (kj + 1 : Int)) = false := by simp
   have c2 : wr.cell? ⟨b, off + j * 11 + 2, none⟩ = some (.int .i64 (kj + 1 + 1)) := (hB.cell (p := ⟨b, off + j * 11 + 2, none⟩) hbl).trans (hc 2 (by decide))
   have e2 : ((kj + 1 + 1 : Int) != (kj + 1 + 1 : Int)) = false := by simp
   have c3 : wr.cell? ⟨b, off + j * 11 + 3, none⟩ = some (.int .i64 (kj + 1 + 1 + 1)) := (hB.cell (p := ⟨b, off + j * 11 + 3, none⟩) hbl).trans (hc 3 (by decide))
   have e3 : ((kj + 1 + 1 + 1 : Int) != (kj + 1 + 1 + 1 : Int)) = false := by simp
   have c4 : wr.cell? ⟨b, off + j * 11 + 4, none⟩ = some (.slice a4 n4 d4) := (hB.cell (p := ⟨b, off + j * 11 + 4, none⟩) hbl).trans (hc 4 (by decide))
   have c5 : wr.cell? ⟨b, off + j * 11 + 5, none⟩ = some (.int .i64 (kj + 1 + 1 + 1 + 1 + ((Lay.sl Lay.int).vcnt x.query : Nat))) := (hB.cell (p := ⟨b, off + j * 11 + 5, none⟩) hbl).trans (hc 5 (by decide))
   have e5 : ((kj + 1 + 1 + 1 + 1 + ((Lay.sl Lay.int).vcnt x.query : Nat) : Int) != (kj + 1 + 1 + 1 + 1 + ((Lay.sl Lay.int).vcnt x.query : Nat) : Int)) = false := by simp
   have c6 : wr.cell? ⟨b, off + j * 11 + 6, none⟩ = some (.int .i64 (kj + 1 + 1 + 1 + 1 + ((Lay.sl Lay.int).vcnt x.query : Nat) + 1)) := (hB.cell (p := ⟨b, off + j * 11 + 6, none⟩) hbl).trans (hc 6 (by decide))
   have e6 : ((kj + 1 + 1 + 1 + 1 + ((Lay.sl Lay.int).vcnt x.query : Nat) + 1 : Int) != (kj + 1 + 1 + 1 + 1 + ((Lay.sl Lay.int).vcnt x.query : Nat) + 1 : Int)) = false := by simp
   have c7 : wr.cell? ⟨b, off + j * 11 + 7, none⟩ = some (.int .i64 (kj + 1 + 1 + 1 + 1 + ((Lay.sl Lay.int).vcnt x.query : Nat) + 1 + 1)) := (hB.cell (p := ⟨b, off + j * 11 + 7, none⟩) hbl).trans (hc 7 (by decide))
   have e7 : ((kj + 1 + 1 + 1 + 1 + ((Lay.sl Lay.int).vcnt x.query : Nat) + 1 + 1 : Int) != (kj + 1 + 1 + 1 + 1 + ((Lay.sl Lay.int).vcnt x.query : Nat) + 1 + 1 : Int)) = false := by simp
   have c8 : wr.cell? ⟨b, off + j * 11 + 8, none⟩ = some (.int .i64 (kj + 1 + 1 + 1 + 1 + ((Lay.sl Lay.int).vcnt x.query : Nat) + 1 + 1 + 1)) := (hB.cell (p := ⟨b, off + j * 11 + 8, none⟩) hbl).trans (hc 8 (by decide))
   have e8 : ((kj + 1 + 1 + 1 + 1 + ((Lay.sl Lay.int).vcnt x.query : Nat) + 1 + 1 + 1 : Int) != (kj + 1 + 1 + 1 + 1 + ((Lay.sl Lay.int).vcnt x.query : Nat) + 1 + 1 + 1 : Int)) = false := by simp
   have c9 : wr.cell? ⟨b, off + j * 11 + 9, none⟩ = some (.slice a9 n9 d9) := (hB.cell (p := ⟨b, off + j * 11 + 9, none⟩) hbl).trans (hc 9 (by decide))
   have c10 : wr.cell? ⟨b, off + j * 11 + 10, none⟩ = some (.slice a10 n10 d10) := (hB.cell (p := ⟨b, off + j * 11 + 10, none⟩) hbl).trans (hc 10 (by decide))
   have l1 : b < wr.heap.size := Nat.lt_of_lt_of_le hbl hB.size
   have HB := yh hB
   clear hB hc
   have P4 := yh R4
   clear R4
   have P9 := yh R9
   clear R9
   have P10 := yh R10
   clear R10
   go_wp2_with fail
   refine (held_Int64S _ x.query (kj + 1 + 1 + 1 + 1) _ (uh P4) (by omega) (by omega)).mono ?_
   rintro e u0 ⟨rfl, hb⟩
   replace c5 := (hb.cell (p := ⟨b, off + j * 11 + 5, none⟩) l1).trans c5
   replace c6 := (hb.cell (p := ⟨b, off + j * 11 + 6, none⟩) l1).trans c6
   replace c7 := (hb.cell (p := ⟨b, off + j * 11 + 7, none⟩) l1).trans c7
   replace c8 := (hb.cell (p := ⟨b, off + j * 11 + 8, none⟩) l1).trans c8
   replace c9 := (hb.cell (p := ⟨b, off + j * 11 + 9, none⟩) l1).trans c9
   replace c10 := (hb.cell (p := ⟨b, off + j * 11 + 10, none⟩) l1).trans c10
   replace P9 := yh ((uh P9).later hb)
   replace P10 := yh ((uh P10).later hb)
   replace HB := yh ((uh HB).trans (hb.mono (uh HB).size))
   replace l1 := Nat.lt_of_lt_of_le l1 hb.size
   clear hb P4 c4
   have hq : decide (kj + 1 + 1 + 1 + 1 + ((Lay.sl Lay.int).vcnt x.query : Int) < 0) = false := by simp; omega
   go_wp2_with fail
   refine (held_Int64S _ x.vec (kj + 1 + 1 + 1 + 1 + ((Lay.sl Lay.int).vcnt x.query : Nat) + 1 + 1 + 1 + 1) _ (uh P9) (by omega) (by omega)).mono ?_
   rintro e u1 ⟨rfl, hb⟩
   replace c10 := (hb.cell (p := ⟨b, off + j * 11 + 10, none⟩) l1).trans c10
   replace P10 := yh ((uh P10).later hb)
   replace HB := yh ((uh HB).trans (hb.mono (uh HB).size))
   replace l1 := Nat.lt_of_lt_of_le l1 hb.size
   clear hb P9 c9
   have hq : decide (kj + 1 + 1 + 1 + 1 + ((Lay.sl Lay.int).vcnt x.query : Nat) + 1 + 1 + 1 + 1 + ((Lay.sl Lay.int).vcnt x.vec : Int) < 0) = false := by simp; omega
   go_wp2_with fail
   refine (held_HitS _ x.hits (kj + 1 + 1 + 1 + 1 + ((Lay.sl Lay.int).vcnt x.query : Nat) + 1 + 1 + 1 + 1 + ((Lay.sl Lay.int).vcnt x.vec : Nat)) _ (uh P10) (by omega) (by omega)).mono ?_
   rintro e u2 ⟨rfl, hb⟩
   replace HB := yh ((uh HB).trans (hb.mono (uh HB).size))
   replace l1 := Nat.lt_of_lt_of_le l1 hb.size
   clear hb P10 c10
   have hq : decide (kj + 1 + 1 + 1 + 1 + ((Lay.sl Lay.int).vcnt x.query : Nat) + 1 + 1 + 1 + 1 + ((Lay.sl Lay.int).vcnt x.vec : Nat) + ((Lay.sl Lay.tHit).vcnt x.hits : Int) < 0) = false := by simp; omega
   go_wp2_with fail
   go_roundw
   case rel => exact ⟨j + 1, _, by omega, by go_num, (by rw [uh HT, hcn]; have := uh HK; omega), rfl, uh HB⟩
   case measure => simp [intOf]; omega
  obtain rfl : j = xs.length := by omega
  rw [List.take_length] at hkj
  have HK := yh hkj
  have HB := yh hB
  clear hB hkj
  go_wp2_with fail
  go_ret
  exact ⟨by rw [← uh HK]; rfl, uh HB⟩
theorem heldEntry_zero (ao : Option Addr) (cap : Nat) (k : Int) (w : World) :
  Calls Tryz.prog 150 #[.slice ao 0 cap, .int .i64 k] w fun e w' => e = .returned (.int .i64 k) ∧ w' = w := by
 go_enter Tryz.func150, Tryz.ntmps150
 go_wp2_with fail
 refine wp_loop_rounds 1 ?_
 rw [rounds_succ]
 go_wp2_with fail
 go_ret
 exact ⟨rfl, rfl⟩
theorem held_EntryS (v : Value) (xs : List DEntry) (k : Int) (w : World) (h : (Lay.sl Lay.tEntry).Reads w [v] ((Lay.sl Lay.tEntry).mkv k xs)) (hk : 0 ≤ k) (hk2 : k + (Lay.sl Lay.tEntry).vcnt xs ≤ 1000000000) :
  Calls Tryz.prog 150 #[v, .int .i64 k] w fun e w' => e = .returned (.int .i64 (k + (Lay.sl Lay.tEntry).vcnt xs)) ∧ Below w.heap.size w w' := by
 rw [mkv_EntryS] at h
 obtain ⟨ao, cap, rfl⟩ := open_sl h
 by_cases hp : 0 < xs.length
 ·
  obtain ⟨b, off, rfl, hbl⟩ := Lay.sl_addr h (by rw [mkAll_size]; exact hp)
  have L := heldEntry_pos b off cap xs k w h hbl hk hk2
  rw [mkAll_size]
  exact L
 obtain rfl : xs = [] := List.eq_nil_of_length_eq_zero (by omega)
 refine (heldEntry_zero ao cap k w).mono ?_
 rintro e w' ⟨rfl, rfl⟩
 exact ⟨by rw [vcnt_EntryS]; simp [cntAll], Below.refl _ _⟩
theorem held_World (cs : List Value) (x : DWorld) (k : Int) (w : World) (h : Lay.tWorld.Reads w cs (Lay.tWorld.mkv k x)) (hk : 0 ≤ k) (hk2 : k + Lay.tWorld.vcnt x ≤ 1000000000) :
  Calls Tryz.prog 81 #[.agg cs.toArray, .int .i64 k] w fun e w' => e = .returned (.int .i64 (k + Lay.tWorld.vcnt x)) ∧ Below w.heap.size w w' := by
 rw [mkv_World] at h
 rw [vcnt_World] at hk2
 have HV := yh (vcnt_World x)
 obtain ⟨a3, d3, a4, d4, a5, d5, a6, d6, rfl, R2, R4, R5, R6⟩ := open_World h
 clear h
 generalize hn3 : (⟨x.now, x.events, Lay.tChain.mkv (k) x.chain, (Lay.sl Lay.tNode).mkv (k + (Lay.tChain.vcnt x.chain : Int)) x.nodes, (Lay.sl Lay.tMsg).mkv (k + (Lay.tChain.vcnt x.chain : Int) + ((Lay.sl Lay.tNode).vcnt x.nodes : Int)) x.msgs, (Lay.sl Lay.tEntry).mkv (k + (Lay.tChain.vcnt x.chain : Int) + ((Lay.sl Lay.tNode).vcnt x.nodes : Int) + ((Lay.sl Lay.tMsg).vcnt x.msgs : Int)) x.history⟩ : DWorld).chain.ids.length = n3 at *
 generalize hn4 : (⟨x.now, x.events, Lay.tChain.mkv (k) x.chain, (Lay.sl Lay.tNode).mkv (k + (Lay.tChain.vcnt x.chain : Int)) x.nodes, (Lay.sl Lay.tMsg).mkv (k + (Lay.tChain.vcnt x.chain : Int) + ((Lay.sl Lay.tNode).vcnt x.nodes : Int)) x.msgs, (Lay.sl Lay.tEntry).mkv (k + (Lay.tChain.vcnt x.chain : Int) + ((Lay.sl Lay.tNode).vcnt x.nodes : Int) + ((Lay.sl Lay.tMsg).vcnt x.msgs : Int)) x.history⟩ : DWorld).nodes.length = n4 at *
 generalize hn5 : (⟨x.now, x.events, Lay.tChain.mkv (k) x.chain, (Lay.sl Lay.tNode).mkv (k + (Lay.tChain.vcnt x.chain : Int)) x.nodes, (Lay.sl Lay.tMsg).mkv (k + (Lay.tChain.vcnt x.chain : Int) + ((Lay.sl Lay.tNode).vcnt x.nodes : Int)) x.msgs, (Lay.sl Lay.tEntry).mkv (k + (Lay.tChain.vcnt x.chain : Int) + ((Lay.sl Lay.tNode).vcnt x.nodes : Int) + ((Lay.sl Lay.tMsg).vcnt x.msgs : Int)) x.history⟩ : DWorld).msgs.length = n5 at *
 generalize hn6 : (⟨x.now, x.events, Lay.tChain.mkv (k) x.chain, (Lay.sl Lay.tNode).mkv (k + (Lay.tChain.vcnt x.chain : Int)) x.nodes, (Lay.sl Lay.tMsg).mkv (k + (Lay.tChain.vcnt x.chain : Int) + ((Lay.sl Lay.tNode).vcnt x.nodes : Int)) x.msgs, (Lay.sl Lay.tEntry).mkv (k + (Lay.tChain.vcnt x.chain : Int) + ((Lay.sl Lay.tNode).vcnt x.nodes : Int) + ((Lay.sl Lay.tMsg).vcnt x.msgs : Int)) x.history⟩ : DWorld).history.length = n6 at *
 clear hn3 hn4 hn5 hn6
 generalize hn2 : (⟨x.now, x.events, Lay.tChain.mkv (k) x.chain, (Lay.sl Lay.tNode).mkv (k + (Lay.tChain.vcnt x.chain : Int)) x.nodes, (Lay.sl Lay.tMsg).mkv (k + (Lay.tChain.vcnt x.chain : Int) + ((Lay.sl Lay.tNode).vcnt x.nodes : Int)) x.msgs, (Lay.sl Lay.tEntry).mkv (k + (Lay.tChain.vcnt x.chain : Int) + ((Lay.sl Lay.tNode).vcnt x.nodes : Int) + ((Lay.sl Lay.tMsg).vcnt x.msgs : Int)) x.history⟩ : DWorld).chain.epoch = n2 at *
 clear hn2
 have HB0 : Below w.heap.size w (w.alloc (.cells #[.int .i64 x.now, .int .i64 x.events, .int .i64 n2, .slice a3 n3 d3, .slice a4 n4 d4, .slice a5 n5 d5, .slice a6 n6 d6] 36)) := (Below.refl _ _).alloc (Nat.le_refl _) _
 have bA : Box w.heap.size #[.int .i64 x.now, .int .i64 x.events, .int .i64 n2, .slice a3 n3 d3, .slice a4 n4 d4, .slice a5 n5 d5, .slice a6 n6 d6] 36 (w.alloc (.cells #[.int .i64 x.now, .int .i64 x.events, .int .i64 n2, .slice a3 n3 d3, .slice a4 n4 d4, .slice a5 n5 d5, .slice a6 n6 d6] 36)) w.heap.size := newBox (Nat.le_refl _)
 go_enter Tryz.func81, Tryz.ntmps81
 go_wp2_with fail
 generalize w.alloc (.cells #[.int .i64 x.now, .int .i64 x.events, .int .i64 n2, .slice a3 n3 d3, .slice a4 n4 d4, .slice a5 n5 d5, .slice a6 n6 d6] 36) = W0 at *
 replace R2 := R2.later HB0
 replace R4 := R4.later HB0
 replace R5 := R5.later HB0
 replace R6 := R6.later HB0
 refine (held_Chain _ x.chain (k) _ R2 (by omega) (by omega)).mono ?_
 rintro e w1 ⟨rfl, hb⟩
 replace HB0 := HB0.trans (hb.mono HB0.size)
 replace bA := bA.keep hb
 replace R4 := R4.later hb
 have p4 := bA.at 4 _ rfl
 replace R5 := R5.later hb
 have p5 := bA.at 5 _ rfl
 replace R6 := R6.later hb
 have p6 := bA.at 6 _ rfl
 have HA := yh bA
 have HX := yh HB0
 clear bA HB0 hb R2
 have P4 := yh R4
 clear R4
 have P5 := yh R5
 clear R5
 have P6 := yh R6
 clear R6
 have hq : decide (k + (Lay.tChain.vcnt x.chain : Int) < 0) = false := by simp; omega
 go_wp2_with fail
 clear hq
 have bA := uh HA
 have HB0 := uh HX
 clear HA HX
 have R4 := uh P4
 clear P4
 have R5 := uh P5
 clear P5
 have R6 := uh P6
 clear P6
 clear p4
 clear p5
 clear p6
 refine (held_NodeS _ x.nodes (k + (Lay.tChain.vcnt x.chain : Int)) _ R4 (by omega) (by omega)).mono ?_
 rintro e w2 ⟨rfl, hb⟩
 replace HB0 := HB0.trans (hb.mono HB0.size)
 replace bA := bA.keep hb
 replace R5 := R5.later hb
 have p5 := bA.at 5 _ rfl
 replace R6 := R6.later hb
 have p6 := bA.at 6 _ rfl
 have HA := yh bA
 have HX := yh HB0
 clear bA HB0 hb R4
 have P5 := yh R5
 clear R5
 have P6 := yh R6
 clear R6
 have hq : decide (k + (Lay.tChain.vcnt x.chain : Int) + ((Lay.sl Lay.tNode).vcnt x.nodes : Int) < 0) = false := by simp; omega
 go_wp2_with fail
 clear hq
 have bA := uh HA
 have HB0 := uh HX
 clear HA HX
 have R5 := uh P5
 clear P5
 have R6 := uh P6
 clear P6
 clear p5
 clear p6
 refine (held_MsgS _ x.msgs (k + (Lay.tChain.vcnt x.chain : Int) + ((Lay.sl Lay.tNode).vcnt x.nodes : Int)) _ R5 (by omega) (by omega)).mono ?_
 rintro e w3 ⟨rfl, hb⟩
 replace HB0 := HB0.trans (hb.mono HB0.size)
 replace bA := bA.keep hb
 replace R6 := R6.later hb
 have p6 := bA.at 6 _ rfl
 have HA := yh bA
 have HX := yh HB0
 clear bA HB0 hb R5
 have P6 := yh R6
 clear R6
 have hq : decide (k + (Lay.tChain.vcnt x.chain : Int) + ((Lay.sl Lay.tNode).vcnt x.nodes : Int) + ((Lay.sl Lay.tMsg).vcnt x.msgs : Int) < 0) = false := by simp; omega
 go_wp2_with fail
 clear hq
 have bA := uh HA
 have HB0 := uh HX
 clear HA HX
 have R6 := uh P6
 clear P6
 clear p6
 refine (held_EntryS _ x.history (k + (Lay.tChain.vcnt x.chain : Int) + ((Lay.sl Lay.tNode).vcnt x.nodes : Int) + ((Lay.sl Lay.tMsg).vcnt x.msgs : Int)) _ R6 (by omega) (by omega)).mono ?_
 rintro e w4 ⟨rfl, hb⟩
 replace HB0 := HB0.trans (hb.mono HB0.size)
 replace bA := bA.keep hb
 have HA := yh bA
 have HX := yh HB0
 clear bA HB0 hb R6
 have hq : decide (k + (Lay.tChain.vcnt x.chain : Int) + ((Lay.sl Lay.tNode).vcnt x.nodes : Int) + ((Lay.sl Lay.tMsg).vcnt x.msgs : Int) + ((Lay.sl Lay.tEntry).vcnt x.history : Int) < 0) = false := by simp; omega
 go_wp2_with fail
 clear hq
 go_ret
 refine ⟨?_, uh HX⟩
 rw [show k + (Lay.tWorld.vcnt x : Int) = k + (Lay.tChain.vcnt x.chain : Int) + ((Lay.sl Lay.tNode).vcnt x.nodes : Int) + ((Lay.sl Lay.tMsg).vcnt x.msgs : Int) + ((Lay.sl Lay.tEntry).vcnt x.history : Int) by rw [uh HV]; omega]
 rfl
theorem held_WorldResult (cs : List Value) (x : DWorldResult) (k : Int) (w : World) (h : Lay.tWorldResult.Reads w cs (Lay.tWorldResult.mkv k x)) (hk : 0 ≤ k) (hk2 : k + Lay.tWorldResult.vcnt x ≤ 1000000000) :
  Calls Tryz.prog 23 #[.agg cs.toArray, .int .i64 k] w fun e w' => e = .returned (.int .i64 (k + Lay.tWorldResult.vcnt x)) ∧ Below w.heap.size w w' := by
 rw [mkv_WorldResult] at h
 rw [vcnt_WorldResult] at hk2
 have HV := yh (vcnt_WorldResult x)
 obtain ⟨a5, d5, a6, d6, a7, d7, a8, d8, rfl, R2⟩ := open_WorldResult h
 clear h
 generalize hn5 : (⟨x.code, x.moved, Lay.tWorld.mkv (k) x.world⟩ : DWorldResult).world.chain.ids.length = n5 at *
 generalize hn6 : (⟨x.code, x.moved, Lay.tWorld.mkv (k) x.world⟩ : DWorldResult).world.nodes.length = n6 at *
 generalize hn7 : (⟨x.code, x.moved, Lay.tWorld.mkv (k) x.world⟩ : DWorldResult).world.msgs.length = n7 at *
 generalize hn8 : (⟨x.code, x.moved, Lay.tWorld.mkv (k) x.world⟩ : DWorldResult).world.history.length = n8 at *
 clear hn5 hn6 hn7 hn8
 generalize hn2 : (⟨x.code, x.moved, Lay.tWorld.mkv (k) x.world⟩ : DWorldResult).world.now = n2 at *
 generalize hn3 : (⟨x.code, x.moved, Lay.tWorld.mkv (k) x.world⟩ : DWorldResult).world.events = n3 at *
 generalize hn4 : (⟨x.code, x.moved, Lay.tWorld.mkv (k) x.world⟩ : DWorldResult).world.chain.epoch = n4 at *
 clear hn2 hn3 hn4
 have HB0 : Below w.heap.size w (w.alloc (.cells #[.int .i64 x.code, .bool x.moved, .int .i64 n2, .int .i64 n3, .int .i64 n4, .slice a5 n5 d5, .slice a6 n6 d6, .slice a7 n7 d7, .slice a8 n8 d8] 38)) := (Below.refl _ _).alloc (Nat.le_refl _) _
 have bA : Box w.heap.size #[.int .i64 x.code, .bool x.moved, .int .i64 n2, .int .i64 n3, .int .i64 n4, .slice a5 n5 d5, .slice a6 n6 d6, .slice a7 n7 d7, .slice a8 n8 d8] 38 (w.alloc (.cells #[.int .i64 x.code, .bool x.moved, .int .i64 n2, .int .i64 n3, .int .i64 n4, .slice a5 n5 d5, .slice a6 n6 d6, .slice a7 n7 d7, .slice a8 n8 d8] 38)) w.heap.size := newBox (Nat.le_refl _)
 go_enter Tryz.func23, Tryz.ntmps23
 go_wp2_with fail
 generalize w.alloc (.cells #[.int .i64 x.code, .bool x.moved, .int .i64 n2, .int .i64 n3, .int .i64 n4, .slice a5 n5 d5, .slice a6 n6 d6, .slice a7 n7 d7, .slice a8 n8 d8] 38) = W0 at *
 replace R2 := R2.later HB0
 refine (held_World _ x.world (k) _ R2 (by omega) (by omega)).mono ?_
 rintro e w1 ⟨rfl, hb⟩
 replace HB0 := HB0.trans (hb.mono HB0.size)
 replace bA := bA.keep hb
 have HA := yh bA
 have HX := yh HB0
 clear bA HB0 hb R2
 have hq : decide (k + (Lay.tWorld.vcnt x.world : Int) < 0) = false := by simp; omega
 go_wp2_with fail
 clear hq
 go_ret
 refine ⟨?_, uh HX⟩
 rw [show k + (Lay.tWorldResult.vcnt x : Int) = k + (Lay.tWorld.vcnt x.world : Int) by rw [uh HV]]
 rfl
end Go.Proofs.YtoanimpijfijgaaGreat
