/-
  Texts of this proof in one: MaMsgS, OwnEntry, MaHitS, MaEntryS, MaWorld, LayWorldResult, EqWorldResult, OwnWorldResult, MaWorldResult, MkChain, MkWriteS, MkNodeS, MkMsgS, MkHitS, MkEntryS, MkWorld, MkWorldResult.
  Their conditions stand in their theorems.
-/
import Derived.Test.YtecagllmonckgaaGreatChecked
import Derived.Test.YtecagllmonckgaaGreatFi03
import Derived.Test.YtecagllmonckgaaGreatFi01
import Derived.Test.YtecagllmonckgaaGreatFi00
set_option maxRecDepth 100000
set_option maxHeartbeats 4000000
namespace Go.Proofs.YtecagllmonckgaaGreat
open Go.RowKit
theorem nM (x : bJ) : ab.aJ.bG x = 9 + (ab.sl ab.int).ak x.write.vec := by
 show 1 + (1 + (1 + (1 + (1 + (1 + (1 + ((ab.sl ab.int).ak x.write.vec + (1 + (1))))))))) = 9 + (ab.sl ab.int).ak x.write.vec
 omega
theorem nO (k : Int) (x : bJ) : ab.aJ.dj k x = ⟨k, k + 1, k + 1 + 1, k + 1 + 1 + 1, k + 1 + 1 + 1 + 1, ⟨k + 1 + 1 + 1 + 1 + 1, k + 1 + 1 + 1 + 1 + 1 + 1, (ab.sl ab.int).cq (k + 1 + 1 + 1 + 1 + 1 + 1 + 1) x.write.vec, k + 1 + 1 + 1 + 1 + 1 + 1 + 1 + ((ab.sl ab.int).ak x.write.vec : Nat), k + 1 + 1 + 1 + 1 + 1 + 1 + 1 + ((ab.sl ab.int).ak x.write.vec : Nat) + 1⟩⟩ := rfl
theorem ka (xs : List bJ) : (ab.sl ab.aJ).ak xs = al ab.aJ.bG xs := rfl
theorem pB (k : Int) (xs : List bJ) : (ab.sl ab.aJ).cq k xs = bW ab.aJ.bG ab.aJ.dj k xs := rfl
theorem lK (b off cap : Nat) (xs : List bJ) (bl : List Nat) (k : Int) (w : World) (h : (ab.sl ab.aJ).Own w [.slice (some ⟨b, off, none⟩) xs.length cap] xs bl) (hk : 0 ≤ k) (hk2 : k + (al ab.aJ.bG xs : Nat) ≤ 1000000000) :
  Calls Tryz.prog 68 #[.slice (some ⟨b, off, none⟩) xs.length cap, .int .i64 k] w fun e w' => e = .returned (.int .i64 (k + (al ab.aJ.bG xs : Nat))) ∧ (ab.sl ab.aJ).Own w' [.slice (some ⟨b, off, none⟩) xs.length cap] (bW ab.aJ.bG ab.aJ.dj k xs) bl ∧ Ext (fun q => q ∈ bl) w w' := by
 have hbig := h.reads.dK
 have H := yh h
 clear h
 go_enter Tryz.func68, Tryz.ntmps68
 go_wp2_with fail
 go_loopw [1, 5] (fun kk i wr => ∃ (j : Nat) (kj : Int), j ≤ xs.length ∧ i = .int .i64 j ∧ kj = k + (al ab.aJ.bG (xs.take j) : Nat) ∧ kk = .int .i64 kj ∧ (ab.sl ab.aJ).Own wr [.slice (some ⟨b, off, none⟩) xs.length cap] (cw ab.aJ.bG ab.aJ.dj k xs j) bl ∧ Ext (fun q => q ∈ bl) w wr) (fun _ i _ => xs.length - (intOf i).toNat)
 case atStart => exact ⟨0, k, Nat.zero_le _, rfl, by simp [al], rfl, by rw [et]; exact uh H, Ext.refl _ _⟩
 case round =>
  obtain ⟨j, kj, hj, rfl, hkj, rfl, hO, hX⟩ := hrel
  clear H
  by_cases hlt : j < xs.length
  ·
   have hj2 : j < (cw ab.aJ.bG ab.aJ.dj k xs j).length := by rw [eL _ _ _ _ _ hj]; exact hlt
   obtain ⟨row, blk, R, O, hbk, hin, hfin⟩ := ab.fB hO hj2
   rw [eO _ _ _ _ _ hlt] at O
   have HT := yh (ab.bV (f := ab.aJ.bG) hlt)
   have hle := ab.bx (f := ab.aJ.bG) (xs := xs) (k := j + 1)
   rw [uh HT] at hle
   have HM : Hid (∀ y, y = ab.aJ.dj kj xs[j] → (cw ab.aJ.bG ab.aJ.dj k xs j).set j y = cw ab.aJ.bG ab.aJ.dj k xs (j + 1)) := fun y e => by rw [e, hkj]; exact eF _ _ _ _ _ hlt
   have HF := yh hfin
   have HX := yh hX
   have HI := yh hin
   clear hO hfin hX hin hj2
   generalize hx : xs[j] = x at *
   clear hx
   have hcn := nM x
   have HD := yh (nO kj x)
   have hb1 : 0 ≤ kj := by omega
   have hb2 : kj + (ab.aJ.bG x : Int) ≤ 1000000000 := by omega
   have HK := yh hkj
   clear hkj hle
   have hnd := O.2.1
   obtain ⟨a7, d7, g7, rfl, hbl, OW, v0, v1, v2, v3, v4⟩ := rz O
   obtain ⟨_, _, _, e9, hbl9, O7, v5, v6, v8, v9⟩ := jM OW
   simp only [List.cons.injEq, Value.slice.injEq, true_and, and_true] at e9
   obtain ⟨rfl, rfl⟩ := e9
   clear O OW
   subst hbl9
   subst hbl
   have HN := yh hnd
   clear hnd
   have l1 : b < wr.heap.size := R.lt
   have c0 : wr.cell? ⟨b, off + j * 10, none⟩ = some (.int .i64 x.kind) := R.at 0 _ rfl
   have f0 : wr.frozen? ⟨b, off + j * 10, none⟩ = false := R.soft _
   have c1 : wr.cell? ⟨b, off + j * 10 + 1, none⟩ = some (.int .i64 x.af) := R.at 1 _ rfl
   have f1 : wr.frozen? ⟨b, off + j * 10 + 1, none⟩ = false := R.soft _
   have c2 : wr.cell? ⟨b, off + j * 10 + 2, none⟩ = some (.int .i64 x.src) := R.at 2 _ rfl
   have f2 : wr.frozen? ⟨b, off + j * 10 + 2, none⟩ = false := R.soft _
   have c3 : wr.cell? ⟨b, off + j * 10 + 3, none⟩ = some (.int .i64 x.dst) := R.at 3 _ rfl
   have f3 : wr.frozen? ⟨b, off + j * 10 + 3, none⟩ = false := R.soft _
   have c4 : wr.cell? ⟨b, off + j * 10 + 4, none⟩ = some (.int .i64 x.index) := R.at 4 _ rfl
   have f4 : wr.frozen? ⟨b, off + j * 10 + 4, none⟩ = false := R.soft _
   have c5 : wr.cell? ⟨b, off + j * 10 + 5, none⟩ = some (.int .i64 x.write.kind) := R.at 5 _ rfl
   have f5 : wr.frozen? ⟨b, off + j * 10 + 5, none⟩ = false := R.soft _
   have c6 : wr.cell? ⟨b, off + j * 10 + 6, none⟩ = some (.int .i64 x.write.id) := R.at 6 _ rfl
   have f6 : wr.frozen? ⟨b, off + j * 10 + 6, none⟩ = false := R.soft _
   have c7 : wr.cell? ⟨b, off + j * 10 + 7, none⟩ = some (.slice a7 x.write.vec.length d7) := R.at 7 _ rfl
   have R0_ : cQ wr (((((((wr.setCell ⟨b, off + j * 10, none⟩ (.int .i64 kj)).setCell ⟨b, off + j * 10 + 1, none⟩ (.int .i64 (kj + 1))).setCell ⟨b, off + j * 10 + 2, none⟩ (.int .i64 (kj + 1 + 1))).setCell ⟨b, off + j * 10 + 3, none⟩ (.int .i64 (kj + 1 + 1 + 1))).setCell ⟨b, off + j * 10 + 4, none⟩ (.int .i64 (kj + 1 + 1 + 1 + 1))).setCell ⟨b, off + j * 10 + 5, none⟩ (.int .i64 (kj + 1 + 1 + 1 + 1 + 1))).setCell ⟨b, off + j * 10 + 6, none⟩ (.int .i64 (kj + 1 + 1 + 1 + 1 + 1 + 1))) b (off + j * 10) 10 [.int .i64 kj, .int .i64 (kj + 1), .int .i64 (kj + 1 + 1), .int .i64 (kj + 1 + 1 + 1), .int .i64 (kj + 1 + 1 + 1 + 1), .int .i64 (kj + 1 + 1 + 1 + 1 + 1), .int .i64 (kj + 1 + 1 + 1 + 1 + 1 + 1), .slice a7 x.write.vec.length d7, .int .i64 x.write.aa, .int .i64 x.write.seq] blk := (((((((R.set 0 (.int .i64 kj) (by decide)).set 1 (.int .i64 (kj + 1)) (by decide)).set 2 (.int .i64 (kj + 1 + 1)) (by decide)).set 3 (.int .i64 (kj + 1 + 1 + 1)) (by decide)).set 4 (.int .i64 (kj + 1 + 1 + 1 + 1)) (by decide)).set 5 (.int .i64 (kj + 1 + 1 + 1 + 1 + 1)) (by decide)).set 6 (.int .i64 (kj + 1 + 1 + 1 + 1 + 1 + 1)) (by decide))
   have E0_ : Ext (fun q => q = b) wr (((((((wr.setCell ⟨b, off + j * 10, none⟩ (.int .i64 kj)).setCell ⟨b, off + j * 10 + 1, none⟩ (.int .i64 (kj + 1))).setCell ⟨b, off + j * 10 + 2, none⟩ (.int .i64 (kj + 1 + 1))).setCell ⟨b, off + j * 10 + 3, none⟩ (.int .i64 (kj + 1 + 1 + 1))).setCell ⟨b, off + j * 10 + 4, none⟩ (.int .i64 (kj + 1 + 1 + 1 + 1))).setCell ⟨b, off + j * 10 + 5, none⟩ (.int .i64 (kj + 1 + 1 + 1 + 1 + 1))).setCell ⟨b, off + j * 10 + 6, none⟩ (.int .i64 (kj + 1 + 1 + 1 + 1 + 1 + 1))) := ((((((((Ext.refl (fun q => q = b) _).setCell ⟨b, off + j * 10, none⟩ (.int .i64 kj) rfl).setCell ⟨b, off + j * 10 + 1, none⟩ (.int .i64 (kj + 1)) rfl).setCell ⟨b, off + j * 10 + 2, none⟩ (.int .i64 (kj + 1 + 1)) rfl).setCell ⟨b, off + j * 10 + 3, none⟩ (.int .i64 (kj + 1 + 1 + 1)) rfl).setCell ⟨b, off + j * 10 + 4, none⟩ (.int .i64 (kj + 1 + 1 + 1 + 1)) rfl).setCell ⟨b, off + j * 10 + 5, none⟩ (.int .i64 (kj + 1 + 1 + 1 + 1 + 1)) rfl).setCell ⟨b, off + j * 10 + 6, none⟩ (.int .i64 (kj + 1 + 1 + 1 + 1 + 1 + 1)) rfl)
   have O7_ := O7.ext E0_ (fun c hc e => hbk (e ▸ hc))
   clear O7
   have O7 := O7_
   clear O7_
   clear R E0_
   have R := R0_
   clear R0_
   have HR := yh R
   clear R
   go_wp2_with fail
   refine (dN _ x.write.vec blk (kj + 1 + 1 + 1 + 1 + 1 + 1 + 1) _ O7 (by omega) (by omega)).mono ?_
   rintro e w2 ⟨rfl, Q7, E2⟩
   have R := (uh HR).call E2 (fun _ h => h) hbk
   clear E2 O7 HR c0 c1 c2 c3 c4 c5 c6 c7 f0 f1 f2 f3 f4 f5 f6
   clear l1
   have l1 : b < w2.heap.size := R.lt
   have c8 : w2.cell? ⟨b, off + j * 10 + 8, none⟩ = some (.int .i64 x.write.aa) := R.at 8 _ rfl
   have f8 : w2.frozen? ⟨b, off + j * 10 + 8, none⟩ = false := R.soft _
   have c9 : w2.cell? ⟨b, off + j * 10 + 9, none⟩ = some (.int .i64 x.write.seq) := R.at 9 _ rfl
   have f9 : w2.frozen? ⟨b, off + j * 10 + 9, none⟩ = false := R.soft _
   have R1_ : cQ wr ((w2.setCell ⟨b, off + j * 10 + 8, none⟩ (.int .i64 (kj + 1 + 1 + 1 + 1 + 1 + 1 + 1 + ((ab.sl ab.int).ak x.write.vec : Nat)))).setCell ⟨b, off + j * 10 + 9, none⟩ (.int .i64 (kj + 1 + 1 + 1 + 1 + 1 + 1 + 1 + ((ab.sl ab.int).ak x.write.vec : Nat) + 1))) b (off + j * 10) 10 [.int .i64 kj, .int .i64 (kj + 1), .int .i64 (kj + 1 + 1), .int .i64 (kj + 1 + 1 + 1), .int .i64 (kj + 1 + 1 + 1 + 1), .int .i64 (kj + 1 + 1 + 1 + 1 + 1), .int .i64 (kj + 1 + 1 + 1 + 1 + 1 + 1), .slice a7 x.write.vec.length d7, .int .i64 (kj + 1 + 1 + 1 + 1 + 1 + 1 + 1 + ((ab.sl ab.int).ak x.write.vec : Nat)), .int .i64 (kj + 1 + 1 + 1 + 1 + 1 + 1 + 1 + ((ab.sl ab.int).ak x.write.vec : Nat) + 1)] blk := ((R.set 8 (.int .i64 (kj + 1 + 1 + 1 + 1 + 1 + 1 + 1 + ((ab.sl ab.int).ak x.write.vec : Nat))) (by decide)).set 9 (.int .i64 (kj + 1 + 1 + 1 + 1 + 1 + 1 + 1 + ((ab.sl ab.int).ak x.write.vec : Nat) + 1)) (by decide))
   have E1_ : Ext (fun q => q = b) w2 ((w2.setCell ⟨b, off + j * 10 + 8, none⟩ (.int .i64 (kj + 1 + 1 + 1 + 1 + 1 + 1 + 1 + ((ab.sl ab.int).ak x.write.vec : Nat)))).setCell ⟨b, off + j * 10 + 9, none⟩ (.int .i64 (kj + 1 + 1 + 1 + 1 + 1 + 1 + 1 + ((ab.sl ab.int).ak x.write.vec : Nat) + 1))) := (((Ext.refl (fun q => q = b) _).setCell ⟨b, off + j * 10 + 8, none⟩ (.int .i64 (kj + 1 + 1 + 1 + 1 + 1 + 1 + 1 + ((ab.sl ab.int).ak x.write.vec : Nat))) rfl).setCell ⟨b, off + j * 10 + 9, none⟩ (.int .i64 (kj + 1 + 1 + 1 + 1 + 1 + 1 + 1 + ((ab.sl ab.int).ak x.write.vec : Nat) + 1)) rfl)
   have Q7_ := Q7.ext E1_ (fun c hc e => hbk (e ▸ hc))
   clear Q7
   have Q7 := yh Q7_
   clear Q7_
   clear R E1_
   have R := R1_
   clear R1_
   have HR := yh R
   clear R
   have HQ := yh (uh Q7)
   clear Q7
   go_wp2_with fail
   go_roundw
   case rel =>
    refine ⟨j + 1, _, by omega, by go_num, ?_, rfl, ?_, ?_⟩
    ·
     rw [uh HT, hcn]
     have := uh HK
     omega
    ·
     rw [← uh HM _ (uh HD).symm]
     exact uh HF _ _ _ (uh HR) (kg (x := ⟨kj, kj + 1, kj + 1 + 1, kj + 1 + 1 + 1, kj + 1 + 1 + 1 + 1, ⟨kj + 1 + 1 + 1 + 1 + 1, kj + 1 + 1 + 1 + 1 + 1 + 1, (ab.sl ab.int).cq (kj + 1 + 1 + 1 + 1 + 1 + 1 + 1) x.write.vec, kj + 1 + 1 + 1 + 1 + 1 + 1 + 1 + ((ab.sl ab.int).ak x.write.vec : Nat), kj + 1 + 1 + 1 + 1 + 1 + 1 + 1 + ((ab.sl ab.int).ak x.write.vec : Nat) + 1⟩⟩) (dz (x := ⟨kj + 1 + 1 + 1 + 1 + 1, kj + 1 + 1 + 1 + 1 + 1 + 1, (ab.sl ab.int).cq (kj + 1 + 1 + 1 + 1 + 1 + 1 + 1) x.write.vec, kj + 1 + 1 + 1 + 1 + 1 + 1 + 1 + ((ab.sl ab.int).ak x.write.vec : Nat), kj + 1 + 1 + 1 + 1 + 1 + 1 + 1 + ((ab.sl ab.int).ak x.write.vec : Nat) + 1⟩) (uh HQ) (show (Lit.int .i64 (kj + 1 + 1 + 1 + 1 + 1)).wf = true from aR (by omega)) (show (Lit.int .i64 (kj + 1 + 1 + 1 + 1 + 1 + 1)).wf = true from aR (by omega)) (show (Lit.int .i64 (kj + 1 + 1 + 1 + 1 + 1 + 1 + 1 + ((ab.sl ab.int).ak x.write.vec : Nat))).wf = true from aR (by omega)) (show (Lit.int .i64 (kj + 1 + 1 + 1 + 1 + 1 + 1 + 1 + ((ab.sl ab.int).ak x.write.vec : Nat) + 1)).wf = true from aR (by omega)) (uh HN)) (show (Lit.int .i64 (kj)).wf = true from aR (by omega)) (show (Lit.int .i64 (kj + 1)).wf = true from aR (by omega)) (show (Lit.int .i64 (kj + 1 + 1)).wf = true from aR (by omega)) (show (Lit.int .i64 (kj + 1 + 1 + 1)).wf = true from aR (by omega)) (show (Lit.int .i64 (kj + 1 + 1 + 1 + 1)).wf = true from aR (by omega)) (uh HN))
    exact (uh HX).trans ((uh HR).ext.mono fun q _ hq => uh HI q (by rcases hq with h | h; exact Or.inl h.symm; exact Or.inr h))
   case measure => simp [intOf]; omega
  obtain rfl : j = xs.length := by omega
  rw [eH] at hO
  rw [List.take_length] at hkj
  have HK := yh hkj
  clear hkj
  have HO := yh hO
  have HX := yh hX
  clear hO hX
  go_wp2_with fail
  go_ret
  exact ⟨by rw [← uh HK]; rfl, uh HO, uh HX⟩
theorem kR (ao : Option Addr) (cap : Nat) (k : Int) (w : World) :
  Calls Tryz.prog 68 #[.slice ao 0 cap, .int .i64 k] w fun e w' => e = .returned (.int .i64 k) ∧ w' = w := by
 go_enter Tryz.func68, Tryz.ntmps68
 go_wp2_with fail
 refine wp_loop_rounds 1 ?_
 rw [rounds_succ]
 go_wp2_with fail
 go_ret
 exact ⟨rfl, rfl⟩
theorem oq (v : Value) (xs : List bJ) (bl : List Nat) (k : Int) (w : World) (h : (ab.sl ab.aJ).Own w [v] xs bl) (hk : 0 ≤ k) (hk2 : k + (ab.sl ab.aJ).ak xs ≤ 1000000000) :
  Calls Tryz.prog 68 #[v, .int .i64 k] w fun e w' => e = .returned (.int .i64 (k + (ab.sl ab.aJ).ak xs)) ∧ (ab.sl ab.aJ).Own w' [v] ((ab.sl ab.aJ).cq k xs) bl ∧ Ext (fun q => q ∈ bl) w w' := by
 obtain ⟨ao, cap, rfl⟩ := aE h.reads
 by_cases hp : 0 < xs.length
 ·
  obtain ⟨b, off, rfl, hbl⟩ := ab.aI h.reads hp
  exact lK b off cap xs bl k w h hk hk2
 obtain rfl : xs = [] := List.eq_nil_of_length_eq_zero (by omega)
 refine (kR ao cap k w).mono ?_
 rintro e w' ⟨rfl, rfl⟩
 exact ⟨by rw [ka]; simp [al], h, Ext.refl _ _⟩
theorem ki {w : World} {cs : List Value} {x : aZ} {bl : List Nat} (h : ab.ar.Own w cs x bl) : ∃ (a4 : Option Addr) (d4 : Nat) (a9 : Option Addr) (d9 : Nat) (a10 : Option Addr) (d10 : Nat) (g4 : List Nat) (g9 : List Nat) (g10 : List Nat), cs = [.int .i64 x.kind, .int .i64 x.aa, .int .i64 x.seq, .int .i64 x.id, .slice a4 x.query.length d4, .int .i64 x.k, .int .i64 x.start, .int .i64 x.fin, .int .i64 x.place, .slice a9 x.vec.length d9, .slice a10 x.aN.length d10] ∧ bl = g4 ++ (g9 ++ g10) ∧ (ab.sl ab.int).Own w [.slice a4 x.query.length d4] x.query g4 ∧ (ab.sl ab.int).Own w [.slice a9 x.vec.length d9] x.vec g9 ∧ (ab.sl ab.bb).Own w [.slice a10 x.aN.length d10] x.aN g10 ∧ (Lit.int .i64 x.kind).wf = true ∧ (Lit.int .i64 x.aa).wf = true ∧ (Lit.int .i64 x.seq).wf = true ∧ (Lit.int .i64 x.id).wf = true ∧ (Lit.int .i64 x.k).wf = true ∧ (Lit.int .i64 x.start).wf = true ∧ (Lit.int .i64 x.fin).wf = true ∧ (Lit.int .i64 x.place).wf = true := by
 obtain ⟨hl, hn, hf⟩ := h
 obtain ⟨a4, d4, b4, a9, d9, b9, a10, d10, b10, rfl, hbl, w0, w1, w2, w3, l4, w5, w6, w7, w8, l9, l10⟩ := cO.1 hl
 rw [hbl] at hn hf
 simp only [List.nodup_append, List.mem_append] at hn hf
 exact ⟨a4, d4, a9, d9, a10, d10, b4, b9, b10, rfl, hbl, ⟨l4, by simp_all, fun b hb => hf b (by simp_all)⟩, ⟨l9, by simp_all, fun b hb => hf b (by simp_all)⟩, ⟨l10, by simp_all, fun b hb => hf b (by simp_all)⟩, w0, w1, w2, w3, w5, w6, w7, w8⟩
theorem fj {w : World} {x : aZ} {c4 : List Value} {c9 : List Value} {c10 : List Value} {g4 : List Nat} {g9 : List Nat} {g10 : List Nat} (O4 : (ab.sl ab.int).Own w c4 x.query g4) (O9 : (ab.sl ab.int).Own w c9 x.vec g9) (O10 : (ab.sl ab.bb).Own w c10 x.aN g10) (v0 : (Lit.int .i64 x.kind).wf = true) (v1 : (Lit.int .i64 x.aa).wf = true) (v2 : (Lit.int .i64 x.seq).wf = true) (v3 : (Lit.int .i64 x.id).wf = true) (v5 : (Lit.int .i64 x.k).wf = true) (v6 : (Lit.int .i64 x.start).wf = true) (v7 : (Lit.int .i64 x.fin).wf = true) (v8 : (Lit.int .i64 x.place).wf = true) (hn : (g4 ++ (g9 ++ g10)).Nodup) : ab.ar.Own w ([.int .i64 x.kind] ++ ([.int .i64 x.aa] ++ ([.int .i64 x.seq] ++ ([.int .i64 x.id] ++ (c4 ++ ([.int .i64 x.k] ++ ([.int .i64 x.start] ++ ([.int .i64 x.fin] ++ ([.int .i64 x.place] ++ (c9 ++ c10)))))))))) x (g4 ++ (g9 ++ g10)) := by
 refine ⟨⟨[.int .i64 x.kind], [.int .i64 x.aa] ++ ([.int .i64 x.seq] ++ ([.int .i64 x.id] ++ (c4 ++ ([.int .i64 x.k] ++ ([.int .i64 x.start] ++ ([.int .i64 x.fin] ++ ([.int .i64 x.place] ++ (c9 ++ c10)))))))), [], [] ++ ([] ++ ([] ++ (g4 ++ ([] ++ ([] ++ ([] ++ ([] ++ (g9 ++ g10)))))))), rfl, by simp, ⟨rfl, v0, rfl⟩, ⟨[.int .i64 x.aa], [.int .i64 x.seq] ++ ([.int .i64 x.id] ++ (c4 ++ ([.int .i64 x.k] ++ ([.int .i64 x.start] ++ ([.int .i64 x.fin] ++ ([.int .i64 x.place] ++ (c9 ++ c10))))))), [], [] ++ ([] ++ (g4 ++ ([] ++ ([] ++ ([] ++ ([] ++ (g9 ++ g10))))))), rfl, rfl, ⟨rfl, v1, rfl⟩, ⟨[.int .i64 x.seq], [.int .i64 x.id] ++ (c4 ++ ([.int .i64 x.k] ++ ([.int .i64 x.start] ++ ([.int .i64 x.fin] ++ ([.int .i64 x.place] ++ (c9 ++ c10)))))), [], [] ++ (g4 ++ ([] ++ ([] ++ ([] ++ ([] ++ (g9 ++ g10)))))), rfl, rfl, ⟨rfl, v2, rfl⟩, ⟨[.int .i64 x.id], c4 ++ ([.int .i64 x.k] ++ ([.int .i64 x.start] ++ ([.int .i64 x.fin] ++ ([.int .i64 x.place] ++ (c9 ++ c10))))), [], g4 ++ ([] ++ ([] ++ ([] ++ ([] ++ (g9 ++ g10))))), rfl, rfl, ⟨rfl, v3, rfl⟩, ⟨c4, [.int .i64 x.k] ++ ([.int .i64 x.start] ++ ([.int .i64 x.fin] ++ ([.int .i64 x.place] ++ (c9 ++ c10)))), g4, [] ++ ([] ++ ([] ++ ([] ++ (g9 ++ g10)))), rfl, rfl, O4.1, ⟨[.int .i64 x.k], [.int .i64 x.start] ++ ([.int .i64 x.fin] ++ ([.int .i64 x.place] ++ (c9 ++ c10))), [], [] ++ ([] ++ ([] ++ (g9 ++ g10))), rfl, rfl, ⟨rfl, v5, rfl⟩, ⟨[.int .i64 x.start], [.int .i64 x.fin] ++ ([.int .i64 x.place] ++ (c9 ++ c10)), [], [] ++ ([] ++ (g9 ++ g10)), rfl, rfl, ⟨rfl, v6, rfl⟩, ⟨[.int .i64 x.fin], [.int .i64 x.place] ++ (c9 ++ c10), [], [] ++ (g9 ++ g10), rfl, rfl, ⟨rfl, v7, rfl⟩, ⟨[.int .i64 x.place], c9 ++ c10, [], g9 ++ g10, rfl, rfl, ⟨rfl, v8, rfl⟩, ⟨c9, c10, g9, g10, rfl, rfl, O9.1, O10.1⟩⟩⟩⟩⟩⟩⟩⟩⟩⟩, hn, ?_⟩
 intro b hb o
 simp only [List.mem_append] at hb
 rcases hb with hb | hb | hb
 ·
  exact O4.2.2 b hb o
 ·
  exact O9.2.2 b hb o
 exact O10.2.2 b hb o
theorem nK (x : dR) : ab.bb.bG x = 2 := by
 show 1 + (1) = 2
 omega
theorem nH (k : Int) (x : dR) : ab.bb.dj k x = ⟨k, k + 1⟩ := rfl
theorem ko (xs : List dR) : (ab.sl ab.bb).ak xs = al ab.bb.bG xs := rfl
theorem pV (k : Int) (xs : List dR) : (ab.sl ab.bb).cq k xs = bW ab.bb.bG ab.bb.dj k xs := rfl
theorem ma (b off cap : Nat) (xs : List dR) (bl : List Nat) (k : Int) (w : World) (h : (ab.sl ab.bb).Own w [.slice (some ⟨b, off, none⟩) xs.length cap] xs bl) (hk : 0 ≤ k) (hk2 : k + (al ab.bb.bG xs : Nat) ≤ 1000000000) :
  Calls Tryz.prog 70 #[.slice (some ⟨b, off, none⟩) xs.length cap, .int .i64 k] w fun e w' => e = .returned (.int .i64 (k + (al ab.bb.bG xs : Nat))) ∧ (ab.sl ab.bb).Own w' [.slice (some ⟨b, off, none⟩) xs.length cap] (bW ab.bb.bG ab.bb.dj k xs) bl ∧ Ext (fun q => q ∈ bl) w w' := by
 have hbig := h.reads.dK
 have H := yh h
 clear h
 go_enter Tryz.func70, Tryz.ntmps70
 go_wp2_with fail
 go_loopw [1, 5] (fun kk i wr => ∃ (j : Nat) (kj : Int), j ≤ xs.length ∧ i = .int .i64 j ∧ kj = k + (al ab.bb.bG (xs.take j) : Nat) ∧ kk = .int .i64 kj ∧ (ab.sl ab.bb).Own wr [.slice (some ⟨b, off, none⟩) xs.length cap] (cw ab.bb.bG ab.bb.dj k xs j) bl ∧ Ext (fun q => q ∈ bl) w wr) (fun _ i _ => xs.length - (intOf i).toNat)
 case atStart => exact ⟨0, k, Nat.zero_le _, rfl, by simp [al], rfl, by rw [et]; exact uh H, Ext.refl _ _⟩
 case round =>
  obtain ⟨j, kj, hj, rfl, hkj, rfl, hO, hX⟩ := hrel
  clear H
  by_cases hlt : j < xs.length
  ·
   have hj2 : j < (cw ab.bb.bG ab.bb.dj k xs j).length := by rw [eL _ _ _ _ _ hj]; exact hlt
   obtain ⟨row, blk, R, O, hbk, hin, hfin⟩ := ab.fB hO hj2
   rw [eO _ _ _ _ _ hlt] at O
   have HT := yh (ab.bV (f := ab.bb.bG) hlt)
   have hle := ab.bx (f := ab.bb.bG) (xs := xs) (k := j + 1)
   rw [uh HT] at hle
   have HM : Hid (∀ y, y = ab.bb.dj kj xs[j] → (cw ab.bb.bG ab.bb.dj k xs j).set j y = cw ab.bb.bG ab.bb.dj k xs (j + 1)) := fun y e => by rw [e, hkj]; exact eF _ _ _ _ _ hlt
   have HF := yh hfin
   have HX := yh hX
   have HI := yh hin
   clear hO hfin hX hin hj2
   generalize hx : xs[j] = x at *
   clear hx
   have hcn := nK x
   have HD := yh (nH kj x)
   have hb1 : 0 ≤ kj := by omega
   have hb2 : kj + (ab.bb.bG x : Int) ≤ 1000000000 := by omega
   have HK := yh hkj
   clear hkj hle
   have hbl0 : blk = [] := by have := (cB.1 O.1).2.1; exact this
   obtain ⟨rfl, -, -⟩ := cB.1 O.1
   clear O
   have l1 : b < wr.heap.size := R.lt
   have c0 : wr.cell? ⟨b, off + j * 2, none⟩ = some (.int .i64 x.id) := R.at 0 _ rfl
   have f0 : wr.frozen? ⟨b, off + j * 2, none⟩ = false := R.soft _
   have c1 : wr.cell? ⟨b, off + j * 2 + 1, none⟩ = some (.int .i64 x.score) := R.at 1 _ rfl
   have f1 : wr.frozen? ⟨b, off + j * 2 + 1, none⟩ = false := R.soft _
   have R0_ : cQ wr ((wr.setCell ⟨b, off + j * 2, none⟩ (.int .i64 kj)).setCell ⟨b, off + j * 2 + 1, none⟩ (.int .i64 (kj + 1))) b (off + j * 2) 2 [.int .i64 kj, .int .i64 (kj + 1)] blk := ((R.set 0 (.int .i64 kj) (by decide)).set 1 (.int .i64 (kj + 1)) (by decide))
   have E0_ : Ext (fun q => q = b) wr ((wr.setCell ⟨b, off + j * 2, none⟩ (.int .i64 kj)).setCell ⟨b, off + j * 2 + 1, none⟩ (.int .i64 (kj + 1))) := (((Ext.refl (fun q => q = b) _).setCell ⟨b, off + j * 2, none⟩ (.int .i64 kj) rfl).setCell ⟨b, off + j * 2 + 1, none⟩ (.int .i64 (kj + 1)) rfl)
   clear R E0_
   have R := R0_
   clear R0_
   have HR := yh R
   clear R
   go_wp2_with fail
   go_roundw
   case rel =>
    refine ⟨j + 1, _, by omega, by go_num, ?_, rfl, ?_, ?_⟩
    ·
     rw [uh HT, hcn]
     have := uh HK
     omega
    ·
     rw [← uh HM _ (uh HD).symm]
     exact uh HF _ _ _ (uh HR) ⟨cB.2 ⟨rfl, hbl0, (show (Lit.int .i64 (kj)).wf = true from aR (by omega)), (show (Lit.int .i64 (kj + 1)).wf = true from aR (by omega))⟩, by rw [hbl0]; exact List.nodup_nil, by rw [hbl0]; simp⟩
    exact (uh HX).trans ((uh HR).ext.mono fun q _ hq => uh HI q (by rcases hq with h | h; exact Or.inl h.symm; exact Or.inr h))
   case measure => simp [intOf]; omega
  obtain rfl : j = xs.length := by omega
  rw [eH] at hO
  rw [List.take_length] at hkj
  have HK := yh hkj
  clear hkj
  have HO := yh hO
  have HX := yh hX
  clear hO hX
  go_wp2_with fail
  go_ret
  exact ⟨by rw [← uh HK]; rfl, uh HO, uh HX⟩
theorem kD (ao : Option Addr) (cap : Nat) (k : Int) (w : World) :
  Calls Tryz.prog 70 #[.slice ao 0 cap, .int .i64 k] w fun e w' => e = .returned (.int .i64 k) ∧ w' = w := by
 go_enter Tryz.func70, Tryz.ntmps70
 go_wp2_with fail
 refine wp_loop_rounds 1 ?_
 rw [rounds_succ]
 go_wp2_with fail
 go_ret
 exact ⟨rfl, rfl⟩
theorem oV (v : Value) (xs : List dR) (bl : List Nat) (k : Int) (w : World) (h : (ab.sl ab.bb).Own w [v] xs bl) (hk : 0 ≤ k) (hk2 : k + (ab.sl ab.bb).ak xs ≤ 1000000000) :
  Calls Tryz.prog 70 #[v, .int .i64 k] w fun e w' => e = .returned (.int .i64 (k + (ab.sl ab.bb).ak xs)) ∧ (ab.sl ab.bb).Own w' [v] ((ab.sl ab.bb).cq k xs) bl ∧ Ext (fun q => q ∈ bl) w w' := by
 obtain ⟨ao, cap, rfl⟩ := aE h.reads
 by_cases hp : 0 < xs.length
 ·
  obtain ⟨b, off, rfl, hbl⟩ := ab.aI h.reads hp
  exact ma b off cap xs bl k w h hk hk2
 obtain rfl : xs = [] := List.eq_nil_of_length_eq_zero (by omega)
 refine (kD ao cap k w).mono ?_
 rintro e w' ⟨rfl, rfl⟩
 exact ⟨by rw [ko]; simp [al], h, Ext.refl _ _⟩
theorem j4 (x : aZ) : ab.ar.bG x = 8 + (ab.sl ab.int).ak x.query + (ab.sl ab.int).ak x.vec + (ab.sl ab.bb).ak x.aN := by
 show 1 + (1 + (1 + (1 + ((ab.sl ab.int).ak x.query + (1 + (1 + (1 + (1 + ((ab.sl ab.int).ak x.vec + ((ab.sl ab.bb).ak x.aN)))))))))) = 8 + (ab.sl ab.int).ak x.query + (ab.sl ab.int).ak x.vec + (ab.sl ab.bb).ak x.aN
 omega
theorem kr (k : Int) (x : aZ) : ab.ar.dj k x = ⟨k, k + 1, k + 1 + 1, k + 1 + 1 + 1, (ab.sl ab.int).cq (k + 1 + 1 + 1 + 1) x.query, k + 1 + 1 + 1 + 1 + ((ab.sl ab.int).ak x.query : Nat), k + 1 + 1 + 1 + 1 + ((ab.sl ab.int).ak x.query : Nat) + 1, k + 1 + 1 + 1 + 1 + ((ab.sl ab.int).ak x.query : Nat) + 1 + 1, k + 1 + 1 + 1 + 1 + ((ab.sl ab.int).ak x.query : Nat) + 1 + 1 + 1, (ab.sl ab.int).cq (k + 1 + 1 + 1 + 1 + ((ab.sl ab.int).ak x.query : Nat) + 1 + 1 + 1 + 1) x.vec, (ab.sl ab.bb).cq (k + 1 + 1 + 1 + 1 + ((ab.sl ab.int).ak x.query : Nat) + 1 + 1 + 1 + 1 + ((ab.sl ab.int).ak x.vec : Nat)) x.aN⟩ := rfl
theorem gV (xs : List aZ) : (ab.sl ab.ar).ak xs = al ab.ar.bG xs := rfl
theorem mW (k : Int) (xs : List aZ) : (ab.sl ab.ar).cq k xs = bW ab.ar.bG ab.ar.dj k xs := rfl
theorem jt (b off cap : Nat) (xs : List aZ) (bl : List Nat) (k : Int) (w : World) (h : (ab.sl ab.ar).Own w [.slice (some ⟨b, off, none⟩) xs.length cap] xs bl) (hk : 0 ≤ k) (hk2 : k + (al ab.ar.bG xs : Nat) ≤ 1000000000) :
  Calls Tryz.prog 69 #[.slice (some ⟨b, off, none⟩) xs.length cap, .int .i64 k] w fun e w' => e = .returned (.int .i64 (k + (al ab.ar.bG xs : Nat))) ∧ (ab.sl ab.ar).Own w' [.slice (some ⟨b, off, none⟩) xs.length cap] (bW ab.ar.bG ab.ar.dj k xs) bl ∧ Ext (fun q => q ∈ bl) w w' := by
 have hbig := h.reads.dK
 have H := yh h
 clear h
 go_enter Tryz.func69, Tryz.ntmps69
 go_wp2_with fail
 go_loopw [1, 5] (fun kk i wr => ∃ (j : Nat) (kj : Int), j ≤ xs.length ∧ i = .int .i64 j ∧ kj = k + (al ab.ar.bG (xs.take j) : Nat) ∧ kk = .int .i64 kj ∧ (ab.sl ab.ar).Own wr [.slice (some ⟨b, off, none⟩) xs.length cap] (cw ab.ar.bG ab.ar.dj k xs j) bl ∧ Ext (fun q => q ∈ bl) w wr) (fun _ i _ => xs.length - (intOf i).toNat)
 case atStart => exact ⟨0, k, Nat.zero_le _, rfl, by simp [al], rfl, by rw [et]; exact uh H, Ext.refl _ _⟩
 case round =>
  obtain ⟨j, kj, hj, rfl, hkj, rfl, hO, hX⟩ := hrel
  clear H
  by_cases hlt : j < xs.length
  ·
   have hj2 : j < (cw ab.ar.bG ab.ar.dj k xs j).length := by rw [eL _ _ _ _ _ hj]; exact hlt
   obtain ⟨row, blk, R, O, hbk, hin, hfin⟩ := ab.fB hO hj2
   rw [eO _ _ _ _ _ hlt] at O
   have HT := yh (ab.bV (f := ab.ar.bG) hlt)
   have hle := ab.bx (f := ab.ar.bG) (xs := xs) (k := j + 1)
   rw [uh HT] at hle
   have HM : Hid (∀ y, y = ab.ar.dj kj xs[j] → (cw ab.ar.bG ab.ar.dj k xs j).set j y = cw ab.ar.bG ab.ar.dj k xs (j + 1)) := fun y e => by rw [e, hkj]; exact eF _ _ _ _ _ hlt
   have HF := yh hfin
   have HX := yh hX
   have HI := yh hin
   clear hO hfin hX hin hj2
   generalize hx : xs[j] = x at *
   clear hx
   have hcn := j4 x
   have HD0 := kr kj x
   have hb1 : 0 ≤ kj := by omega
   have hb2 : kj + (ab.ar.bG x : Int) ≤ 1000000000 := by omega
   have HK := yh hkj
   clear hkj hle
   have HD := yh HD0
   clear HD0
   have hnd := O.2.1
   obtain ⟨a4, d4, a9, d9, a10, d10, g4, g9, g10, rfl, hbl, O4, O9, O10, v0, v1, v2, v3, v5, v6, v7, v8⟩ := ki O
   clear O
   have HN : Hid ((g4 ++ (g9 ++ g10)).Nodup) := by rw [hbl] at hnd; exact hnd
   have HBL := yh hbl
   have hm4 : ∀ c ∈ g4, c ∈ blk := fun c hc => by rw [hbl]; simp [hc]
   have HM4 := yh hm4
   have HB4 : Hid (b ∉ g4) := fun hc => hbk (hm4 b hc)
   clear hm4
   have hm9 : ∀ c ∈ g9, c ∈ blk := fun c hc => by rw [hbl]; simp [hc]
   have HM9 := yh hm9
   have HB9 : Hid (b ∉ g9) := fun hc => hbk (hm9 b hc)
   clear hm9
   have hm10 : ∀ c ∈ g10, c ∈ blk := fun c hc => by rw [hbl]; simp [hc]
   have HM10 := yh hm10
   have HB10 : Hid (b ∉ g10) := fun hc => hbk (hm10 b hc)
   clear hm10
   have HJ4_9 : Hid (∀ c ∈ g4, c ∉ g9) := fun c h1 h2 => (List.nodup_append.1 (uh HN)).2.2 c h1 c (List.mem_append_left _ h2) rfl
   have HJ4_10 : Hid (∀ c ∈ g4, c ∉ g10) := fun c h1 h2 => (List.nodup_append.1 (uh HN)).2.2 c h1 c (List.mem_append_right _ h2) rfl
   have HJ9_10 : Hid (∀ c ∈ g9, c ∉ g10) := fun c h1 h2 => (List.nodup_append.1 (List.nodup_append.1 (uh HN)).2.1).2.2 c h1 c h2 rfl
   clear hnd hbl
   have P4 := yh O4
   clear O4
   have P9 := yh O9
   clear O9
   have P10 := yh O10
   clear O10
   have HR := yh R
   have l1 : b < wr.heap.size := R.lt
   clear R
   have c0 : wr.cell? ⟨b, off + j * 11, none⟩ = some (.int .i64 x.kind) := (uh HR).at 0 _ rfl
   have f0 : wr.frozen? ⟨b, off + j * 11, none⟩ = false := (uh HR).soft _
   have c1 : wr.cell? ⟨b, off + j * 11 + 1, none⟩ = some (.int .i64 x.aa) := (uh HR).at 1 _ rfl
   have f1 : wr.frozen? ⟨b, off + j * 11 + 1, none⟩ = false := (uh HR).soft _
   have c2 : wr.cell? ⟨b, off + j * 11 + 2, none⟩ = some (.int .i64 x.seq) := (uh HR).at 2 _ rfl
   have f2 : wr.frozen? ⟨b, off + j * 11 + 2, none⟩ = false := (uh HR).soft _
   have c3 : wr.cell? ⟨b, off + j * 11 + 3, none⟩ = some (.int .i64 x.id) := (uh HR).at 3 _ rfl
   have f3 : wr.frozen? ⟨b, off + j * 11 + 3, none⟩ = false := (uh HR).soft _
   have c4 : wr.cell? ⟨b, off + j * 11 + 4, none⟩ = some (.slice a4 x.query.length d4) := (uh HR).at 4 _ rfl
   have E0_ : Ext (fun q => q = b) wr ((((wr.setCell ⟨b, off + j * 11, none⟩ (.int .i64 kj)).setCell ⟨b, off + j * 11 + 1, none⟩ (.int .i64 (kj + 1))).setCell ⟨b, off + j * 11 + 2, none⟩ (.int .i64 (kj + 1 + 1))).setCell ⟨b, off + j * 11 + 3, none⟩ (.int .i64 (kj + 1 + 1 + 1))) := (((((Ext.refl (fun q => q = b) _).setCell ⟨b, off + j * 11, none⟩ (.int .i64 kj) rfl).setCell ⟨b, off + j * 11 + 1, none⟩ (.int .i64 (kj + 1)) rfl).setCell ⟨b, off + j * 11 + 2, none⟩ (.int .i64 (kj + 1 + 1)) rfl).setCell ⟨b, off + j * 11 + 3, none⟩ (.int .i64 (kj + 1 + 1 + 1)) rfl)
   have HR0_ : Hid (cQ wr ((((wr.setCell ⟨b, off + j * 11, none⟩ (.int .i64 kj)).setCell ⟨b, off + j * 11 + 1, none⟩ (.int .i64 (kj + 1))).setCell ⟨b, off + j * 11 + 2, none⟩ (.int .i64 (kj + 1 + 1))).setCell ⟨b, off + j * 11 + 3, none⟩ (.int .i64 (kj + 1 + 1 + 1))) b (off + j * 11) 11 [.int .i64 kj, .int .i64 (kj + 1), .int .i64 (kj + 1 + 1), .int .i64 (kj + 1 + 1 + 1), .slice a4 x.query.length d4, .int .i64 x.k, .int .i64 x.start, .int .i64 x.fin, .int .i64 x.place, .slice a9 x.vec.length d9, .slice a10 x.aN.length d10] blk) := (((((uh HR).set 0 (.int .i64 kj) (by decide)).set 1 (.int .i64 (kj + 1)) (by decide)).set 2 (.int .i64 (kj + 1 + 1)) (by decide)).set 3 (.int .i64 (kj + 1 + 1 + 1)) (by decide))
   replace P4 := yh ((uh P4).ext E0_ (fun c hc e => uh HB4 (e ▸ hc)))
   replace P9 := yh ((uh P9).ext E0_ (fun c hc e => uh HB9 (e ▸ hc)))
   replace P10 := yh ((uh P10).ext E0_ (fun c hc e => uh HB10 (e ▸ hc)))
   clear HR E0_
   have HR := HR0_
   clear HR0_
   go_wp2_with fail
   refine (dN _ x.query g4 (kj + 1 + 1 + 1 + 1) _ (uh P4) (by omega) (by omega)).mono ?_
   rintro e u0 ⟨rfl, Q, E2⟩
   replace HR := yh ((uh HR).call E2 (uh HM4) (uh HB4))
   replace P9 := yh ((uh P9).ext E2 (fun c hc h2 => uh HJ4_9 c h2 hc))
   replace P10 := yh ((uh P10).ext E2 (fun c hc h2 => uh HJ4_10 c h2 hc))
   clear P4
   have P4 := yh Q
   clear Q E2 l1 c0 f0 c1 f1 c2 f2 c3 f3 c4
   have l1 : b < u0.heap.size := (uh HR).lt
   have c5 : u0.cell? ⟨b, off + j * 11 + 5, none⟩ = some (.int .i64 x.k) := (uh HR).at 5 _ rfl
   have f5 : u0.frozen? ⟨b, off + j * 11 + 5, none⟩ = false := (uh HR).soft _
   have c6 : u0.cell? ⟨b, off + j * 11 + 6, none⟩ = some (.int .i64 x.start) := (uh HR).at 6 _ rfl
   have f6 : u0.frozen? ⟨b, off + j * 11 + 6, none⟩ = false := (uh HR).soft _
   have c7 : u0.cell? ⟨b, off + j * 11 + 7, none⟩ = some (.int .i64 x.fin) := (uh HR).at 7 _ rfl
   have f7 : u0.frozen? ⟨b, off + j * 11 + 7, none⟩ = false := (uh HR).soft _
   have c8 : u0.cell? ⟨b, off + j * 11 + 8, none⟩ = some (.int .i64 x.place) := (uh HR).at 8 _ rfl
   have f8 : u0.frozen? ⟨b, off + j * 11 + 8, none⟩ = false := (uh HR).soft _
   have c9 : u0.cell? ⟨b, off + j * 11 + 9, none⟩ = some (.slice a9 x.vec.length d9) := (uh HR).at 9 _ rfl
   have E1_ : Ext (fun q => q = b) u0 ((((u0.setCell ⟨b, off + j * 11 + 5, none⟩ (.int .i64 (kj + 1 + 1 + 1 + 1 + ((ab.sl ab.int).ak x.query : Nat)))).setCell ⟨b, off + j * 11 + 6, none⟩ (.int .i64 (kj + 1 + 1 + 1 + 1 + ((ab.sl ab.int).ak x.query : Nat) + 1))).setCell ⟨b, off + j * 11 + 7, none⟩ (.int .i64 (kj + 1 + 1 + 1 + 1 + ((ab.sl ab.int).ak x.query : Nat) + 1 + 1))).setCell ⟨b, off + j * 11 + 8, none⟩ (.int .i64 (kj + 1 + 1 + 1 + 1 + ((ab.sl ab.int).ak x.query : Nat) + 1 + 1 + 1))) := (((((Ext.refl (fun q => q = b) _).setCell ⟨b, off + j * 11 + 5, none⟩ (.int .i64 (kj + 1 + 1 + 1 + 1 + ((ab.sl ab.int).ak x.query : Nat))) rfl).setCell ⟨b, off + j * 11 + 6, none⟩ (.int .i64 (kj + 1 + 1 + 1 + 1 + ((ab.sl ab.int).ak x.query : Nat) + 1)) rfl).setCell ⟨b, off + j * 11 + 7, none⟩ (.int .i64 (kj + 1 + 1 + 1 + 1 + ((ab.sl ab.int).ak x.query : Nat) + 1 + 1)) rfl).setCell ⟨b, off + j * 11 + 8, none⟩ (.int .i64 (kj + 1 + 1 + 1 + 1 + ((ab.sl ab.int).ak x.query : Nat) + 1 + 1 + 1)) rfl)
   have HR1_ : Hid (cQ wr ((((u0.setCell ⟨b, off + j * 11 + 5, none⟩ (.int .i64 (kj + 1 + 1 + 1 + 1 + ((ab.sl ab.int).ak x.query : Nat)))).setCell ⟨b, off + j * 11 + 6, none⟩ (.int .i64 (kj + 1 + 1 + 1 + 1 + ((ab.sl ab.int).ak x.query : Nat) + 1))).setCell ⟨b, off + j * 11 + 7, none⟩ (.int .i64 (kj + 1 + 1 + 1 + 1 + ((ab.sl ab.int).ak x.query : Nat) + 1 + 1))).setCell ⟨b, off + j * 11 + 8, none⟩ (.int .i64 (kj + 1 + 1 + 1 + 1 + ((ab.sl ab.int).ak x.query : Nat) + 1 + 1 + 1))) b (off + j * 11) 11 [.int .i64 kj, .int .i64 (kj + 1), .int .i64 (kj + 1 + 1), .int .i64 (kj + 1 + 1 + 1), .slice a4 x.query.length d4, .int .i64 (kj + 1 + 1 + 1 + 1 + ((ab.sl ab.int).ak x.query : Nat)), .int .i64 (kj + 1 + 1 + 1 + 1 + ((ab.sl ab.int).ak x.query : Nat) + 1), .int .i64 (kj + 1 + 1 + 1 + 1 + ((ab.sl ab.int).ak x.query : Nat) + 1 + 1), .int .i64 (kj + 1 + 1 + 1 + 1 + ((ab.sl ab.int).ak x.query : Nat) + 1 + 1 + 1), .slice a9 x.vec.length d9, .slice a10 x.aN.length d10] blk) := (((((uh HR).set 5 (.int .i64 (kj + 1 + 1 + 1 + 1 + ((ab.sl ab.int).ak x.query : Nat))) (by decide)).set 6 (.int .i64 (kj + 1 + 1 + 1 + 1 + ((ab.sl ab.int).ak x.query : Nat) + 1)) (by decide)).set 7 (.int .i64 (kj + 1 + 1 + 1 + 1 + ((ab.sl ab.int).ak x.query : Nat) + 1 + 1)) (by decide)).set 8 (.int .i64 (kj + 1 + 1 + 1 + 1 + ((ab.sl ab.int).ak x.query : Nat) + 1 + 1 + 1)) (by decide))
   replace P4 := yh ((uh P4).ext E1_ (fun c hc e => uh HB4 (e ▸ hc)))
   replace P9 := yh ((uh P9).ext E1_ (fun c hc e => uh HB9 (e ▸ hc)))
   replace P10 := yh ((uh P10).ext E1_ (fun c hc e => uh HB10 (e ▸ hc)))
   clear HR E1_
   have HR := HR1_
   clear HR1_
   go_wp2_with fail
   refine (dN _ x.vec g9 (kj + 1 + 1 + 1 + 1 + ((ab.sl ab.int).ak x.query : Nat) + 1 + 1 + 1 + 1) _ (uh P9) (by omega) (by omega)).mono ?_
   rintro e u1 ⟨rfl, Q, E2⟩
   replace HR := yh ((uh HR).call E2 (uh HM9) (uh HB9))
   replace P4 := yh ((uh P4).ext E2 (fun c hc h2 => uh HJ4_9 c hc h2))
   replace P10 := yh ((uh P10).ext E2 (fun c hc h2 => uh HJ9_10 c h2 hc))
   clear P9
   have P9 := yh Q
   clear Q E2 l1 c5 f5 c6 f6 c7 f7 c8 f8 c9
   have l1 : b < u1.heap.size := (uh HR).lt
   have c10 : u1.cell? ⟨b, off + j * 11 + 10, none⟩ = some (.slice a10 x.aN.length d10) := (uh HR).at 10 _ rfl
   go_wp2_with fail
   refine (oV _ x.aN g10 (kj + 1 + 1 + 1 + 1 + ((ab.sl ab.int).ak x.query : Nat) + 1 + 1 + 1 + 1 + ((ab.sl ab.int).ak x.vec : Nat)) _ (uh P10) (by omega) (by omega)).mono ?_
   rintro e u2 ⟨rfl, Q, E2⟩
   replace HR := yh ((uh HR).call E2 (uh HM10) (uh HB10))
   replace P4 := yh ((uh P4).ext E2 (fun c hc h2 => uh HJ4_10 c hc h2))
   replace P9 := yh ((uh P9).ext E2 (fun c hc h2 => uh HJ9_10 c hc h2))
   clear P10
   have P10 := yh Q
   clear Q E2 l1 c10
   have l1 : b < u2.heap.size := (uh HR).lt
   go_wp2_with fail
   go_roundw
   case rel =>
    refine ⟨j + 1, _, by omega, by go_num, ?_, rfl, ?_, ?_⟩
    ·
     rw [uh HT, hcn]
     have := uh HK
     omega
    ·
     rw [← uh HM _ (uh HD).symm]
     exact uh HF _ _ _ (uh HR) (by rw [uh HBL]; exact fj (x := ⟨kj, kj + 1, kj + 1 + 1, kj + 1 + 1 + 1, (ab.sl ab.int).cq (kj + 1 + 1 + 1 + 1) x.query, kj + 1 + 1 + 1 + 1 + ((ab.sl ab.int).ak x.query : Nat), kj + 1 + 1 + 1 + 1 + ((ab.sl ab.int).ak x.query : Nat) + 1, kj + 1 + 1 + 1 + 1 + ((ab.sl ab.int).ak x.query : Nat) + 1 + 1, kj + 1 + 1 + 1 + 1 + ((ab.sl ab.int).ak x.query : Nat) + 1 + 1 + 1, (ab.sl ab.int).cq (kj + 1 + 1 + 1 + 1 + ((ab.sl ab.int).ak x.query : Nat) + 1 + 1 + 1 + 1) x.vec, (ab.sl ab.bb).cq (kj + 1 + 1 + 1 + 1 + ((ab.sl ab.int).ak x.query : Nat) + 1 + 1 + 1 + 1 + ((ab.sl ab.int).ak x.vec : Nat)) x.aN⟩) (uh P4) (uh P9) (uh P10) (show (Lit.int .i64 (kj)).wf = true from aR (by omega)) (show (Lit.int .i64 (kj + 1)).wf = true from aR (by omega)) (show (Lit.int .i64 (kj + 1 + 1)).wf = true from aR (by omega)) (show (Lit.int .i64 (kj + 1 + 1 + 1)).wf = true from aR (by omega)) (show (Lit.int .i64 (kj + 1 + 1 + 1 + 1 + ((ab.sl ab.int).ak x.query : Nat))).wf = true from aR (by omega)) (show (Lit.int .i64 (kj + 1 + 1 + 1 + 1 + ((ab.sl ab.int).ak x.query : Nat) + 1)).wf = true from aR (by omega)) (show (Lit.int .i64 (kj + 1 + 1 + 1 + 1 + ((ab.sl ab.int).ak x.query : Nat) + 1 + 1)).wf = true from aR (by omega)) (show (Lit.int .i64 (kj + 1 + 1 + 1 + 1 + ((ab.sl ab.int).ak x.query : Nat) + 1 + 1 + 1)).wf = true from aR (by omega)) (uh HN))
    exact (uh HX).trans ((uh HR).ext.mono fun q _ hq => uh HI q (by rcases hq with h | h; exact Or.inl h.symm; exact Or.inr h))
   case measure => simp [intOf]; omega
  obtain rfl : j = xs.length := by omega
  rw [eH] at hO
  rw [List.take_length] at hkj
  have HK := yh hkj
  clear hkj
  have HO := yh hO
  have HX := yh hX
  clear hO hX
  go_wp2_with fail
  go_ret
  exact ⟨by rw [← uh HK]; rfl, uh HO, uh HX⟩
theorem iD (ao : Option Addr) (cap : Nat) (k : Int) (w : World) :
  Calls Tryz.prog 69 #[.slice ao 0 cap, .int .i64 k] w fun e w' => e = .returned (.int .i64 k) ∧ w' = w := by
 go_enter Tryz.func69, Tryz.ntmps69
 go_wp2_with fail
 refine wp_loop_rounds 1 ?_
 rw [rounds_succ]
 go_wp2_with fail
 go_ret
 exact ⟨rfl, rfl⟩
theorem lR (v : Value) (xs : List aZ) (bl : List Nat) (k : Int) (w : World) (h : (ab.sl ab.ar).Own w [v] xs bl) (hk : 0 ≤ k) (hk2 : k + (ab.sl ab.ar).ak xs ≤ 1000000000) :
  Calls Tryz.prog 69 #[v, .int .i64 k] w fun e w' => e = .returned (.int .i64 (k + (ab.sl ab.ar).ak xs)) ∧ (ab.sl ab.ar).Own w' [v] ((ab.sl ab.ar).cq k xs) bl ∧ Ext (fun q => q ∈ bl) w w' := by
 obtain ⟨ao, cap, rfl⟩ := aE h.reads
 by_cases hp : 0 < xs.length
 ·
  obtain ⟨b, off, rfl, hbl⟩ := ab.aI h.reads hp
  exact jt b off cap xs bl k w h hk hk2
 obtain rfl : xs = [] := List.eq_nil_of_length_eq_zero (by omega)
 refine (iD ao cap k w).mono ?_
 rintro e w' ⟨rfl, rfl⟩
 exact ⟨by rw [gV]; simp [al], h, Ext.refl _ _⟩
theorem iB (cs : List Value) (x : ay) (bl : List Nat) (k : Int) (w : World) (h : ab.aC.Own w cs x bl) (hk : 0 ≤ k) (hk2 : k + ab.aC.ak x ≤ 1000000000) :
  Calls Tryz.prog 17 #[.agg cs.toArray, .int .i64 k] w fun e w' => e = .returned (.int .i64 (k + ab.aC.ak x)) ∧ ab.aC.Own w' cs (ab.aC.cq k x) bl ∧ Ext (fun q => q ∈ bl) w w' := by
 have hlt := h.lt
 have hnd := h.2.1
 rw [ef] at hk2
 obtain ⟨a3, d3, a4, d4, a5, d5, a6, d6, g2, g4, g5, g6, rfl, hbl, O2, O4, O5, O6, v0, v1⟩ := gE h
 clear h
 have HB0 : Below w.heap.size w (w.alloc (.cells #[.int .i64 x.now, .int .i64 x.events, .int .i64 x.chain.af, .slice a3 x.chain.ids.length d3, .slice a4 x.nodes.length d4, .slice a5 x.msgs.length d5, .slice a6 x.ae.length d6] 37)) := (Below.refl _ _).alloc (Nat.le_refl _) _
 have bA : aj w.heap.size #[.int .i64 x.now, .int .i64 x.events, .int .i64 x.chain.af, .slice a3 x.chain.ids.length d3, .slice a4 x.nodes.length d4, .slice a5 x.msgs.length d5, .slice a6 x.ae.length d6] 37 (w.alloc (.cells #[.int .i64 x.now, .int .i64 x.events, .int .i64 x.chain.af, .slice a3 x.chain.ids.length d3, .slice a4 x.nodes.length d4, .slice a5 x.msgs.length d5, .slice a6 x.ae.length d6] 37)) w.heap.size := aH (Nat.le_refl _)
 have HN := yh hnd
 have HV := yh (ef x)
 have HM := yh (kn k x)
 clear hnd
 go_enter Tryz.func17, Tryz.ntmps17
 go_wp2_with fail
 generalize w.alloc (.cells #[.int .i64 x.now, .int .i64 x.events, .int .i64 x.chain.af, .slice a3 x.chain.ids.length d3, .slice a4 x.nodes.length d4, .slice a5 x.msgs.length d5, .slice a6 x.ae.length d6] 37) = W0 at *
 replace O2 := O2.ag HB0
 replace O4 := O4.ag HB0
 replace O5 := O5.ag HB0
 replace O6 := O6.ag HB0
 have hsz := HB0.size
 have EX : Ext (fun q => q ∈ bl) w W0 := aL HB0 _
 have hs0 := bA.lt
 refine (na _ x.chain g2 (k) _ O2 (by omega) (by omega)).mono ?_
 rintro e w1 ⟨rfl, Q2, E2⟩
 replace O4 := O4.ext E2 (fun b hb hb2 => by subst hbl; exact absurd rfl ((by have := uh HN; simp_all [List.nodup_append] : ∀ p ∈ g2, ∀ q ∈ g4, p ≠ q) b hb2 b hb))
 replace O5 := O5.ext E2 (fun b hb hb2 => by subst hbl; exact absurd rfl ((by have := uh HN; simp_all [List.nodup_append] : ∀ p ∈ g2, ∀ q ∈ g5, p ≠ q) b hb2 b hb))
 replace O6 := O6.ext E2 (fun b hb hb2 => by subst hbl; exact absurd rfl ((by have := uh HN; simp_all [List.nodup_append] : ∀ p ∈ g2, ∀ q ∈ g6, p ≠ q) b hb2 b hb))
 replace EX := EX.trans (E2.mono fun b _ hb => by rw [hbl]; simp [hb])
 replace bA := bA.ext E2 (fun hm => by have := hlt w.heap.size (by rw [hbl]; simp [hm]); omega)
 clear E2
 have p4 := bA.at 4 _ rfl
 have p5 := bA.at 5 _ rfl
 have p6 := bA.at 6 _ rfl
 have HA := yh bA
 have HX := yh EX
 have HL := yh hlt
 have HBL := yh hbl
 clear bA EX hlt hbl
 have P2 := yh Q2
 clear Q2
 have P4 := yh O4
 clear O4
 have P5 := yh O5
 clear O5
 have P6 := yh O6
 clear O6
 clear O2
 go_wp2_with fail
 have bA := uh HA
 have EX := uh HX
 have hlt := uh HL
 have hbl := uh HBL
 clear HA HX HL HBL
 have Q2 := uh P2
 clear P2
 have O4 := uh P4
 clear P4
 have O5 := uh P5
 clear P5
 have O6 := uh P6
 clear P6
 clear p4
 clear p5
 clear p6
 refine (nk _ x.nodes g4 (k + (ab.aD.ak x.chain : Int)) _ O4 (by omega) (by omega)).mono ?_
 rintro e w2 ⟨rfl, Q4, E4⟩
 replace Q2 := Q2.ext E4 (fun b hb hb2 => by subst hbl; exact absurd rfl ((by have := uh HN; simp_all [List.nodup_append] : ∀ p ∈ g2, ∀ q ∈ g4, p ≠ q) b hb b hb2))
 replace O5 := O5.ext E4 (fun b hb hb2 => by subst hbl; exact absurd rfl ((by have := uh HN; simp_all [List.nodup_append] : ∀ p ∈ g4, ∀ q ∈ g5, p ≠ q) b hb2 b hb))
 replace O6 := O6.ext E4 (fun b hb hb2 => by subst hbl; exact absurd rfl ((by have := uh HN; simp_all [List.nodup_append] : ∀ p ∈ g4, ∀ q ∈ g6, p ≠ q) b hb2 b hb))
 replace EX := EX.trans (E4.mono fun b _ hb => by rw [hbl]; simp [hb])
 replace bA := bA.ext E4 (fun hm => by have := hlt w.heap.size (by rw [hbl]; simp [hm]); omega)
 clear E4
 have p5 := bA.at 5 _ rfl
 have p6 := bA.at 6 _ rfl
 have HA := yh bA
 have HX := yh EX
 have HL := yh hlt
 have HBL := yh hbl
 clear bA EX hlt hbl
 have P2 := yh Q2
 clear Q2
 have P4 := yh Q4
 clear Q4
 have P5 := yh O5
 clear O5
 have P6 := yh O6
 clear O6
 clear O4
 go_wp2_with fail
 have bA := uh HA
 have EX := uh HX
 have hlt := uh HL
 have hbl := uh HBL
 clear HA HX HL HBL
 have Q2 := uh P2
 clear P2
 have Q4 := uh P4
 clear P4
 have O5 := uh P5
 clear P5
 have O6 := uh P6
 clear P6
 clear p5
 clear p6
 refine (oq _ x.msgs g5 (k + (ab.aD.ak x.chain : Int) + ((ab.sl ab.ax).ak x.nodes : Int)) _ O5 (by omega) (by omega)).mono ?_
 rintro e w3 ⟨rfl, Q5, E5⟩
 replace Q2 := Q2.ext E5 (fun b hb hb2 => by subst hbl; exact absurd rfl ((by have := uh HN; simp_all [List.nodup_append] : ∀ p ∈ g2, ∀ q ∈ g5, p ≠ q) b hb b hb2))
 replace Q4 := Q4.ext E5 (fun b hb hb2 => by subst hbl; exact absurd rfl ((by have := uh HN; simp_all [List.nodup_append] : ∀ p ∈ g4, ∀ q ∈ g5, p ≠ q) b hb b hb2))
 replace O6 := O6.ext E5 (fun b hb hb2 => by subst hbl; exact absurd rfl ((by have := uh HN; simp_all [List.nodup_append] : ∀ p ∈ g5, ∀ q ∈ g6, p ≠ q) b hb2 b hb))
 replace EX := EX.trans (E5.mono fun b _ hb => by rw [hbl]; simp [hb])
 replace bA := bA.ext E5 (fun hm => by have := hlt w.heap.size (by rw [hbl]; simp [hm]); omega)
 clear E5
 have p6 := bA.at 6 _ rfl
 have HA := yh bA
 have HX := yh EX
 have HL := yh hlt
 have HBL := yh hbl
 clear bA EX hlt hbl
 have P2 := yh Q2
 clear Q2
 have P4 := yh Q4
 clear Q4
 have P5 := yh Q5
 clear Q5
 have P6 := yh O6
 clear O6
 clear O5
 go_wp2_with fail
 have bA := uh HA
 have EX := uh HX
 have hlt := uh HL
 have hbl := uh HBL
 clear HA HX HL HBL
 have Q2 := uh P2
 clear P2
 have Q4 := uh P4
 clear P4
 have Q5 := uh P5
 clear P5
 have O6 := uh P6
 clear P6
 clear p6
 refine (lR _ x.ae g6 (k + (ab.aD.ak x.chain : Int) + ((ab.sl ab.ax).ak x.nodes : Int) + ((ab.sl ab.aJ).ak x.msgs : Int)) _ O6 (by omega) (by omega)).mono ?_
 rintro e w4 ⟨rfl, Q6, E6⟩
 replace Q2 := Q2.ext E6 (fun b hb hb2 => by subst hbl; exact absurd rfl ((by have := uh HN; simp_all [List.nodup_append] : ∀ p ∈ g2, ∀ q ∈ g6, p ≠ q) b hb b hb2))
 replace Q4 := Q4.ext E6 (fun b hb hb2 => by subst hbl; exact absurd rfl ((by have := uh HN; simp_all [List.nodup_append] : ∀ p ∈ g4, ∀ q ∈ g6, p ≠ q) b hb b hb2))
 replace Q5 := Q5.ext E6 (fun b hb hb2 => by subst hbl; exact absurd rfl ((by have := uh HN; simp_all [List.nodup_append] : ∀ p ∈ g5, ∀ q ∈ g6, p ≠ q) b hb b hb2))
 replace EX := EX.trans (E6.mono fun b _ hb => by rw [hbl]; simp [hb])
 replace bA := bA.ext E6 (fun hm => by have := hlt w.heap.size (by rw [hbl]; simp [hm]); omega)
 clear E6
 have HA := yh bA
 have HX := yh EX
 have HL := yh hlt
 have HBL := yh hbl
 clear bA EX hlt hbl
 have P2 := yh Q2
 clear Q2
 have P4 := yh Q4
 clear Q4
 have P5 := yh Q5
 clear Q5
 have P6 := yh Q6
 clear Q6
 clear O6
 go_wp2_with fail
 go_ret
 refine ⟨?_, ?_, uh HX⟩
 ·
  rw [show k + (ab.aC.ak x : Int) = k + (ab.aD.ak x.chain : Int) + ((ab.sl ab.ax).ak x.nodes : Int) + ((ab.sl ab.aJ).ak x.msgs : Int) + ((ab.sl ab.ar).ak x.ae : Int) by rw [uh HV]; omega]
  rfl
 have e := uh HBL
 subst e
 rw [uh HM]
 exact eA (x := ⟨x.now, x.events, ab.aD.cq (k) x.chain, (ab.sl ab.ax).cq (k + (ab.aD.ak x.chain : Int)) x.nodes, (ab.sl ab.aJ).cq (k + (ab.aD.ak x.chain : Int) + ((ab.sl ab.ax).ak x.nodes : Int)) x.msgs, (ab.sl ab.ar).cq (k + (ab.aD.ak x.chain : Int) + ((ab.sl ab.ax).ak x.nodes : Int) + ((ab.sl ab.aJ).ak x.msgs : Int)) x.ae⟩) (uh P2) (uh P4) (uh P5) (uh P6) v0 v1 (uh HN)
structure a0 where
 code : Int
 bt : Bool
 world : ay
def ab.aB : ab a0 := ab.via (ab.pair ab.int (ab.pair ab.bool ab.aC)) (fun x => (x.code, x.bt, x.world)) (fun p => ⟨p.1, p.2.1, p.2.2⟩)
theorem eI {w : World} {cs : List Value} {x : a0} {bl : List Nat} : ab.aB.bp w cs x bl ↔ ∃ (a5 : Option Addr) (d5 : Nat) (b5 : List Nat) (a6 : Option Addr) (d6 : Nat) (b6 : List Nat) (a7 : Option Addr) (d7 : Nat) (b7 : List Nat) (a8 : Option Addr) (d8 : Nat) (b8 : List Nat), cs = [.int .i64 x.code, .bool x.bt, .int .i64 x.world.now, .int .i64 x.world.events, .int .i64 x.world.chain.af, .slice a5 x.world.chain.ids.length d5, .slice a6 x.world.nodes.length d6, .slice a7 x.world.msgs.length d7, .slice a8 x.world.ae.length d8] ∧ bl = b5 ++ (b6 ++ (b7 ++ b8)) ∧ (Lit.int .i64 x.code).wf = true ∧ (Lit.int .i64 x.world.now).wf = true ∧ (Lit.int .i64 x.world.events).wf = true ∧ (Lit.int .i64 x.world.chain.af).wf = true ∧ (ab.sl ab.int).bp w [.slice a5 x.world.chain.ids.length d5] x.world.chain.ids b5 ∧ (ab.sl ab.ax).bp w [.slice a6 x.world.nodes.length d6] x.world.nodes b6 ∧ (ab.sl ab.aJ).bp w [.slice a7 x.world.msgs.length d7] x.world.msgs b7 ∧ (ab.sl ab.ar).bp w [.slice a8 x.world.ae.length d8] x.world.ae b8 := by
 constructor
 ·
  intro h
  obtain ⟨c0_, r0_, e0_, s0_, rfl, rfl, h0, ⟨c1_, r1_, e1_, s1_, rfl, rfl, h1, h2⟩⟩ := h
  obtain ⟨rfl, w0, rfl⟩ := h0
  obtain ⟨rfl, rfl⟩ := h1
  obtain ⟨a5, d5, q5, a6, d6, q6, a7, d7, q7, a8, d8, q8, rfl, hq2, w2, w3, w4, l5, l6, l7, l8⟩ := cG.1 h2
  exact ⟨a5, d5, q5, a6, d6, q6, a7, d7, q7, a8, d8, q8, by simp, by simp [hq2], w0, w2, w3, w4, l5, l6, l7, l8⟩
 rintro ⟨a5, d5, b5, a6, d6, b6, a7, d7, b7, a8, d8, b8, rfl, hbl, w0, w2, w3, w4, l5, l6, l7, l8⟩
 rw [hbl]
 exact ⟨[.int .i64 x.code], [.bool x.bt] ++ [.int .i64 x.world.now, .int .i64 x.world.events, .int .i64 x.world.chain.af, .slice a5 x.world.chain.ids.length d5, .slice a6 x.world.nodes.length d6, .slice a7 x.world.msgs.length d7, .slice a8 x.world.ae.length d8], [], [] ++ (b5 ++ (b6 ++ (b7 ++ b8))), rfl, by simp, ⟨rfl, w0, rfl⟩, ⟨[.bool x.bt], [.int .i64 x.world.now, .int .i64 x.world.events, .int .i64 x.world.chain.af, .slice a5 x.world.chain.ids.length d5, .slice a6 x.world.nodes.length d6, .slice a7 x.world.msgs.length d7, .slice a8 x.world.ae.length d8], [], b5 ++ (b6 ++ (b7 ++ b8)), rfl, by simp, ⟨rfl, rfl⟩, cG.2 ⟨a5, d5, b5, a6, d6, b6, a7, d7, b7, a8, d8, b8, rfl, rfl, w2, w3, w4, l5, l6, l7, l8⟩⟩⟩
theorem bQ {w : World} {cs : List Value} {x : a0} (h : ab.aB.Reads w cs x) : ∃ (a5 : Option Addr) (d5 : Nat) (a6 : Option Addr) (d6 : Nat) (a7 : Option Addr) (d7 : Nat) (a8 : Option Addr) (d8 : Nat), cs = [.int .i64 x.code, .bool x.bt, .int .i64 x.world.now, .int .i64 x.world.events, .int .i64 x.world.chain.af, .slice a5 x.world.chain.ids.length d5, .slice a6 x.world.nodes.length d6, .slice a7 x.world.msgs.length d7, .slice a8 x.world.ae.length d8] ∧ ab.aC.Reads w [.int .i64 x.world.now, .int .i64 x.world.events, .int .i64 x.world.chain.af, .slice a5 x.world.chain.ids.length d5, .slice a6 x.world.nodes.length d6, .slice a7 x.world.msgs.length d7, .slice a8 x.world.ae.length d8] x.world := by
 obtain ⟨bl, h⟩ := h
 obtain ⟨a5, d5, b5, a6, d6, b6, a7, d7, b7, a8, d8, b8, rfl, -, w0, w2, w3, w4, l5, l6, l7, l8⟩ := eI.1 h
 exact ⟨a5, d5, a6, d6, a7, d7, a8, d8, rfl, ⟨_, cG.2 ⟨a5, d5, _, a6, d6, _, a7, d7, _, a8, d8, _, rfl, rfl, w2, w3, w4, l5, l6, l7, l8⟩⟩⟩
theorem eg (cs cs2 : List Value) (x : a0) (w : World) (h : ab.aB.Reads w cs x) (h2 : ab.aB.Reads w cs2 x) :
  Calls Tryz.prog 27 #[.agg cs.toArray, .agg cs2.toArray] w fun e w' => e = .returned (.bool true) ∧ Below w.heap.size w w' := by
 obtain ⟨a5, d5, a6, d6, a7, d7, a8, d8, rfl, R2⟩ := bQ h
 obtain ⟨a5z, d5z, a6z, d6z, a7z, d7z, a8z, d8z, rfl, R2z⟩ := bQ h2
 clear h h2
 have e0 : (x.code != x.code) = false := by simp
 have e1 : (x.bt != x.bt) = false := by simp
 have e2 : (x.world.now != x.world.now) = false := by simp
 have e3 : (x.world.events != x.world.events) = false := by simp
 have e4 : (x.world.chain.af != x.world.chain.af) = false := by simp
 have HB0 : Below w.heap.size w ((w.alloc (.cells #[.int .i64 x.code, .bool x.bt, .int .i64 x.world.now, .int .i64 x.world.events, .int .i64 x.world.chain.af, .slice a5 x.world.chain.ids.length d5, .slice a6 x.world.nodes.length d6, .slice a7 x.world.msgs.length d7, .slice a8 x.world.ae.length d8] 53)).alloc (.cells #[.int .i64 x.code, .bool x.bt, .int .i64 x.world.now, .int .i64 x.world.events, .int .i64 x.world.chain.af, .slice a5z x.world.chain.ids.length d5z, .slice a6z x.world.nodes.length d6z, .slice a7z x.world.msgs.length d7z, .slice a8z x.world.ae.length d8z] 53)) := ((Below.refl _ _).alloc (Nat.le_refl _) _).alloc (by simp) _
 have bA : aj w.heap.size #[.int .i64 x.code, .bool x.bt, .int .i64 x.world.now, .int .i64 x.world.events, .int .i64 x.world.chain.af, .slice a5 x.world.chain.ids.length d5, .slice a6 x.world.nodes.length d6, .slice a7 x.world.msgs.length d7, .slice a8 x.world.ae.length d8] 53 ((w.alloc (.cells #[.int .i64 x.code, .bool x.bt, .int .i64 x.world.now, .int .i64 x.world.events, .int .i64 x.world.chain.af, .slice a5 x.world.chain.ids.length d5, .slice a6 x.world.nodes.length d6, .slice a7 x.world.msgs.length d7, .slice a8 x.world.ae.length d8] 53)).alloc (.cells #[.int .i64 x.code, .bool x.bt, .int .i64 x.world.now, .int .i64 x.world.events, .int .i64 x.world.chain.af, .slice a5z x.world.chain.ids.length d5z, .slice a6z x.world.nodes.length d6z, .slice a7z x.world.msgs.length d7z, .slice a8z x.world.ae.length d8z] 53)) w.heap.size := (aH (Nat.le_refl _)).grow _
 have bC : aj w.heap.size #[.int .i64 x.code, .bool x.bt, .int .i64 x.world.now, .int .i64 x.world.events, .int .i64 x.world.chain.af, .slice a5z x.world.chain.ids.length d5z, .slice a6z x.world.nodes.length d6z, .slice a7z x.world.msgs.length d7z, .slice a8z x.world.ae.length d8z] 53 ((w.alloc (.cells #[.int .i64 x.code, .bool x.bt, .int .i64 x.world.now, .int .i64 x.world.events, .int .i64 x.world.chain.af, .slice a5 x.world.chain.ids.length d5, .slice a6 x.world.nodes.length d6, .slice a7 x.world.msgs.length d7, .slice a8 x.world.ae.length d8] 53)).alloc (.cells #[.int .i64 x.code, .bool x.bt, .int .i64 x.world.now, .int .i64 x.world.events, .int .i64 x.world.chain.af, .slice a5z x.world.chain.ids.length d5z, .slice a6z x.world.nodes.length d6z, .slice a7z x.world.msgs.length d7z, .slice a8z x.world.ae.length d8z] 53)) (w.heap.size + 1) := bg (by omega) (by simp)
 go_enter Tryz.func27, Tryz.ntmps27
 go_wp2_with fail
 generalize (w.alloc (.cells #[.int .i64 x.code, .bool x.bt, .int .i64 x.world.now, .int .i64 x.world.events, .int .i64 x.world.chain.af, .slice a5 x.world.chain.ids.length d5, .slice a6 x.world.nodes.length d6, .slice a7 x.world.msgs.length d7, .slice a8 x.world.ae.length d8] 53)).alloc (.cells #[.int .i64 x.code, .bool x.bt, .int .i64 x.world.now, .int .i64 x.world.events, .int .i64 x.world.chain.af, .slice a5z x.world.chain.ids.length d5z, .slice a6z x.world.nodes.length d6z, .slice a7z x.world.msgs.length d7z, .slice a8z x.world.ae.length d8z] 53) = W0 at *
 replace R2 := R2.ag HB0
 replace R2z := R2z.ag HB0
 refine (mq _ _ x.world _ R2 R2z).mono ?_
 rintro e w1 ⟨rfl, hb⟩
 replace bA := bA.au hb
 replace bC := bC.au hb
 replace HB0 := HB0.trans (hb.mono HB0.size)
 clear hb
 have HB := yh HB0
 have HA := yh bA
 have HC := yh bC
 clear HB0 bA bC
 go_wp2_with fail
 go_ret
 exact ⟨rfl, uh HB⟩
theorem cI (x : a0) : ab.aB.ak x = ab.aC.ak x.world := by
 show 0 + (0 + (ab.aC.ak x.world)) = ab.aC.ak x.world
 omega
theorem eY (k : Int) (x : a0) : ab.aB.cq k x = ⟨x.code, x.bt, ab.aC.cq (k) x.world⟩ := by
 simp [ab.aB, ab.via, ab.pair, ab.int, ab.bool]
theorem ix {w : World} {cs : List Value} {x : a0} {bl : List Nat} (h : ab.aB.Own w cs x bl) : ∃ (a5 : Option Addr) (d5 : Nat) (a6 : Option Addr) (d6 : Nat) (a7 : Option Addr) (d7 : Nat) (a8 : Option Addr) (d8 : Nat) (g2 : List Nat), cs = [.int .i64 x.code, .bool x.bt, .int .i64 x.world.now, .int .i64 x.world.events, .int .i64 x.world.chain.af, .slice a5 x.world.chain.ids.length d5, .slice a6 x.world.nodes.length d6, .slice a7 x.world.msgs.length d7, .slice a8 x.world.ae.length d8] ∧ bl = g2 ∧ ab.aC.Own w [.int .i64 x.world.now, .int .i64 x.world.events, .int .i64 x.world.chain.af, .slice a5 x.world.chain.ids.length d5, .slice a6 x.world.nodes.length d6, .slice a7 x.world.msgs.length d7, .slice a8 x.world.ae.length d8] x.world g2 ∧ (Lit.int .i64 x.code).wf = true := by
 obtain ⟨hl, hn, hf⟩ := h
 obtain ⟨a5, d5, b5, a6, d6, b6, a7, d7, b7, a8, d8, b8, rfl, hbl, w0, w2, w3, w4, l5, l6, l7, l8⟩ := eI.1 hl
 rw [hbl] at hn hf
 simp only [List.nodup_append, List.mem_append] at hn hf
 exact ⟨a5, d5, a6, d6, a7, d7, a8, d8, (b5 ++ (b6 ++ (b7 ++ b8))), rfl, by first | exact hbl | (rw [hbl]; simp only [List.append_assoc]), ⟨cG.2 ⟨a5, d5, b5, a6, d6, b6, a7, d7, b7, a8, d8, b8, rfl, rfl, w2, w3, w4, l5, l6, l7, l8⟩, by simp_all [List.nodup_append], fun b hb => hf b (by simp_all)⟩, w0⟩
theorem dF {w : World} {x : a0} {c2 : List Value} {g2 : List Nat} (O2 : ab.aC.Own w c2 x.world g2) (v0 : (Lit.int .i64 x.code).wf = true) (hn : (g2).Nodup) : ab.aB.Own w ([.int .i64 x.code] ++ ([.bool x.bt] ++ c2)) x (g2) := by
 refine ⟨⟨[.int .i64 x.code], [.bool x.bt] ++ c2, [], [] ++ g2, rfl, by simp, ⟨rfl, v0, rfl⟩, ⟨[.bool x.bt], c2, [], g2, rfl, rfl, ⟨rfl, rfl⟩, O2.1⟩⟩, hn, ?_⟩
 intro b hb o
 exact O2.2.2 b hb o
theorem gL (cs : List Value) (x : a0) (bl : List Nat) (k : Int) (w : World) (h : ab.aB.Own w cs x bl) (hk : 0 ≤ k) (hk2 : k + ab.aB.ak x ≤ 1000000000) :
  Calls Tryz.prog 28 #[.agg cs.toArray, .int .i64 k] w fun e w' => e = .returned (.int .i64 (k + ab.aB.ak x)) ∧ ab.aB.Own w' cs (ab.aB.cq k x) bl ∧ Ext (fun q => q ∈ bl) w w' := by
 have hlt := h.lt
 have hnd := h.2.1
 rw [cI] at hk2
 obtain ⟨a5, d5, a6, d6, a7, d7, a8, d8, g2, rfl, hbl, O2, v0⟩ := ix h
 clear h
 have HB0 : Below w.heap.size w (w.alloc (.cells #[.int .i64 x.code, .bool x.bt, .int .i64 x.world.now, .int .i64 x.world.events, .int .i64 x.world.chain.af, .slice a5 x.world.chain.ids.length d5, .slice a6 x.world.nodes.length d6, .slice a7 x.world.msgs.length d7, .slice a8 x.world.ae.length d8] 53)) := (Below.refl _ _).alloc (Nat.le_refl _) _
 have bA : aj w.heap.size #[.int .i64 x.code, .bool x.bt, .int .i64 x.world.now, .int .i64 x.world.events, .int .i64 x.world.chain.af, .slice a5 x.world.chain.ids.length d5, .slice a6 x.world.nodes.length d6, .slice a7 x.world.msgs.length d7, .slice a8 x.world.ae.length d8] 53 (w.alloc (.cells #[.int .i64 x.code, .bool x.bt, .int .i64 x.world.now, .int .i64 x.world.events, .int .i64 x.world.chain.af, .slice a5 x.world.chain.ids.length d5, .slice a6 x.world.nodes.length d6, .slice a7 x.world.msgs.length d7, .slice a8 x.world.ae.length d8] 53)) w.heap.size := aH (Nat.le_refl _)
 have HN := yh hnd
 have HV := yh (cI x)
 have HM := yh (eY k x)
 clear hnd
 go_enter Tryz.func28, Tryz.ntmps28
 go_wp2_with fail
 generalize w.alloc (.cells #[.int .i64 x.code, .bool x.bt, .int .i64 x.world.now, .int .i64 x.world.events, .int .i64 x.world.chain.af, .slice a5 x.world.chain.ids.length d5, .slice a6 x.world.nodes.length d6, .slice a7 x.world.msgs.length d7, .slice a8 x.world.ae.length d8] 53) = W0 at *
 replace O2 := O2.ag HB0
 have hsz := HB0.size
 have EX : Ext (fun q => q ∈ bl) w W0 := aL HB0 _
 have hs0 := bA.lt
 refine (iB _ x.world g2 (k) _ O2 (by omega) (by omega)).mono ?_
 rintro e w1 ⟨rfl, Q2, E2⟩
 replace EX := EX.trans (E2.mono fun b _ hb => by rw [hbl]; simp [hb])
 replace bA := bA.ext E2 (fun hm => by have := hlt w.heap.size (by rw [hbl]; simp [hm]); omega)
 clear E2
 have HA := yh bA
 have HX := yh EX
 have HL := yh hlt
 have HBL := yh hbl
 clear bA EX hlt hbl
 have P2 := yh Q2
 clear Q2
 clear O2
 go_wp2_with fail
 go_ret
 refine ⟨?_, ?_, uh HX⟩
 ·
  rw [show k + (ab.aB.ak x : Int) = k + (ab.aC.ak x.world : Int) by rw [uh HV]]
  rfl
 have e := uh HBL
 subst e
 rw [uh HM]
 exact dF (x := ⟨x.code, x.bt, ab.aC.cq (k) x.world⟩) (uh P2) v0 (uh HN)
theorem ng (cs : List Value) (x : bH) (k : Int) (w : World) (h : ab.aD.Reads w cs (ab.aD.cq k x)) (hk : 0 ≤ k) (hk2 : k + ab.aD.ak x ≤ 1000000000) :
  Calls Tryz.prog 135 #[.agg cs.toArray, .int .i64 k] w fun e w' => e = .returned (.int .i64 (k + ab.aD.ak x)) ∧ Below w.heap.size w w' := by
 rw [jX] at h
 rw [ek] at hk2
 have HV := yh (ek x)
 obtain ⟨a1, d1, rfl, R1⟩ := bP h
 clear h
 generalize hn1 : (⟨x.af, (ab.sl ab.int).cq (k) x.ids⟩ : bH).ids.length = n1 at *
 clear hn1
 have HB0 : Below w.heap.size w (w.alloc (.cells #[.int .i64 x.af, .slice a1 n1 d1] 32)) := (Below.refl _ _).alloc (Nat.le_refl _) _
 have bA : aj w.heap.size #[.int .i64 x.af, .slice a1 n1 d1] 32 (w.alloc (.cells #[.int .i64 x.af, .slice a1 n1 d1] 32)) w.heap.size := aH (Nat.le_refl _)
 go_enter Tryz.func135, Tryz.ntmps135
 go_wp2_with fail
 generalize w.alloc (.cells #[.int .i64 x.af, .slice a1 n1 d1] 32) = W0 at *
 replace R1 := R1.ag HB0
 refine (dW _ x.ids (k) _ R1 (by omega) (by omega)).mono ?_
 rintro e w1 ⟨rfl, hb⟩
 replace HB0 := HB0.trans (hb.mono HB0.size)
 replace bA := bA.au hb
 have HA := yh bA
 have HX := yh HB0
 clear bA HB0 hb R1
 have hq : decide (k + ((ab.sl ab.int).ak x.ids : Int) < 0) = false := by simp; omega
 go_wp2_with fail
 clear hq
 go_ret
 refine ⟨?_, uh HX⟩
 rw [show k + (ab.aD.ak x : Int) = k + ((ab.sl ab.int).ak x.ids : Int) by rw [uh HV]]
 rfl
theorem ju (b off cap : Nat) (xs : List aA) (k : Int) (w : World) (h : (ab.sl ab.ai).Reads w [.slice (some ⟨b, off, none⟩) (bW ab.ai.bG ab.ai.dj k xs).length cap] (bW ab.ai.bG ab.ai.dj k xs)) (hbl : b < w.heap.size) (hk : 0 ≤ k) (hk2 : k + (al ab.ai.bG xs : Nat) ≤ 1000000000) :
  Calls Tryz.prog 199 #[.slice (some ⟨b, off, none⟩) xs.length cap, .int .i64 k] w fun e w' => e = .returned (.int .i64 (k + (al ab.ai.bG xs : Nat))) ∧ Below w.heap.size w w' := by
 have hbig := h.dK
 rw [bf] at hbig
 have H := yh h
 clear h
 go_enter Tryz.func199, Tryz.ntmps199
 go_wp2_with fail
 go_loopw [1, 5] (fun kk i wr => ∃ (j : Nat) (kj : Int), j ≤ xs.length ∧ i = .int .i64 j ∧ kj = k + (al ab.ai.bG (xs.take j) : Nat) ∧ kk = .int .i64 kj ∧ Below w.heap.size w wr) (fun _ i _ => xs.length - (intOf i).toNat)
 case atStart => exact ⟨0, k, Nat.zero_le _, rfl, by simp [al], rfl, Below.refl _ _⟩
 case round =>
  obtain ⟨j, kj, hj, rfl, hkj, rfl, hB⟩ := hrel
  by_cases hlt : j < xs.length
  ·
   have hj2 : j < (bW ab.ai.bG ab.ai.dj k xs).length := by rw [bf]; exact hlt
   obtain ⟨row, hc, hr⟩ := ab.bm (uh H) hj2
   rw [eK _ _ _ _ _ hlt hj2, ← hkj, kh] at hr
   have HT := yh (ab.bV (f := ab.ai.bG) hlt)
   have hle := ab.bx (f := ab.ai.bG) (xs := xs) (k := j + 1)
   rw [uh HT] at hle
   clear hj2
   generalize hx : xs[j] = x at *
   clear hx
   have hcn := kc x
   have hb1 : 0 ≤ kj := by omega
   have hb2 : kj + (ab.ai.bG x : Int) ≤ 1000000000 := by omega
   have HK := yh hkj
   clear hkj hle
   replace hr := hr.ag hB
   obtain ⟨a2, d2, rfl, R2⟩ := bk hr
   clear hr
   generalize hn : (⟨kj, kj + 1, (ab.sl ab.int).cq (kj + 1 + 1) x.vec, kj + 1 + 1 + ((ab.sl ab.int).ak x.vec : Nat), kj + 1 + 1 + ((ab.sl ab.int).ak x.vec : Nat) + 1⟩ : aA).vec.length = n1 at *
   clear hn
   have c0 : wr.cell? ⟨b, off + j * 5, none⟩ = some (.int .i64 (kj)) := (hB.cell (p := ⟨b, off + j * 5, none⟩) hbl).trans (hc 0 (by decide))
   have e0 : ((kj : Int) != (kj : Int)) = false := by simp
   have c1 : wr.cell? ⟨b, off + j * 5 + 1, none⟩ = some (.int .i64 (kj + 1)) := (hB.cell (p := ⟨b, off + j * 5 + 1, none⟩) hbl).trans (hc 1 (by decide))
   have e1 : ((kj + 1 : Int) != (kj + 1 : Int)) = false := by simp
   have c2 : wr.cell? ⟨b, off + j * 5 + 2, none⟩ = some (.slice a2 n1 d2) := (hB.cell (p := ⟨b, off + j * 5 + 2, none⟩) hbl).trans (hc 2 (by decide))
   have c3 : wr.cell? ⟨b, off + j * 5 + 3, none⟩ = some (.int .i64 (kj + 1 + 1 + ((ab.sl ab.int).ak x.vec : Nat))) := (hB.cell (p := ⟨b, off + j * 5 + 3, none⟩) hbl).trans (hc 3 (by decide))
   have e3 : ((kj + 1 + 1 + ((ab.sl ab.int).ak x.vec : Nat) : Int) != (kj + 1 + 1 + ((ab.sl ab.int).ak x.vec : Nat) : Int)) = false := by simp
   have c4 : wr.cell? ⟨b, off + j * 5 + 4, none⟩ = some (.int .i64 (kj + 1 + 1 + ((ab.sl ab.int).ak x.vec : Nat) + 1)) := (hB.cell (p := ⟨b, off + j * 5 + 4, none⟩) hbl).trans (hc 4 (by decide))
   have e4 : ((kj + 1 + 1 + ((ab.sl ab.int).ak x.vec : Nat) + 1 : Int) != (kj + 1 + 1 + ((ab.sl ab.int).ak x.vec : Nat) + 1 : Int)) = false := by simp
   have HB := yh hB
   clear hB hc
   go_wp2_with fail
   refine (dW _ x.vec (kj + 1 + 1) _ R2 (by omega) (by omega)).mono ?_
   rintro e w2 ⟨rfl, hb⟩
   have l1 : b < wr.heap.size := Nat.lt_of_lt_of_le hbl (uh HB).size
   replace c3 := (hb.cell (p := ⟨b, off + j * 5 + 3, none⟩) l1).trans c3
   replace c4 := (hb.cell (p := ⟨b, off + j * 5 + 4, none⟩) l1).trans c4
   replace HB := bZ HB hb
   clear hb R2 l1 c0 c1 c2
   have hq : decide (kj + 1 + 1 + ((ab.sl ab.int).ak x.vec : Int) < 0) = false := by simp; omega
   go_wp2_with fail
   go_roundw
   case rel => exact ⟨j + 1, _, by omega, by go_num, (by rw [uh HT, hcn]; have := uh HK; omega), rfl, uh HB⟩
   case measure => simp [intOf]; omega
  obtain rfl : j = xs.length := by omega
  rw [List.take_length] at hkj
  have HK := yh hkj
  have HB := yh hB
  clear hB hkj
  go_wp2_with fail
  go_ret
  exact ⟨by rw [← uh HK]; rfl, uh HB⟩
theorem iY (ao : Option Addr) (cap : Nat) (k : Int) (w : World) :
  Calls Tryz.prog 199 #[.slice ao 0 cap, .int .i64 k] w fun e w' => e = .returned (.int .i64 k) ∧ w' = w := by
 go_enter Tryz.func199, Tryz.ntmps199
 go_wp2_with fail
 refine wp_loop_rounds 1 ?_
 rw [rounds_succ]
 go_wp2_with fail
 go_ret
 exact ⟨rfl, rfl⟩
theorem my (v : Value) (xs : List aA) (k : Int) (w : World) (h : (ab.sl ab.ai).Reads w [v] ((ab.sl ab.ai).cq k xs)) (hk : 0 ≤ k) (hk2 : k + (ab.sl ab.ai).ak xs ≤ 1000000000) :
  Calls Tryz.prog 199 #[v, .int .i64 k] w fun e w' => e = .returned (.int .i64 (k + (ab.sl ab.ai).ak xs)) ∧ Below w.heap.size w w' := by
 rw [mV] at h
 obtain ⟨ao, cap, rfl⟩ := aE h
 by_cases hp : 0 < xs.length
 ·
  obtain ⟨b, off, rfl, hbl⟩ := ab.aI h (by rw [bf]; exact hp)
  have L := ju b off cap xs k w h hbl hk hk2
  rw [bf]
  exact L
 obtain rfl : xs = [] := List.eq_nil_of_length_eq_zero (by omega)
 refine (iY ao cap k w).mono ?_
 rintro e w' ⟨rfl, rfl⟩
 exact ⟨by rw [ib]; simp [al], Below.refl _ _⟩
theorem kT (b off cap : Nat) (xs : List bz) (k : Int) (w : World) (h : (ab.sl ab.ax).Reads w [.slice (some ⟨b, off, none⟩) (bW ab.ax.bG ab.ax.dj k xs).length cap] (bW ab.ax.bG ab.ax.dj k xs)) (hbl : b < w.heap.size) (hk : 0 ≤ k) (hk2 : k + (al ab.ax.bG xs : Nat) ≤ 1000000000) :
  Calls Tryz.prog 136 #[.slice (some ⟨b, off, none⟩) xs.length cap, .int .i64 k] w fun e w' => e = .returned (.int .i64 (k + (al ab.ax.bG xs : Nat))) ∧ Below w.heap.size w w' := by
 have hbig := h.dK
 rw [bf] at hbig
 have H := yh h
 clear h
 go_enter Tryz.func136, Tryz.ntmps136
 go_wp2_with fail
 go_loopw [1, 5] (fun kk i wr => ∃ (j : Nat) (kj : Int), j ≤ xs.length ∧ i = .int .i64 j ∧ kj = k + (al ab.ax.bG (xs.take j) : Nat) ∧ kk = .int .i64 kj ∧ Below w.heap.size w wr) (fun _ i _ => xs.length - (intOf i).toNat)
 case atStart => exact ⟨0, k, Nat.zero_le _, rfl, by simp [al], rfl, Below.refl _ _⟩
 case round =>
  obtain ⟨j, kj, hj, rfl, hkj, rfl, hB⟩ := hrel
  by_cases hlt : j < xs.length
  ·
   have hj2 : j < (bW ab.ax.bG ab.ax.dj k xs).length := by rw [bf]; exact hlt
   obtain ⟨row, hc, hr⟩ := ab.bm (uh H) hj2
   rw [eK _ _ _ _ _ hlt hj2, ← hkj, me] at hr
   have HT := yh (ab.bV (f := ab.ax.bG) hlt)
   have hle := ab.bx (f := ab.ax.bG) (xs := xs) (k := j + 1)
   rw [uh HT] at hle
   clear hj2
   generalize hx : xs[j] = x at *
   clear hx
   have hcn := mw x
   have hb1 : 0 ≤ kj := by omega
   have hb2 : kj + (ab.ax.bG x : Int) ≤ 1000000000 := by omega
   have HK := yh hkj
   clear hkj hle
   replace hr := hr.ag hB
   obtain ⟨a4, d4, rfl, R4⟩ := bK hr
   clear hr
   generalize hn4 : (⟨kj, ((kj + 1).tmod 3 == 0), kj + 1 + 1, kj + 1 + 1 + 1, (ab.sl ab.ai).cq (kj + 1 + 1 + 1 + 1) x.writes, kj + 1 + 1 + 1 + 1 + ((ab.sl ab.ai).ak x.writes : Nat), kj + 1 + 1 + 1 + 1 + ((ab.sl ab.ai).ak x.writes : Nat) + 1⟩ : bz).writes.length = n4 at *
   clear hn4
   have c0 : wr.cell? ⟨b, off + j * 7, none⟩ = some (.int .i64 (kj)) := (hB.cell (p := ⟨b, off + j * 7, none⟩) hbl).trans (hc 0 (by decide))
   have e0 : ((kj : Int) != (kj : Int)) = false := by simp
   have c1 : wr.cell? ⟨b, off + j * 7 + 1, none⟩ = some (.bool ((kj + 1) % 3 == 0)) := by rw [← Int.tmod_eq_emod_of_nonneg (show (0 : Int) ≤ kj + 1 by omega)]; exact (hB.cell (p := ⟨b, off + j * 7 + 1, none⟩) hbl).trans (hc 1 (by decide))
   have e1 : (((kj + 1) % 3 == 0) != ((kj + 1) % 3 == 0)) = false := by simp
   have c2 : wr.cell? ⟨b, off + j * 7 + 2, none⟩ = some (.int .i64 (kj + 1 + 1)) := (hB.cell (p := ⟨b, off + j * 7 + 2, none⟩) hbl).trans (hc 2 (by decide))
   have e2 : ((kj + 1 + 1 : Int) != (kj + 1 + 1 : Int)) = false := by simp
   have c3 : wr.cell? ⟨b, off + j * 7 + 3, none⟩ = some (.int .i64 (kj + 1 + 1 + 1)) := (hB.cell (p := ⟨b, off + j * 7 + 3, none⟩) hbl).trans (hc 3 (by decide))
   have e3 : ((kj + 1 + 1 + 1 : Int) != (kj + 1 + 1 + 1 : Int)) = false := by simp
   have c4 : wr.cell? ⟨b, off + j * 7 + 4, none⟩ = some (.slice a4 n4 d4) := (hB.cell (p := ⟨b, off + j * 7 + 4, none⟩) hbl).trans (hc 4 (by decide))
   have c5 : wr.cell? ⟨b, off + j * 7 + 5, none⟩ = some (.int .i64 (kj + 1 + 1 + 1 + 1 + ((ab.sl ab.ai).ak x.writes : Nat))) := (hB.cell (p := ⟨b, off + j * 7 + 5, none⟩) hbl).trans (hc 5 (by decide))
   have e5 : ((kj + 1 + 1 + 1 + 1 + ((ab.sl ab.ai).ak x.writes : Nat) : Int) != (kj + 1 + 1 + 1 + 1 + ((ab.sl ab.ai).ak x.writes : Nat) : Int)) = false := by simp
   have c6 : wr.cell? ⟨b, off + j * 7 + 6, none⟩ = some (.int .i64 (kj + 1 + 1 + 1 + 1 + ((ab.sl ab.ai).ak x.writes : Nat) + 1)) := (hB.cell (p := ⟨b, off + j * 7 + 6, none⟩) hbl).trans (hc 6 (by decide))
   have e6 : ((kj + 1 + 1 + 1 + 1 + ((ab.sl ab.ai).ak x.writes : Nat) + 1 : Int) != (kj + 1 + 1 + 1 + 1 + ((ab.sl ab.ai).ak x.writes : Nat) + 1 : Int)) = false := by simp
   have l1 : b < wr.heap.size := Nat.lt_of_lt_of_le hbl hB.size
   have HB := yh hB
   clear hB hc
   have P4 := yh R4
   clear R4
   go_wp2_with fail
   refine (my _ x.writes (kj + 1 + 1 + 1 + 1) _ (uh P4) (by omega) (by omega)).mono ?_
   rintro e u0 ⟨rfl, hb⟩
   replace c5 := (hb.cell (p := ⟨b, off + j * 7 + 5, none⟩) l1).trans c5
   replace c6 := (hb.cell (p := ⟨b, off + j * 7 + 6, none⟩) l1).trans c6
   replace HB := bZ HB hb
   replace l1 := Nat.lt_of_lt_of_le l1 hb.size
   clear hb P4 c4
   have hq : decide (kj + 1 + 1 + 1 + 1 + ((ab.sl ab.ai).ak x.writes : Int) < 0) = false := by simp; omega
   go_wp2_with fail
   go_roundw
   case rel => exact ⟨j + 1, _, by omega, by go_num, (by rw [uh HT, hcn]; have := uh HK; omega), rfl, uh HB⟩
   case measure => simp [intOf]; omega
  obtain rfl : j = xs.length := by omega
  rw [List.take_length] at hkj
  have HK := yh hkj
  have HB := yh hB
  clear hB hkj
  go_wp2_with fail
  go_ret
  exact ⟨by rw [← uh HK]; rfl, uh HB⟩
theorem jI (ao : Option Addr) (cap : Nat) (k : Int) (w : World) :
  Calls Tryz.prog 136 #[.slice ao 0 cap, .int .i64 k] w fun e w' => e = .returned (.int .i64 k) ∧ w' = w := by
 go_enter Tryz.func136, Tryz.ntmps136
 go_wp2_with fail
 refine wp_loop_rounds 1 ?_
 rw [rounds_succ]
 go_wp2_with fail
 go_ret
 exact ⟨rfl, rfl⟩
theorem nu (v : Value) (xs : List bz) (k : Int) (w : World) (h : (ab.sl ab.ax).Reads w [v] ((ab.sl ab.ax).cq k xs)) (hk : 0 ≤ k) (hk2 : k + (ab.sl ab.ax).ak xs ≤ 1000000000) :
  Calls Tryz.prog 136 #[v, .int .i64 k] w fun e w' => e = .returned (.int .i64 (k + (ab.sl ab.ax).ak xs)) ∧ Below w.heap.size w w' := by
 rw [oF] at h
 obtain ⟨ao, cap, rfl⟩ := aE h
 by_cases hp : 0 < xs.length
 ·
  obtain ⟨b, off, rfl, hbl⟩ := ab.aI h (by rw [bf]; exact hp)
  have L := kT b off cap xs k w h hbl hk hk2
  rw [bf]
  exact L
 obtain rfl : xs = [] := List.eq_nil_of_length_eq_zero (by omega)
 refine (jI ao cap k w).mono ?_
 rintro e w' ⟨rfl, rfl⟩
 exact ⟨by rw [ji]; simp [al], Below.refl _ _⟩
theorem mo (b off cap : Nat) (xs : List bJ) (k : Int) (w : World) (h : (ab.sl ab.aJ).Reads w [.slice (some ⟨b, off, none⟩) (bW ab.aJ.bG ab.aJ.dj k xs).length cap] (bW ab.aJ.bG ab.aJ.dj k xs)) (hbl : b < w.heap.size) (hk : 0 ≤ k) (hk2 : k + (al ab.aJ.bG xs : Nat) ≤ 1000000000) :
  Calls Tryz.prog 137 #[.slice (some ⟨b, off, none⟩) xs.length cap, .int .i64 k] w fun e w' => e = .returned (.int .i64 (k + (al ab.aJ.bG xs : Nat))) ∧ Below w.heap.size w w' := by
 have hbig := h.dK
 rw [bf] at hbig
 have H := yh h
 clear h
 go_enter Tryz.func137, Tryz.ntmps137
 go_wp2_with fail
 go_loopw [1, 5] (fun kk i wr => ∃ (j : Nat) (kj : Int), j ≤ xs.length ∧ i = .int .i64 j ∧ kj = k + (al ab.aJ.bG (xs.take j) : Nat) ∧ kk = .int .i64 kj ∧ Below w.heap.size w wr) (fun _ i _ => xs.length - (intOf i).toNat)
 case atStart => exact ⟨0, k, Nat.zero_le _, rfl, by simp [al], rfl, Below.refl _ _⟩
 case round =>
  obtain ⟨j, kj, hj, rfl, hkj, rfl, hB⟩ := hrel
  by_cases hlt : j < xs.length
  ·
   have hj2 : j < (bW ab.aJ.bG ab.aJ.dj k xs).length := by rw [bf]; exact hlt
   obtain ⟨row, hc, hr⟩ := ab.bm (uh H) hj2
   rw [eK _ _ _ _ _ hlt hj2, ← hkj, nO] at hr
   have HT := yh (ab.bV (f := ab.aJ.bG) hlt)
   have hle := ab.bx (f := ab.aJ.bG) (xs := xs) (k := j + 1)
   rw [uh HT] at hle
   clear hj2
   generalize hx : xs[j] = x at *
   clear hx
   have hcn := nM x
   have hb1 : 0 ≤ kj := by omega
   have hb2 : kj + (ab.aJ.bG x : Int) ≤ 1000000000 := by omega
   have HK := yh hkj
   clear hkj hle
   replace hr := hr.ag hB
   obtain ⟨a7, d7, rfl, RW⟩ := cx hr
   obtain ⟨_, _, e9, R7⟩ := bk RW
   simp only [List.cons.injEq, Value.slice.injEq, true_and, and_true] at e9
   obtain ⟨rfl, rfl⟩ := e9
   clear hr RW
   generalize hn : (⟨kj, kj + 1, kj + 1 + 1, kj + 1 + 1 + 1, kj + 1 + 1 + 1 + 1, ⟨kj + 1 + 1 + 1 + 1 + 1, kj + 1 + 1 + 1 + 1 + 1 + 1, (ab.sl ab.int).cq (kj + 1 + 1 + 1 + 1 + 1 + 1 + 1) x.write.vec, kj + 1 + 1 + 1 + 1 + 1 + 1 + 1 + ((ab.sl ab.int).ak x.write.vec : Nat), kj + 1 + 1 + 1 + 1 + 1 + 1 + 1 + ((ab.sl ab.int).ak x.write.vec : Nat) + 1⟩⟩ : bJ).write.vec.length = n1 at *
   clear hn
   have c0 : wr.cell? ⟨b, off + j * 10, none⟩ = some (.int .i64 (kj)) := (hB.cell (p := ⟨b, off + j * 10, none⟩) hbl).trans (hc 0 (by decide))
   have e0 : ((kj : Int) != (kj : Int)) = false := by simp
   have c1 : wr.cell? ⟨b, off + j * 10 + 1, none⟩ = some (.int .i64 (kj + 1)) := (hB.cell (p := ⟨b, off + j * 10 + 1, none⟩) hbl).trans (hc 1 (by decide))
   have e1 : ((kj + 1 : Int) != (kj + 1 : Int)) = false := by simp
   have c2 : wr.cell? ⟨b, off + j * 10 + 2, none⟩ = some (.int .i64 (kj + 1 + 1)) := (hB.cell (p := ⟨b, off + j * 10 + 2, none⟩) hbl).trans (hc 2 (by decide))
   have e2 : ((kj + 1 + 1 : Int) != (kj + 1 + 1 : Int)) = false := by simp
   have c3 : wr.cell? ⟨b, off + j * 10 + 3, none⟩ = some (.int .i64 (kj + 1 + 1 + 1)) := (hB.cell (p := ⟨b, off + j * 10 + 3, none⟩) hbl).trans (hc 3 (by decide))
   have e3 : ((kj + 1 + 1 + 1 : Int) != (kj + 1 + 1 + 1 : Int)) = false := by simp
   have c4 : wr.cell? ⟨b, off + j * 10 + 4, none⟩ = some (.int .i64 (kj + 1 + 1 + 1 + 1)) := (hB.cell (p := ⟨b, off + j * 10 + 4, none⟩) hbl).trans (hc 4 (by decide))
   have e4 : ((kj + 1 + 1 + 1 + 1 : Int) != (kj + 1 + 1 + 1 + 1 : Int)) = false := by simp
   have c5 : wr.cell? ⟨b, off + j * 10 + 5, none⟩ = some (.int .i64 (kj + 1 + 1 + 1 + 1 + 1)) := (hB.cell (p := ⟨b, off + j * 10 + 5, none⟩) hbl).trans (hc 5 (by decide))
   have e5 : ((kj + 1 + 1 + 1 + 1 + 1 : Int) != (kj + 1 + 1 + 1 + 1 + 1 : Int)) = false := by simp
   have c6 : wr.cell? ⟨b, off + j * 10 + 6, none⟩ = some (.int .i64 (kj + 1 + 1 + 1 + 1 + 1 + 1)) := (hB.cell (p := ⟨b, off + j * 10 + 6, none⟩) hbl).trans (hc 6 (by decide))
   have e6 : ((kj + 1 + 1 + 1 + 1 + 1 + 1 : Int) != (kj + 1 + 1 + 1 + 1 + 1 + 1 : Int)) = false := by simp
   have c7 : wr.cell? ⟨b, off + j * 10 + 7, none⟩ = some (.slice a7 n1 d7) := (hB.cell (p := ⟨b, off + j * 10 + 7, none⟩) hbl).trans (hc 7 (by decide))
   have c8 : wr.cell? ⟨b, off + j * 10 + 8, none⟩ = some (.int .i64 (kj + 1 + 1 + 1 + 1 + 1 + 1 + 1 + ((ab.sl ab.int).ak x.write.vec : Nat))) := (hB.cell (p := ⟨b, off + j * 10 + 8, none⟩) hbl).trans (hc 8 (by decide))
   have e8 : ((kj + 1 + 1 + 1 + 1 + 1 + 1 + 1 + ((ab.sl ab.int).ak x.write.vec : Nat) : Int) != (kj + 1 + 1 + 1 + 1 + 1 + 1 + 1 + ((ab.sl ab.int).ak x.write.vec : Nat) : Int)) = false := by simp
   have c9 : wr.cell? ⟨b, off + j * 10 + 9, none⟩ = some (.int .i64 (kj + 1 + 1 + 1 + 1 + 1 + 1 + 1 + ((ab.sl ab.int).ak x.write.vec : Nat) + 1)) := (hB.cell (p := ⟨b, off + j * 10 + 9, none⟩) hbl).trans (hc 9 (by decide))
   have e9 : ((kj + 1 + 1 + 1 + 1 + 1 + 1 + 1 + ((ab.sl ab.int).ak x.write.vec : Nat) + 1 : Int) != (kj + 1 + 1 + 1 + 1 + 1 + 1 + 1 + ((ab.sl ab.int).ak x.write.vec : Nat) + 1 : Int)) = false := by simp
   have HB := yh hB
   clear hB hc
   go_wp2_with fail
   refine (dW _ x.write.vec (kj + 1 + 1 + 1 + 1 + 1 + 1 + 1) _ R7 (by omega) (by omega)).mono ?_
   rintro e w2 ⟨rfl, hb⟩
   have l1 : b < wr.heap.size := Nat.lt_of_lt_of_le hbl (uh HB).size
   replace c8 := (hb.cell (p := ⟨b, off + j * 10 + 8, none⟩) l1).trans c8
   replace c9 := (hb.cell (p := ⟨b, off + j * 10 + 9, none⟩) l1).trans c9
   replace HB := bZ HB hb
   clear hb R7 l1 c0 c1 c2 c3 c4 c5 c6 c7
   have hq : decide (kj + 1 + 1 + 1 + 1 + 1 + 1 + 1 + ((ab.sl ab.int).ak x.write.vec : Int) < 0) = false := by simp; omega
   go_wp2_with fail
   go_roundw
   case rel => exact ⟨j + 1, _, by omega, by go_num, (by rw [uh HT, hcn]; have := uh HK; omega), rfl, uh HB⟩
   case measure => simp [intOf]; omega
  obtain rfl : j = xs.length := by omega
  rw [List.take_length] at hkj
  have HK := yh hkj
  have HB := yh hB
  clear hB hkj
  go_wp2_with fail
  go_ret
  exact ⟨by rw [← uh HK]; rfl, uh HB⟩
theorem kC (ao : Option Addr) (cap : Nat) (k : Int) (w : World) :
  Calls Tryz.prog 137 #[.slice ao 0 cap, .int .i64 k] w fun e w' => e = .returned (.int .i64 k) ∧ w' = w := by
 go_enter Tryz.func137, Tryz.ntmps137
 go_wp2_with fail
 refine wp_loop_rounds 1 ?_
 rw [rounds_succ]
 go_wp2_with fail
 go_ret
 exact ⟨rfl, rfl⟩
theorem om (v : Value) (xs : List bJ) (k : Int) (w : World) (h : (ab.sl ab.aJ).Reads w [v] ((ab.sl ab.aJ).cq k xs)) (hk : 0 ≤ k) (hk2 : k + (ab.sl ab.aJ).ak xs ≤ 1000000000) :
  Calls Tryz.prog 137 #[v, .int .i64 k] w fun e w' => e = .returned (.int .i64 (k + (ab.sl ab.aJ).ak xs)) ∧ Below w.heap.size w w' := by
 rw [pB] at h
 obtain ⟨ao, cap, rfl⟩ := aE h
 by_cases hp : 0 < xs.length
 ·
  obtain ⟨b, off, rfl, hbl⟩ := ab.aI h (by rw [bf]; exact hp)
  have L := mo b off cap xs k w h hbl hk hk2
  rw [bf]
  exact L
 obtain rfl : xs = [] := List.eq_nil_of_length_eq_zero (by omega)
 refine (kC ao cap k w).mono ?_
 rintro e w' ⟨rfl, rfl⟩
 exact ⟨by rw [ka]; simp [al], Below.refl _ _⟩
theorem mC (b off cap : Nat) (xs : List dR) (k : Int) (w : World) (h : (ab.sl ab.bb).Reads w [.slice (some ⟨b, off, none⟩) (bW ab.bb.bG ab.bb.dj k xs).length cap] (bW ab.bb.bG ab.bb.dj k xs)) (hbl : b < w.heap.size) (hk : 0 ≤ k) (hk2 : k + (al ab.bb.bG xs : Nat) ≤ 1000000000) :
  Calls Tryz.prog 72 #[.slice (some ⟨b, off, none⟩) xs.length cap, .int .i64 k] w fun e w' => e = .returned (.int .i64 (k + (al ab.bb.bG xs : Nat))) ∧ Below w.heap.size w w' := by
 have hbig := h.dK
 rw [bf] at hbig
 have H := yh h
 clear h
 go_enter Tryz.func72, Tryz.ntmps72
 go_wp2_with fail
 go_loopw [1, 5] (fun kk i wr => ∃ (j : Nat) (kj : Int), j ≤ xs.length ∧ i = .int .i64 j ∧ kj = k + (al ab.bb.bG (xs.take j) : Nat) ∧ kk = .int .i64 kj ∧ Below w.heap.size w wr) (fun _ i _ => xs.length - (intOf i).toNat)
 case atStart => exact ⟨0, k, Nat.zero_le _, rfl, by simp [al], rfl, Below.refl _ _⟩
 case round =>
  obtain ⟨j, kj, hj, rfl, hkj, rfl, hB⟩ := hrel
  by_cases hlt : j < xs.length
  ·
   have hj2 : j < (bW ab.bb.bG ab.bb.dj k xs).length := by rw [bf]; exact hlt
   obtain ⟨row, hc, hr⟩ := ab.bm (uh H) hj2
   rw [eK _ _ _ _ _ hlt hj2, ← hkj, nH] at hr
   have HT := yh (ab.bV (f := ab.bb.bG) hlt)
   have hle := ab.bx (f := ab.bb.bG) (xs := xs) (k := j + 1)
   rw [uh HT] at hle
   clear hj2
   generalize hx : xs[j] = x at *
   clear hx
   have hcn := nK x
   have hb1 : 0 ≤ kj := by omega
   have hb2 : kj + (ab.bb.bG x : Int) ≤ 1000000000 := by omega
   have HK := yh hkj
   clear hkj hle
   replace hr := hr.ag hB
   obtain ⟨blo, hlo⟩ := hr
   obtain ⟨rfl, -⟩ := cB.1 hlo
   clear hlo
   have c0 : wr.cell? ⟨b, off + j * 2, none⟩ = some (.int .i64 (kj)) := (hB.cell (p := ⟨b, off + j * 2, none⟩) hbl).trans (hc 0 (by decide))
   have e0 : ((kj : Int) != (kj : Int)) = false := by simp
   have c1 : wr.cell? ⟨b, off + j * 2 + 1, none⟩ = some (.int .i64 (kj + 1)) := (hB.cell (p := ⟨b, off + j * 2 + 1, none⟩) hbl).trans (hc 1 (by decide))
   have e1 : ((kj + 1 : Int) != (kj + 1 : Int)) = false := by simp
   have HB := yh hB
   clear hB hc
   go_wp2_with fail
   go_roundw
   case rel => exact ⟨j + 1, _, by omega, by go_num, (by rw [uh HT, hcn]; have := uh HK; omega), rfl, uh HB⟩
   case measure => simp [intOf]; omega
  obtain rfl : j = xs.length := by omega
  rw [List.take_length] at hkj
  have HK := yh hkj
  have HB := yh hB
  clear hB hkj
  go_wp2_with fail
  go_ret
  exact ⟨by rw [← uh HK]; rfl, uh HB⟩
theorem kO (ao : Option Addr) (cap : Nat) (k : Int) (w : World) :
  Calls Tryz.prog 72 #[.slice ao 0 cap, .int .i64 k] w fun e w' => e = .returned (.int .i64 k) ∧ w' = w := by
 go_enter Tryz.func72, Tryz.ntmps72
 go_wp2_with fail
 refine wp_loop_rounds 1 ?_
 rw [rounds_succ]
 go_wp2_with fail
 go_ret
 exact ⟨rfl, rfl⟩
theorem oK (v : Value) (xs : List dR) (k : Int) (w : World) (h : (ab.sl ab.bb).Reads w [v] ((ab.sl ab.bb).cq k xs)) (hk : 0 ≤ k) (hk2 : k + (ab.sl ab.bb).ak xs ≤ 1000000000) :
  Calls Tryz.prog 72 #[v, .int .i64 k] w fun e w' => e = .returned (.int .i64 (k + (ab.sl ab.bb).ak xs)) ∧ Below w.heap.size w w' := by
 rw [pV] at h
 obtain ⟨ao, cap, rfl⟩ := aE h
 by_cases hp : 0 < xs.length
 ·
  obtain ⟨b, off, rfl, hbl⟩ := ab.aI h (by rw [bf]; exact hp)
  have L := mC b off cap xs k w h hbl hk hk2
  rw [bf]
  exact L
 obtain rfl : xs = [] := List.eq_nil_of_length_eq_zero (by omega)
 refine (kO ao cap k w).mono ?_
 rintro e w' ⟨rfl, rfl⟩
 exact ⟨by rw [ko]; simp [al], Below.refl _ _⟩
theorem jA (b off cap : Nat) (xs : List aZ) (k : Int) (w : World) (h : (ab.sl ab.ar).Reads w [.slice (some ⟨b, off, none⟩) (bW ab.ar.bG ab.ar.dj k xs).length cap] (bW ab.ar.bG ab.ar.dj k xs)) (hbl : b < w.heap.size) (hk : 0 ≤ k) (hk2 : k + (al ab.ar.bG xs : Nat) ≤ 1000000000) :
  Calls Tryz.prog 138 #[.slice (some ⟨b, off, none⟩) xs.length cap, .int .i64 k] w fun e w' => e = .returned (.int .i64 (k + (al ab.ar.bG xs : Nat))) ∧ Below w.heap.size w w' := by
 have hbig := h.dK
 rw [bf] at hbig
 have H := yh h
 clear h
 go_enter Tryz.func138, Tryz.ntmps138
 go_wp2_with fail
 go_loopw [1, 5] (fun kk i wr => ∃ (j : Nat) (kj : Int), j ≤ xs.length ∧ i = .int .i64 j ∧ kj = k + (al ab.ar.bG (xs.take j) : Nat) ∧ kk = .int .i64 kj ∧ Below w.heap.size w wr) (fun _ i _ => xs.length - (intOf i).toNat)
 case atStart => exact ⟨0, k, Nat.zero_le _, rfl, by simp [al], rfl, Below.refl _ _⟩
 case round =>
  obtain ⟨j, kj, hj, rfl, hkj, rfl, hB⟩ := hrel
  by_cases hlt : j < xs.length
  ·
   have hj2 : j < (bW ab.ar.bG ab.ar.dj k xs).length := by rw [bf]; exact hlt
   obtain ⟨row, hc, hr⟩ := ab.bm (uh H) hj2
   rw [eK _ _ _ _ _ hlt hj2, ← hkj, kr] at hr
   have HT := yh (ab.bV (f := ab.ar.bG) hlt)
   have hle := ab.bx (f := ab.ar.bG) (xs := xs) (k := j + 1)
   rw [uh HT] at hle
   clear hj2
   generalize hx : xs[j] = x at *
   clear hx
   have hcn := j4 x
   have hb1 : 0 ≤ kj := by omega
   have hb2 : kj + (ab.ar.bG x : Int) ≤ 1000000000 := by omega
   have HK := yh hkj
   clear hkj hle
   replace hr := hr.ag hB
   obtain ⟨a4, d4, a9, d9, a10, d10, rfl, R4, R9, R10⟩ := bB hr
   clear hr
   generalize hn4 : (⟨kj, kj + 1, kj + 1 + 1, kj + 1 + 1 + 1, (ab.sl ab.int).cq (kj + 1 + 1 + 1 + 1) x.query, kj + 1 + 1 + 1 + 1 + ((ab.sl ab.int).ak x.query : Nat), kj + 1 + 1 + 1 + 1 + ((ab.sl ab.int).ak x.query : Nat) + 1, kj + 1 + 1 + 1 + 1 + ((ab.sl ab.int).ak x.query : Nat) + 1 + 1, kj + 1 + 1 + 1 + 1 + ((ab.sl ab.int).ak x.query : Nat) + 1 + 1 + 1, (ab.sl ab.int).cq (kj + 1 + 1 + 1 + 1 + ((ab.sl ab.int).ak x.query : Nat) + 1 + 1 + 1 + 1) x.vec, (ab.sl ab.bb).cq (kj + 1 + 1 + 1 + 1 + ((ab.sl ab.int).ak x.query : Nat) + 1 + 1 + 1 + 1 + ((ab.sl ab.int).ak x.vec : Nat)) x.aN⟩ : aZ).query.length = n4 at *
   generalize hn9 : (⟨kj, kj + 1, kj + 1 + 1, kj + 1 + 1 + 1, (ab.sl ab.int).cq (kj + 1 + 1 + 1 + 1) x.query, kj + 1 + 1 + 1 + 1 + ((ab.sl ab.int).ak x.query : Nat), kj + 1 + 1 + 1 + 1 + ((ab.sl ab.int).ak x.query : Nat) + 1, kj + 1 + 1 + 1 + 1 + ((ab.sl ab.int).ak x.query : Nat) + 1 + 1, kj + 1 + 1 + 1 + 1 + ((ab.sl ab.int).ak x.query : Nat) + 1 + 1 + 1, (ab.sl ab.int).cq (kj + 1 + 1 + 1 + 1 + ((ab.sl ab.int).ak x.query : Nat) + 1 + 1 + 1 + 1) x.vec, (ab.sl ab.bb).cq (kj + 1 + 1 + 1 + 1 + ((ab.sl ab.int).ak x.query : Nat) + 1 + 1 + 1 + 1 + ((ab.sl ab.int).ak x.vec : Nat)) x.aN⟩ : aZ).vec.length = n9 at *
   generalize hn10 : (⟨kj, kj + 1, kj + 1 + 1, kj + 1 + 1 + 1, (ab.sl ab.int).cq (kj + 1 + 1 + 1 + 1) x.query, kj + 1 + 1 + 1 + 1 + ((ab.sl ab.int).ak x.query : Nat), kj + 1 + 1 + 1 + 1 + ((ab.sl ab.int).ak x.query : Nat) + 1, kj + 1 + 1 + 1 + 1 + ((ab.sl ab.int).ak x.query : Nat) + 1 + 1, kj + 1 + 1 + 1 + 1 + ((ab.sl ab.int).ak x.query : Nat) + 1 + 1 + 1, (ab.sl ab.int).cq (kj + 1 + 1 + 1 + 1 + ((ab.sl ab.int).ak x.query : Nat) + 1 + 1 + 1 + 1) x.vec, (ab.sl ab.bb).cq (kj + 1 + 1 + 1 + 1 + ((ab.sl ab.int).ak x.query : Nat) + 1 + 1 + 1 + 1 + ((ab.sl ab.int).ak x.vec : Nat)) x.aN⟩ : aZ).aN.length = n10 at *
   clear hn4 hn9 hn10
   have c0 : wr.cell? ⟨b, off + j * 11, none⟩ = some (.int .i64 (kj)) := (hB.cell (p := ⟨b, off + j * 11, none⟩) hbl).trans (hc 0 (by decide))
   have e0 : ((kj : Int) != (kj : Int)) = false := by simp
   have c1 : wr.cell? ⟨b, off + j * 11 + 1, none⟩ = some (.int .i64 (kj + 1)) := (hB.cell (p := ⟨b, off + j * 11 + 1, none⟩) hbl).trans (hc 1 (by decide))
   have e1 : ((kj + 1 : Int) != (kj + 1 : Int)) = false := by simp
   have c2 : wr.cell? ⟨b, off + j * 11 + 2, none⟩ = some (.int .i64 (kj + 1 + 1)) := (hB.cell (p := ⟨b, off + j * 11 + 2, none⟩) hbl).trans (hc 2 (by decide))
   have e2 : ((kj + 1 + 1 : Int) != (kj + 1 + 1 : Int)) = false := by simp
   have c3 : wr.cell? ⟨b, off + j * 11 + 3, none⟩ = some (.int .i64 (kj + 1 + 1 + 1)) := (hB.cell (p := ⟨b, off + j * 11 + 3, none⟩) hbl).trans (hc 3 (by decide))
   have e3 : ((kj + 1 + 1 + 1 : Int) != (kj + 1 + 1 + 1 : Int)) = false := by simp
   have c4 : wr.cell? ⟨b, off + j * 11 + 4, none⟩ = some (.slice a4 n4 d4) := (hB.cell (p := ⟨b, off + j * 11 + 4, none⟩) hbl).trans (hc 4 (by decide))
   have c5 : wr.cell? ⟨b, off + j * 11 + 5, none⟩ = some (.int .i64 (kj + 1 + 1 + 1 + 1 + ((ab.sl ab.int).ak x.query : Nat))) := (hB.cell (p := ⟨b, off + j * 11 + 5, none⟩) hbl).trans (hc 5 (by decide))
   have e5 : ((kj + 1 + 1 + 1 + 1 + ((ab.sl ab.int).ak x.query : Nat) : Int) != (kj + 1 + 1 + 1 + 1 + ((ab.sl ab.int).ak x.query : Nat) : Int)) = false := by simp
   have c6 : wr.cell? ⟨b, off + j * 11 + 6, none⟩ = some (.int .i64 (kj + 1 + 1 + 1 + 1 + ((ab.sl ab.int).ak x.query : Nat) + 1)) := (hB.cell (p := ⟨b, off + j * 11 + 6, none⟩) hbl).trans (hc 6 (by decide))
   have e6 : ((kj + 1 + 1 + 1 + 1 + ((ab.sl ab.int).ak x.query : Nat) + 1 : Int) != (kj + 1 + 1 + 1 + 1 + ((ab.sl ab.int).ak x.query : Nat) + 1 : Int)) = false := by simp
   have c7 : wr.cell? ⟨b, off + j * 11 + 7, none⟩ = some (.int .i64 (kj + 1 + 1 + 1 + 1 + ((ab.sl ab.int).ak x.query : Nat) + 1 + 1)) := (hB.cell (p := ⟨b, off + j * 11 + 7, none⟩) hbl).trans (hc 7 (by decide))
   have e7 : ((kj + 1 + 1 + 1 + 1 + ((ab.sl ab.int).ak x.query : Nat) + 1 + 1 : Int) != (kj + 1 + 1 + 1 + 1 + ((ab.sl ab.int).ak x.query : Nat) + 1 + 1 : Int)) = false := by simp
   have c8 : wr.cell? ⟨b, off + j * 11 + 8, none⟩ = some (.int .i64 (kj + 1 + 1 + 1 + 1 + ((ab.sl ab.int).ak x.query : Nat) + 1 + 1 + 1)) := (hB.cell (p := ⟨b, off + j * 11 + 8, none⟩) hbl).trans (hc 8 (by decide))
   have e8 : ((kj + 1 + 1 + 1 + 1 + ((ab.sl ab.int).ak x.query : Nat) + 1 + 1 + 1 : Int) != (kj + 1 + 1 + 1 + 1 + ((ab.sl ab.int).ak x.query : Nat) + 1 + 1 + 1 : Int)) = false := by simp
   have c9 : wr.cell? ⟨b, off + j * 11 + 9, none⟩ = some (.slice a9 n9 d9) := (hB.cell (p := ⟨b, off + j * 11 + 9, none⟩) hbl).trans (hc 9 (by decide))
   have c10 : wr.cell? ⟨b, off + j * 11 + 10, none⟩ = some (.slice a10 n10 d10) := (hB.cell (p := ⟨b, off + j * 11 + 10, none⟩) hbl).trans (hc 10 (by decide))
   have l1 : b < wr.heap.size := Nat.lt_of_lt_of_le hbl hB.size
   have HB := yh hB
   clear hB hc
   have P4 := yh R4
   clear R4
   have P9 := yh R9
   clear R9
   have P10 := yh R10
   clear R10
   go_wp2_with fail
   refine (dW _ x.query (kj + 1 + 1 + 1 + 1) _ (uh P4) (by omega) (by omega)).mono ?_
   rintro e u0 ⟨rfl, hb⟩
   replace c5 := (hb.cell (p := ⟨b, off + j * 11 + 5, none⟩) l1).trans c5
   replace c6 := (hb.cell (p := ⟨b, off + j * 11 + 6, none⟩) l1).trans c6
   replace c7 := (hb.cell (p := ⟨b, off + j * 11 + 7, none⟩) l1).trans c7
   replace c8 := (hb.cell (p := ⟨b, off + j * 11 + 8, none⟩) l1).trans c8
   replace c9 := (hb.cell (p := ⟨b, off + j * 11 + 9, none⟩) l1).trans c9
   replace c10 := (hb.cell (p := ⟨b, off + j * 11 + 10, none⟩) l1).trans c10
   replace P9 := yh ((uh P9).ag hb)
   replace P10 := yh ((uh P10).ag hb)
   replace HB := bZ HB hb
   replace l1 := Nat.lt_of_lt_of_le l1 hb.size
   clear hb P4 c4
   have hq : decide (kj + 1 + 1 + 1 + 1 + ((ab.sl ab.int).ak x.query : Int) < 0) = false := by simp; omega
   go_wp2_with fail
   refine (dW _ x.vec (kj + 1 + 1 + 1 + 1 + ((ab.sl ab.int).ak x.query : Nat) + 1 + 1 + 1 + 1) _ (uh P9) (by omega) (by omega)).mono ?_
   rintro e u1 ⟨rfl, hb⟩
   replace c10 := (hb.cell (p := ⟨b, off + j * 11 + 10, none⟩) l1).trans c10
   replace P10 := yh ((uh P10).ag hb)
   replace HB := bZ HB hb
   replace l1 := Nat.lt_of_lt_of_le l1 hb.size
   clear hb P9 c9
   have hq : decide (kj + 1 + 1 + 1 + 1 + ((ab.sl ab.int).ak x.query : Nat) + 1 + 1 + 1 + 1 + ((ab.sl ab.int).ak x.vec : Int) < 0) = false := by simp; omega
   go_wp2_with fail
   refine (oK _ x.aN (kj + 1 + 1 + 1 + 1 + ((ab.sl ab.int).ak x.query : Nat) + 1 + 1 + 1 + 1 + ((ab.sl ab.int).ak x.vec : Nat)) _ (uh P10) (by omega) (by omega)).mono ?_
   rintro e u2 ⟨rfl, hb⟩
   replace HB := bZ HB hb
   replace l1 := Nat.lt_of_lt_of_le l1 hb.size
   clear hb P10 c10
   have hq : decide (kj + 1 + 1 + 1 + 1 + ((ab.sl ab.int).ak x.query : Nat) + 1 + 1 + 1 + 1 + ((ab.sl ab.int).ak x.vec : Nat) + ((ab.sl ab.bb).ak x.aN : Int) < 0) = false := by simp; omega
   go_wp2_with fail
   go_roundw
   case rel => exact ⟨j + 1, _, by omega, by go_num, (by rw [uh HT, hcn]; have := uh HK; omega), rfl, uh HB⟩
   case measure => simp [intOf]; omega
  obtain rfl : j = xs.length := by omega
  rw [List.take_length] at hkj
  have HK := yh hkj
  have HB := yh hB
  clear hB hkj
  go_wp2_with fail
  go_ret
  exact ⟨by rw [← uh HK]; rfl, uh HB⟩
theorem iU (ao : Option Addr) (cap : Nat) (k : Int) (w : World) :
  Calls Tryz.prog 138 #[.slice ao 0 cap, .int .i64 k] w fun e w' => e = .returned (.int .i64 k) ∧ w' = w := by
 go_enter Tryz.func138, Tryz.ntmps138
 go_wp2_with fail
 refine wp_loop_rounds 1 ?_
 rw [rounds_succ]
 go_wp2_with fail
 go_ret
 exact ⟨rfl, rfl⟩
theorem lb (v : Value) (xs : List aZ) (k : Int) (w : World) (h : (ab.sl ab.ar).Reads w [v] ((ab.sl ab.ar).cq k xs)) (hk : 0 ≤ k) (hk2 : k + (ab.sl ab.ar).ak xs ≤ 1000000000) :
  Calls Tryz.prog 138 #[v, .int .i64 k] w fun e w' => e = .returned (.int .i64 (k + (ab.sl ab.ar).ak xs)) ∧ Below w.heap.size w w' := by
 rw [mW] at h
 obtain ⟨ao, cap, rfl⟩ := aE h
 by_cases hp : 0 < xs.length
 ·
  obtain ⟨b, off, rfl, hbl⟩ := ab.aI h (by rw [bf]; exact hp)
  have L := jA b off cap xs k w h hbl hk hk2
  rw [bf]
  exact L
 obtain rfl : xs = [] := List.eq_nil_of_length_eq_zero (by omega)
 refine (iU ao cap k w).mono ?_
 rintro e w' ⟨rfl, rfl⟩
 exact ⟨by rw [gV]; simp [al], Below.refl _ _⟩
theorem mR (cs : List Value) (x : ay) (k : Int) (w : World) (h : ab.aC.Reads w cs (ab.aC.cq k x)) (hk : 0 ≤ k) (hk2 : k + ab.aC.ak x ≤ 1000000000) :
  Calls Tryz.prog 73 #[.agg cs.toArray, .int .i64 k] w fun e w' => e = .returned (.int .i64 (k + ab.aC.ak x)) ∧ Below w.heap.size w w' := by
 rw [kn] at h
 rw [ef] at hk2
 have HV := yh (ef x)
 obtain ⟨a3, d3, a4, d4, a5, d5, a6, d6, rfl, R2, R4, R5, R6⟩ := aG h
 clear h
 generalize hn3 : (⟨x.now, x.events, ab.aD.cq (k) x.chain, (ab.sl ab.ax).cq (k + (ab.aD.ak x.chain : Int)) x.nodes, (ab.sl ab.aJ).cq (k + (ab.aD.ak x.chain : Int) + ((ab.sl ab.ax).ak x.nodes : Int)) x.msgs, (ab.sl ab.ar).cq (k + (ab.aD.ak x.chain : Int) + ((ab.sl ab.ax).ak x.nodes : Int) + ((ab.sl ab.aJ).ak x.msgs : Int)) x.ae⟩ : ay).chain.ids.length = n3 at *
 generalize hn4 : (⟨x.now, x.events, ab.aD.cq (k) x.chain, (ab.sl ab.ax).cq (k + (ab.aD.ak x.chain : Int)) x.nodes, (ab.sl ab.aJ).cq (k + (ab.aD.ak x.chain : Int) + ((ab.sl ab.ax).ak x.nodes : Int)) x.msgs, (ab.sl ab.ar).cq (k + (ab.aD.ak x.chain : Int) + ((ab.sl ab.ax).ak x.nodes : Int) + ((ab.sl ab.aJ).ak x.msgs : Int)) x.ae⟩ : ay).nodes.length = n4 at *
 generalize hn5 : (⟨x.now, x.events, ab.aD.cq (k) x.chain, (ab.sl ab.ax).cq (k + (ab.aD.ak x.chain : Int)) x.nodes, (ab.sl ab.aJ).cq (k + (ab.aD.ak x.chain : Int) + ((ab.sl ab.ax).ak x.nodes : Int)) x.msgs, (ab.sl ab.ar).cq (k + (ab.aD.ak x.chain : Int) + ((ab.sl ab.ax).ak x.nodes : Int) + ((ab.sl ab.aJ).ak x.msgs : Int)) x.ae⟩ : ay).msgs.length = n5 at *
 generalize hn6 : (⟨x.now, x.events, ab.aD.cq (k) x.chain, (ab.sl ab.ax).cq (k + (ab.aD.ak x.chain : Int)) x.nodes, (ab.sl ab.aJ).cq (k + (ab.aD.ak x.chain : Int) + ((ab.sl ab.ax).ak x.nodes : Int)) x.msgs, (ab.sl ab.ar).cq (k + (ab.aD.ak x.chain : Int) + ((ab.sl ab.ax).ak x.nodes : Int) + ((ab.sl ab.aJ).ak x.msgs : Int)) x.ae⟩ : ay).ae.length = n6 at *
 clear hn3 hn4 hn5 hn6
 generalize hn2 : (⟨x.now, x.events, ab.aD.cq (k) x.chain, (ab.sl ab.ax).cq (k + (ab.aD.ak x.chain : Int)) x.nodes, (ab.sl ab.aJ).cq (k + (ab.aD.ak x.chain : Int) + ((ab.sl ab.ax).ak x.nodes : Int)) x.msgs, (ab.sl ab.ar).cq (k + (ab.aD.ak x.chain : Int) + ((ab.sl ab.ax).ak x.nodes : Int) + ((ab.sl ab.aJ).ak x.msgs : Int)) x.ae⟩ : ay).chain.af = n2 at *
 clear hn2
 have HB0 : Below w.heap.size w (w.alloc (.cells #[.int .i64 x.now, .int .i64 x.events, .int .i64 n2, .slice a3 n3 d3, .slice a4 n4 d4, .slice a5 n5 d5, .slice a6 n6 d6] 37)) := (Below.refl _ _).alloc (Nat.le_refl _) _
 have bA : aj w.heap.size #[.int .i64 x.now, .int .i64 x.events, .int .i64 n2, .slice a3 n3 d3, .slice a4 n4 d4, .slice a5 n5 d5, .slice a6 n6 d6] 37 (w.alloc (.cells #[.int .i64 x.now, .int .i64 x.events, .int .i64 n2, .slice a3 n3 d3, .slice a4 n4 d4, .slice a5 n5 d5, .slice a6 n6 d6] 37)) w.heap.size := aH (Nat.le_refl _)
 go_enter Tryz.func73, Tryz.ntmps73
 go_wp2_with fail
 generalize w.alloc (.cells #[.int .i64 x.now, .int .i64 x.events, .int .i64 n2, .slice a3 n3 d3, .slice a4 n4 d4, .slice a5 n5 d5, .slice a6 n6 d6] 37) = W0 at *
 replace R2 := R2.ag HB0
 replace R4 := R4.ag HB0
 replace R5 := R5.ag HB0
 replace R6 := R6.ag HB0
 refine (ng _ x.chain (k) _ R2 (by omega) (by omega)).mono ?_
 rintro e w1 ⟨rfl, hb⟩
 replace HB0 := HB0.trans (hb.mono HB0.size)
 replace bA := bA.au hb
 replace R4 := R4.ag hb
 have p4 := bA.at 4 _ rfl
 replace R5 := R5.ag hb
 have p5 := bA.at 5 _ rfl
 replace R6 := R6.ag hb
 have p6 := bA.at 6 _ rfl
 have HA := yh bA
 have HX := yh HB0
 clear bA HB0 hb R2
 have P4 := yh R4
 clear R4
 have P5 := yh R5
 clear R5
 have P6 := yh R6
 clear R6
 have hq : decide (k + (ab.aD.ak x.chain : Int) < 0) = false := by simp; omega
 go_wp2_with fail
 clear hq
 have bA := uh HA
 have HB0 := uh HX
 clear HA HX
 have R4 := uh P4
 clear P4
 have R5 := uh P5
 clear P5
 have R6 := uh P6
 clear P6
 clear p4
 clear p5
 clear p6
 refine (nu _ x.nodes (k + (ab.aD.ak x.chain : Int)) _ R4 (by omega) (by omega)).mono ?_
 rintro e w2 ⟨rfl, hb⟩
 replace HB0 := HB0.trans (hb.mono HB0.size)
 replace bA := bA.au hb
 replace R5 := R5.ag hb
 have p5 := bA.at 5 _ rfl
 replace R6 := R6.ag hb
 have p6 := bA.at 6 _ rfl
 have HA := yh bA
 have HX := yh HB0
 clear bA HB0 hb R4
 have P5 := yh R5
 clear R5
 have P6 := yh R6
 clear R6
 have hq : decide (k + (ab.aD.ak x.chain : Int) + ((ab.sl ab.ax).ak x.nodes : Int) < 0) = false := by simp; omega
 go_wp2_with fail
 clear hq
 have bA := uh HA
 have HB0 := uh HX
 clear HA HX
 have R5 := uh P5
 clear P5
 have R6 := uh P6
 clear P6
 clear p5
 clear p6
 refine (om _ x.msgs (k + (ab.aD.ak x.chain : Int) + ((ab.sl ab.ax).ak x.nodes : Int)) _ R5 (by omega) (by omega)).mono ?_
 rintro e w3 ⟨rfl, hb⟩
 replace HB0 := HB0.trans (hb.mono HB0.size)
 replace bA := bA.au hb
 replace R6 := R6.ag hb
 have p6 := bA.at 6 _ rfl
 have HA := yh bA
 have HX := yh HB0
 clear bA HB0 hb R5
 have P6 := yh R6
 clear R6
 have hq : decide (k + (ab.aD.ak x.chain : Int) + ((ab.sl ab.ax).ak x.nodes : Int) + ((ab.sl ab.aJ).ak x.msgs : Int) < 0) = false := by simp; omega
 go_wp2_with fail
 clear hq
 have bA := uh HA
 have HB0 := uh HX
 clear HA HX
 have R6 := uh P6
 clear P6
 clear p6
 refine (lb _ x.ae (k + (ab.aD.ak x.chain : Int) + ((ab.sl ab.ax).ak x.nodes : Int) + ((ab.sl ab.aJ).ak x.msgs : Int)) _ R6 (by omega) (by omega)).mono ?_
 rintro e w4 ⟨rfl, hb⟩
 replace HB0 := HB0.trans (hb.mono HB0.size)
 replace bA := bA.au hb
 have HA := yh bA
 have HX := yh HB0
 clear bA HB0 hb R6
 have hq : decide (k + (ab.aD.ak x.chain : Int) + ((ab.sl ab.ax).ak x.nodes : Int) + ((ab.sl ab.aJ).ak x.msgs : Int) + ((ab.sl ab.ar).ak x.ae : Int) < 0) = false := by simp; omega
 go_wp2_with fail
 clear hq
 go_ret
 refine ⟨?_, uh HX⟩
 rw [show k + (ab.aC.ak x : Int) = k + (ab.aD.ak x.chain : Int) + ((ab.sl ab.ax).ak x.nodes : Int) + ((ab.sl ab.aJ).ak x.msgs : Int) + ((ab.sl ab.ar).ak x.ae : Int) by rw [uh HV]; omega]
 rfl
theorem eQ (cs : List Value) (x : a0) (k : Int) (w : World) (h : ab.aB.Reads w cs (ab.aB.cq k x)) (hk : 0 ≤ k) (hk2 : k + ab.aB.ak x ≤ 1000000000) :
  Calls Tryz.prog 29 #[.agg cs.toArray, .int .i64 k] w fun e w' => e = .returned (.int .i64 (k + ab.aB.ak x)) ∧ Below w.heap.size w w' := by
 rw [eY] at h
 rw [cI] at hk2
 have HV := yh (cI x)
 obtain ⟨a5, d5, a6, d6, a7, d7, a8, d8, rfl, R2⟩ := bQ h
 clear h
 generalize hn5 : (⟨x.code, x.bt, ab.aC.cq (k) x.world⟩ : a0).world.chain.ids.length = n5 at *
 generalize hn6 : (⟨x.code, x.bt, ab.aC.cq (k) x.world⟩ : a0).world.nodes.length = n6 at *
 generalize hn7 : (⟨x.code, x.bt, ab.aC.cq (k) x.world⟩ : a0).world.msgs.length = n7 at *
 generalize hn8 : (⟨x.code, x.bt, ab.aC.cq (k) x.world⟩ : a0).world.ae.length = n8 at *
 clear hn5 hn6 hn7 hn8
 generalize hn2 : (⟨x.code, x.bt, ab.aC.cq (k) x.world⟩ : a0).world.now = n2 at *
 generalize hn3 : (⟨x.code, x.bt, ab.aC.cq (k) x.world⟩ : a0).world.events = n3 at *
 generalize hn4 : (⟨x.code, x.bt, ab.aC.cq (k) x.world⟩ : a0).world.chain.af = n4 at *
 clear hn2 hn3 hn4
 have HB0 : Below w.heap.size w (w.alloc (.cells #[.int .i64 x.code, .bool x.bt, .int .i64 n2, .int .i64 n3, .int .i64 n4, .slice a5 n5 d5, .slice a6 n6 d6, .slice a7 n7 d7, .slice a8 n8 d8] 53)) := (Below.refl _ _).alloc (Nat.le_refl _) _
 have bA : aj w.heap.size #[.int .i64 x.code, .bool x.bt, .int .i64 n2, .int .i64 n3, .int .i64 n4, .slice a5 n5 d5, .slice a6 n6 d6, .slice a7 n7 d7, .slice a8 n8 d8] 53 (w.alloc (.cells #[.int .i64 x.code, .bool x.bt, .int .i64 n2, .int .i64 n3, .int .i64 n4, .slice a5 n5 d5, .slice a6 n6 d6, .slice a7 n7 d7, .slice a8 n8 d8] 53)) w.heap.size := aH (Nat.le_refl _)
 go_enter Tryz.func29, Tryz.ntmps29
 go_wp2_with fail
 generalize w.alloc (.cells #[.int .i64 x.code, .bool x.bt, .int .i64 n2, .int .i64 n3, .int .i64 n4, .slice a5 n5 d5, .slice a6 n6 d6, .slice a7 n7 d7, .slice a8 n8 d8] 53) = W0 at *
 replace R2 := R2.ag HB0
 refine (mR _ x.world (k) _ R2 (by omega) (by omega)).mono ?_
 rintro e w1 ⟨rfl, hb⟩
 replace HB0 := HB0.trans (hb.mono HB0.size)
 replace bA := bA.au hb
 have HA := yh bA
 have HX := yh HB0
 clear bA HB0 hb R2
 have hq : decide (k + (ab.aC.ak x.world : Int) < 0) = false := by simp; omega
 go_wp2_with fail
 clear hq
 go_ret
 refine ⟨?_, uh HX⟩
 rw [show k + (ab.aB.ak x : Int) = k + (ab.aC.ak x.world : Int) by rw [uh HV]]
 rfl
end Go.Proofs.YtecagllmonckgaaGreat
