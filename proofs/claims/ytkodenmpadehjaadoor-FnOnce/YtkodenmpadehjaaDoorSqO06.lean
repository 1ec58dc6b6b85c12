/-
  Texts of this proof in one: DrawApp, LayIntResult, LayWritesResult, SeqPlain, LayOnceResult, AppPlain, SamePlain, OncePlain.
  Their conditions stand in their theorems.
-/
import Derived.Test.YtkodenmpadehjaaDoorSqO05
import Derived.Test.YtkodenmpadehjaaDoorSqO02
import Derived.Deep.RegionHeld3
import Derived.Test.YtkodenmpadehjaaDoorSqO01
import Derived.Test.YtkodenmpadehjaaDoorSqO03

namespace Go.Proofs.YtkodenmpadehjaaDoor
open Go.RowKit

theorem grow_cell5 {α : Type} {A : Lay α} {w : World} {base T g cap : Nat} {rows : List (List Value)} {xs : List α} {bls : List (List Nat)} (h : Grow A w base T (.slice (some ⟨g, 0, none⟩) xs.length cap) rows xs bls) {k m : Nat} (hk : k < xs.length) (h2 : k < rows.length) (hm : m < A.n) : w.cell? ⟨g, k * A.n + m, none⟩ = rows[k][m]? := by
  rw [h.own.cellAt (k * A.n + m) (by
    have := h.flat_len
    have : (k + 1) * A.n ≤ xs.length * A.n := Nat.mul_le_mul_right _ (by omega)
    rw [Nat.add_mul] at this
    omega)]
  exact Lay.flat_at h.row_len k m h2 hm

set_option maxRecDepth 100000 in
set_option maxHeartbeats 4000000 in
theorem drawApp (ao : Option Addr) (len cap : Nat) (w : World) (hc : IsCode w.heap.size w (.slice ao len cap)) :
    Calls Tryd.prog 6 #[.slice ao len cap] w fun e w' => ∃ (v : Value) (xs : List DWrite) (cs : List Value) (x : DWrite), e = .returned (.tuple #[v, .agg cs.toArray]) ∧ (Lay.sl Lay.tWrite).Reads w' [v] xs ∧ Lay.tWrite.Reads w' cs x ∧ xs.length ≤ 201 ∧ Below w.heap.size w w' := by
  have n0 : Below w.heap.size w (w.alloc (.cells #[.int .i64 0, .int .i64 0, .slice none 0 0, .int .i64 0, .int .i64 0] 27)) := (Below.refl _ _).alloc (Nat.le_refl _) _
  have bR0 : Box 0 #[.int .i64 0, .int .i64 0, .slice none 0 0, .int .i64 0, .int .i64 0] 27 (w.alloc (.cells #[.int .i64 0, .int .i64 0, .slice none 0 0, .int .i64 0, .int .i64 0] 27)) w.heap.size := newBox (Nat.zero_le _)
  have hs0 : (w.alloc (.cells #[.int .i64 0, .int .i64 0, .slice none 0 0, .int .i64 0, .int .i64 0] 27)).heap.size = w.heap.size + 1 := by simp
  go_enter Tryd.func6, Tryd.ntmps6
  go_wp2_with fail
  generalize w.alloc (.cells #[.int .i64 0, .int .i64 0, .slice none 0 0, .int .i64 0, .int .i64 0] 27) = w0 at *
  refine (source ao len cap w0).mono ?_
  rintro e w1 ⟨rfl, rfl⟩
  have n1 : Below w0.heap.size w0 (w0.alloc (.cells #[.slice ao len cap, .int .i64 0] 93)) := (Below.refl _ _).alloc (Nat.le_refl _) _
  have s1 := src_new w0 (.slice ao len cap)
  rw [hs0] at s1
  have c1 : IsCode (w.heap.size + 1) (w0.alloc (.cells #[.slice ao len cap, .int .i64 0] 93)) (.slice ao len cap) := by
    have h1 := (hc.onW (Nat.le_refl _) n0)
    have h2 := h1.later (n1.mono (by omega))
    obtain ⟨ao', len', cap', e1, h3, h4⟩ := h2
    exact ⟨ao', len', cap', e1, h3, fun hp => by obtain ⟨b', off', e2, h5, h6⟩ := h4 hp; exact ⟨b', off', e2, by omega, h6⟩⟩
  have HR1 := hide (bR0.keep n1)
  have HB1 := hide (n0.trans (n1.mono n0.size))
  have hs1 : (w0.alloc (.cells #[.slice ao len cap, .int .i64 0] 93)).heap.size = w.heap.size + 2 := by simp; omega
  rw [hs0]
  clear n0 bR0 n1 hc
  generalize w0.alloc (.cells #[.slice ao len cap, .int .i64 0] 93) = w1 at *
  have HL := hide (drawBent5 (w.heap.size + 1) 0 _ w1 s1 c1 (by omega))
  clear s1 c1
  go_wp2_with fail
  refine (unhide HL).mono ?_
  rintro e w3 ⟨v, rows, xs, bls, m', rfl, hG, hsf, hlen, s3, hm', c3, g3⟩
  rw [hs1] at hG hsf
  have HR3 := hide ((unhide HR1).ext (ext_grown g3) (by omega))
  have HB3 := hide ((unhide HB1).grown g3 (unhide HB1).size (fun k hk => by simp at hk; omega))
  have hz3 : w.heap.size + 2 ≤ w3.heap.size := by have := g3.size; omega
  have HL2 := hide (bentWrite (w.heap.size + 1) m' _ w3 s3 c3 (by omega))
  have HG3 := hide hG
  have HSF := hide hsf
  have hgo : ∀ c, v.ownBlock = some c → c < w3.heap.size := fun c hc => (hG.own.lt c hc).2
  have hgs : ∀ c ∈ bls.flatten, c < w3.heap.size := fun c hc => hG.sub_lt c hc
  have HGO := hide hgo
  have HGS := hide hgs
  clear hG hsf s3 c3 g3 HL HR1 HB1 hgo hgs
  go_wp2_with fail
  refine (unhide HL2).mono ?_
  rintro e w4 ⟨cs, x, bl, m4, rfl, hl, hbl, s4, hm4, c4, g4⟩
  obtain ⟨a2, d2, bv, rfl, rfl, -, -, -, -, -⟩ := lies_Write.1 hl
  have n4 : Below w4.heap.size w4 (w4.alloc (.cells #[.int .i64 x.kind, .int .i64 x.id, .slice a2 x.vec.length d2, .int .i64 x.session, .int .i64 x.seq] 27)) := (Below.refl _ _).alloc (Nat.le_refl _) _
  have hQ : Box 0 #[.int .i64 x.kind, .int .i64 x.id, .slice a2 x.vec.length d2, .int .i64 x.session, .int .i64 x.seq] 27 (w4.alloc (.cells #[.int .i64 x.kind, .int .i64 x.id, .slice a2 x.vec.length d2, .int .i64 x.session, .int .i64 x.seq] 27)) w4.heap.size := newBox (Nat.zero_le _)
  have hGv := ((unhide HG3).grown g4 (by omega) (unhide HSF)).later n4
  have hR := ((unhide HR3).ext (ext_grown g4) (by omega)).keep n4
  have hBw := ((unhide HB3).grown g4 (unhide HB3).size (fun k hk => by simp at hk; omega)).trans (n4.mono (by have := (unhide HB3).size; have := g4.size; omega))
  have hLx : Lay.tWrite.lies (w4.alloc (.cells #[.int .i64 x.kind, .int .i64 x.id, .slice a2 x.vec.length d2, .int .i64 x.session, .int .i64 x.seq] 27)) [.int .i64 x.kind, .int .i64 x.id, .slice a2 x.vec.length d2, .int .i64 x.session, .int .i64 x.seq] x bl := Lay.tWrite.keep hl fun c hc => n4.block c (Lay.tWrite.lt hl c hc)
  have hby : ∀ c ∈ bl, w.heap.size + 2 ≤ c := fun c hc => by have := (hbl c hc).1; omega
  have hS := s4.onW n4
  have hC := c4.onW (by have := s4.lt; omega) n4
  have hz4 : w3.heap.size ≤ w4.heap.size := g4.size
  have hqs : w4.heap.size < (w4.alloc (.cells #[.int .i64 x.kind, .int .i64 x.id, .slice a2 x.vec.length d2, .int .i64 x.session, .int .i64 x.seq] 27)).heap.size := hQ.lt
  have hsf := unhide HSF
  clear hl hbl s4 c4 g4 n4 HL2 HG3 HR3 HB3 HSF
  have hvf : ∃ av cv, v = .slice av xs.length cv := by
    rcases hGv.form with ⟨rfl, rfl⟩ | ⟨g, cap, rfl, -⟩
    · exact ⟨_, _, rfl⟩
    · exact ⟨_, _, rfl⟩
  obtain ⟨av, cv, hveq⟩ := hvf
  subst hveq
  by_cases hp : 0 < xs.length
  · have hpd : decide ((0 : Int) < (xs.length : Int)) = true := by simp; omega
    have HCH := hide (chance5 (w.heap.size + 1) m4 _ _ hS hC (by omega) 3 (by omega) (by omega))
    have HGV := hide hGv
    have HRR := hide hR
    have HBW := hide hBw
    have HLX := hide hLx
    have HBY := hide hby
    have HQ := hide hQ
    have HSF := hide hsf
    clear hS hC hGv hR hBw hLx hby hQ hsf
    go_upto_region 4 with fail
    generalize w4.alloc (.cells #[.int .i64 x.kind, .int .i64 x.id, .slice a2 x.vec.length d2, .int .i64 x.session, .int .i64 x.seq] 27) = W4 at *
    generalize w4.heap.size = q6 at *
    go_wp2_with fail
    refine (unhide HCH).mono ?_
    rintro e w5 ⟨r, rfl, s5, c5, g5⟩
    have hz5 : W4.heap.size ≤ w5.heap.size := g5.size
    have hGv := (unhide HGV).grown g5 (by omega) (unhide HSF)
    have hR := (unhide HRR).ext (ext_grown g5) (by omega)
    have hQ := (unhide HQ).ext (ext_grown g5) (by omega)
    have hBw := (unhide HBW).grown g5 (unhide HBW).size (fun k hk => by simp at hk; omega)
    have hLx : Lay.tWrite.lies w5 [.int .i64 x.kind, .int .i64 x.id, .slice a2 x.vec.length d2, .int .i64 x.session, .int .i64 x.seq] x bl := Lay.tWrite.keep (unhide HLX) fun c hc => g5.block c (Lay.tWrite.lt (unhide HLX) c hc) (fun e => by have := unhide HBY c hc; have e2 : c = w.heap.size + 1 := Option.some.inj e; omega)
    have hby := unhide HBY
    have hsf := unhide HSF
    clear g5 HCH HGV HRR HBW HLX HBY HQ HSF
    cases r with
    | false =>
      clear s5 c5
      go_wp2_with fail
      have hRD : Box 0 #[.int .i64 0, .int .i64 0, .slice none 0 0, .int .i64 0, .int .i64 0] 27 w5.drew w.heap.size := hR
      have hGD : Grow Lay.tWrite w5.drew (w.heap.size + 2) 27 (.slice av xs.length cv) rows xs bls := hGv.later (below_drawn (Below.refl _ _) 1)
      have hLD : Lay.tWrite.lies w5.drew [.int .i64 x.kind, .int .i64 x.id, .slice a2 x.vec.length d2, .int .i64 x.session, .int .i64 x.seq] x bl := hLx
      have hBD : Below w.heap.size w w5.drew := hBw.drew
      refine wp_region_noPanic ?_
      refine wp_region_held_drew (S := fun w' => Ext (fun c => c = w.heap.size) w5 w') (by kernel_rfl) ⟨rfl, rfl, rfl, Nat.le_refl _, fun _ _ _ => rfl⟩ (fun hHeld => ?_)
      generalize w5.drew = wT at hHeld hRD hGD hLD hBD ⊢
      refine wpAnyH_take (i := 0) (oi := { dst := some 27, op := Go.Op.move (Go.Operand.tmp 5), type := 24, pos := "l05_session.go:159", after := #[], guard := none }) (v := ?ve0) rfl (by kernel_rfl) (by kernel_rfl) (by kernel_rfl) (fun _ _ _ h => h) (Or.inl ⟨by rfl, ?he0⟩) hHeld ?re0
      case he0 =>
        intro wS hSw
        (try dsimp only at hSw)
        go_simp
        try with_reducible rfl
      case re0 =>
      simp only [Act.put, List.setIfInBounds_toArray, List.set_cons_zero, List.set_cons_succ]
      refine wpAnyH_take (i := 1) (oi := { dst := some 28, op := Go.Op.load 27 (Go.Operand.tmp 6), type := 27, pos := "l05_session.go:159", after := #[{ on := 2, ground := Go.Ground.gcOnly Go.Departure.lateStores }], guard := none }) (v := ?ve1) rfl (by kernel_rfl) (by kernel_rfl) (by kernel_rfl) (fun _ _ _ h => h) (Or.inl ⟨by rfl, ?he1⟩) hHeld ?re1
      case he1 =>
        intro wS hSw
        have y0 : wS.cell? ⟨q6, 0, none⟩ = some (.int .i64 x.kind) := (hQ.ext hSw (by omega)).at 0 _ rfl
        have y1 : wS.cell? ⟨q6, 1, none⟩ = some (.int .i64 x.id) := (hQ.ext hSw (by omega)).at 1 _ rfl
        have y2 : wS.cell? ⟨q6, 2, none⟩ = some (.slice a2 x.vec.length d2) := (hQ.ext hSw (by omega)).at 2 _ rfl
        have y3 : wS.cell? ⟨q6, 3, none⟩ = some (.int .i64 x.session) := (hQ.ext hSw (by omega)).at 3 _ rfl
        have y4 : wS.cell? ⟨q6, 4, none⟩ = some (.int .i64 x.seq) := (hQ.ext hSw (by omega)).at 4 _ rfl
        clear hSw
        (try dsimp only at hSw)
        go_simp
        try with_reducible rfl
      case re1 =>
      simp only [Act.put, List.setIfInBounds_toArray, List.set_cons_zero, List.set_cons_succ]
      refine wpAnyH_take (i := 2) (oi := { dst := some 2, op := Go.Op.assign (Go.Operand.tmp 27), type := 24, pos := "l05_session.go:159", after := #[{ on := 0, ground := Go.Ground.data }, { on := 0, ground := Go.Ground.phase }, { on := 1, ground := Go.Ground.textOnly Go.Departure.lateStores }], guard := none }) (v := ?ve2) rfl (by kernel_rfl) (by kernel_rfl) (by kernel_rfl) (fun _ _ _ h => h) (Or.inl ⟨by rfl, ?he2⟩) hHeld ?re2
      case he2 =>
        intro wS hSw
        (try dsimp only at hSw)
        go_simp
        try with_reducible rfl
      case re2 =>
      simp only [Act.put, List.setIfInBounds_toArray, List.set_cons_zero, List.set_cons_succ]
      refine wpAnyH_ready (rs := [3]) (by kernel_rfl) (by simp) ?_
      refine AllReadyH.cons (o := { dst := none, op := Go.Op.store 27 (Go.Operand.tmp 3) (Go.Operand.tmp 28), type := 0, pos := "l05_session.go:159", after := #[{ on := 1, ground := Go.Ground.data }, { on := 2, ground := Go.Ground.chain }, { on := 0, ground := Go.Ground.phase }, { on := 1, ground := Go.Ground.phase }, { on := 2, ground := Go.Ground.phase }], guard := none }) rfl (fun K hK => ?_) AllReadyH.nil
      have z0 : wT.cell? ⟨w.heap.size, 0, none⟩ = some (.int .i64 0) := hRD.at 0 _ rfl
      have z1 : wT.cell? ⟨w.heap.size, 1, none⟩ = some (.int .i64 0) := hRD.at 1 _ rfl
      have z2 : wT.cell? ⟨w.heap.size, 2, none⟩ = some (.slice none 0 0) := hRD.at 2 _ rfl
      have z3 : wT.cell? ⟨w.heap.size, 3, none⟩ = some (.int .i64 0) := hRD.at 3 _ rfl
      have z4 : wT.cell? ⟨w.heap.size, 4, none⟩ = some (.int .i64 0) := hRD.at 4 _ rfl
      have f0 := hRD.soft 0
      have f1 := hRD.soft 1
      have f2 := hRD.soft 2
      have f3 := hRD.soft 3
      have f4 := hRD.soft 4
      have lR := hRD.lt
      go_simp
      refine hK.out _ _ (((((hHeld.setCell ⟨w.heap.size, 0, none⟩ _ rfl).setCell ⟨w.heap.size, 1, none⟩ _ rfl).setCell ⟨w.heap.size, 2, none⟩ _ rfl).setCell ⟨w.heap.size, 3, none⟩ _ rfl).setCell ⟨w.heap.size, 4, none⟩ _ rfl) (fun hHeld => ?_)
      clear hK K
      try simp only [Act.put, List.setIfInBounds_toArray, List.set_cons_zero, List.set_cons_succ]
      refine wpAnyH_done (by kernel_rfl) ?_ _
      refine NoPanic.normal ?_
      have hE : Ext (fun c => c = w.heap.size) wT (((((wT.setCell ⟨w.heap.size, 0, none⟩ (.int .i64 x.kind)).setCell ⟨w.heap.size, 1, none⟩ (.int .i64 x.id)).setCell ⟨w.heap.size, 2, none⟩ (.slice a2 x.vec.length d2)).setCell ⟨w.heap.size, 3, none⟩ (.int .i64 x.session)).setCell ⟨w.heap.size, 4, none⟩ (.int .i64 x.seq)) := ((((((Ext.refl (fun c => c = w.heap.size) _).setCell ⟨w.heap.size, 0, none⟩ _ rfl).setCell ⟨w.heap.size, 1, none⟩ _ rfl).setCell ⟨w.heap.size, 2, none⟩ _ rfl).setCell ⟨w.heap.size, 3, none⟩ _ rfl).setCell ⟨w.heap.size, 4, none⟩ _ rfl)
      have hRZ := (((((hRD.set 0 (.int .i64 x.kind)).set 1 (.int .i64 x.id)).set 2 (.slice a2 x.vec.length d2)).set 3 (.int .i64 x.session)).set 4 (.int .i64 x.seq))
      have z0 : (((((wT.setCell ⟨w.heap.size, 0, none⟩ (.int .i64 x.kind)).setCell ⟨w.heap.size, 1, none⟩ (.int .i64 x.id)).setCell ⟨w.heap.size, 2, none⟩ (.slice a2 x.vec.length d2)).setCell ⟨w.heap.size, 3, none⟩ (.int .i64 x.session)).setCell ⟨w.heap.size, 4, none⟩ (.int .i64 x.seq)).cell? ⟨w.heap.size, 0, none⟩ = some (.int .i64 x.kind) := hRZ.at 0 _ rfl
      have z1 : (((((wT.setCell ⟨w.heap.size, 0, none⟩ (.int .i64 x.kind)).setCell ⟨w.heap.size, 1, none⟩ (.int .i64 x.id)).setCell ⟨w.heap.size, 2, none⟩ (.slice a2 x.vec.length d2)).setCell ⟨w.heap.size, 3, none⟩ (.int .i64 x.session)).setCell ⟨w.heap.size, 4, none⟩ (.int .i64 x.seq)).cell? ⟨w.heap.size, 1, none⟩ = some (.int .i64 x.id) := hRZ.at 1 _ rfl
      have z2 : (((((wT.setCell ⟨w.heap.size, 0, none⟩ (.int .i64 x.kind)).setCell ⟨w.heap.size, 1, none⟩ (.int .i64 x.id)).setCell ⟨w.heap.size, 2, none⟩ (.slice a2 x.vec.length d2)).setCell ⟨w.heap.size, 3, none⟩ (.int .i64 x.session)).setCell ⟨w.heap.size, 4, none⟩ (.int .i64 x.seq)).cell? ⟨w.heap.size, 2, none⟩ = some (.slice a2 x.vec.length d2) := hRZ.at 2 _ rfl
      have z3 : (((((wT.setCell ⟨w.heap.size, 0, none⟩ (.int .i64 x.kind)).setCell ⟨w.heap.size, 1, none⟩ (.int .i64 x.id)).setCell ⟨w.heap.size, 2, none⟩ (.slice a2 x.vec.length d2)).setCell ⟨w.heap.size, 3, none⟩ (.int .i64 x.session)).setCell ⟨w.heap.size, 4, none⟩ (.int .i64 x.seq)).cell? ⟨w.heap.size, 3, none⟩ = some (.int .i64 x.session) := hRZ.at 3 _ rfl
      have z4 : (((((wT.setCell ⟨w.heap.size, 0, none⟩ (.int .i64 x.kind)).setCell ⟨w.heap.size, 1, none⟩ (.int .i64 x.id)).setCell ⟨w.heap.size, 2, none⟩ (.slice a2 x.vec.length d2)).setCell ⟨w.heap.size, 3, none⟩ (.int .i64 x.session)).setCell ⟨w.heap.size, 4, none⟩ (.int .i64 x.seq)).cell? ⟨w.heap.size, 4, none⟩ = some (.int .i64 x.seq) := hRZ.at 4 _ rfl
      have HRV : Hid ((Lay.sl Lay.tWrite).Reads (((((wT.setCell ⟨w.heap.size, 0, none⟩ (.int .i64 x.kind)).setCell ⟨w.heap.size, 1, none⟩ (.int .i64 x.id)).setCell ⟨w.heap.size, 2, none⟩ (.slice a2 x.vec.length d2)).setCell ⟨w.heap.size, 3, none⟩ (.int .i64 x.session)).setCell ⟨w.heap.size, 4, none⟩ (.int .i64 x.seq)) [(.slice av xs.length cv)] xs) := by
        obtain ⟨blV, lV, iV⟩ := hGD.toLies (by omega) hsf
        exact ⟨blV, (Lay.sl Lay.tWrite).keep lV fun c hc => hE.block c ((Lay.sl Lay.tWrite).lt lV c hc) (by have := (iV c hc).1; omega)⟩
      have HRX : Hid (Lay.tWrite.Reads (((((wT.setCell ⟨w.heap.size, 0, none⟩ (.int .i64 x.kind)).setCell ⟨w.heap.size, 1, none⟩ (.int .i64 x.id)).setCell ⟨w.heap.size, 2, none⟩ (.slice a2 x.vec.length d2)).setCell ⟨w.heap.size, 3, none⟩ (.int .i64 x.session)).setCell ⟨w.heap.size, 4, none⟩ (.int .i64 x.seq)) [.int .i64 x.kind, .int .i64 x.id, .slice a2 x.vec.length d2, .int .i64 x.session, .int .i64 x.seq] x) := ⟨bl, Lay.tWrite.keep hLD fun c hc => hE.block c (Lay.tWrite.lt hLD c hc) (by have := hby c hc; omega)⟩
      have HBZ : Hid (Below w.heap.size w (((((wT.setCell ⟨w.heap.size, 0, none⟩ (.int .i64 x.kind)).setCell ⟨w.heap.size, 1, none⟩ (.int .i64 x.id)).setCell ⟨w.heap.size, 2, none⟩ (.slice a2 x.vec.length d2)).setCell ⟨w.heap.size, 3, none⟩ (.int .i64 x.session)).setCell ⟨w.heap.size, 4, none⟩ (.int .i64 x.seq))) := hBD.trans (hE.below (by have := hBD.size; omega) (fun k hk e => by omega))
      clear hHeld hE hRZ hRD hGD hLD hBD hR hQ hLx hGv hBw hby hsf
      generalize (((((wT.setCell ⟨w.heap.size, 0, none⟩ (.int .i64 x.kind)).setCell ⟨w.heap.size, 1, none⟩ (.int .i64 x.id)).setCell ⟨w.heap.size, 2, none⟩ (.slice a2 x.vec.length d2)).setCell ⟨w.heap.size, 3, none⟩ (.int .i64 x.session)).setCell ⟨w.heap.size, 4, none⟩ (.int .i64 x.seq)) = wF at *
      go_wp2_with fail
      refine bodyPost_ret (v := .tuple #[(.slice av xs.length cv), .agg #[.int .i64 x.kind, .int .i64 x.id, .slice a2 x.vec.length d2, .int .i64 x.session, .int .i64 x.seq]]) (by simp [results, Tryd.results6, go_sem, z0, z1, z2, z3, z4]) rfl ?_
      exact ⟨_, _, _, _, rfl, unhide HRV, unhide HRX, hlen, unhide HBZ⟩
    | true =>
      have HNX := hide (nextAll (w.heap.size + 1) (m4 + 1) _ xs.length w5 s5 c5 (by omega) (by omega) (by omega))
      have HGV := hide hGv
      have HRR := hide hR
      have HBW := hide hBw
      have HQ := hide hQ
      have HSF := hide hsf
      clear s5 c5 hGv hR hBw hLx hby hQ hsf
      go_wp2_with fail
      refine (unhide HNX).mono ?_
      rintro e w6 ⟨r6, rfl, hr6, s6, c6, g6⟩
      have hz6 : w5.heap.size ≤ w6.heap.size := g6.size
      have hGv := (unhide HGV).grown g6 (by omega) (unhide HSF)
      have hR := (unhide HRR).ext (ext_grown g6) (by omega)
      have hQ := (unhide HQ).ext (ext_grown g6) (by omega)
      have hBw := (unhide HBW).grown g6 (unhide HBW).size (fun k hk => by simp at hk; omega)
      have hsf := unhide HSF
      clear s6 c6 g6 HNX HGV HRR HBW HQ HSF
      obtain ⟨g, rfl⟩ : ∃ g, av = some ⟨g, 0, none⟩ := by
        rcases hGv.form with ⟨-, e⟩ | ⟨g, c, e, -⟩
        · rw [e] at hp; simp at hp
        · simp only [Value.slice.injEq] at e; exact ⟨g, e.1⟩
      have hgl : g < w3.heap.size := unhide HGO g rfl
      have hlt6 : r6 < xs.length := by omega
      have n1 := hGv.nrows
      have n2 := hGv.nbls
      have hl0 := hGv.lies r6 hlt6 (by omega) (by omega)
      have hcell : ∀ m, m < 5 → w6.cell? ⟨g, r6 * 5 + m, none⟩ = (rows[r6]'(by omega))[m]? := fun m hm => grow_cell5 (A := Lay.tWrite) hGv hlt6 (by omega) hm
      have hb6 : ∀ c ∈ (bls[r6]'(by omega)), w.heap.size + 2 ≤ c ∧ c < w3.heap.size := fun c hc => ⟨hsf c (List.mem_flatten.2 ⟨_, List.getElem_mem _, hc⟩), unhide HGS c (List.mem_flatten.2 ⟨_, List.getElem_mem _, hc⟩)⟩
      obtain ⟨a3, d3, b3, hrow, hb3, -, -, -, -, -⟩ := lies_Write.1 hl0
      rw [hrow] at hcell hl0
      have c0 : w6.cell? ⟨g, r6 * 5, none⟩ = some (.int .i64 (xs[r6]).kind) := hcell 0 (by decide)
      have c1 : w6.cell? ⟨g, r6 * 5 + 1, none⟩ = some (.int .i64 (xs[r6]).id) := hcell 1 (by decide)
      have c2 : w6.cell? ⟨g, r6 * 5 + 2, none⟩ = some (.slice a3 (xs[r6]).vec.length d3) := hcell 2 (by decide)
      have c3 : w6.cell? ⟨g, r6 * 5 + 3, none⟩ = some (.int .i64 (xs[r6]).session) := hcell 3 (by decide)
      have c4 : w6.cell? ⟨g, r6 * 5 + 4, none⟩ = some (.int .i64 (xs[r6]).seq) := hcell 4 (by decide)
      clear hcell hrow hb3
      generalize bls[r6]'(by omega) = b6 at *
      generalize hy : xs[r6] = y at *
      clear hy
      have q0 : w6.cell? ⟨q6, 0, none⟩ = some (.int .i64 x.kind) := hQ.at 0 _ rfl
      have q1 : w6.cell? ⟨q6, 1, none⟩ = some (.int .i64 x.id) := hQ.at 1 _ rfl
      have q2 : w6.cell? ⟨q6, 2, none⟩ = some (.slice a2 x.vec.length d2) := hQ.at 2 _ rfl
      have q3 : w6.cell? ⟨q6, 3, none⟩ = some (.int .i64 x.session) := hQ.at 3 _ rfl
      have q4 : w6.cell? ⟨q6, 4, none⟩ = some (.int .i64 x.seq) := hQ.at 4 _ rfl
      have g0 := hQ.soft 0
      have g1 := hQ.soft 1
      have g2 := hQ.soft 2
      have g3 := hQ.soft 3
      have g4 := hQ.soft 4
      have lq := hQ.lt
      have hE7 : Ext (fun c => c = q6) w6 (((((w6.setCell ⟨q6, 0, none⟩ (.int .i64 y.kind)).setCell ⟨q6, 1, none⟩ (.int .i64 y.id)).setCell ⟨q6, 2, none⟩ (.slice a3 y.vec.length d3)).setCell ⟨q6, 3, none⟩ (.int .i64 y.session)).setCell ⟨q6, 4, none⟩ (.int .i64 y.seq)) := ((((((Ext.refl (fun c => c = q6) _).setCell ⟨q6, 0, none⟩ _ rfl).setCell ⟨q6, 1, none⟩ _ rfl).setCell ⟨q6, 2, none⟩ _ rfl).setCell ⟨q6, 3, none⟩ _ rfl).setCell ⟨q6, 4, none⟩ _ rfl)
      have HQ7 : Hid (Box 0 #[.int .i64 y.kind, .int .i64 y.id, .slice a3 y.vec.length d3, .int .i64 y.session, .int .i64 y.seq] 27 (((((w6.setCell ⟨q6, 0, none⟩ (.int .i64 y.kind)).setCell ⟨q6, 1, none⟩ (.int .i64 y.id)).setCell ⟨q6, 2, none⟩ (.slice a3 y.vec.length d3)).setCell ⟨q6, 3, none⟩ (.int .i64 y.session)).setCell ⟨q6, 4, none⟩ (.int .i64 y.seq)) q6) := (((((hQ.set 0 (.int .i64 y.kind)).set 1 (.int .i64 y.id)).set 2 (.slice a3 y.vec.length d3)).set 3 (.int .i64 y.session)).set 4 (.int .i64 y.seq))
      have HR7 := hide (hR.ext hE7 (by omega))
      have HG7 : Hid (Grow Lay.tWrite (((((w6.setCell ⟨q6, 0, none⟩ (.int .i64 y.kind)).setCell ⟨q6, 1, none⟩ (.int .i64 y.id)).setCell ⟨q6, 2, none⟩ (.slice a3 y.vec.length d3)).setCell ⟨q6, 3, none⟩ (.int .i64 y.session)).setCell ⟨q6, 4, none⟩ (.int .i64 y.seq)) (w.heap.size + 2) 27 (.slice (some ⟨g, 0, none⟩) xs.length cv) rows xs bls) := hGv.kept (by
        obtain ⟨h1, h2⟩ := hGv.own
        refine ⟨h1, ?_⟩
        rcases h2 with h2 | ⟨gb, cap', cur, hv, hg, hh, r⟩
        · exact Or.inl h2
        · exact Or.inr ⟨gb, cap', cur, hv, hg, (hE7.block gb (lt_of_block hh) (by have := unhide HGO gb (by rw [hv]; rfl); omega)).trans hh, r⟩) (fun c hc => hE7.block c (hGv.sub_lt c hc) (by have := unhide HGS c hc; omega))
      have HL7 : Hid (Lay.tWrite.lies (((((w6.setCell ⟨q6, 0, none⟩ (.int .i64 y.kind)).setCell ⟨q6, 1, none⟩ (.int .i64 y.id)).setCell ⟨q6, 2, none⟩ (.slice a3 y.vec.length d3)).setCell ⟨q6, 3, none⟩ (.int .i64 y.session)).setCell ⟨q6, 4, none⟩ (.int .i64 y.seq)) [.int .i64 y.kind, .int .i64 y.id, .slice a3 y.vec.length d3, .int .i64 y.session, .int .i64 y.seq] y b6) := Lay.tWrite.keep hl0 fun c hc => hE7.block c (Lay.tWrite.lt hl0 c hc) (by have := hb6 c hc; omega)
      have HB7 : Hid (Below w.heap.size w (((((w6.setCell ⟨q6, 0, none⟩ (.int .i64 y.kind)).setCell ⟨q6, 1, none⟩ (.int .i64 y.id)).setCell ⟨q6, 2, none⟩ (.slice a3 y.vec.length d3)).setCell ⟨q6, 3, none⟩ (.int .i64 y.session)).setCell ⟨q6, 4, none⟩ (.int .i64 y.seq))) := hBw.trans (hE7.below (by have := hBw.size; omega) (fun k hk e => by omega))
      have hlq7 : q6 < (((((w6.setCell ⟨q6, 0, none⟩ (.int .i64 y.kind)).setCell ⟨q6, 1, none⟩ (.int .i64 y.id)).setCell ⟨q6, 2, none⟩ (.slice a3 y.vec.length d3)).setCell ⟨q6, 3, none⟩ (.int .i64 y.session)).setCell ⟨q6, 4, none⟩ (.int .i64 y.seq)).heap.size := (unhide HQ7).lt
      have hby : ∀ c ∈ b6, w.heap.size + 2 ≤ c := fun c hc => (hb6 c hc).1
      have i1 : (0 : Int) ≤ (r6 : Int) := by omega
      have i2 : (r6 : Int) < (xs.length : Int) := by omega
      clear hE7 hGv hR hQ hBw hl0 hb6 n1 n2
      have HBY := hide hby
      have HSF := hide hsf
      clear hby hsf
      go_upto_region 6 with fail
      clear c0 c1 c2 c3 c4 q0 q1 q2 q3 q4 g0 g1 g2 g3 g4
      have hQ := unhide HQ7
      have hR := unhide HR7
      have hGv := unhide HG7
      have hLx := unhide HL7
      have hBw := unhide HB7
      have hby := unhide HBY
      have hsf := unhide HSF
      clear HQ7 HR7 HG7 HL7 HB7 HBY HSF
      generalize (((((w6.setCell ⟨q6, 0, none⟩ (.int .i64 y.kind)).setCell ⟨q6, 1, none⟩ (.int .i64 y.id)).setCell ⟨q6, 2, none⟩ (.slice a3 y.vec.length d3)).setCell ⟨q6, 3, none⟩ (.int .i64 y.session)).setCell ⟨q6, 4, none⟩ (.int .i64 y.seq)) = W7 at *
      have hRD : Box 0 #[.int .i64 0, .int .i64 0, .slice none 0 0, .int .i64 0, .int .i64 0] 27 W7.drew w.heap.size := hR
      have hGD : Grow Lay.tWrite W7.drew (w.heap.size + 2) 27 (.slice (some ⟨g, 0, none⟩) xs.length cv) rows xs bls := hGv.later (below_drawn (Below.refl _ _) 1)
      have hLD : Lay.tWrite.lies W7.drew [.int .i64 y.kind, .int .i64 y.id, .slice a3 y.vec.length d3, .int .i64 y.session, .int .i64 y.seq] y b6 := hLx
      have hBD : Below w.heap.size w W7.drew := hBw.drew
      refine wp_region_noPanic ?_
      refine wp_region_held_drew (S := fun w' => Ext (fun c => c = w.heap.size) W7 w') (by kernel_rfl) ⟨rfl, rfl, rfl, Nat.le_refl _, fun _ _ _ => rfl⟩ (fun hHeld => ?_)
      generalize W7.drew = wT at hHeld hRD hGD hLD hBD ⊢
      refine wpAnyH_take (i := 0) (oi := { dst := some 27, op := Go.Op.move (Go.Operand.tmp 5), type := 24, pos := "l05_session.go:159", after := #[], guard := none }) (v := ?vf0) rfl (by kernel_rfl) (by kernel_rfl) (by kernel_rfl) (fun _ _ _ h => h) (Or.inl ⟨by rfl, ?hf0⟩) hHeld ?rf0
      case hf0 =>
        intro wS hSw
        (try dsimp only at hSw)
        go_simp
        try with_reducible rfl
      case rf0 =>
      simp only [Act.put, List.setIfInBounds_toArray, List.set_cons_zero, List.set_cons_succ]
      refine wpAnyH_take (i := 1) (oi := { dst := some 28, op := Go.Op.load 27 (Go.Operand.tmp 6), type := 27, pos := "l05_session.go:159", after := #[{ on := 2, ground := Go.Ground.gcOnly Go.Departure.lateStores }], guard := none }) (v := ?vf1) rfl (by kernel_rfl) (by kernel_rfl) (by kernel_rfl) (fun _ _ _ h => h) (Or.inl ⟨by rfl, ?hf1⟩) hHeld ?rf1
      case hf1 =>
        intro wS hSw
        have y0 : wS.cell? ⟨q6, 0, none⟩ = some (.int .i64 y.kind) := (hQ.ext hSw (by omega)).at 0 _ rfl
        have y1 : wS.cell? ⟨q6, 1, none⟩ = some (.int .i64 y.id) := (hQ.ext hSw (by omega)).at 1 _ rfl
        have y2 : wS.cell? ⟨q6, 2, none⟩ = some (.slice a3 y.vec.length d3) := (hQ.ext hSw (by omega)).at 2 _ rfl
        have y3 : wS.cell? ⟨q6, 3, none⟩ = some (.int .i64 y.session) := (hQ.ext hSw (by omega)).at 3 _ rfl
        have y4 : wS.cell? ⟨q6, 4, none⟩ = some (.int .i64 y.seq) := (hQ.ext hSw (by omega)).at 4 _ rfl
        clear hSw
        (try dsimp only at hSw)
        go_simp
        try with_reducible rfl
      case rf1 =>
      simp only [Act.put, List.setIfInBounds_toArray, List.set_cons_zero, List.set_cons_succ]
      refine wpAnyH_take (i := 2) (oi := { dst := some 2, op := Go.Op.assign (Go.Operand.tmp 27), type := 24, pos := "l05_session.go:159", after := #[{ on := 0, ground := Go.Ground.data }, { on := 0, ground := Go.Ground.phase }, { on := 1, ground := Go.Ground.textOnly Go.Departure.lateStores }], guard := none }) (v := ?vf2) rfl (by kernel_rfl) (by kernel_rfl) (by kernel_rfl) (fun _ _ _ h => h) (Or.inl ⟨by rfl, ?hf2⟩) hHeld ?rf2
      case hf2 =>
        intro wS hSw
        (try dsimp only at hSw)
        go_simp
        try with_reducible rfl
      case rf2 =>
      simp only [Act.put, List.setIfInBounds_toArray, List.set_cons_zero, List.set_cons_succ]
      refine wpAnyH_ready (rs := [3]) (by kernel_rfl) (by simp) ?_
      refine AllReadyH.cons (o := { dst := none, op := Go.Op.store 27 (Go.Operand.tmp 3) (Go.Operand.tmp 28), type := 0, pos := "l05_session.go:159", after := #[{ on := 1, ground := Go.Ground.data }, { on := 2, ground := Go.Ground.chain }, { on := 0, ground := Go.Ground.phase }, { on := 1, ground := Go.Ground.phase }, { on := 2, ground := Go.Ground.phase }], guard := none }) rfl (fun K hK => ?_) AllReadyH.nil
      have z0 : wT.cell? ⟨w.heap.size, 0, none⟩ = some (.int .i64 0) := hRD.at 0 _ rfl
      have z1 : wT.cell? ⟨w.heap.size, 1, none⟩ = some (.int .i64 0) := hRD.at 1 _ rfl
      have z2 : wT.cell? ⟨w.heap.size, 2, none⟩ = some (.slice none 0 0) := hRD.at 2 _ rfl
      have z3 : wT.cell? ⟨w.heap.size, 3, none⟩ = some (.int .i64 0) := hRD.at 3 _ rfl
      have z4 : wT.cell? ⟨w.heap.size, 4, none⟩ = some (.int .i64 0) := hRD.at 4 _ rfl
      have f0 := hRD.soft 0
      have f1 := hRD.soft 1
      have f2 := hRD.soft 2
      have f3 := hRD.soft 3
      have f4 := hRD.soft 4
      have lR := hRD.lt
      go_simp
      refine hK.out _ _ (((((hHeld.setCell ⟨w.heap.size, 0, none⟩ _ rfl).setCell ⟨w.heap.size, 1, none⟩ _ rfl).setCell ⟨w.heap.size, 2, none⟩ _ rfl).setCell ⟨w.heap.size, 3, none⟩ _ rfl).setCell ⟨w.heap.size, 4, none⟩ _ rfl) (fun hHeld => ?_)
      clear hK K
      try simp only [Act.put, List.setIfInBounds_toArray, List.set_cons_zero, List.set_cons_succ]
      refine wpAnyH_done (by kernel_rfl) ?_ _
      refine NoPanic.normal ?_
      have hE : Ext (fun c => c = w.heap.size) wT (((((wT.setCell ⟨w.heap.size, 0, none⟩ (.int .i64 y.kind)).setCell ⟨w.heap.size, 1, none⟩ (.int .i64 y.id)).setCell ⟨w.heap.size, 2, none⟩ (.slice a3 y.vec.length d3)).setCell ⟨w.heap.size, 3, none⟩ (.int .i64 y.session)).setCell ⟨w.heap.size, 4, none⟩ (.int .i64 y.seq)) := ((((((Ext.refl (fun c => c = w.heap.size) _).setCell ⟨w.heap.size, 0, none⟩ _ rfl).setCell ⟨w.heap.size, 1, none⟩ _ rfl).setCell ⟨w.heap.size, 2, none⟩ _ rfl).setCell ⟨w.heap.size, 3, none⟩ _ rfl).setCell ⟨w.heap.size, 4, none⟩ _ rfl)
      have hRZ := (((((hRD.set 0 (.int .i64 y.kind)).set 1 (.int .i64 y.id)).set 2 (.slice a3 y.vec.length d3)).set 3 (.int .i64 y.session)).set 4 (.int .i64 y.seq))
      have z0 : (((((wT.setCell ⟨w.heap.size, 0, none⟩ (.int .i64 y.kind)).setCell ⟨w.heap.size, 1, none⟩ (.int .i64 y.id)).setCell ⟨w.heap.size, 2, none⟩ (.slice a3 y.vec.length d3)).setCell ⟨w.heap.size, 3, none⟩ (.int .i64 y.session)).setCell ⟨w.heap.size, 4, none⟩ (.int .i64 y.seq)).cell? ⟨w.heap.size, 0, none⟩ = some (.int .i64 y.kind) := hRZ.at 0 _ rfl
      have z1 : (((((wT.setCell ⟨w.heap.size, 0, none⟩ (.int .i64 y.kind)).setCell ⟨w.heap.size, 1, none⟩ (.int .i64 y.id)).setCell ⟨w.heap.size, 2, none⟩ (.slice a3 y.vec.length d3)).setCell ⟨w.heap.size, 3, none⟩ (.int .i64 y.session)).setCell ⟨w.heap.size, 4, none⟩ (.int .i64 y.seq)).cell? ⟨w.heap.size, 1, none⟩ = some (.int .i64 y.id) := hRZ.at 1 _ rfl
      have z2 : (((((wT.setCell ⟨w.heap.size, 0, none⟩ (.int .i64 y.kind)).setCell ⟨w.heap.size, 1, none⟩ (.int .i64 y.id)).setCell ⟨w.heap.size, 2, none⟩ (.slice a3 y.vec.length d3)).setCell ⟨w.heap.size, 3, none⟩ (.int .i64 y.session)).setCell ⟨w.heap.size, 4, none⟩ (.int .i64 y.seq)).cell? ⟨w.heap.size, 2, none⟩ = some (.slice a3 y.vec.length d3) := hRZ.at 2 _ rfl
      have z3 : (((((wT.setCell ⟨w.heap.size, 0, none⟩ (.int .i64 y.kind)).setCell ⟨w.heap.size, 1, none⟩ (.int .i64 y.id)).setCell ⟨w.heap.size, 2, none⟩ (.slice a3 y.vec.length d3)).setCell ⟨w.heap.size, 3, none⟩ (.int .i64 y.session)).setCell ⟨w.heap.size, 4, none⟩ (.int .i64 y.seq)).cell? ⟨w.heap.size, 3, none⟩ = some (.int .i64 y.session) := hRZ.at 3 _ rfl
      have z4 : (((((wT.setCell ⟨w.heap.size, 0, none⟩ (.int .i64 y.kind)).setCell ⟨w.heap.size, 1, none⟩ (.int .i64 y.id)).setCell ⟨w.heap.size, 2, none⟩ (.slice a3 y.vec.length d3)).setCell ⟨w.heap.size, 3, none⟩ (.int .i64 y.session)).setCell ⟨w.heap.size, 4, none⟩ (.int .i64 y.seq)).cell? ⟨w.heap.size, 4, none⟩ = some (.int .i64 y.seq) := hRZ.at 4 _ rfl
      have HRV : Hid ((Lay.sl Lay.tWrite).Reads (((((wT.setCell ⟨w.heap.size, 0, none⟩ (.int .i64 y.kind)).setCell ⟨w.heap.size, 1, none⟩ (.int .i64 y.id)).setCell ⟨w.heap.size, 2, none⟩ (.slice a3 y.vec.length d3)).setCell ⟨w.heap.size, 3, none⟩ (.int .i64 y.session)).setCell ⟨w.heap.size, 4, none⟩ (.int .i64 y.seq)) [(.slice (some ⟨g, 0, none⟩) xs.length cv)] xs) := by
        obtain ⟨blV, lV, iV⟩ := hGD.toLies (by omega) hsf
        exact ⟨blV, (Lay.sl Lay.tWrite).keep lV fun c hc => hE.block c ((Lay.sl Lay.tWrite).lt lV c hc) (by have := (iV c hc).1; omega)⟩
      have HRX : Hid (Lay.tWrite.Reads (((((wT.setCell ⟨w.heap.size, 0, none⟩ (.int .i64 y.kind)).setCell ⟨w.heap.size, 1, none⟩ (.int .i64 y.id)).setCell ⟨w.heap.size, 2, none⟩ (.slice a3 y.vec.length d3)).setCell ⟨w.heap.size, 3, none⟩ (.int .i64 y.session)).setCell ⟨w.heap.size, 4, none⟩ (.int .i64 y.seq)) [.int .i64 y.kind, .int .i64 y.id, .slice a3 y.vec.length d3, .int .i64 y.session, .int .i64 y.seq] y) := ⟨b6, Lay.tWrite.keep hLD fun c hc => hE.block c (Lay.tWrite.lt hLD c hc) (by have := hby c hc; omega)⟩
      have HBZ : Hid (Below w.heap.size w (((((wT.setCell ⟨w.heap.size, 0, none⟩ (.int .i64 y.kind)).setCell ⟨w.heap.size, 1, none⟩ (.int .i64 y.id)).setCell ⟨w.heap.size, 2, none⟩ (.slice a3 y.vec.length d3)).setCell ⟨w.heap.size, 3, none⟩ (.int .i64 y.session)).setCell ⟨w.heap.size, 4, none⟩ (.int .i64 y.seq))) := hBD.trans (hE.below (by have := hBD.size; omega) (fun k hk e => by omega))
      clear hHeld hE hRZ hRD hGD hLD hBD hR hQ hLx hGv hBw hby hsf
      generalize (((((wT.setCell ⟨w.heap.size, 0, none⟩ (.int .i64 y.kind)).setCell ⟨w.heap.size, 1, none⟩ (.int .i64 y.id)).setCell ⟨w.heap.size, 2, none⟩ (.slice a3 y.vec.length d3)).setCell ⟨w.heap.size, 3, none⟩ (.int .i64 y.session)).setCell ⟨w.heap.size, 4, none⟩ (.int .i64 y.seq)) = wF at *
      go_wp2_with fail
      refine bodyPost_ret (v := .tuple #[(.slice (some ⟨g, 0, none⟩) xs.length cv), .agg #[.int .i64 y.kind, .int .i64 y.id, .slice a3 y.vec.length d3, .int .i64 y.session, .int .i64 y.seq]]) (by simp [results, Tryd.results6, go_sem, z0, z1, z2, z3, z4]) rfl ?_
      exact ⟨_, _, _, _, rfl, unhide HRV, unhide HRX, hlen, unhide HBZ⟩
  · have hpd : decide ((0 : Int) < (xs.length : Int)) = false := decide_eq_false (by omega)
    have HGV := hide hGv
    have HRR := hide hR
    have HBW := hide hBw
    have HLX := hide hLx
    have HBY := hide hby
    have HQ := hide hQ
    have HSF := hide hsf
    clear hS hC hGv hR hBw hLx hby hQ hsf
    go_upto_region 6 with fail
    generalize w4.alloc (.cells #[.int .i64 x.kind, .int .i64 x.id, .slice a2 x.vec.length d2, .int .i64 x.session, .int .i64 x.seq] 27) = W4 at *
    generalize w4.heap.size = q6 at *
    have hQ := unhide HQ
    have hR := unhide HRR
    have hGv := unhide HGV
    have hLx := unhide HLX
    have hBw := unhide HBW
    have hby := unhide HBY
    have hsf := unhide HSF
    clear HGV HRR HBW HLX HBY HQ HSF
    have hRD : Box 0 #[.int .i64 0, .int .i64 0, .slice none 0 0, .int .i64 0, .int .i64 0] 27 W4.drew w.heap.size := hR
    have hGD : Grow Lay.tWrite W4.drew (w.heap.size + 2) 27 (.slice av xs.length cv) rows xs bls := hGv.later (below_drawn (Below.refl _ _) 1)
    have hLD : Lay.tWrite.lies W4.drew [.int .i64 x.kind, .int .i64 x.id, .slice a2 x.vec.length d2, .int .i64 x.session, .int .i64 x.seq] x bl := hLx
    have hBD : Below w.heap.size w W4.drew := hBw.drew
    refine wp_region_noPanic ?_
    refine wp_region_held_drew (S := fun w' => Ext (fun c => c = w.heap.size) W4 w') (by kernel_rfl) ⟨rfl, rfl, rfl, Nat.le_refl _, fun _ _ _ => rfl⟩ (fun hHeld => ?_)
    generalize W4.drew = wT at hHeld hRD hGD hLD hBD ⊢
    refine wpAnyH_take (i := 0) (oi := { dst := some 27, op := Go.Op.move (Go.Operand.tmp 5), type := 24, pos := "l05_session.go:159", after := #[], guard := none }) (v := ?vg0) rfl (by kernel_rfl) (by kernel_rfl) (by kernel_rfl) (fun _ _ _ h => h) (Or.inl ⟨by rfl, ?hg0⟩) hHeld ?rg0
    case hg0 =>
      intro wS hSw
      (try dsimp only at hSw)
      go_simp
      try with_reducible rfl
    case rg0 =>
    simp only [Act.put, List.setIfInBounds_toArray, List.set_cons_zero, List.set_cons_succ]
    refine wpAnyH_take (i := 1) (oi := { dst := some 28, op := Go.Op.load 27 (Go.Operand.tmp 6), type := 27, pos := "l05_session.go:159", after := #[{ on := 2, ground := Go.Ground.gcOnly Go.Departure.lateStores }], guard := none }) (v := ?vg1) rfl (by kernel_rfl) (by kernel_rfl) (by kernel_rfl) (fun _ _ _ h => h) (Or.inl ⟨by rfl, ?hg1⟩) hHeld ?rg1
    case hg1 =>
      intro wS hSw
      have y0 : wS.cell? ⟨q6, 0, none⟩ = some (.int .i64 x.kind) := (hQ.ext hSw (by omega)).at 0 _ rfl
      have y1 : wS.cell? ⟨q6, 1, none⟩ = some (.int .i64 x.id) := (hQ.ext hSw (by omega)).at 1 _ rfl
      have y2 : wS.cell? ⟨q6, 2, none⟩ = some (.slice a2 x.vec.length d2) := (hQ.ext hSw (by omega)).at 2 _ rfl
      have y3 : wS.cell? ⟨q6, 3, none⟩ = some (.int .i64 x.session) := (hQ.ext hSw (by omega)).at 3 _ rfl
      have y4 : wS.cell? ⟨q6, 4, none⟩ = some (.int .i64 x.seq) := (hQ.ext hSw (by omega)).at 4 _ rfl
      clear hSw
      (try dsimp only at hSw)
      go_simp
      try with_reducible rfl
    case rg1 =>
    simp only [Act.put, List.setIfInBounds_toArray, List.set_cons_zero, List.set_cons_succ]
    refine wpAnyH_take (i := 2) (oi := { dst := some 2, op := Go.Op.assign (Go.Operand.tmp 27), type := 24, pos := "l05_session.go:159", after := #[{ on := 0, ground := Go.Ground.data }, { on := 0, ground := Go.Ground.phase }, { on := 1, ground := Go.Ground.textOnly Go.Departure.lateStores }], guard := none }) (v := ?vg2) rfl (by kernel_rfl) (by kernel_rfl) (by kernel_rfl) (fun _ _ _ h => h) (Or.inl ⟨by rfl, ?hg2⟩) hHeld ?rg2
    case hg2 =>
      intro wS hSw
      (try dsimp only at hSw)
      go_simp
      try with_reducible rfl
    case rg2 =>
    simp only [Act.put, List.setIfInBounds_toArray, List.set_cons_zero, List.set_cons_succ]
    refine wpAnyH_ready (rs := [3]) (by kernel_rfl) (by simp) ?_
    refine AllReadyH.cons (o := { dst := none, op := Go.Op.store 27 (Go.Operand.tmp 3) (Go.Operand.tmp 28), type := 0, pos := "l05_session.go:159", after := #[{ on := 1, ground := Go.Ground.data }, { on := 2, ground := Go.Ground.chain }, { on := 0, ground := Go.Ground.phase }, { on := 1, ground := Go.Ground.phase }, { on := 2, ground := Go.Ground.phase }], guard := none }) rfl (fun K hK => ?_) AllReadyH.nil
    have z0 : wT.cell? ⟨w.heap.size, 0, none⟩ = some (.int .i64 0) := hRD.at 0 _ rfl
    have z1 : wT.cell? ⟨w.heap.size, 1, none⟩ = some (.int .i64 0) := hRD.at 1 _ rfl
    have z2 : wT.cell? ⟨w.heap.size, 2, none⟩ = some (.slice none 0 0) := hRD.at 2 _ rfl
    have z3 : wT.cell? ⟨w.heap.size, 3, none⟩ = some (.int .i64 0) := hRD.at 3 _ rfl
    have z4 : wT.cell? ⟨w.heap.size, 4, none⟩ = some (.int .i64 0) := hRD.at 4 _ rfl
    have f0 := hRD.soft 0
    have f1 := hRD.soft 1
    have f2 := hRD.soft 2
    have f3 := hRD.soft 3
    have f4 := hRD.soft 4
    have lR := hRD.lt
    go_simp
    refine hK.out _ _ (((((hHeld.setCell ⟨w.heap.size, 0, none⟩ _ rfl).setCell ⟨w.heap.size, 1, none⟩ _ rfl).setCell ⟨w.heap.size, 2, none⟩ _ rfl).setCell ⟨w.heap.size, 3, none⟩ _ rfl).setCell ⟨w.heap.size, 4, none⟩ _ rfl) (fun hHeld => ?_)
    clear hK K
    try simp only [Act.put, List.setIfInBounds_toArray, List.set_cons_zero, List.set_cons_succ]
    refine wpAnyH_done (by kernel_rfl) ?_ _
    refine NoPanic.normal ?_
    have hE : Ext (fun c => c = w.heap.size) wT (((((wT.setCell ⟨w.heap.size, 0, none⟩ (.int .i64 x.kind)).setCell ⟨w.heap.size, 1, none⟩ (.int .i64 x.id)).setCell ⟨w.heap.size, 2, none⟩ (.slice a2 x.vec.length d2)).setCell ⟨w.heap.size, 3, none⟩ (.int .i64 x.session)).setCell ⟨w.heap.size, 4, none⟩ (.int .i64 x.seq)) := ((((((Ext.refl (fun c => c = w.heap.size) _).setCell ⟨w.heap.size, 0, none⟩ _ rfl).setCell ⟨w.heap.size, 1, none⟩ _ rfl).setCell ⟨w.heap.size, 2, none⟩ _ rfl).setCell ⟨w.heap.size, 3, none⟩ _ rfl).setCell ⟨w.heap.size, 4, none⟩ _ rfl)
    have hRZ := (((((hRD.set 0 (.int .i64 x.kind)).set 1 (.int .i64 x.id)).set 2 (.slice a2 x.vec.length d2)).set 3 (.int .i64 x.session)).set 4 (.int .i64 x.seq))
    have z0 : (((((wT.setCell ⟨w.heap.size, 0, none⟩ (.int .i64 x.kind)).setCell ⟨w.heap.size, 1, none⟩ (.int .i64 x.id)).setCell ⟨w.heap.size, 2, none⟩ (.slice a2 x.vec.length d2)).setCell ⟨w.heap.size, 3, none⟩ (.int .i64 x.session)).setCell ⟨w.heap.size, 4, none⟩ (.int .i64 x.seq)).cell? ⟨w.heap.size, 0, none⟩ = some (.int .i64 x.kind) := hRZ.at 0 _ rfl
    have z1 : (((((wT.setCell ⟨w.heap.size, 0, none⟩ (.int .i64 x.kind)).setCell ⟨w.heap.size, 1, none⟩ (.int .i64 x.id)).setCell ⟨w.heap.size, 2, none⟩ (.slice a2 x.vec.length d2)).setCell ⟨w.heap.size, 3, none⟩ (.int .i64 x.session)).setCell ⟨w.heap.size, 4, none⟩ (.int .i64 x.seq)).cell? ⟨w.heap.size, 1, none⟩ = some (.int .i64 x.id) := hRZ.at 1 _ rfl
    have z2 : (((((wT.setCell ⟨w.heap.size, 0, none⟩ (.int .i64 x.kind)).setCell ⟨w.heap.size, 1, none⟩ (.int .i64 x.id)).setCell ⟨w.heap.size, 2, none⟩ (.slice a2 x.vec.length d2)).setCell ⟨w.heap.size, 3, none⟩ (.int .i64 x.session)).setCell ⟨w.heap.size, 4, none⟩ (.int .i64 x.seq)).cell? ⟨w.heap.size, 2, none⟩ = some (.slice a2 x.vec.length d2) := hRZ.at 2 _ rfl
    have z3 : (((((wT.setCell ⟨w.heap.size, 0, none⟩ (.int .i64 x.kind)).setCell ⟨w.heap.size, 1, none⟩ (.int .i64 x.id)).setCell ⟨w.heap.size, 2, none⟩ (.slice a2 x.vec.length d2)).setCell ⟨w.heap.size, 3, none⟩ (.int .i64 x.session)).setCell ⟨w.heap.size, 4, none⟩ (.int .i64 x.seq)).cell? ⟨w.heap.size, 3, none⟩ = some (.int .i64 x.session) := hRZ.at 3 _ rfl
    have z4 : (((((wT.setCell ⟨w.heap.size, 0, none⟩ (.int .i64 x.kind)).setCell ⟨w.heap.size, 1, none⟩ (.int .i64 x.id)).setCell ⟨w.heap.size, 2, none⟩ (.slice a2 x.vec.length d2)).setCell ⟨w.heap.size, 3, none⟩ (.int .i64 x.session)).setCell ⟨w.heap.size, 4, none⟩ (.int .i64 x.seq)).cell? ⟨w.heap.size, 4, none⟩ = some (.int .i64 x.seq) := hRZ.at 4 _ rfl
    have HRV : Hid ((Lay.sl Lay.tWrite).Reads (((((wT.setCell ⟨w.heap.size, 0, none⟩ (.int .i64 x.kind)).setCell ⟨w.heap.size, 1, none⟩ (.int .i64 x.id)).setCell ⟨w.heap.size, 2, none⟩ (.slice a2 x.vec.length d2)).setCell ⟨w.heap.size, 3, none⟩ (.int .i64 x.session)).setCell ⟨w.heap.size, 4, none⟩ (.int .i64 x.seq)) [(.slice av xs.length cv)] xs) := by
      obtain ⟨blV, lV, iV⟩ := hGD.toLies (by omega) hsf
      exact ⟨blV, (Lay.sl Lay.tWrite).keep lV fun c hc => hE.block c ((Lay.sl Lay.tWrite).lt lV c hc) (by have := (iV c hc).1; omega)⟩
    have HRX : Hid (Lay.tWrite.Reads (((((wT.setCell ⟨w.heap.size, 0, none⟩ (.int .i64 x.kind)).setCell ⟨w.heap.size, 1, none⟩ (.int .i64 x.id)).setCell ⟨w.heap.size, 2, none⟩ (.slice a2 x.vec.length d2)).setCell ⟨w.heap.size, 3, none⟩ (.int .i64 x.session)).setCell ⟨w.heap.size, 4, none⟩ (.int .i64 x.seq)) [.int .i64 x.kind, .int .i64 x.id, .slice a2 x.vec.length d2, .int .i64 x.session, .int .i64 x.seq] x) := ⟨bl, Lay.tWrite.keep hLD fun c hc => hE.block c (Lay.tWrite.lt hLD c hc) (by have := hby c hc; omega)⟩
    have HBZ : Hid (Below w.heap.size w (((((wT.setCell ⟨w.heap.size, 0, none⟩ (.int .i64 x.kind)).setCell ⟨w.heap.size, 1, none⟩ (.int .i64 x.id)).setCell ⟨w.heap.size, 2, none⟩ (.slice a2 x.vec.length d2)).setCell ⟨w.heap.size, 3, none⟩ (.int .i64 x.session)).setCell ⟨w.heap.size, 4, none⟩ (.int .i64 x.seq))) := hBD.trans (hE.below (by have := hBD.size; omega) (fun k hk e => by omega))
    clear hHeld hE hRZ hRD hGD hLD hBD hR hQ hLx hGv hBw hby hsf
    generalize (((((wT.setCell ⟨w.heap.size, 0, none⟩ (.int .i64 x.kind)).setCell ⟨w.heap.size, 1, none⟩ (.int .i64 x.id)).setCell ⟨w.heap.size, 2, none⟩ (.slice a2 x.vec.length d2)).setCell ⟨w.heap.size, 3, none⟩ (.int .i64 x.session)).setCell ⟨w.heap.size, 4, none⟩ (.int .i64 x.seq)) = wF at *
    go_wp2_with fail
    refine bodyPost_ret (v := .tuple #[(.slice av xs.length cv), .agg #[.int .i64 x.kind, .int .i64 x.id, .slice a2 x.vec.length d2, .int .i64 x.session, .int .i64 x.seq]]) (by simp [results, Tryd.results6, go_sem, z0, z1, z2, z3, z4]) rfl ?_
    exact ⟨_, _, _, _, rfl, unhide HRV, unhide HRX, hlen, unhide HBZ⟩

end Go.Proofs.YtkodenmpadehjaaDoor

namespace Go.Proofs.YtkodenmpadehjaaDoor
open Go.RowKit

structure DIntResult where
  code : Int
  value : Int

def Lay.tIntResult : Lay DIntResult := Lay.via (Lay.pair Lay.int Lay.int) (fun x => (x.code, x.value)) (fun p => ⟨p.1, p.2⟩)

theorem lies_IntResult {w : World} {cs : List Value} {x : DIntResult} {bl : List Nat} : Lay.tIntResult.lies w cs x bl ↔ cs = [.int .i64 x.code, .int .i64 x.value] ∧ bl = [] ∧ (Lit.int .i64 x.code).wf = true ∧ (Lit.int .i64 x.value).wf = true := by
  constructor
  · intro h
    obtain ⟨c0_, r0_, e0_, s0_, rfl, rfl, h0, h1⟩ := h
    obtain ⟨rfl, w0, rfl⟩ := h0
    obtain ⟨rfl, w1, rfl⟩ := h1
    exact ⟨by simp, by simp, w0, w1⟩
  · rintro ⟨rfl, hbl, w0, w1⟩
    rw [hbl]
    exact ⟨[.int .i64 x.code], [.int .i64 x.value], [], [], rfl, by simp, ⟨rfl, w0, rfl⟩, ⟨rfl, w1, rfl⟩⟩

end Go.Proofs.YtkodenmpadehjaaDoor

namespace Go.Proofs.YtkodenmpadehjaaDoor
open Go.RowKit

structure DWritesResult where
  code : Int
  writes : List DWrite

def Lay.tWritesResult : Lay DWritesResult := Lay.via (Lay.pair Lay.int (Lay.sl Lay.tWrite)) (fun x => (x.code, x.writes)) (fun p => ⟨p.1, p.2⟩)

theorem lies_WritesResult {w : World} {cs : List Value} {x : DWritesResult} {bl : List Nat} : Lay.tWritesResult.lies w cs x bl ↔ ∃ (a1 : Option Addr) (d1 : Nat) (b1 : List Nat), cs = [.int .i64 x.code, .slice a1 x.writes.length d1] ∧ bl = b1 ∧ (Lit.int .i64 x.code).wf = true ∧ (Lay.sl Lay.tWrite).lies w [.slice a1 x.writes.length d1] x.writes b1 := by
  constructor
  · intro h
    obtain ⟨c0_, r0_, e0_, s0_, rfl, rfl, h0, h1⟩ := h
    obtain ⟨rfl, w0, rfl⟩ := h0
    have k1 := h1
    obtain ⟨a1, d1, rfl, -⟩ := k1
    exact ⟨a1, d1, s0_, by simp, by simp, w0, h1⟩
  · rintro ⟨a1, d1, b1, rfl, hbl, w0, l1⟩
    rw [hbl]
    exact ⟨[.int .i64 x.code], [.slice a1 x.writes.length d1], [], b1, rfl, by simp, ⟨rfl, w0, rfl⟩, l1⟩

theorem open_WritesResult {w : World} {cs : List Value} {x : DWritesResult} (h : Lay.tWritesResult.Reads w cs x) : ∃ (a1 : Option Addr) (d1 : Nat), cs = [.int .i64 x.code, .slice a1 x.writes.length d1] ∧ (Lay.sl Lay.tWrite).Reads w [.slice a1 x.writes.length d1] x.writes := by
  obtain ⟨bl, h⟩ := h
  obtain ⟨a1, d1, b1, rfl, -, w0, l1⟩ := lies_WritesResult.1 h
  exact ⟨a1, d1, rfl, ⟨_, l1⟩⟩

end Go.Proofs.YtkodenmpadehjaaDoor

namespace Go.Proofs.YtkodenmpadehjaaDoor
open Go.RowKit

def lastR (ws : List DWrite) (s : Int) : DIntResult := if askedF ws s = 0 then ⟨0, lastI ws s⟩ else ⟨askedF ws s, 0⟩
def seenR (ws : List DWrite) (s q : Int) : DIntResult := if askedF ws s = 0 then (if 1 ≤ q ∧ q ≤ 999 then (if seenI ws s q = 0 then ⟨4, 0⟩ else ⟨0, seenI ws s q⟩) else ⟨3, 0⟩) else ⟨askedF ws s, 0⟩
def ofL (ws : List DWrite) (s : Int) : List DWrite := ws.filter fun x => decide (x.session = s)
def ofR (ws : List DWrite) (s : Int) : DWritesResult := if askedF ws s = 0 then ⟨0, ofL ws s⟩ else ⟨askedF ws s, []⟩
theorem asked_bad {ws : List DWrite} (s : Int) (h : writesF ws ≠ 0) : askedF ws s = writesF ws := by rw [askedF, if_neg h]
theorem asked_out {ws : List DWrite} {s : Int} (h : writesF ws = 0) (hs : ¬ (1 ≤ s ∧ s ≤ 9)) : askedF ws s = 3 := by rw [askedF, if_pos h, if_neg hs]
theorem asked_ok {ws : List DWrite} {s : Int} (h : writesF ws = 0) (hs : 1 ≤ s ∧ s ≤ 9) : askedF ws s = 0 := by rw [askedF, if_pos h, if_pos hs]
theorem last_bd {ws : List DWrite} (s : Int) (h : writesF ws = 0) : 0 ≤ lastI ws s ∧ lastI ws s ≤ 999 := ⟨lastI_nonneg ws s, lastI_le ws s fun x hx => (wF_seq ((writesF_zero h).2 x hx)).2.2.2⟩
theorem dec9 {s : Int} (hs : 1 ≤ s ∧ s ≤ 9) : (decide (1 ≤ s) && decide (s ≤ 9)) = true := by simp [hs.1, hs.2]
theorem dec9n {s : Int} (hs : ¬ (1 ≤ s ∧ s ≤ 9)) : (decide (1 ≤ s) && decide (s ≤ 9)) = false := by
  rw [Bool.eq_false_iff]
  intro hb
  simp only [Bool.and_eq_true, decide_eq_true_eq] at hb
  exact hs hb
theorem dec999 {s : Int} (hs : 1 ≤ s ∧ s ≤ 999) : (decide (1 ≤ s) && decide (s ≤ 999)) = true := by simp [hs.1, hs.2]
theorem dec999n {s : Int} (hs : ¬ (1 ≤ s ∧ s ≤ 999)) : (decide (1 ≤ s) && decide (s ≤ 999)) = false := by
  rw [Bool.eq_false_iff]
  intro hb
  simp only [Bool.and_eq_true, decide_eq_true_eq] at hb
  exact hs hb
theorem own_IntR {w : World} {c z : Int} {lo hi : Nat} (hc : (Lit.int .i64 c).wf = true) (hz : (Lit.int .i64 z).wf = true) : Lay.tIntResult.OwnIn w [.int .i64 c, .int .i64 z] ⟨c, z⟩ lo hi :=
  ⟨[], ⟨lies_IntResult.2 ⟨rfl, rfl, hc, hz⟩, by simp, by simp⟩, by simp⟩
theorem wsF_wf (ws : List DWrite) : (Lit.int .i64 (writesF ws)).wf = true := by
  have : 0 ≤ writesF ws ∧ writesF ws ≤ 3 := by
    unfold writesF
    split
    · omega
    · induction ws with
      | nil => simp [wsFrom]
      | cons x xs ih =>
        rw [wsFrom]
        split
        · exact ih (by rename_i h _; simp only [List.length_cons] at h; omega)
        · exact wF_vals x
  exact wf_of_bd (by omega)

end Go.Proofs.YtkodenmpadehjaaDoor

namespace Go.Proofs.YtkodenmpadehjaaDoor
open Go.RowKit

structure DOnceResult where
  code : Int
  isNew : Bool
  place : Int
  writes : List DWrite

def Lay.tOnceResult : Lay DOnceResult := Lay.via (Lay.pair Lay.int (Lay.pair Lay.bool (Lay.pair Lay.int (Lay.sl Lay.tWrite)))) (fun x => (x.code, x.isNew, x.place, x.writes)) (fun p => ⟨p.1, p.2.1, p.2.2.1, p.2.2.2⟩)

theorem lies_OnceResult {w : World} {cs : List Value} {x : DOnceResult} {bl : List Nat} : Lay.tOnceResult.lies w cs x bl ↔ ∃ (a3 : Option Addr) (d3 : Nat) (b3 : List Nat), cs = [.int .i64 x.code, .bool x.isNew, .int .i64 x.place, .slice a3 x.writes.length d3] ∧ bl = b3 ∧ (Lit.int .i64 x.code).wf = true ∧ (Lit.int .i64 x.place).wf = true ∧ (Lay.sl Lay.tWrite).lies w [.slice a3 x.writes.length d3] x.writes b3 := by
  constructor
  · intro h
    obtain ⟨c0_, r0_, e0_, s0_, rfl, rfl, h0, ⟨c1_, r1_, e1_, s1_, rfl, rfl, h1, ⟨c2_, r2_, e2_, s2_, rfl, rfl, h2, h3⟩⟩⟩ := h
    obtain ⟨rfl, w0, rfl⟩ := h0
    obtain ⟨rfl, rfl⟩ := h1
    obtain ⟨rfl, w2, rfl⟩ := h2
    have k3 := h3
    obtain ⟨a3, d3, rfl, -⟩ := k3
    exact ⟨a3, d3, s2_, by simp, by simp, w0, w2, h3⟩
  · rintro ⟨a3, d3, b3, rfl, hbl, w0, w2, l3⟩
    rw [hbl]
    exact ⟨[.int .i64 x.code], [.bool x.isNew] ++ ([.int .i64 x.place] ++ [.slice a3 x.writes.length d3]), [], [] ++ ([] ++ (b3)), rfl, by simp, ⟨rfl, w0, rfl⟩, ⟨[.bool x.isNew], [.int .i64 x.place] ++ [.slice a3 x.writes.length d3], [], [] ++ (b3), rfl, by simp, ⟨rfl, rfl⟩, ⟨[.int .i64 x.place], [.slice a3 x.writes.length d3], [], b3, rfl, by simp, ⟨rfl, w2, rfl⟩, l3⟩⟩⟩

theorem open_OnceResult {w : World} {cs : List Value} {x : DOnceResult} (h : Lay.tOnceResult.Reads w cs x) : ∃ (a3 : Option Addr) (d3 : Nat), cs = [.int .i64 x.code, .bool x.isNew, .int .i64 x.place, .slice a3 x.writes.length d3] ∧ (Lay.sl Lay.tWrite).Reads w [.slice a3 x.writes.length d3] x.writes := by
  obtain ⟨bl, h⟩ := h
  obtain ⟨a3, d3, b3, rfl, -, w0, w2, l3⟩ := lies_OnceResult.1 h
  exact ⟨a3, d3, rfl, ⟨_, l3⟩⟩

end Go.Proofs.YtkodenmpadehjaaDoor

namespace Go.Proofs.YtkodenmpadehjaaDoor
open Go.RowKit

def appR (ws : List DWrite) (x : DWrite) : DOnceResult :=
  if writesF ws = 0 then
    if wF x = 0 then
      if seenI ws x.session x.seq = 0 then
        if x.seq < lastI ws x.session then ⟨7, false, 0, []⟩ else if 200 ≤ ws.length then ⟨2, false, 0, []⟩ else ⟨0, true, (ws.length : Int) + 1, ws ++ [x]⟩
      else ⟨0, false, seenI ws x.session x.seq, ws⟩
    else ⟨wF x, false, 0, []⟩
  else ⟨writesF ws, false, 0, []⟩
theorem appR_wrong {ws : List DWrite} {x : DWrite} (h : writesF ws ≠ 0) : appR ws x = ⟨writesF ws, false, 0, []⟩ := by rw [appR, if_neg h]
theorem appR_bad {ws : List DWrite} {x : DWrite} (h : writesF ws = 0) (hf : wF x ≠ 0) : appR ws x = ⟨wF x, false, 0, []⟩ := by rw [appR, if_pos h, if_neg hf]
theorem appR_seen {ws : List DWrite} {x : DWrite} (h : writesF ws = 0) (hf : wF x = 0) (hs : seenI ws x.session x.seq ≠ 0) : appR ws x = ⟨0, false, seenI ws x.session x.seq, ws⟩ := by rw [appR, if_pos h, if_pos hf, if_neg hs]
theorem appR_old {ws : List DWrite} {x : DWrite} (h : writesF ws = 0) (hf : wF x = 0) (hs : seenI ws x.session x.seq = 0) (c : x.seq < lastI ws x.session) : appR ws x = ⟨7, false, 0, []⟩ := by rw [appR, if_pos h, if_pos hf, if_pos hs, if_pos c]
theorem appR_full {ws : List DWrite} {x : DWrite} (h : writesF ws = 0) (hf : wF x = 0) (hs : seenI ws x.session x.seq = 0) (c : ¬ x.seq < lastI ws x.session) (c2 : 200 ≤ ws.length) : appR ws x = ⟨2, false, 0, []⟩ := by rw [appR, if_pos h, if_pos hf, if_pos hs, if_neg c, if_pos c2]
theorem appR_new {ws : List DWrite} {x : DWrite} (h : writesF ws = 0) (hf : wF x = 0) (hs : seenI ws x.session x.seq = 0) (c : ¬ x.seq < lastI ws x.session) (c2 : ¬ 200 ≤ ws.length) : appR ws x = ⟨0, true, (ws.length : Int) + 1, ws ++ [x]⟩ := by rw [appR, if_pos h, if_pos hf, if_pos hs, if_neg c, if_neg c2]

end Go.Proofs.YtkodenmpadehjaaDoor

namespace Go.Proofs.YtkodenmpadehjaaDoor
open Go.RowKit

def sameW (x y : DWrite) : Bool := x.kind == y.kind && (x.id == y.id && (x.session == y.session && (x.seq == y.seq && decide (x.vec = y.vec))))
def sameWs : List DWrite → List DWrite → Bool
  | [], [] => true
  | x :: xs, y :: ys => sameW x y && sameWs xs ys
  | _, _ => false
theorem sameWs_len {xs ys : List DWrite} (h : xs.length ≠ ys.length) : sameWs xs ys = false := by
  induction xs generalizing ys with
  | nil => match ys, h with | y :: ys, _ => rfl
  | cons x xs ih =>
    match ys, h with
    | [], _ => rfl
    | y :: ys, h => rw [sameWs, ih (by simpa using h), Bool.and_false]
theorem sameWs_at {xs ys : List DWrite} (k : Nat) (h1 : k < xs.length) (h2 : k < ys.length) (h : sameW xs[k] ys[k] = false) : sameWs xs ys = false := by
  induction xs generalizing ys k with
  | nil => simp at h1
  | cons x xs ih =>
    match ys, k with
    | y :: ys, 0 => rw [sameWs, show sameW x y = false by simpa using h, Bool.false_and]
    | y :: ys, k + 1 => rw [sameWs, ih k (by simpa using h1) (by simpa using h2) (by simpa using h), Bool.and_false]
theorem sameWs_all {xs ys : List DWrite} (hl : xs.length = ys.length) (h : ∀ k (h1 : k < xs.length) (h2 : k < ys.length), sameW xs[k] ys[k] = true) : sameWs xs ys = true := by
  induction xs generalizing ys with
  | nil => match ys, hl with | [], _ => rfl
  | cons x xs ih =>
    match ys, hl with
    | y :: ys, hl =>
      rw [sameWs, show sameW x y = true from h 0 (by simp) (by simp), ih (by simpa using hl) fun k h1 h2 => h (k + 1) (by simpa using h1) (by simpa using h2), Bool.true_and]
theorem sameWs_refl_self (x : DWrite) : sameW x x = true := by simp [sameW]

end Go.Proofs.YtkodenmpadehjaaDoor

namespace Go.Proofs.YtkodenmpadehjaaDoor
open Go.RowKit

theorem lastI_mem (ws : List DWrite) (s : Int) : lastI ws s = 0 ∨ ∃ x ∈ ws, x.session = s ∧ x.seq = lastI ws s := by
  have : ∀ (n : Nat) (ws : List DWrite), ws.length = n → lastI ws s = 0 ∨ ∃ x ∈ ws, x.session = s ∧ x.seq = lastI ws s := by
    intro n
    induction n with
    | zero => intro ws h; rw [List.eq_nil_of_length_eq_zero h]; exact Or.inl rfl
    | succ n ih =>
      intro ws h
      obtain ⟨l, a, rfl⟩ : ∃ l a, ws = l ++ [a] := by
        have hne : ws ≠ [] := by intro e; rw [e] at h; simp at h
        exact ⟨ws.dropLast, ws.getLast hne, (List.dropLast_concat_getLast hne).symm⟩
      rw [lastI_snoc]
      have hl : l.length = n := by simpa using h
      by_cases e : a.session = s
      · rw [if_pos e]
        by_cases c : lastI l s ≤ a.seq
        · exact Or.inr ⟨a, by simp, e, by omega⟩
        · rw [show max (lastI l s) a.seq = lastI l s by omega]
          rcases ih l hl with h0 | ⟨x, hx, h1, h2⟩
          · exact Or.inl h0
          · exact Or.inr ⟨x, List.mem_append_left _ hx, h1, h2⟩
      · rw [if_neg e]
        rcases ih l hl with h0 | ⟨x, hx, h1, h2⟩
        · exact Or.inl h0
        · exact Or.inr ⟨x, List.mem_append_left _ hx, h1, h2⟩
  exact this ws.length ws rfl
theorem lastI_ge (ws : List DWrite) (s : Int) : ∀ x ∈ ws, x.session = s → x.seq ≤ lastI ws s := by
  have : ∀ (n : Nat) (ws : List DWrite), ws.length = n → ∀ x ∈ ws, x.session = s → x.seq ≤ lastI ws s := by
    intro n
    induction n with
    | zero => intro ws h; rw [List.eq_nil_of_length_eq_zero h]; intro x hx; simp at hx
    | succ n ih =>
      intro ws h
      obtain ⟨l, a, rfl⟩ : ∃ l a, ws = l ++ [a] := by
        have hne : ws ≠ [] := by intro e; rw [e] at h; simp at h
        exact ⟨ws.dropLast, ws.getLast hne, (List.dropLast_concat_getLast hne).symm⟩
      intro x hx hs
      rw [lastI_snoc]
      have hl : l.length = n := by simpa using h
      rcases List.mem_append.1 hx with hx | hx
      · have := ih l hl x hx hs
        split <;> omega
      · rw [List.mem_singleton.1 hx] at hs ⊢
        rw [if_pos hs]
        omega
  exact this ws.length ws rfl
theorem seen_mem {ws : List DWrite} {s q : Int} (h : seenI ws s q ≠ 0) : ∃ x ∈ ws, x.session = s ∧ x.seq = q := by
  by_cases hx : ∃ x ∈ ws, x.session = s ∧ x.seq = q
  · exact hx
  · exact absurd (seenI_none fun j hj he => hx ⟨_, List.getElem_mem hj, he⟩) h
theorem onceB_snoc : ∀ (ws pre : List DWrite) (x : DWrite), onceB pre (ws ++ [x]) = (onceB pre ws && decide (lastI (pre ++ ws) x.session < x.seq))
  | [], pre, x => by simp [onceB]
  | y :: ws, pre, x => by
    rw [List.cons_append, onceB, onceB, onceB_snoc ws (pre ++ [y]) x]
    simp [Bool.and_assoc]
theorem same_self (ws : List DWrite) : sameWs ws ws = true := by
  induction ws with
  | nil => rfl
  | cons x xs ih => simp [sameWs, sameW, ih]
theorem wsFrom_snoc (ws : List DWrite) (x : DWrite) (h : wsFrom ws = 0) (hx : wF x = 0) : wsFrom (ws ++ [x]) = 0 := by
  induction ws with
  | nil => simp [wsFrom, hx]
  | cons y ys ih =>
    have hy : wF y = 0 := wsFrom_zero h y (by simp)
    rw [wsFrom, if_pos hy] at h
    rw [List.cons_append, wsFrom, if_pos hy]
    exact ih h

structure Once (ws : List DWrite) (x : DWrite) (y : DOnceResult) : Prop where
  again : appR y.writes x = ⟨0, false, y.place, y.writes⟩
  seen : seenR y.writes x.session x.seq = ⟨0, y.place⟩
  last : ∃ n, lastR y.writes x.session = ⟨0, n⟩ ∧ x.seq ≤ n
  new1 : y.isNew = true → y.writes.length = ws.length + 1 ∧ y.place = y.writes.length
  new0 : y.isNew = false → y.writes.length = ws.length
  right : onceR y.writes = onceR ws
  of : ∃ l, ofR y.writes x.session = ⟨0, l⟩ ∧ 0 < l.length
  few : y.writes.length ≤ 200
theorem once_of {ys : List DWrite} {x : DWrite} (h : writesF ys = 0) (hf : wF x = 0) (hs : seenI ys x.session x.seq ≠ 0) :
    appR ys x = ⟨0, false, seenI ys x.session x.seq, ys⟩ ∧ seenR ys x.session x.seq = ⟨0, seenI ys x.session x.seq⟩ ∧ (∃ n, lastR ys x.session = ⟨0, n⟩ ∧ x.seq ≤ n) ∧ (∃ l, ofR ys x.session = ⟨0, l⟩ ∧ 0 < l.length) := by
  obtain ⟨b1, b9, q1, q9⟩ := wF_seq hf
  have ha : askedF ys x.session = 0 := asked_ok h ⟨b1, b9⟩
  obtain ⟨z, hz, e1, e2⟩ := seen_mem hs
  refine ⟨appR_seen h hf hs, ?_, ⟨lastI ys x.session, ?_, ?_⟩, ⟨ofL ys x.session, ?_, ?_⟩⟩
  · rw [seenR, if_pos ha, if_pos ⟨q1, q9⟩, if_neg hs]
  · rw [lastR, if_pos ha]
  · have := lastI_ge ys x.session z hz e1
    omega
  · rw [ofR, if_pos ha]
  · have hm : z ∈ ofL ys x.session := by simp [ofL, hz, e1]
    exact List.length_pos_of_mem hm
theorem once_ok {ws : List DWrite} {x : DWrite} (hc : (appR ws x).code = 0) : Once ws x (appR ws x) := by
  by_cases h : writesF ws = 0
  · by_cases hf : wF x = 0
    · by_cases hs : seenI ws x.session x.seq = 0
      · by_cases c : x.seq < lastI ws x.session
        · rw [appR_old h hf hs c] at hc; cases hc
        · by_cases c2 : 200 ≤ ws.length
          · rw [appR_full h hf hs c c2] at hc; cases hc
          · rw [appR_new h hf hs c c2]
            obtain ⟨b1, b9, q1, q9⟩ := wF_seq hf
            have h2 : writesF (ws ++ [x]) = 0 := by
              rw [writesF, if_neg (by simp; omega)]
              refine wsFrom_snoc ws x ?_ hf
              rw [writesF, if_neg (by omega)] at h
              exact h
            have e : seenI (ws ++ [x]) x.session x.seq = ws.length + 1 := by rw [seenI_snoc, if_pos hs, if_pos ⟨rfl, rfl⟩]
            obtain ⟨o1, o2, o3, o4⟩ := once_of h2 hf (by rw [e]; omega)
            rw [e] at o1 o2
            have hlt : lastI ws x.session < x.seq := by
              rcases lastI_mem ws x.session with h0 | ⟨z, hz, e1, e2⟩
              · omega
              · have : x.seq ≠ lastI ws x.session := fun e3 => seenI_zero hs z hz ⟨e1, by omega⟩
                omega
            refine ⟨by rw [o1]; simp, by rw [o2]; simp, o3, (fun _ => by simp), (fun e => by cases e), ?_, o4, by simp; omega⟩
            show onceR (ws ++ [x]) = onceR ws
            rw [onceR, onceR, onceB_snoc]
            simp [h, h2, hlt]
      · rw [appR_seen h hf hs]
        obtain ⟨o1, o2, o3, o4⟩ := once_of h hf hs
        exact ⟨o1, o2, o3, (fun e => by cases e), fun _ => rfl, rfl, o4, (writesF_zero h).1⟩
    · rw [appR_bad h hf] at hc
      exact absurd hc hf
  · rw [appR_wrong h] at hc
    exact absurd hc h

end Go.Proofs.YtkodenmpadehjaaDoor
