/-
  Texts of this proof in one: DrawB7, DrawProbes7, DrawKk, DrawSI7.
  Their conditions stand in their theorems.
-/
import Derived.Test.YtggnnbdjihihiaaGreatVq05
import Derived.Test.YtggnnbdjihihiaaGreatVq02

namespace Go.Proofs.YtggnnbdjihihiaaGreat
open Go.RowKit

/-- Some index of the draw's own; the source has gone on. -/
def BentIvf (b m : Nat) (cv : Value) (z : World) (e : Ending) (z' : World) : Prop :=
  ∃ (rc rl : Value) (x : DIvf) (m' : Nat), e = .returned (.agg #[rc, rl]) ∧ Lay.tIvf.LiesIn z' [rc, rl] x z.heap.size z'.heap.size ∧ SrcAt z' b cv m' ∧ m' ≤ m + 1000 ∧ IsCode b z' cv ∧ z.grownBy z' (some b)
theorem Box.grownB {lo b : Nat} {cs : Array Value} {T : TypeId} {W w' : World} {s : Nat} (h : Box lo cs T W s) (g : W.grownBy w' (some b)) (hne : s ≠ b) : Box lo cs T w' s := ⟨h.1, (g.block s h.lt (fun e => hne (Option.some.inj e))).trans h.2⟩
theorem ext_grown {w w' : World} {b : Nat} (g : w.grownBy w' (some b)) : Ext (fun c => c = b) w w' := ⟨g.os, g.tape, g.output, g.size, fun k hk hn => g.block k hk (fun e => hn (Option.some.inj e))⟩
theorem grown_ext {S : Nat → Prop} {z w w' : World} {b : Nat} (g : z.grownBy w (some b)) (e : Ext S w w') (hs : ∀ k, k < z.heap.size → ¬ S k) : z.grownBy w' (some b) :=
  ⟨e.os.trans g.os, e.tape.trans g.tape, e.output.trans g.output, Nat.le_trans g.size e.size, fun k hk hn => (e.block k (Nat.lt_of_lt_of_le hk g.size) (hs k hk)).trans (g.block k hk hn)⟩
theorem src_ext {S : Nat → Prop} {w w' : World} {b m : Nat} {cv : Value} (s : SrcAt w b cv m) (e : Ext S w w') (hs : ¬ S b) : SrcAt w' b cv m := (e.block b s.lt hs).trans s
theorem code_ext {S : Nat → Prop} {w w' : World} {b : Nat} {cv : Value} (c : IsCode b w cv) (e : Ext S w w') (hb : b ≤ w.heap.size) (hs : ∀ k, k < b → ¬ S k) : IsCode b w' cv := c.later (e.below hb (fun k hk => hs k hk))
theorem bent_end {b m m' : Nat} {cv : Value} {z wq : World} {x : DIvf} {vc vl : Value} (hb : b < z.heap.size) (hX : Lay.tIvf.LiesIn wq [vc, vl] x (z.heap.size + 1) wq.heap.size) (s : SrcAt wq b cv m') (hm : m' ≤ m + 1000) (c : IsCode b wq cv) (g : z.grownBy wq (some b)) :
    BentIvf b m cv z (.returned (.agg #[vc, vl])) ((wq.setCell ⟨z.heap.size, 0, none⟩ vc).setCell ⟨z.heap.size, 1, none⟩ vl) := by
  have hE : Ext (fun c => c = z.heap.size) wq ((wq.setCell ⟨z.heap.size, 0, none⟩ vc).setCell ⟨z.heap.size, 1, none⟩ vl) := ((Ext.refl (fun c => c = z.heap.size) _).setCell ⟨z.heap.size, 0, none⟩ _ rfl).setCell ⟨z.heap.size, 1, none⟩ _ rfl
  have hz := g.size
  have hsz := hE.size
  exact ⟨vc, vl, x, m', rfl, (hX.ext hE (fun k h1 h2 e => by omega)).mono (by omega) hsz, src_ext s hE (by omega), hm, code_ext c hE (by omega) (fun k hk e => by omega), grown_ext g hE (fun k hk e => by omega)⟩
theorem ivf_lies {w : World} {rc rl : Value} {cs : List DCenter} {ls : List DIvfList} {lo hi : Nat} (h1 : (Lay.sl Lay.tCenter).LiesIn w [rc] cs lo hi) (h2 : (Lay.sl Lay.tIvfList).LiesIn w [rl] ls lo hi) : Lay.tIvf.LiesIn w [rc, rl] ⟨cs, ls⟩ lo hi := by
  obtain ⟨bC, hC, hCb⟩ := h1
  obtain ⟨bL, hL, hLb⟩ := h2
  have hC' := hC
  have hL' := hL
  obtain ⟨ac, dc, eC, -⟩ := hC'
  obtain ⟨al, dl, eL, -⟩ := hL'
  obtain rfl : rc = .slice ac cs.length dc := by simpa using eC
  obtain rfl : rl = .slice al ls.length dl := by simpa using eL
  refine ⟨bC ++ bL, lies_Ivf.2 ⟨ac, dc, bC, al, dl, bL, rfl, rfl, hC, hL⟩, fun c hc => ?_⟩
  rcases List.mem_append.1 hc with hc | hc
  · exact hCb c hc
  · exact hLb c hc
theorem Fst.after {w w6 : World} {base gl capl : Nat} {rc : Value} {cs : List DCenter} {l0 : DIvfList} {lr : List DIvfList} {rowsC : List (List Value)} {blsC : List (List Nat)} {rowsL : List (List Value)} {blsL : List (List Nat)} {v0 : Value} {rows0 : List (List Value)} {bls0 : List (List Nat)} (h : Fst w base rc cs gl capl l0 lr rowsC blsC rowsL blsL v0 rows0 bls0) (e : Ext (fun q => v0.ownBlock = some q) w w6) :
    w6.cell? ⟨gl, 0, none⟩ = some v0 ∧ w6.frozen? ⟨gl, 0, none⟩ = false ∧ gl < w6.heap.size := by
  have hk := e.block gl h.glt.2 (fun q => (h.t1 gl q).2.1 rfl)
  have h1 := h.cell
  have h2 := h.soft 0
  refine ⟨?_, ?_, Nat.lt_of_lt_of_le h.glt.2 e.size⟩
  · rw [← h1]; simp [World.cell?, hk]
  · rw [← h2]; simp [World.frozen?, hk]

set_option maxRecDepth 10000 in
set_option maxHeartbeats 4000000 in
theorem drawB7 (b m : Nat) (cv : Value) (z : World) (hs : SrcAt z b cv m) (hc : IsCode b z cv) (hm : m ≤ 900000) :
    Calls Tryz.prog 82 #[.pointer (some ⟨b, 0, none⟩)] z (BentIvf b m cv z) := by
  have hbz := hs.lt
  have nz : Below z.heap.size z (z.alloc (.cells #[.slice none 0 0, .slice none 0 0] 27)) := (Below.refl _ _).alloc (Nat.le_refl _) _
  have bR : Box z.heap.size #[.slice none 0 0, .slice none 0 0] 27 (z.alloc (.cells #[.slice none 0 0, .slice none 0 0] 27)) z.heap.size := newBox (Nat.le_refl _)
  have L := drawR7 b m cv _ (hs.on nz) (hc.on (Nat.le_of_lt hbz) nz) hm
  have hwz : (z.alloc (.cells #[.slice none 0 0, .slice none 0 0] 27)).heap.size = z.heap.size + 1 := by simp
  have HL := hide L
  have HNZ := hide nz
  have HBR := hide bR
  clear nz bR L hs hc
  go_enter Tryz.func82, Tryz.ntmps82
  go_wp2_with fail
  generalize hwd : z.alloc (.cells #[.slice none 0 0, .slice none 0 0] 27) = w at *
  have HWZ := hide hwz
  clear hwd hwz
  refine (unhide HL).mono ?_
  rintro e w2 ⟨rc, rl, cs, xs, m2, rfl, hT, ⟨hc1, hc2, hx2⟩, s2, hm2, c2, g2⟩
  have hzw := unhide HWZ
  have hg2 := g2.size
  have bR2 : Box z.heap.size #[.slice none 0 0, .slice none 0 0] 27 w2 z.heap.size := (unhide HBR).grownB g2 (by omega)
  have hGZ2 : z.grownBy w2 (some b) := by
    have q1 := unhide HNZ
    exact ⟨g2.os.trans q1.os, g2.tape.trans q1.tape, g2.output.trans q1.output, by omega, fun i hi hn => (g2.block i (by omega) hn).trans (q1.block i hi)⟩
  obtain ⟨a8, c8, rfl⟩ : ∃ a c, rc = .slice a cs.length c := by
    obtain ⟨_, _, _, _, gC, -⟩ := hT
    rcases gC.form with ⟨rfl, rfl⟩ | ⟨g, cap, rfl, -⟩
    · exact ⟨none, 0, rfl⟩
    · exact ⟨_, cap, rfl⟩
  obtain ⟨a9, c9, rfl⟩ : ∃ a c, rl = .slice a (buildI cs xs).lists.length c := by
    obtain ⟨_, _, _, _, -, gL, -⟩ := hT
    rcases gL.form with ⟨rfl, e⟩ | ⟨g, cap, rfl, -⟩
    · rw [e]; exact ⟨none, 0, rfl⟩
    · exact ⟨_, cap, rfl⟩
  have hll : (buildI cs xs).lists.length = cs.length := by simp [buildI]
  have hil : ∀ l ∈ (buildI cs xs).lists, l.items.length ≤ xs.length := fun l hl => by
    obtain ⟨k, -, rfl⟩ := List.mem_map.1 (show l ∈ (List.range cs.length).map fun k => (⟨mineI cs xs k⟩ : DIvfList) from hl)
    exact mineI_len cs xs k
  generalize hls : (buildI cs xs).lists = ls at *
  clear hls
  have bX : Box w2.heap.size #[.slice none 0 0, .slice none 0 0] 27 (w2.alloc (.cells #[.slice none 0 0, .slice none 0 0] 27)) w2.heap.size := newBox (Nat.le_refl _)
  have z0 : (w2.alloc (.cells #[.slice none 0 0, .slice none 0 0] 27)).cell? ⟨w2.heap.size, 0, none⟩ = some (.slice none 0 0) := bX.at 0 _ rfl
  have z1 : (w2.alloc (.cells #[.slice none 0 0, .slice none 0 0] 27)).cell? ⟨w2.heap.size, 1, none⟩ = some (.slice none 0 0) := bX.at 1 _ rfl
  have f0 := bX.soft 0
  have f1 := bX.soft 1
  have l0 := bX.lt
  have n2 : Below w2.heap.size w2 (w2.alloc (.cells #[.slice a8 cs.length c8, .slice a9 ls.length c9] 27)) := (Below.refl _ _).alloc (Nat.le_refl _) _
  have hX2 : Box w2.heap.size #[.slice a8 cs.length c8, .slice a9 ls.length c9] 27 (w2.alloc (.cells #[.slice a8 cs.length c8, .slice a9 ls.length c9] 27)) w2.heap.size := newBox (Nat.le_refl _)
  have L2 := hide (next b m2 cv 14 _ (s2.on n2) (c2.on (by omega) n2) (by omega) (by omega) (by omega))
  have HLL := hide hll
  have HIL := hide hil
  have HT := hide hT
  have HGZ := hide hGZ2
  have HR2 := hide bR2
  have HZW := hide hzw
  have HX2 := hide hX2
  have HN2 := hide n2
  clear hT s2 c2 g2 bR2 hzw HL HWZ HBR bX hll hil hGZ2 hX2 n2
  go_wp2_with fail
  refine (unhide L2).mono ?_
  rintro e w3 ⟨q, rfl, hq, s3, c3, g3⟩
  have hzw := unhide HZW
  have hX3 := (unhide HX2).grownB g3 (by omega)
  have hR3 := ((unhide HR2).keep (unhide HN2)).grownB g3 (by omega)
  have hG3 : z.grownBy w3 (some b) := grown_trans (grown_ext (unhide HGZ) (ext_of_below (unhide HN2) nowhere) (fun _ _ h => h)) g3
  have e23 : Ext (fun c => c = b) w2 w3 := (ext_of_below (unhide HN2) _).trans (ext_grown g3)
  have h23 : w2.heap.size < w3.heap.size := hX3.lt
  have HT3 := hide ((unhide HT).ext e23 (fun c h1 h2 => by omega))
  clear z0 z1 f0 f1 l0 L2 HX2 HN2 HGZ g3
  have HX3 := hide hX3
  have HR3 := hide hR3
  have HG3 := hide hG3
  have HS3 := hide s3
  have HC3 := hide c3
  have HE := hide e23
  clear hX3 hR3 hG3 s3 c3 e23 HR2 hzw
  rcases (show q = 0 ∨ q = 1 ∨ q = 2 ∨ 3 ≤ q by omega) with rfl | rfl | rfl | h3
  · have L := hide (drawCen b (m2 + 1) cv w3 (unhide HS3) (unhide HC3) (by omega))
    go_wp2_with fail
    refine (unhide L).mono ?_
    rintro e w4 ⟨v, rowsN, csN, blsN, m4, rfl, gN, sN, hnN, s4, hm4, c4, g4⟩
    obtain ⟨aN, cN, rfl⟩ : ∃ a c, v = .slice a csN.length c := by
      rcases gN.form with ⟨rfl, rfl⟩ | ⟨g, cap, rfl, -⟩
      · exact ⟨none, 0, rfl⟩
      · exact ⟨_, cap, rfl⟩
    have hzw := unhide HZW
    have hll := unhide HLL
    have hX4 := (unhide HX3).grownB g4 (by omega)
    have e4 : Ext (fun c => c = w2.heap.size) w4 (w4.setCell ⟨w2.heap.size, 0, none⟩ (.slice aN csN.length cN)) := (Ext.refl (fun c => c = w2.heap.size) w4).setCell ⟨w2.heap.size, 0, none⟩ _ rfl
    have hz4 := g4.size
    have hLst : (Lay.sl Lay.tIvfList).LiesIn w2 [.slice a9 ls.length c9] ls w.heap.size w2.heap.size := by
      obtain ⟨_, _, _, _, -, gL, -, sL, -⟩ := unhide HT
      exact gL.toLies (by omega) sL
    have hL7 := ((hLst.ext (unhide HE) (fun k h1 h2 e => by omega)).ext (ext_grown g4) (fun k h1 h2 e => by omega)).ext e4 (fun k h1 h2 e => by omega)
    have hC7 := (gN.toLies (by omega) sN).ext e4 (fun k h1 h2 e => by omega)
    have HP : Hid (Lay.tIvf.LiesIn (w4.setCell ⟨w2.heap.size, 0, none⟩ (.slice aN csN.length cN)) [.slice aN csN.length cN, .slice a9 ls.length c9] ⟨csN, ls⟩ (z.heap.size + 1) (w4.setCell ⟨w2.heap.size, 0, none⟩ (.slice aN csN.length cN)).heap.size) := ivf_lies (hC7.mono (by omega) e4.size) (hL7.mono (by omega) (by have := e4.size; omega))
    have y0 : w4.cell? ⟨w2.heap.size, 0, none⟩ = some (.slice a8 cs.length c8) := hX4.at 0 _ rfl
    have g0 := hX4.soft 0
    have k0 := hX4.lt
    have hXq : Box w2.heap.size #[.slice aN csN.length cN, .slice a9 ls.length c9] 27 (w4.setCell ⟨w2.heap.size, 0, none⟩ (.slice aN csN.length cN)) w2.heap.size := hX4.set 0 _
    have hRq := ((unhide HR3).grownB g4 (by omega)).ext e4 (by omega)
    have hSq := src_ext s4 e4 (by omega)
    have hCq := code_ext c4 e4 (by omega) (fun k hk e => by omega)
    have hGq := grown_ext (grown_trans (unhide HG3) g4) e4 (fun k hk e => by omega)
    clear HX3 HR3 HS3 HC3 HG3 HT3 HT HE hzw L hX4 hLst hL7 hC7 gN sN s4 c4 g4 e4 hll
    have x0 : (w4.setCell ⟨w2.heap.size, 0, none⟩ (.slice aN csN.length cN)).cell? ⟨w2.heap.size, 0, none⟩ = some (.slice aN csN.length cN) := hXq.at 0 _ rfl
    have x1 : (w4.setCell ⟨w2.heap.size, 0, none⟩ (.slice aN csN.length cN)).cell? ⟨w2.heap.size, 1, none⟩ = some (.slice a9 ls.length c9) := hXq.at 1 _ rfl
    have z0 : (w4.setCell ⟨w2.heap.size, 0, none⟩ (.slice aN csN.length cN)).cell? ⟨z.heap.size, 0, none⟩ = some (.slice none 0 0) := hRq.at 0 _ rfl
    have z1 : (w4.setCell ⟨w2.heap.size, 0, none⟩ (.slice aN csN.length cN)).cell? ⟨z.heap.size, 1, none⟩ = some (.slice none 0 0) := hRq.at 1 _ rfl
    have f0 := hRq.soft 0
    have f1 := hRq.soft 1
    have l0 := hRq.lt
    have HSq := hide hSq
    have HCq := hide hCq
    have HGq := hide hGq
    clear hSq hCq hGq hXq hRq
    go_wp2_with fail
    refine bodyPost_ret (v := .agg #[.slice aN csN.length cN, .slice a9 ls.length c9]) (by simp [results, Tryz.results82, go_sem, z0, z1]) rfl ?_
    refine bent_end hbz (unhide HP) (unhide HSq) (by omega) (unhide HCq) (unhide HGq)
  · obtain ⟨l0, lr, rfl⟩ : ∃ l0 lr, ls = l0 :: lr := by
      have := unhide HLL
      cases ls with
      | nil => simp at this; omega
      | cons l0 lr => exact ⟨l0, lr, rfl⟩
    have hll : lr.length ≤ 3 := by
      have h9 : lr.length + 1 = cs.length := by simpa using unhide HLL
      omega
    have hil : l0.items.length ≤ 11 := by have := unhide HIL l0 (by simp); omega
    obtain ⟨gl, rowsC, blsC, rowsL, blsL, v0, rows0, bls0, rfl, -, hF2⟩ := (unhide HT).fst
    obtain ⟨a0, c0, rfl⟩ : ∃ a c, v0 = .slice a l0.items.length c := by
      rcases hF2.g0.form with ⟨rfl, e⟩ | ⟨g, cap, rfl, -⟩
      · rw [e]; exact ⟨none, 0, rfl⟩
      · exact ⟨_, cap, rfl⟩
    have hzw := unhide HZW
    have hv0 : ∀ c, (Value.slice a0 l0.items.length c0).ownBlock = some c → c < w2.heap.size := fun c hc => (hF2.g0.own.lt c hc).2
    have hgl := hF2.glt
    have hFD : Fst w3.drew w.heap.size (.slice a8 cs.length c8) cs gl c9 l0 lr rowsC blsC rowsL blsL (.slice a0 l0.items.length c0) rows0 bls0 := (hF2.ext (unhide HE) (fun c h1 h2 => by omega)).later (Below.refl _ _).drew
    have hXD : Box w2.heap.size #[.slice a8 cs.length c8, .slice (some ⟨gl, 0, none⟩) (lr.length + 1) c9] 27 w3.drew w2.heap.size := unhide HX3
    have hRD : Box z.heap.size #[.slice none 0 0, .slice none 0 0] 27 w3.drew z.heap.size := unhide HR3
    have hSD : SrcAt w3.drew b cv (m2 + 1) := unhide HS3
    have hCD : IsCode b w3.drew cv := (unhide HC3).on (by omega) (Below.refl _ _).drew
    have hGD : z.grownBy w3.drew (some b) := grown_on (unhide HG3) (Below.refl _ _).drew
    have h23D : w2.heap.size < w3.drew.heap.size := h23
    clear HX3 HR3 HS3 HC3 HG3 HT3 HT HE hF2 HLL HIL
    go_wp2_with fail
    refine wp_region_noPanic ?_
    refine wp_region_held_drew (S := fun w' => Box w2.heap.size #[.slice a8 cs.length c8, .slice (some ⟨gl, 0, none⟩) (lr.length + 1) c9] 27 w' w2.heap.size) (by kernel_rfl) hXD (fun hHeld => ?_)
    generalize w3.drew = wD at hHeld hFD hRD hSD hCD hGD h23D ⊢
    refine wpAnyH_take (i := 0) (oi := { dst := some 15, op := Go.Op.fieldAddr 27 (Go.Operand.tmp 3) 1, type := 0, pos := "l07_ivf.go:181", after := #[], guard := none }) (v := ?vb0_1) rfl (by kernel_rfl) (by kernel_rfl) (by kernel_rfl) (fun _ _ _ h => h) (Or.inl ⟨by rfl, ?hb0_1⟩) hHeld ?rb0_1
    case hb0_1 =>
      intro wS hSw
      (try dsimp only at hSw)
      go_simp
      try with_reducible rfl
    case rb0_1 =>
    simp only [Act.put, List.setIfInBounds_toArray, List.set_cons_zero, List.set_cons_succ]
    refine wpAnyH_take (i := 1) (oi := { dst := some 16, op := Go.Op.load 25 (Go.Operand.tmp 15), type := 25, pos := "l07_ivf.go:181", after := #[{ on := 0, ground := Go.Ground.data }], guard := none }) (v := ?vb1_2) rfl (by kernel_rfl) (by kernel_rfl) (by kernel_rfl) (fun _ _ _ h => h) (Or.inl ⟨by rfl, ?hb1_2⟩) hHeld ?rb1_2
    case hb1_2 =>
      intro wS hSw
      have y1 := hSw.at 1 _ rfl
      (try dsimp only at hSw)
      go_simp
      try with_reducible rfl
    case rb1_2 =>
    simp only [Act.put, List.setIfInBounds_toArray, List.set_cons_zero, List.set_cons_succ]
    refine wpAnyH_take (i := 2) (oi := { dst := some 17, op := Go.Op.fieldAddr 27 (Go.Operand.tmp 3) 1, type := 0, pos := "l07_ivf.go:181", after := #[], guard := none }) (v := ?vb2_3) rfl (by kernel_rfl) (by kernel_rfl) (by kernel_rfl) (fun _ _ _ h => h) (Or.inl ⟨by rfl, ?hb2_3⟩) hHeld ?rb2_3
    case hb2_3 =>
      intro wS hSw
      (try dsimp only at hSw)
      go_simp
      try with_reducible rfl
    case rb2_3 =>
    simp only [Act.put, List.setIfInBounds_toArray, List.set_cons_zero, List.set_cons_succ]
    refine wpAnyH_take (i := 3) (oi := { dst := some 18, op := Go.Op.load 25 (Go.Operand.tmp 17), type := 25, pos := "l07_ivf.go:181", after := #[{ on := 2, ground := Go.Ground.data }], guard := none }) (v := ?vb3_4) rfl (by kernel_rfl) (by kernel_rfl) (by kernel_rfl) (fun _ _ _ h => h) (Or.inl ⟨by rfl, ?hb3_4⟩) hHeld ?rb3_4
    case hb3_4 =>
      intro wS hSw
      have y1 := hSw.at 1 _ rfl
      (try dsimp only at hSw)
      go_simp
      try with_reducible rfl
    case rb3_4 =>
    simp only [Act.put, List.setIfInBounds_toArray, List.set_cons_zero, List.set_cons_succ]
    refine wpAnyH_take (i := 4) (oi := { dst := some 19, op := Go.Op.indexAddr 25 (Go.Operand.tmp 18) (Go.Operand.const (Go.Value.int Go.IntKind.i64 0)), type := 0, pos := "l07_ivf.go:181", after := #[{ on := 3, ground := Go.Ground.data }], guard := none }) (v := ?vb4_5) rfl (by kernel_rfl) (by kernel_rfl) (by kernel_rfl) (fun _ _ _ h => h) (Or.inl ⟨by rfl, ?hb4_5⟩) hHeld ?rb4_5
    case hb4_5 =>
      intro wS hSw
      have y1 : (0 : Int) < ((lr.length + 1 : Nat) : Int) := by omega
      (try dsimp only at hSw)
      go_simp
      try with_reducible rfl
    case rb4_5 =>
    simp only [Act.put, List.setIfInBounds_toArray, List.set_cons_zero, List.set_cons_succ]
    refine wpAnyH_take (i := 5) (oi := { dst := some 20, op := Go.Op.fieldAddr 91 (Go.Operand.tmp 19) 0, type := 0, pos := "l07_ivf.go:181", after := #[{ on := 4, ground := Go.Ground.data }], guard := none }) (v := ?vb5_6) rfl (by kernel_rfl) (by kernel_rfl) (by kernel_rfl) (fun _ _ _ h => h) (Or.inl ⟨by rfl, ?hb5_6⟩) hHeld ?rb5_6
    case hb5_6 =>
      intro wS hSw
      (try dsimp only at hSw)
      go_simp
      try with_reducible rfl
    case rb5_6 =>
    simp only [Act.put, List.setIfInBounds_toArray, List.set_cons_zero, List.set_cons_succ]
    refine wpAnyH_take (i := 7) (oi := { dst := some 22, op := Go.Op.move (Go.Operand.tmp 0), type := 76, pos := "l07_ivf.go:181", after := #[], guard := none }) (v := ?vb7_7) rfl (by kernel_rfl) (by kernel_rfl) (by kernel_rfl) (fun _ _ _ h => h) (Or.inl ⟨by rfl, ?hb7_7⟩) hHeld ?rb7_7
    case hb7_7 =>
      intro wS hSw
      (try dsimp only at hSw)
      go_simp
      try with_reducible rfl
    case rb7_7 =>
    simp only [Act.put, List.setIfInBounds_toArray, List.set_cons_zero, List.set_cons_succ]
    refine wpAnyH_take (i := 10) (oi := { dst := some 25, op := Go.Op.move (Go.Operand.tmp 0), type := 76, pos := "l07_ivf.go:181", after := #[], guard := none }) (v := ?vb10_8) rfl (by kernel_rfl) (by kernel_rfl) (by kernel_rfl) (fun _ _ _ h => h) (Or.inl ⟨by rfl, ?hb10_8⟩) hHeld ?rb10_8
    case hb10_8 =>
      intro wS hSw
      (try dsimp only at hSw)
      go_simp
      try with_reducible rfl
    case rb10_8 =>
    simp only [Act.put, List.setIfInBounds_toArray, List.set_cons_zero, List.set_cons_succ]
    refine wpAnyH_ready (rs := [6, 8]) (by kernel_rfl) (by simp) ?_
    refine AllReadyH.cons (o := { dst := some 21, op := Go.Op.load 35 (Go.Operand.tmp 20), type := 35, pos := "l07_ivf.go:181", after := #[{ on := 5, ground := Go.Ground.data }], guard := none }) rfl (fun K hK => ?ob6_9) (AllReadyH.cons (o := { dst := some 23, op := Go.Op.buildSlice 28 3 #[(0, Go.Operand.const (Go.Value.int Go.IntKind.i64 0)), (1, Go.Operand.const (Go.Value.int Go.IntKind.i64 5)), (2, Go.Operand.const (Go.Value.int Go.IntKind.i64 999))], type := 28, pos := "l07_ivf.go:181", after := #[], guard := none }) rfl (fun K hK => ?ob8_9) (AllReadyH.nil))
    case ob6_9 =>
      have y6 : (wD).cell? ⟨gl, 0, none⟩ = some (.slice a0 l0.items.length c0) := hFD.cell
      go_simp
      refine hK.out _ _ hHeld (fun hHeld => ?_)
      clear hK K
      try simp only [Act.put, List.setIfInBounds_toArray, List.set_cons_zero, List.set_cons_succ]
      refine wpAnyH_ready (rs := [8]) (by kernel_rfl) (by simp) ?_
      refine AllReadyH.cons (o := { dst := some 23, op := Go.Op.buildSlice 28 3 #[(0, Go.Operand.const (Go.Value.int Go.IntKind.i64 0)), (1, Go.Operand.const (Go.Value.int Go.IntKind.i64 5)), (2, Go.Operand.const (Go.Value.int Go.IntKind.i64 999))], type := 28, pos := "l07_ivf.go:181", after := #[], guard := none }) rfl (fun K hK => ?_) AllReadyH.nil
      go_simp
      refine hK.out _ _ (hHeld.grow _) (fun hHeld => ?_)
      clear hK K
      try simp only [Act.put, List.setIfInBounds_toArray, List.set_cons_zero, List.set_cons_succ]
      refine wpAnyH_ready (rs := [9]) (by kernel_rfl) (by simp) ?_
      refine AllReadyH.cons (o := { dst := some 24, op := Go.Op.call { callee := Go.Callee.value (Go.Operand.func 84), args := #[Go.Operand.tmp 22, Go.Operand.tmp 23], argTypes := #[76, 28] }, type := 2, pos := "l07_ivf.go:181", after := #[{ on := 7, ground := Go.Ground.data }, { on := 8, ground := Go.Ground.data }], guard := none }) rfl (fun K hK => ?_) AllReadyH.nil
      have nb8 : Below wD.heap.size wD (wD.alloc (.cells #[.int .i64 0, .int .i64 5, .int .i64 999] 2)) := (Below.refl _ _).alloc (Nat.le_refl _) _
      have L9 := hide (pick b (m2 + 1) wD.heap.size cv [0, 5, 999] _ (hSD.on nb8) (hCD.on (by omega) nb8) (by omega) (by simp) (by simp) (heap_alloc_new wD _) (by omega))
      go_simp
      go_at_call 84
      refine (unhide L9).mono ?_
      rintro e w4 ⟨p, rfl, hp, s4, c4, g4⟩
      have hF4 := (hFD.later nb8).grown g4 (by omega)
      have hE4 : Ext (fun c => c = b) wD w4 := (ext_of_below nb8 _).trans (ext_grown g4)
      have hz4 := hE4.size
      try go_wp2_with fail
      refine hK.out _ _ (hHeld.grownB g4 (by omega)) (fun hHeld => ?_)
      clear hK K
      try simp only [Act.put, List.setIfInBounds_toArray, List.set_cons_zero, List.set_cons_succ]
      refine wpAnyH_ready (rs := [11]) (by kernel_rfl) (by simp) ?_
      refine AllReadyH.cons (o := { dst := some 26, op := Go.Op.call { callee := Go.Callee.value (Go.Operand.func 83), args := #[Go.Operand.tmp 25], argTypes := #[76] }, type := 28, pos := "l07_ivf.go:181", after := #[{ on := 10, ground := Go.Ground.data }, { on := 9, ground := Go.Ground.chain }], guard := none }) rfl (fun K hK => ?_) AllReadyH.nil
      have L11 := hide (bent b (m2 + 1 + 1) cv w4 s4 c4 (by omega))
      go_simp
      go_at_call 83
      refine (unhide L11).mono ?_
      rintro e w5 ⟨v3, zs, m5, rfl, hzs, hNI, hm5, s5, c5, g5⟩
      obtain ⟨bz, hlz, hbz5⟩ := hNI.lies (by omega)
      obtain ⟨a3, d3, rfl⟩ := open_sl ⟨bz, hlz⟩
      have hF5 := hF4.grown g5 (by omega)
      have hz5 := g5.size
      try go_wp2_with fail
      refine hK.out _ _ (hHeld.grownB g5 (by omega)) (fun hHeld => ?_)
      clear hK K
      try simp only [Act.put, List.setIfInBounds_toArray, List.set_cons_zero, List.set_cons_succ]
      refine wpAnyH_take (i := 12) (oi := { dst := some 27, op := Go.Op.build 139 #[(0, Go.Operand.tmp 24), (1, Go.Operand.tmp 26)], type := 139, pos := "l07_ivf.go:181", after := #[{ on := 9, ground := Go.Ground.data }, { on := 11, ground := Go.Ground.data }], guard := none }) (v := ?vb12_10) rfl (by kernel_rfl) (by kernel_rfl) (by kernel_rfl) (fun _ _ _ h => h) (Or.inl ⟨by rfl, ?hb12_10⟩) hHeld ?rb12_10
      case hb12_10 =>
        intro wS hSw
        (try dsimp only at hSw)
        go_simp
        try with_reducible rfl
      case rb12_10 =>
      simp only [Act.put, List.setIfInBounds_toArray, List.set_cons_zero, List.set_cons_succ]
      refine wpAnyH_ready (rs := [13]) (by kernel_rfl) (by simp) ?_
      refine AllReadyH.cons (o := { dst := some 28, op := Go.Op.buildSlice 35 1 #[(0, Go.Operand.tmp 27)], type := 35, pos := "l07_ivf.go:181", after := #[{ on := 12, ground := Go.Ground.data }], guard := none }) rfl (fun K hK => ?_) AllReadyH.nil
      have hX5 := hHeld
      go_simp
      refine hK.out _ _ (hHeld.grow _) (fun hHeld => ?_)
      clear hK K
      try simp only [Act.put, List.setIfInBounds_toArray, List.set_cons_zero, List.set_cons_succ]
      refine wpAnyH_ready (rs := [14]) (by kernel_rfl) (by simp) ?_
      refine AllReadyH.cons (o := { dst := some 29, op := Go.Op.call { callee := Go.Callee.builtin Go.Builtin.append, args := #[Go.Operand.tmp 21, Go.Operand.tmp 28], argTypes := #[35, 35] }, type := 35, pos := "l07_ivf.go:181", after := #[{ on := 6, ground := Go.Ground.data }, { on := 13, ground := Go.Ground.data }, { on := 11, ground := Go.Ground.chain }], guard := none }) rfl (fun K hK => ?_) AllReadyH.nil
      have hpb : 0 ≤ p ∧ p ≤ 1000 := by
        simp only [List.mem_cons, List.not_mem_nil, or_false] at hp
        omega
      have hl5 : Lay.tItem.lies w5 [.int .i64 p, .slice a3 zs.length d3] ⟨p, zs⟩ bz := lies_Item.2 ⟨a3, d3, bz, rfl, rfl, (show (Lit.int .i64 p).wf = true from wf_of_bd (by omega)), hlz⟩
      refine step_append_Item hF5.g0 (row := [.int .i64 p, .slice a3 zs.length d3]) (x := ⟨p, zs⟩) (bl := bz) hl5 (fun c hc e => by have h1 := hbz5 c hc; have h2 := hv0 c e; omega) rfl _ _ rfl rfl rfl (by omega) (by omega) ?_
      rintro g6 cp6 w6 hG6 hb6 hE6 hl6 hz6 hor6
      refine hK.out _ _ (hX5.ext hE6 (fun e => by have := hv0 _ e; omega)) (fun hHeld => ?_)
      clear hK K
      try simp only [Act.put, List.setIfInBounds_toArray, List.set_cons_zero, List.set_cons_succ]
      refine wpAnyH_take (i := 15) (oi := { dst := some 30, op := Go.Op.indexAddr 25 (Go.Operand.tmp 16) (Go.Operand.const (Go.Value.int Go.IntKind.i64 0)), type := 0, pos := "l07_ivf.go:181", after := #[{ on := 1, ground := Go.Ground.data }, { on := 0, ground := Go.Ground.phase }, { on := 1, ground := Go.Ground.phase }, { on := 2, ground := Go.Ground.phase }, { on := 3, ground := Go.Ground.phase }, { on := 4, ground := Go.Ground.phase }, { on := 5, ground := Go.Ground.phase }, { on := 6, ground := Go.Ground.phase }, { on := 7, ground := Go.Ground.phase }, { on := 8, ground := Go.Ground.phase }, { on := 9, ground := Go.Ground.phase }, { on := 10, ground := Go.Ground.phase }, { on := 11, ground := Go.Ground.phase }, { on := 12, ground := Go.Ground.phase }, { on := 13, ground := Go.Ground.phase }, { on := 14, ground := Go.Ground.phase }], guard := none }) (v := ?vb15_11) rfl (by kernel_rfl) (by kernel_rfl) (by kernel_rfl) (fun _ _ _ h => h) (Or.inl ⟨by rfl, ?hb15_11⟩) hHeld ?rb15_11
      case hb15_11 =>
        intro wS hSw
        have y1 : (0 : Int) < ((lr.length + 1 : Nat) : Int) := by omega
        (try dsimp only at hSw)
        go_simp
        try with_reducible rfl
      case rb15_11 =>
      simp only [Act.put, List.setIfInBounds_toArray, List.set_cons_zero, List.set_cons_succ]
      refine wpAnyH_take (i := 16) (oi := { dst := some 31, op := Go.Op.fieldAddr 91 (Go.Operand.tmp 30) 0, type := 0, pos := "l07_ivf.go:181", after := #[{ on := 15, ground := Go.Ground.data }, { on := 0, ground := Go.Ground.phase }, { on := 1, ground := Go.Ground.phase }, { on := 2, ground := Go.Ground.phase }, { on := 3, ground := Go.Ground.phase }, { on := 4, ground := Go.Ground.phase }, { on := 5, ground := Go.Ground.phase }, { on := 6, ground := Go.Ground.phase }, { on := 7, ground := Go.Ground.phase }, { on := 8, ground := Go.Ground.phase }, { on := 9, ground := Go.Ground.phase }, { on := 10, ground := Go.Ground.phase }, { on := 11, ground := Go.Ground.phase }, { on := 12, ground := Go.Ground.phase }, { on := 13, ground := Go.Ground.phase }, { on := 14, ground := Go.Ground.phase }], guard := none }) (v := ?vb16_12) rfl (by kernel_rfl) (by kernel_rfl) (by kernel_rfl) (fun _ _ _ h => h) (Or.inl ⟨by rfl, ?hb16_12⟩) hHeld ?rb16_12
      case hb16_12 =>
        intro wS hSw
        (try dsimp only at hSw)
        go_simp
        try with_reducible rfl
      case rb16_12 =>
      simp only [Act.put, List.setIfInBounds_toArray, List.set_cons_zero, List.set_cons_succ]
      refine wpAnyH_ready (rs := [17]) (by kernel_rfl) (by simp) ?_
      refine AllReadyH.cons (o := { dst := none, op := Go.Op.store 35 (Go.Operand.tmp 31) (Go.Operand.tmp 29), type := 0, pos := "l07_ivf.go:181", after := #[{ on := 16, ground := Go.Ground.data }, { on := 14, ground := Go.Ground.data }, { on := 14, ground := Go.Ground.chain }, { on := 0, ground := Go.Ground.phase }, { on := 1, ground := Go.Ground.phase }, { on := 2, ground := Go.Ground.phase }, { on := 3, ground := Go.Ground.phase }, { on := 4, ground := Go.Ground.phase }, { on := 5, ground := Go.Ground.phase }, { on := 6, ground := Go.Ground.phase }, { on := 7, ground := Go.Ground.phase }, { on := 8, ground := Go.Ground.phase }, { on := 9, ground := Go.Ground.phase }, { on := 10, ground := Go.Ground.phase }, { on := 11, ground := Go.Ground.phase }, { on := 12, ground := Go.Ground.phase }, { on := 13, ground := Go.Ground.phase }, { on := 14, ground := Go.Ground.phase }], guard := none }) rfl (fun K hK => ?_) AllReadyH.nil
      obtain ⟨y7, f7, k7⟩ := hF5.after hE6
      go_simp
      refine hK.out _ _ (hHeld.other _ _ (by show w2.heap.size ≠ gl; omega)) (fun hHeld => ?_)
      clear hK K
      try simp only [Act.put, List.setIfInBounds_toArray, List.set_cons_zero, List.set_cons_succ]
      refine wpAnyH_done (by kernel_rfl) ?_ _
      refine NoPanic.normal ?_
      have HP := hide ((hF5.put hE6 hG6 hor6 (fun c hc => by have h1 := hbz5 c hc; exact ⟨by omega, by omega⟩) (by omega) (by omega) (by omega)).mono (show z.heap.size + 1 ≤ w.heap.size by omega) (Nat.le_refl _))
      have e7 : Ext (fun c => c = gl) w6 (w6.setCell ⟨gl, 0, none⟩ (.slice (some ⟨g6, 0, none⟩) (l0.items.length + 1) cp6)) := (Ext.refl (fun c => c = gl) w6).setCell ⟨gl, 0, none⟩ _ rfl
      have e57 : Ext (fun c => (Value.slice a0 l0.items.length c0).ownBlock = some c ∨ c = gl) w5 (w6.setCell ⟨gl, 0, none⟩ (.slice (some ⟨g6, 0, none⟩) (l0.items.length + 1) cp6)) := (hE6.mono (fun c _ h => Or.inl h)).trans (e7.mono (fun c _ h => Or.inr h))
      have hv1 : ∀ c, c < w.heap.size → ¬ ((Value.slice a0 l0.items.length c0).ownBlock = some c ∨ c = gl) := fun c hc h => by
        rcases h with h | h
        · have := (hF5.g0.own.lt c h).1; omega
        · have := hF5.glt.1; omega
      have hXq : Box w2.heap.size #[.slice a8 cs.length c8, .slice (some ⟨gl, 0, none⟩) (lr.length + 1) c9] 27 (w6.setCell ⟨gl, 0, none⟩ (.slice (some ⟨g6, 0, none⟩) (l0.items.length + 1) cp6)) w2.heap.size := hHeld
      have hRq := ((hRD.ext hE4 (by omega)).grownB g5 (by omega)).ext e57 (hv1 _ (by omega))
      have hSq := src_ext s5 e57 (hv1 _ (by omega))
      have hCq := code_ext c5 e57 (by omega) (fun k hk => hv1 k (by omega))
      have hGq := grown_ext (grown_trans (grown_ext hGD (ext_of_below nb8 nowhere) (fun _ _ h => h)) (grown_trans g4 g5)) e57 (fun k hk => hv1 k (by omega))
      clear hF5 hF4 hFD hE6 hG6 hor6 e7 e57 hv1 hRD hSD hCD hGD s4 c4 g4 s5 c5 g5 hE4 hHeld hX5 hNI hlz hbz5 hl5 hb6 L9 L11 nb8
      have x0 : (w6.setCell ⟨gl, 0, none⟩ (.slice (some ⟨g6, 0, none⟩) (l0.items.length + 1) cp6)).cell? ⟨w2.heap.size, 0, none⟩ = some (.slice a8 cs.length c8) := hXq.at 0 _ rfl
      have x1 : (w6.setCell ⟨gl, 0, none⟩ (.slice (some ⟨g6, 0, none⟩) (l0.items.length + 1) cp6)).cell? ⟨w2.heap.size, 1, none⟩ = some (.slice (some ⟨gl, 0, none⟩) (lr.length + 1) c9) := hXq.at 1 _ rfl
      have z0 : (w6.setCell ⟨gl, 0, none⟩ (.slice (some ⟨g6, 0, none⟩) (l0.items.length + 1) cp6)).cell? ⟨z.heap.size, 0, none⟩ = some (.slice none 0 0) := hRq.at 0 _ rfl
      have z1 : (w6.setCell ⟨gl, 0, none⟩ (.slice (some ⟨g6, 0, none⟩) (l0.items.length + 1) cp6)).cell? ⟨z.heap.size, 1, none⟩ = some (.slice none 0 0) := hRq.at 1 _ rfl
      have f0 := hRq.soft 0
      have f1 := hRq.soft 1
      have l0 := hRq.lt
      have HSq := hide hSq
      have HCq := hide hCq
      have HGq := hide hGq
      clear hSq hCq hGq hXq hRq
      go_wp2_with fail
      refine bodyPost_ret (v := .agg #[.slice a8 cs.length c8, .slice (some ⟨gl, 0, none⟩) (lr.length + 1) c9]) (by simp [results, Tryz.results82, go_sem, z0, z1]) rfl ?_
      refine bent_end hbz (unhide HP) (unhide HSq) (by omega) (unhide HCq) (unhide HGq)
    case ob8_9 =>
      go_simp
      refine hK.out _ _ (hHeld.grow _) (fun hHeld => ?_)
      clear hK K
      try simp only [Act.put, List.setIfInBounds_toArray, List.set_cons_zero, List.set_cons_succ]
      refine wpAnyH_ready (rs := [6, 9]) (by kernel_rfl) (by simp) ?_
      refine AllReadyH.cons (o := { dst := some 21, op := Go.Op.load 35 (Go.Operand.tmp 20), type := 35, pos := "l07_ivf.go:181", after := #[{ on := 5, ground := Go.Ground.data }], guard := none }) rfl (fun K hK => ?ob6_13) (AllReadyH.cons (o := { dst := some 24, op := Go.Op.call { callee := Go.Callee.value (Go.Operand.func 84), args := #[Go.Operand.tmp 22, Go.Operand.tmp 23], argTypes := #[76, 28] }, type := 2, pos := "l07_ivf.go:181", after := #[{ on := 7, ground := Go.Ground.data }, { on := 8, ground := Go.Ground.data }], guard := none }) rfl (fun K hK => ?ob9_13) (AllReadyH.nil))
      case ob6_13 =>
        have y6 : (wD.alloc (.cells #[.int .i64 0, .int .i64 5, .int .i64 999] 2)).cell? ⟨gl, 0, none⟩ = some (.slice a0 l0.items.length c0) := (hFD.later ((Below.refl _ _).alloc (Nat.le_refl _) _)).cell
        go_simp
        refine hK.out _ _ hHeld (fun hHeld => ?_)
        clear hK K
        try simp only [Act.put, List.setIfInBounds_toArray, List.set_cons_zero, List.set_cons_succ]
        refine wpAnyH_ready (rs := [9]) (by kernel_rfl) (by simp) ?_
        refine AllReadyH.cons (o := { dst := some 24, op := Go.Op.call { callee := Go.Callee.value (Go.Operand.func 84), args := #[Go.Operand.tmp 22, Go.Operand.tmp 23], argTypes := #[76, 28] }, type := 2, pos := "l07_ivf.go:181", after := #[{ on := 7, ground := Go.Ground.data }, { on := 8, ground := Go.Ground.data }], guard := none }) rfl (fun K hK => ?_) AllReadyH.nil
        have nb8 : Below wD.heap.size wD (wD.alloc (.cells #[.int .i64 0, .int .i64 5, .int .i64 999] 2)) := (Below.refl _ _).alloc (Nat.le_refl _) _
        have L9 := hide (pick b (m2 + 1) wD.heap.size cv [0, 5, 999] _ (hSD.on nb8) (hCD.on (by omega) nb8) (by omega) (by simp) (by simp) (heap_alloc_new wD _) (by omega))
        go_simp
        go_at_call 84
        refine (unhide L9).mono ?_
        rintro e w4 ⟨p, rfl, hp, s4, c4, g4⟩
        have hF4 := (hFD.later nb8).grown g4 (by omega)
        have hE4 : Ext (fun c => c = b) wD w4 := (ext_of_below nb8 _).trans (ext_grown g4)
        have hz4 := hE4.size
        try go_wp2_with fail
        refine hK.out _ _ (hHeld.grownB g4 (by omega)) (fun hHeld => ?_)
        clear hK K
        try simp only [Act.put, List.setIfInBounds_toArray, List.set_cons_zero, List.set_cons_succ]
        refine wpAnyH_ready (rs := [11]) (by kernel_rfl) (by simp) ?_
        refine AllReadyH.cons (o := { dst := some 26, op := Go.Op.call { callee := Go.Callee.value (Go.Operand.func 83), args := #[Go.Operand.tmp 25], argTypes := #[76] }, type := 28, pos := "l07_ivf.go:181", after := #[{ on := 10, ground := Go.Ground.data }, { on := 9, ground := Go.Ground.chain }], guard := none }) rfl (fun K hK => ?_) AllReadyH.nil
        have L11 := hide (bent b (m2 + 1 + 1) cv w4 s4 c4 (by omega))
        go_simp
        go_at_call 83
        refine (unhide L11).mono ?_
        rintro e w5 ⟨v3, zs, m5, rfl, hzs, hNI, hm5, s5, c5, g5⟩
        obtain ⟨bz, hlz, hbz5⟩ := hNI.lies (by omega)
        obtain ⟨a3, d3, rfl⟩ := open_sl ⟨bz, hlz⟩
        have hF5 := hF4.grown g5 (by omega)
        have hz5 := g5.size
        try go_wp2_with fail
        refine hK.out _ _ (hHeld.grownB g5 (by omega)) (fun hHeld => ?_)
        clear hK K
        try simp only [Act.put, List.setIfInBounds_toArray, List.set_cons_zero, List.set_cons_succ]
        refine wpAnyH_take (i := 12) (oi := { dst := some 27, op := Go.Op.build 139 #[(0, Go.Operand.tmp 24), (1, Go.Operand.tmp 26)], type := 139, pos := "l07_ivf.go:181", after := #[{ on := 9, ground := Go.Ground.data }, { on := 11, ground := Go.Ground.data }], guard := none }) (v := ?vb12_14) rfl (by kernel_rfl) (by kernel_rfl) (by kernel_rfl) (fun _ _ _ h => h) (Or.inl ⟨by rfl, ?hb12_14⟩) hHeld ?rb12_14
        case hb12_14 =>
          intro wS hSw
          (try dsimp only at hSw)
          go_simp
          try with_reducible rfl
        case rb12_14 =>
        simp only [Act.put, List.setIfInBounds_toArray, List.set_cons_zero, List.set_cons_succ]
        refine wpAnyH_ready (rs := [13]) (by kernel_rfl) (by simp) ?_
        refine AllReadyH.cons (o := { dst := some 28, op := Go.Op.buildSlice 35 1 #[(0, Go.Operand.tmp 27)], type := 35, pos := "l07_ivf.go:181", after := #[{ on := 12, ground := Go.Ground.data }], guard := none }) rfl (fun K hK => ?_) AllReadyH.nil
        have hX5 := hHeld
        go_simp
        refine hK.out _ _ (hHeld.grow _) (fun hHeld => ?_)
        clear hK K
        try simp only [Act.put, List.setIfInBounds_toArray, List.set_cons_zero, List.set_cons_succ]
        refine wpAnyH_ready (rs := [14]) (by kernel_rfl) (by simp) ?_
        refine AllReadyH.cons (o := { dst := some 29, op := Go.Op.call { callee := Go.Callee.builtin Go.Builtin.append, args := #[Go.Operand.tmp 21, Go.Operand.tmp 28], argTypes := #[35, 35] }, type := 35, pos := "l07_ivf.go:181", after := #[{ on := 6, ground := Go.Ground.data }, { on := 13, ground := Go.Ground.data }, { on := 11, ground := Go.Ground.chain }], guard := none }) rfl (fun K hK => ?_) AllReadyH.nil
        have hpb : 0 ≤ p ∧ p ≤ 1000 := by
          simp only [List.mem_cons, List.not_mem_nil, or_false] at hp
          omega
        have hl5 : Lay.tItem.lies w5 [.int .i64 p, .slice a3 zs.length d3] ⟨p, zs⟩ bz := lies_Item.2 ⟨a3, d3, bz, rfl, rfl, (show (Lit.int .i64 p).wf = true from wf_of_bd (by omega)), hlz⟩
        refine step_append_Item hF5.g0 (row := [.int .i64 p, .slice a3 zs.length d3]) (x := ⟨p, zs⟩) (bl := bz) hl5 (fun c hc e => by have h1 := hbz5 c hc; have h2 := hv0 c e; omega) rfl _ _ rfl rfl rfl (by omega) (by omega) ?_
        rintro g6 cp6 w6 hG6 hb6 hE6 hl6 hz6 hor6
        refine hK.out _ _ (hX5.ext hE6 (fun e => by have := hv0 _ e; omega)) (fun hHeld => ?_)
        clear hK K
        try simp only [Act.put, List.setIfInBounds_toArray, List.set_cons_zero, List.set_cons_succ]
        refine wpAnyH_take (i := 15) (oi := { dst := some 30, op := Go.Op.indexAddr 25 (Go.Operand.tmp 16) (Go.Operand.const (Go.Value.int Go.IntKind.i64 0)), type := 0, pos := "l07_ivf.go:181", after := #[{ on := 1, ground := Go.Ground.data }, { on := 0, ground := Go.Ground.phase }, { on := 1, ground := Go.Ground.phase }, { on := 2, ground := Go.Ground.phase }, { on := 3, ground := Go.Ground.phase }, { on := 4, ground := Go.Ground.phase }, { on := 5, ground := Go.Ground.phase }, { on := 6, ground := Go.Ground.phase }, { on := 7, ground := Go.Ground.phase }, { on := 8, ground := Go.Ground.phase }, { on := 9, ground := Go.Ground.phase }, { on := 10, ground := Go.Ground.phase }, { on := 11, ground := Go.Ground.phase }, { on := 12, ground := Go.Ground.phase }, { on := 13, ground := Go.Ground.phase }, { on := 14, ground := Go.Ground.phase }], guard := none }) (v := ?vb15_15) rfl (by kernel_rfl) (by kernel_rfl) (by kernel_rfl) (fun _ _ _ h => h) (Or.inl ⟨by rfl, ?hb15_15⟩) hHeld ?rb15_15
        case hb15_15 =>
          intro wS hSw
          have y1 : (0 : Int) < ((lr.length + 1 : Nat) : Int) := by omega
          (try dsimp only at hSw)
          go_simp
          try with_reducible rfl
        case rb15_15 =>
        simp only [Act.put, List.setIfInBounds_toArray, List.set_cons_zero, List.set_cons_succ]
        refine wpAnyH_take (i := 16) (oi := { dst := some 31, op := Go.Op.fieldAddr 91 (Go.Operand.tmp 30) 0, type := 0, pos := "l07_ivf.go:181", after := #[{ on := 15, ground := Go.Ground.data }, { on := 0, ground := Go.Ground.phase }, { on := 1, ground := Go.Ground.phase }, { on := 2, ground := Go.Ground.phase }, { on := 3, ground := Go.Ground.phase }, { on := 4, ground := Go.Ground.phase }, { on := 5, ground := Go.Ground.phase }, { on := 6, ground := Go.Ground.phase }, { on := 7, ground := Go.Ground.phase }, { on := 8, ground := Go.Ground.phase }, { on := 9, ground := Go.Ground.phase }, { on := 10, ground := Go.Ground.phase }, { on := 11, ground := Go.Ground.phase }, { on := 12, ground := Go.Ground.phase }, { on := 13, ground := Go.Ground.phase }, { on := 14, ground := Go.Ground.phase }], guard := none }) (v := ?vb16_16) rfl (by kernel_rfl) (by kernel_rfl) (by kernel_rfl) (fun _ _ _ h => h) (Or.inl ⟨by rfl, ?hb16_16⟩) hHeld ?rb16_16
        case hb16_16 =>
          intro wS hSw
          (try dsimp only at hSw)
          go_simp
          try with_reducible rfl
        case rb16_16 =>
        simp only [Act.put, List.setIfInBounds_toArray, List.set_cons_zero, List.set_cons_succ]
        refine wpAnyH_ready (rs := [17]) (by kernel_rfl) (by simp) ?_
        refine AllReadyH.cons (o := { dst := none, op := Go.Op.store 35 (Go.Operand.tmp 31) (Go.Operand.tmp 29), type := 0, pos := "l07_ivf.go:181", after := #[{ on := 16, ground := Go.Ground.data }, { on := 14, ground := Go.Ground.data }, { on := 14, ground := Go.Ground.chain }, { on := 0, ground := Go.Ground.phase }, { on := 1, ground := Go.Ground.phase }, { on := 2, ground := Go.Ground.phase }, { on := 3, ground := Go.Ground.phase }, { on := 4, ground := Go.Ground.phase }, { on := 5, ground := Go.Ground.phase }, { on := 6, ground := Go.Ground.phase }, { on := 7, ground := Go.Ground.phase }, { on := 8, ground := Go.Ground.phase }, { on := 9, ground := Go.Ground.phase }, { on := 10, ground := Go.Ground.phase }, { on := 11, ground := Go.Ground.phase }, { on := 12, ground := Go.Ground.phase }, { on := 13, ground := Go.Ground.phase }, { on := 14, ground := Go.Ground.phase }], guard := none }) rfl (fun K hK => ?_) AllReadyH.nil
        obtain ⟨y7, f7, k7⟩ := hF5.after hE6
        go_simp
        refine hK.out _ _ (hHeld.other _ _ (by show w2.heap.size ≠ gl; omega)) (fun hHeld => ?_)
        clear hK K
        try simp only [Act.put, List.setIfInBounds_toArray, List.set_cons_zero, List.set_cons_succ]
        refine wpAnyH_done (by kernel_rfl) ?_ _
        refine NoPanic.normal ?_
        have HP := hide ((hF5.put hE6 hG6 hor6 (fun c hc => by have h1 := hbz5 c hc; exact ⟨by omega, by omega⟩) (by omega) (by omega) (by omega)).mono (show z.heap.size + 1 ≤ w.heap.size by omega) (Nat.le_refl _))
        have e7 : Ext (fun c => c = gl) w6 (w6.setCell ⟨gl, 0, none⟩ (.slice (some ⟨g6, 0, none⟩) (l0.items.length + 1) cp6)) := (Ext.refl (fun c => c = gl) w6).setCell ⟨gl, 0, none⟩ _ rfl
        have e57 : Ext (fun c => (Value.slice a0 l0.items.length c0).ownBlock = some c ∨ c = gl) w5 (w6.setCell ⟨gl, 0, none⟩ (.slice (some ⟨g6, 0, none⟩) (l0.items.length + 1) cp6)) := (hE6.mono (fun c _ h => Or.inl h)).trans (e7.mono (fun c _ h => Or.inr h))
        have hv1 : ∀ c, c < w.heap.size → ¬ ((Value.slice a0 l0.items.length c0).ownBlock = some c ∨ c = gl) := fun c hc h => by
          rcases h with h | h
          · have := (hF5.g0.own.lt c h).1; omega
          · have := hF5.glt.1; omega
        have hXq : Box w2.heap.size #[.slice a8 cs.length c8, .slice (some ⟨gl, 0, none⟩) (lr.length + 1) c9] 27 (w6.setCell ⟨gl, 0, none⟩ (.slice (some ⟨g6, 0, none⟩) (l0.items.length + 1) cp6)) w2.heap.size := hHeld
        have hRq := ((hRD.ext hE4 (by omega)).grownB g5 (by omega)).ext e57 (hv1 _ (by omega))
        have hSq := src_ext s5 e57 (hv1 _ (by omega))
        have hCq := code_ext c5 e57 (by omega) (fun k hk => hv1 k (by omega))
        have hGq := grown_ext (grown_trans (grown_ext hGD (ext_of_below nb8 nowhere) (fun _ _ h => h)) (grown_trans g4 g5)) e57 (fun k hk => hv1 k (by omega))
        clear hF5 hF4 hFD hE6 hG6 hor6 e7 e57 hv1 hRD hSD hCD hGD s4 c4 g4 s5 c5 g5 hE4 hHeld hX5 hNI hlz hbz5 hl5 hb6 L9 L11 nb8
        have x0 : (w6.setCell ⟨gl, 0, none⟩ (.slice (some ⟨g6, 0, none⟩) (l0.items.length + 1) cp6)).cell? ⟨w2.heap.size, 0, none⟩ = some (.slice a8 cs.length c8) := hXq.at 0 _ rfl
        have x1 : (w6.setCell ⟨gl, 0, none⟩ (.slice (some ⟨g6, 0, none⟩) (l0.items.length + 1) cp6)).cell? ⟨w2.heap.size, 1, none⟩ = some (.slice (some ⟨gl, 0, none⟩) (lr.length + 1) c9) := hXq.at 1 _ rfl
        have z0 : (w6.setCell ⟨gl, 0, none⟩ (.slice (some ⟨g6, 0, none⟩) (l0.items.length + 1) cp6)).cell? ⟨z.heap.size, 0, none⟩ = some (.slice none 0 0) := hRq.at 0 _ rfl
        have z1 : (w6.setCell ⟨gl, 0, none⟩ (.slice (some ⟨g6, 0, none⟩) (l0.items.length + 1) cp6)).cell? ⟨z.heap.size, 1, none⟩ = some (.slice none 0 0) := hRq.at 1 _ rfl
        have f0 := hRq.soft 0
        have f1 := hRq.soft 1
        have l0 := hRq.lt
        have HSq := hide hSq
        have HCq := hide hCq
        have HGq := hide hGq
        clear hSq hCq hGq hXq hRq
        go_wp2_with fail
        refine bodyPost_ret (v := .agg #[.slice a8 cs.length c8, .slice (some ⟨gl, 0, none⟩) (lr.length + 1) c9]) (by simp [results, Tryz.results82, go_sem, z0, z1]) rfl ?_
        refine bent_end hbz (unhide HP) (unhide HSq) (by omega) (unhide HCq) (unhide HGq)
      case ob9_13 =>
        have nb8 : Below wD.heap.size wD (wD.alloc (.cells #[.int .i64 0, .int .i64 5, .int .i64 999] 2)) := (Below.refl _ _).alloc (Nat.le_refl _) _
        have L9 := hide (pick b (m2 + 1) wD.heap.size cv [0, 5, 999] _ (hSD.on nb8) (hCD.on (by omega) nb8) (by omega) (by simp) (by simp) (heap_alloc_new wD _) (by omega))
        go_simp
        go_at_call 84
        refine (unhide L9).mono ?_
        rintro e w4 ⟨p, rfl, hp, s4, c4, g4⟩
        have hF4 := (hFD.later nb8).grown g4 (by omega)
        have hE4 : Ext (fun c => c = b) wD w4 := (ext_of_below nb8 _).trans (ext_grown g4)
        have hz4 := hE4.size
        try go_wp2_with fail
        refine hK.out _ _ (hHeld.grownB g4 (by omega)) (fun hHeld => ?_)
        clear hK K
        try simp only [Act.put, List.setIfInBounds_toArray, List.set_cons_zero, List.set_cons_succ]
        refine wpAnyH_ready (rs := [6, 11]) (by kernel_rfl) (by simp) ?_
        refine AllReadyH.cons (o := { dst := some 21, op := Go.Op.load 35 (Go.Operand.tmp 20), type := 35, pos := "l07_ivf.go:181", after := #[{ on := 5, ground := Go.Ground.data }], guard := none }) rfl (fun K hK => ?ob6_17) (AllReadyH.cons (o := { dst := some 26, op := Go.Op.call { callee := Go.Callee.value (Go.Operand.func 83), args := #[Go.Operand.tmp 25], argTypes := #[76] }, type := 28, pos := "l07_ivf.go:181", after := #[{ on := 10, ground := Go.Ground.data }, { on := 9, ground := Go.Ground.chain }], guard := none }) rfl (fun K hK => ?ob11_17) (AllReadyH.nil))
        case ob6_17 =>
          have y6 : (w4).cell? ⟨gl, 0, none⟩ = some (.slice a0 l0.items.length c0) := hF4.cell
          go_simp
          refine hK.out _ _ hHeld (fun hHeld => ?_)
          clear hK K
          try simp only [Act.put, List.setIfInBounds_toArray, List.set_cons_zero, List.set_cons_succ]
          refine wpAnyH_ready (rs := [11]) (by kernel_rfl) (by simp) ?_
          refine AllReadyH.cons (o := { dst := some 26, op := Go.Op.call { callee := Go.Callee.value (Go.Operand.func 83), args := #[Go.Operand.tmp 25], argTypes := #[76] }, type := 28, pos := "l07_ivf.go:181", after := #[{ on := 10, ground := Go.Ground.data }, { on := 9, ground := Go.Ground.chain }], guard := none }) rfl (fun K hK => ?_) AllReadyH.nil
          have L11 := hide (bent b (m2 + 1 + 1) cv w4 s4 c4 (by omega))
          go_simp
          go_at_call 83
          refine (unhide L11).mono ?_
          rintro e w5 ⟨v3, zs, m5, rfl, hzs, hNI, hm5, s5, c5, g5⟩
          obtain ⟨bz, hlz, hbz5⟩ := hNI.lies (by omega)
          obtain ⟨a3, d3, rfl⟩ := open_sl ⟨bz, hlz⟩
          have hF5 := hF4.grown g5 (by omega)
          have hz5 := g5.size
          try go_wp2_with fail
          refine hK.out _ _ (hHeld.grownB g5 (by omega)) (fun hHeld => ?_)
          clear hK K
          try simp only [Act.put, List.setIfInBounds_toArray, List.set_cons_zero, List.set_cons_succ]
          refine wpAnyH_take (i := 12) (oi := { dst := some 27, op := Go.Op.build 139 #[(0, Go.Operand.tmp 24), (1, Go.Operand.tmp 26)], type := 139, pos := "l07_ivf.go:181", after := #[{ on := 9, ground := Go.Ground.data }, { on := 11, ground := Go.Ground.data }], guard := none }) (v := ?vb12_18) rfl (by kernel_rfl) (by kernel_rfl) (by kernel_rfl) (fun _ _ _ h => h) (Or.inl ⟨by rfl, ?hb12_18⟩) hHeld ?rb12_18
          case hb12_18 =>
            intro wS hSw
            (try dsimp only at hSw)
            go_simp
            try with_reducible rfl
          case rb12_18 =>
          simp only [Act.put, List.setIfInBounds_toArray, List.set_cons_zero, List.set_cons_succ]
          refine wpAnyH_ready (rs := [13]) (by kernel_rfl) (by simp) ?_
          refine AllReadyH.cons (o := { dst := some 28, op := Go.Op.buildSlice 35 1 #[(0, Go.Operand.tmp 27)], type := 35, pos := "l07_ivf.go:181", after := #[{ on := 12, ground := Go.Ground.data }], guard := none }) rfl (fun K hK => ?_) AllReadyH.nil
          have hX5 := hHeld
          go_simp
          refine hK.out _ _ (hHeld.grow _) (fun hHeld => ?_)
          clear hK K
          try simp only [Act.put, List.setIfInBounds_toArray, List.set_cons_zero, List.set_cons_succ]
          refine wpAnyH_ready (rs := [14]) (by kernel_rfl) (by simp) ?_
          refine AllReadyH.cons (o := { dst := some 29, op := Go.Op.call { callee := Go.Callee.builtin Go.Builtin.append, args := #[Go.Operand.tmp 21, Go.Operand.tmp 28], argTypes := #[35, 35] }, type := 35, pos := "l07_ivf.go:181", after := #[{ on := 6, ground := Go.Ground.data }, { on := 13, ground := Go.Ground.data }, { on := 11, ground := Go.Ground.chain }], guard := none }) rfl (fun K hK => ?_) AllReadyH.nil
          have hpb : 0 ≤ p ∧ p ≤ 1000 := by
            simp only [List.mem_cons, List.not_mem_nil, or_false] at hp
            omega
          have hl5 : Lay.tItem.lies w5 [.int .i64 p, .slice a3 zs.length d3] ⟨p, zs⟩ bz := lies_Item.2 ⟨a3, d3, bz, rfl, rfl, (show (Lit.int .i64 p).wf = true from wf_of_bd (by omega)), hlz⟩
          refine step_append_Item hF5.g0 (row := [.int .i64 p, .slice a3 zs.length d3]) (x := ⟨p, zs⟩) (bl := bz) hl5 (fun c hc e => by have h1 := hbz5 c hc; have h2 := hv0 c e; omega) rfl _ _ rfl rfl rfl (by omega) (by omega) ?_
          rintro g6 cp6 w6 hG6 hb6 hE6 hl6 hz6 hor6
          refine hK.out _ _ (hX5.ext hE6 (fun e => by have := hv0 _ e; omega)) (fun hHeld => ?_)
          clear hK K
          try simp only [Act.put, List.setIfInBounds_toArray, List.set_cons_zero, List.set_cons_succ]
          refine wpAnyH_take (i := 15) (oi := { dst := some 30, op := Go.Op.indexAddr 25 (Go.Operand.tmp 16) (Go.Operand.const (Go.Value.int Go.IntKind.i64 0)), type := 0, pos := "l07_ivf.go:181", after := #[{ on := 1, ground := Go.Ground.data }, { on := 0, ground := Go.Ground.phase }, { on := 1, ground := Go.Ground.phase }, { on := 2, ground := Go.Ground.phase }, { on := 3, ground := Go.Ground.phase }, { on := 4, ground := Go.Ground.phase }, { on := 5, ground := Go.Ground.phase }, { on := 6, ground := Go.Ground.phase }, { on := 7, ground := Go.Ground.phase }, { on := 8, ground := Go.Ground.phase }, { on := 9, ground := Go.Ground.phase }, { on := 10, ground := Go.Ground.phase }, { on := 11, ground := Go.Ground.phase }, { on := 12, ground := Go.Ground.phase }, { on := 13, ground := Go.Ground.phase }, { on := 14, ground := Go.Ground.phase }], guard := none }) (v := ?vb15_19) rfl (by kernel_rfl) (by kernel_rfl) (by kernel_rfl) (fun _ _ _ h => h) (Or.inl ⟨by rfl, ?hb15_19⟩) hHeld ?rb15_19
          case hb15_19 =>
            intro wS hSw
            have y1 : (0 : Int) < ((lr.length + 1 : Nat) : Int) := by omega
            (try dsimp only at hSw)
            go_simp
            try with_reducible rfl
          case rb15_19 =>
          simp only [Act.put, List.setIfInBounds_toArray, List.set_cons_zero, List.set_cons_succ]
          refine wpAnyH_take (i := 16) (oi := { dst := some 31, op := Go.Op.fieldAddr 91 (Go.Operand.tmp 30) 0, type := 0, pos := "l07_ivf.go:181", after := #[{ on := 15, ground := Go.Ground.data }, { on := 0, ground := Go.Ground.phase }, { on := 1, ground := Go.Ground.phase }, { on := 2, ground := Go.Ground.phase }, { on := 3, ground := Go.Ground.phase }, { on := 4, ground := Go.Ground.phase }, { on := 5, ground := Go.Ground.phase }, { on := 6, ground := Go.Ground.phase }, { on := 7, ground := Go.Ground.phase }, { on := 8, ground := Go.Ground.phase }, { on := 9, ground := Go.Ground.phase }, { on := 10, ground := Go.Ground.phase }, { on := 11, ground := Go.Ground.phase }, { on := 12, ground := Go.Ground.phase }, { on := 13, ground := Go.Ground.phase }, { on := 14, ground := Go.Ground.phase }], guard := none }) (v := ?vb16_20) rfl (by kernel_rfl) (by kernel_rfl) (by kernel_rfl) (fun _ _ _ h => h) (Or.inl ⟨by rfl, ?hb16_20⟩) hHeld ?rb16_20
          case hb16_20 =>
            intro wS hSw
            (try dsimp only at hSw)
            go_simp
            try with_reducible rfl
          case rb16_20 =>
          simp only [Act.put, List.setIfInBounds_toArray, List.set_cons_zero, List.set_cons_succ]
          refine wpAnyH_ready (rs := [17]) (by kernel_rfl) (by simp) ?_
          refine AllReadyH.cons (o := { dst := none, op := Go.Op.store 35 (Go.Operand.tmp 31) (Go.Operand.tmp 29), type := 0, pos := "l07_ivf.go:181", after := #[{ on := 16, ground := Go.Ground.data }, { on := 14, ground := Go.Ground.data }, { on := 14, ground := Go.Ground.chain }, { on := 0, ground := Go.Ground.phase }, { on := 1, ground := Go.Ground.phase }, { on := 2, ground := Go.Ground.phase }, { on := 3, ground := Go.Ground.phase }, { on := 4, ground := Go.Ground.phase }, { on := 5, ground := Go.Ground.phase }, { on := 6, ground := Go.Ground.phase }, { on := 7, ground := Go.Ground.phase }, { on := 8, ground := Go.Ground.phase }, { on := 9, ground := Go.Ground.phase }, { on := 10, ground := Go.Ground.phase }, { on := 11, ground := Go.Ground.phase }, { on := 12, ground := Go.Ground.phase }, { on := 13, ground := Go.Ground.phase }, { on := 14, ground := Go.Ground.phase }], guard := none }) rfl (fun K hK => ?_) AllReadyH.nil
          obtain ⟨y7, f7, k7⟩ := hF5.after hE6
          go_simp
          refine hK.out _ _ (hHeld.other _ _ (by show w2.heap.size ≠ gl; omega)) (fun hHeld => ?_)
          clear hK K
          try simp only [Act.put, List.setIfInBounds_toArray, List.set_cons_zero, List.set_cons_succ]
          refine wpAnyH_done (by kernel_rfl) ?_ _
          refine NoPanic.normal ?_
          have HP := hide ((hF5.put hE6 hG6 hor6 (fun c hc => by have h1 := hbz5 c hc; exact ⟨by omega, by omega⟩) (by omega) (by omega) (by omega)).mono (show z.heap.size + 1 ≤ w.heap.size by omega) (Nat.le_refl _))
          have e7 : Ext (fun c => c = gl) w6 (w6.setCell ⟨gl, 0, none⟩ (.slice (some ⟨g6, 0, none⟩) (l0.items.length + 1) cp6)) := (Ext.refl (fun c => c = gl) w6).setCell ⟨gl, 0, none⟩ _ rfl
          have e57 : Ext (fun c => (Value.slice a0 l0.items.length c0).ownBlock = some c ∨ c = gl) w5 (w6.setCell ⟨gl, 0, none⟩ (.slice (some ⟨g6, 0, none⟩) (l0.items.length + 1) cp6)) := (hE6.mono (fun c _ h => Or.inl h)).trans (e7.mono (fun c _ h => Or.inr h))
          have hv1 : ∀ c, c < w.heap.size → ¬ ((Value.slice a0 l0.items.length c0).ownBlock = some c ∨ c = gl) := fun c hc h => by
            rcases h with h | h
            · have := (hF5.g0.own.lt c h).1; omega
            · have := hF5.glt.1; omega
          have hXq : Box w2.heap.size #[.slice a8 cs.length c8, .slice (some ⟨gl, 0, none⟩) (lr.length + 1) c9] 27 (w6.setCell ⟨gl, 0, none⟩ (.slice (some ⟨g6, 0, none⟩) (l0.items.length + 1) cp6)) w2.heap.size := hHeld
          have hRq := ((hRD.ext hE4 (by omega)).grownB g5 (by omega)).ext e57 (hv1 _ (by omega))
          have hSq := src_ext s5 e57 (hv1 _ (by omega))
          have hCq := code_ext c5 e57 (by omega) (fun k hk => hv1 k (by omega))
          have hGq := grown_ext (grown_trans (grown_ext hGD (ext_of_below nb8 nowhere) (fun _ _ h => h)) (grown_trans g4 g5)) e57 (fun k hk => hv1 k (by omega))
          clear hF5 hF4 hFD hE6 hG6 hor6 e7 e57 hv1 hRD hSD hCD hGD s4 c4 g4 s5 c5 g5 hE4 hHeld hX5 hNI hlz hbz5 hl5 hb6 L9 L11 nb8
          have x0 : (w6.setCell ⟨gl, 0, none⟩ (.slice (some ⟨g6, 0, none⟩) (l0.items.length + 1) cp6)).cell? ⟨w2.heap.size, 0, none⟩ = some (.slice a8 cs.length c8) := hXq.at 0 _ rfl
          have x1 : (w6.setCell ⟨gl, 0, none⟩ (.slice (some ⟨g6, 0, none⟩) (l0.items.length + 1) cp6)).cell? ⟨w2.heap.size, 1, none⟩ = some (.slice (some ⟨gl, 0, none⟩) (lr.length + 1) c9) := hXq.at 1 _ rfl
          have z0 : (w6.setCell ⟨gl, 0, none⟩ (.slice (some ⟨g6, 0, none⟩) (l0.items.length + 1) cp6)).cell? ⟨z.heap.size, 0, none⟩ = some (.slice none 0 0) := hRq.at 0 _ rfl
          have z1 : (w6.setCell ⟨gl, 0, none⟩ (.slice (some ⟨g6, 0, none⟩) (l0.items.length + 1) cp6)).cell? ⟨z.heap.size, 1, none⟩ = some (.slice none 0 0) := hRq.at 1 _ rfl
          have f0 := hRq.soft 0
          have f1 := hRq.soft 1
          have l0 := hRq.lt
          have HSq := hide hSq
          have HCq := hide hCq
          have HGq := hide hGq
          clear hSq hCq hGq hXq hRq
          go_wp2_with fail
          refine bodyPost_ret (v := .agg #[.slice a8 cs.length c8, .slice (some ⟨gl, 0, none⟩) (lr.length + 1) c9]) (by simp [results, Tryz.results82, go_sem, z0, z1]) rfl ?_
          refine bent_end hbz (unhide HP) (unhide HSq) (by omega) (unhide HCq) (unhide HGq)
        case ob11_17 =>
          have L11 := hide (bent b (m2 + 1 + 1) cv w4 s4 c4 (by omega))
          go_simp
          go_at_call 83
          refine (unhide L11).mono ?_
          rintro e w5 ⟨v3, zs, m5, rfl, hzs, hNI, hm5, s5, c5, g5⟩
          obtain ⟨bz, hlz, hbz5⟩ := hNI.lies (by omega)
          obtain ⟨a3, d3, rfl⟩ := open_sl ⟨bz, hlz⟩
          have hF5 := hF4.grown g5 (by omega)
          have hz5 := g5.size
          try go_wp2_with fail
          refine hK.out _ _ (hHeld.grownB g5 (by omega)) (fun hHeld => ?_)
          clear hK K
          try simp only [Act.put, List.setIfInBounds_toArray, List.set_cons_zero, List.set_cons_succ]
          refine wpAnyH_take (i := 12) (oi := { dst := some 27, op := Go.Op.build 139 #[(0, Go.Operand.tmp 24), (1, Go.Operand.tmp 26)], type := 139, pos := "l07_ivf.go:181", after := #[{ on := 9, ground := Go.Ground.data }, { on := 11, ground := Go.Ground.data }], guard := none }) (v := ?vb12_21) rfl (by kernel_rfl) (by kernel_rfl) (by kernel_rfl) (fun _ _ _ h => h) (Or.inl ⟨by rfl, ?hb12_21⟩) hHeld ?rb12_21
          case hb12_21 =>
            intro wS hSw
            (try dsimp only at hSw)
            go_simp
            try with_reducible rfl
          case rb12_21 =>
          simp only [Act.put, List.setIfInBounds_toArray, List.set_cons_zero, List.set_cons_succ]
          refine wpAnyH_ready (rs := [6, 13]) (by kernel_rfl) (by simp) ?_
          refine AllReadyH.cons (o := { dst := some 21, op := Go.Op.load 35 (Go.Operand.tmp 20), type := 35, pos := "l07_ivf.go:181", after := #[{ on := 5, ground := Go.Ground.data }], guard := none }) rfl (fun K hK => ?ob6_22) (AllReadyH.cons (o := { dst := some 28, op := Go.Op.buildSlice 35 1 #[(0, Go.Operand.tmp 27)], type := 35, pos := "l07_ivf.go:181", after := #[{ on := 12, ground := Go.Ground.data }], guard := none }) rfl (fun K hK => ?ob13_22) (AllReadyH.nil))
          case ob6_22 =>
            have y6 : (w5).cell? ⟨gl, 0, none⟩ = some (.slice a0 l0.items.length c0) := hF5.cell
            go_simp
            refine hK.out _ _ hHeld (fun hHeld => ?_)
            clear hK K
            try simp only [Act.put, List.setIfInBounds_toArray, List.set_cons_zero, List.set_cons_succ]
            refine wpAnyH_ready (rs := [13]) (by kernel_rfl) (by simp) ?_
            refine AllReadyH.cons (o := { dst := some 28, op := Go.Op.buildSlice 35 1 #[(0, Go.Operand.tmp 27)], type := 35, pos := "l07_ivf.go:181", after := #[{ on := 12, ground := Go.Ground.data }], guard := none }) rfl (fun K hK => ?_) AllReadyH.nil
            have hX5 := hHeld
            go_simp
            refine hK.out _ _ (hHeld.grow _) (fun hHeld => ?_)
            clear hK K
            try simp only [Act.put, List.setIfInBounds_toArray, List.set_cons_zero, List.set_cons_succ]
            refine wpAnyH_ready (rs := [14]) (by kernel_rfl) (by simp) ?_
            refine AllReadyH.cons (o := { dst := some 29, op := Go.Op.call { callee := Go.Callee.builtin Go.Builtin.append, args := #[Go.Operand.tmp 21, Go.Operand.tmp 28], argTypes := #[35, 35] }, type := 35, pos := "l07_ivf.go:181", after := #[{ on := 6, ground := Go.Ground.data }, { on := 13, ground := Go.Ground.data }, { on := 11, ground := Go.Ground.chain }], guard := none }) rfl (fun K hK => ?_) AllReadyH.nil
            have hpb : 0 ≤ p ∧ p ≤ 1000 := by
              simp only [List.mem_cons, List.not_mem_nil, or_false] at hp
              omega
            have hl5 : Lay.tItem.lies w5 [.int .i64 p, .slice a3 zs.length d3] ⟨p, zs⟩ bz := lies_Item.2 ⟨a3, d3, bz, rfl, rfl, (show (Lit.int .i64 p).wf = true from wf_of_bd (by omega)), hlz⟩
            refine step_append_Item hF5.g0 (row := [.int .i64 p, .slice a3 zs.length d3]) (x := ⟨p, zs⟩) (bl := bz) hl5 (fun c hc e => by have h1 := hbz5 c hc; have h2 := hv0 c e; omega) rfl _ _ rfl rfl rfl (by omega) (by omega) ?_
            rintro g6 cp6 w6 hG6 hb6 hE6 hl6 hz6 hor6
            refine hK.out _ _ (hX5.ext hE6 (fun e => by have := hv0 _ e; omega)) (fun hHeld => ?_)
            clear hK K
            try simp only [Act.put, List.setIfInBounds_toArray, List.set_cons_zero, List.set_cons_succ]
            refine wpAnyH_take (i := 15) (oi := { dst := some 30, op := Go.Op.indexAddr 25 (Go.Operand.tmp 16) (Go.Operand.const (Go.Value.int Go.IntKind.i64 0)), type := 0, pos := "l07_ivf.go:181", after := #[{ on := 1, ground := Go.Ground.data }, { on := 0, ground := Go.Ground.phase }, { on := 1, ground := Go.Ground.phase }, { on := 2, ground := Go.Ground.phase }, { on := 3, ground := Go.Ground.phase }, { on := 4, ground := Go.Ground.phase }, { on := 5, ground := Go.Ground.phase }, { on := 6, ground := Go.Ground.phase }, { on := 7, ground := Go.Ground.phase }, { on := 8, ground := Go.Ground.phase }, { on := 9, ground := Go.Ground.phase }, { on := 10, ground := Go.Ground.phase }, { on := 11, ground := Go.Ground.phase }, { on := 12, ground := Go.Ground.phase }, { on := 13, ground := Go.Ground.phase }, { on := 14, ground := Go.Ground.phase }], guard := none }) (v := ?vb15_23) rfl (by kernel_rfl) (by kernel_rfl) (by kernel_rfl) (fun _ _ _ h => h) (Or.inl ⟨by rfl, ?hb15_23⟩) hHeld ?rb15_23
            case hb15_23 =>
              intro wS hSw
              have y1 : (0 : Int) < ((lr.length + 1 : Nat) : Int) := by omega
              (try dsimp only at hSw)
              go_simp
              try with_reducible rfl
            case rb15_23 =>
            simp only [Act.put, List.setIfInBounds_toArray, List.set_cons_zero, List.set_cons_succ]
            refine wpAnyH_take (i := 16) (oi := { dst := some 31, op := Go.Op.fieldAddr 91 (Go.Operand.tmp 30) 0, type := 0, pos := "l07_ivf.go:181", after := #[{ on := 15, ground := Go.Ground.data }, { on := 0, ground := Go.Ground.phase }, { on := 1, ground := Go.Ground.phase }, { on := 2, ground := Go.Ground.phase }, { on := 3, ground := Go.Ground.phase }, { on := 4, ground := Go.Ground.phase }, { on := 5, ground := Go.Ground.phase }, { on := 6, ground := Go.Ground.phase }, { on := 7, ground := Go.Ground.phase }, { on := 8, ground := Go.Ground.phase }, { on := 9, ground := Go.Ground.phase }, { on := 10, ground := Go.Ground.phase }, { on := 11, ground := Go.Ground.phase }, { on := 12, ground := Go.Ground.phase }, { on := 13, ground := Go.Ground.phase }, { on := 14, ground := Go.Ground.phase }], guard := none }) (v := ?vb16_24) rfl (by kernel_rfl) (by kernel_rfl) (by kernel_rfl) (fun _ _ _ h => h) (Or.inl ⟨by rfl, ?hb16_24⟩) hHeld ?rb16_24
            case hb16_24 =>
              intro wS hSw
              (try dsimp only at hSw)
              go_simp
              try with_reducible rfl
            case rb16_24 =>
            simp only [Act.put, List.setIfInBounds_toArray, List.set_cons_zero, List.set_cons_succ]
            refine wpAnyH_ready (rs := [17]) (by kernel_rfl) (by simp) ?_
            refine AllReadyH.cons (o := { dst := none, op := Go.Op.store 35 (Go.Operand.tmp 31) (Go.Operand.tmp 29), type := 0, pos := "l07_ivf.go:181", after := #[{ on := 16, ground := Go.Ground.data }, { on := 14, ground := Go.Ground.data }, { on := 14, ground := Go.Ground.chain }, { on := 0, ground := Go.Ground.phase }, { on := 1, ground := Go.Ground.phase }, { on := 2, ground := Go.Ground.phase }, { on := 3, ground := Go.Ground.phase }, { on := 4, ground := Go.Ground.phase }, { on := 5, ground := Go.Ground.phase }, { on := 6, ground := Go.Ground.phase }, { on := 7, ground := Go.Ground.phase }, { on := 8, ground := Go.Ground.phase }, { on := 9, ground := Go.Ground.phase }, { on := 10, ground := Go.Ground.phase }, { on := 11, ground := Go.Ground.phase }, { on := 12, ground := Go.Ground.phase }, { on := 13, ground := Go.Ground.phase }, { on := 14, ground := Go.Ground.phase }], guard := none }) rfl (fun K hK => ?_) AllReadyH.nil
            obtain ⟨y7, f7, k7⟩ := hF5.after hE6
            go_simp
            refine hK.out _ _ (hHeld.other _ _ (by show w2.heap.size ≠ gl; omega)) (fun hHeld => ?_)
            clear hK K
            try simp only [Act.put, List.setIfInBounds_toArray, List.set_cons_zero, List.set_cons_succ]
            refine wpAnyH_done (by kernel_rfl) ?_ _
            refine NoPanic.normal ?_
            have HP := hide ((hF5.put hE6 hG6 hor6 (fun c hc => by have h1 := hbz5 c hc; exact ⟨by omega, by omega⟩) (by omega) (by omega) (by omega)).mono (show z.heap.size + 1 ≤ w.heap.size by omega) (Nat.le_refl _))
            have e7 : Ext (fun c => c = gl) w6 (w6.setCell ⟨gl, 0, none⟩ (.slice (some ⟨g6, 0, none⟩) (l0.items.length + 1) cp6)) := (Ext.refl (fun c => c = gl) w6).setCell ⟨gl, 0, none⟩ _ rfl
            have e57 : Ext (fun c => (Value.slice a0 l0.items.length c0).ownBlock = some c ∨ c = gl) w5 (w6.setCell ⟨gl, 0, none⟩ (.slice (some ⟨g6, 0, none⟩) (l0.items.length + 1) cp6)) := (hE6.mono (fun c _ h => Or.inl h)).trans (e7.mono (fun c _ h => Or.inr h))
            have hv1 : ∀ c, c < w.heap.size → ¬ ((Value.slice a0 l0.items.length c0).ownBlock = some c ∨ c = gl) := fun c hc h => by
              rcases h with h | h
              · have := (hF5.g0.own.lt c h).1; omega
              · have := hF5.glt.1; omega
            have hXq : Box w2.heap.size #[.slice a8 cs.length c8, .slice (some ⟨gl, 0, none⟩) (lr.length + 1) c9] 27 (w6.setCell ⟨gl, 0, none⟩ (.slice (some ⟨g6, 0, none⟩) (l0.items.length + 1) cp6)) w2.heap.size := hHeld
            have hRq := ((hRD.ext hE4 (by omega)).grownB g5 (by omega)).ext e57 (hv1 _ (by omega))
            have hSq := src_ext s5 e57 (hv1 _ (by omega))
            have hCq := code_ext c5 e57 (by omega) (fun k hk => hv1 k (by omega))
            have hGq := grown_ext (grown_trans (grown_ext hGD (ext_of_below nb8 nowhere) (fun _ _ h => h)) (grown_trans g4 g5)) e57 (fun k hk => hv1 k (by omega))
            clear hF5 hF4 hFD hE6 hG6 hor6 e7 e57 hv1 hRD hSD hCD hGD s4 c4 g4 s5 c5 g5 hE4 hHeld hX5 hNI hlz hbz5 hl5 hb6 L9 L11 nb8
            have x0 : (w6.setCell ⟨gl, 0, none⟩ (.slice (some ⟨g6, 0, none⟩) (l0.items.length + 1) cp6)).cell? ⟨w2.heap.size, 0, none⟩ = some (.slice a8 cs.length c8) := hXq.at 0 _ rfl
            have x1 : (w6.setCell ⟨gl, 0, none⟩ (.slice (some ⟨g6, 0, none⟩) (l0.items.length + 1) cp6)).cell? ⟨w2.heap.size, 1, none⟩ = some (.slice (some ⟨gl, 0, none⟩) (lr.length + 1) c9) := hXq.at 1 _ rfl
            have z0 : (w6.setCell ⟨gl, 0, none⟩ (.slice (some ⟨g6, 0, none⟩) (l0.items.length + 1) cp6)).cell? ⟨z.heap.size, 0, none⟩ = some (.slice none 0 0) := hRq.at 0 _ rfl
            have z1 : (w6.setCell ⟨gl, 0, none⟩ (.slice (some ⟨g6, 0, none⟩) (l0.items.length + 1) cp6)).cell? ⟨z.heap.size, 1, none⟩ = some (.slice none 0 0) := hRq.at 1 _ rfl
            have f0 := hRq.soft 0
            have f1 := hRq.soft 1
            have l0 := hRq.lt
            have HSq := hide hSq
            have HCq := hide hCq
            have HGq := hide hGq
            clear hSq hCq hGq hXq hRq
            go_wp2_with fail
            refine bodyPost_ret (v := .agg #[.slice a8 cs.length c8, .slice (some ⟨gl, 0, none⟩) (lr.length + 1) c9]) (by simp [results, Tryz.results82, go_sem, z0, z1]) rfl ?_
            refine bent_end hbz (unhide HP) (unhide HSq) (by omega) (unhide HCq) (unhide HGq)
          case ob13_22 =>
            have hX5 := hHeld
            go_simp
            refine hK.out _ _ (hHeld.grow _) (fun hHeld => ?_)
            clear hK K
            try simp only [Act.put, List.setIfInBounds_toArray, List.set_cons_zero, List.set_cons_succ]
            refine wpAnyH_ready (rs := [6]) (by kernel_rfl) (by simp) ?_
            refine AllReadyH.cons (o := { dst := some 21, op := Go.Op.load 35 (Go.Operand.tmp 20), type := 35, pos := "l07_ivf.go:181", after := #[{ on := 5, ground := Go.Ground.data }], guard := none }) rfl (fun K hK => ?_) AllReadyH.nil
            have y6 : (w5.alloc (.cells #[.int .i64 p, .slice a3 zs.length d3] 139)).cell? ⟨gl, 0, none⟩ = some (.slice a0 l0.items.length c0) := (hF5.later ((Below.refl _ _).alloc (Nat.le_refl _) _)).cell
            go_simp
            refine hK.out _ _ hHeld (fun hHeld => ?_)
            clear hK K
            try simp only [Act.put, List.setIfInBounds_toArray, List.set_cons_zero, List.set_cons_succ]
            refine wpAnyH_ready (rs := [14]) (by kernel_rfl) (by simp) ?_
            refine AllReadyH.cons (o := { dst := some 29, op := Go.Op.call { callee := Go.Callee.builtin Go.Builtin.append, args := #[Go.Operand.tmp 21, Go.Operand.tmp 28], argTypes := #[35, 35] }, type := 35, pos := "l07_ivf.go:181", after := #[{ on := 6, ground := Go.Ground.data }, { on := 13, ground := Go.Ground.data }, { on := 11, ground := Go.Ground.chain }], guard := none }) rfl (fun K hK => ?_) AllReadyH.nil
            have hpb : 0 ≤ p ∧ p ≤ 1000 := by
              simp only [List.mem_cons, List.not_mem_nil, or_false] at hp
              omega
            have hl5 : Lay.tItem.lies w5 [.int .i64 p, .slice a3 zs.length d3] ⟨p, zs⟩ bz := lies_Item.2 ⟨a3, d3, bz, rfl, rfl, (show (Lit.int .i64 p).wf = true from wf_of_bd (by omega)), hlz⟩
            refine step_append_Item hF5.g0 (row := [.int .i64 p, .slice a3 zs.length d3]) (x := ⟨p, zs⟩) (bl := bz) hl5 (fun c hc e => by have h1 := hbz5 c hc; have h2 := hv0 c e; omega) rfl _ _ rfl rfl rfl (by omega) (by omega) ?_
            rintro g6 cp6 w6 hG6 hb6 hE6 hl6 hz6 hor6
            refine hK.out _ _ (hX5.ext hE6 (fun e => by have := hv0 _ e; omega)) (fun hHeld => ?_)
            clear hK K
            try simp only [Act.put, List.setIfInBounds_toArray, List.set_cons_zero, List.set_cons_succ]
            refine wpAnyH_take (i := 15) (oi := { dst := some 30, op := Go.Op.indexAddr 25 (Go.Operand.tmp 16) (Go.Operand.const (Go.Value.int Go.IntKind.i64 0)), type := 0, pos := "l07_ivf.go:181", after := #[{ on := 1, ground := Go.Ground.data }, { on := 0, ground := Go.Ground.phase }, { on := 1, ground := Go.Ground.phase }, { on := 2, ground := Go.Ground.phase }, { on := 3, ground := Go.Ground.phase }, { on := 4, ground := Go.Ground.phase }, { on := 5, ground := Go.Ground.phase }, { on := 6, ground := Go.Ground.phase }, { on := 7, ground := Go.Ground.phase }, { on := 8, ground := Go.Ground.phase }, { on := 9, ground := Go.Ground.phase }, { on := 10, ground := Go.Ground.phase }, { on := 11, ground := Go.Ground.phase }, { on := 12, ground := Go.Ground.phase }, { on := 13, ground := Go.Ground.phase }, { on := 14, ground := Go.Ground.phase }], guard := none }) (v := ?vb15_25) rfl (by kernel_rfl) (by kernel_rfl) (by kernel_rfl) (fun _ _ _ h => h) (Or.inl ⟨by rfl, ?hb15_25⟩) hHeld ?rb15_25
            case hb15_25 =>
              intro wS hSw
              have y1 : (0 : Int) < ((lr.length + 1 : Nat) : Int) := by omega
              (try dsimp only at hSw)
              go_simp
              try with_reducible rfl
            case rb15_25 =>
            simp only [Act.put, List.setIfInBounds_toArray, List.set_cons_zero, List.set_cons_succ]
            refine wpAnyH_take (i := 16) (oi := { dst := some 31, op := Go.Op.fieldAddr 91 (Go.Operand.tmp 30) 0, type := 0, pos := "l07_ivf.go:181", after := #[{ on := 15, ground := Go.Ground.data }, { on := 0, ground := Go.Ground.phase }, { on := 1, ground := Go.Ground.phase }, { on := 2, ground := Go.Ground.phase }, { on := 3, ground := Go.Ground.phase }, { on := 4, ground := Go.Ground.phase }, { on := 5, ground := Go.Ground.phase }, { on := 6, ground := Go.Ground.phase }, { on := 7, ground := Go.Ground.phase }, { on := 8, ground := Go.Ground.phase }, { on := 9, ground := Go.Ground.phase }, { on := 10, ground := Go.Ground.phase }, { on := 11, ground := Go.Ground.phase }, { on := 12, ground := Go.Ground.phase }, { on := 13, ground := Go.Ground.phase }, { on := 14, ground := Go.Ground.phase }], guard := none }) (v := ?vb16_26) rfl (by kernel_rfl) (by kernel_rfl) (by kernel_rfl) (fun _ _ _ h => h) (Or.inl ⟨by rfl, ?hb16_26⟩) hHeld ?rb16_26
            case hb16_26 =>
              intro wS hSw
              (try dsimp only at hSw)
              go_simp
              try with_reducible rfl
            case rb16_26 =>
            simp only [Act.put, List.setIfInBounds_toArray, List.set_cons_zero, List.set_cons_succ]
            refine wpAnyH_ready (rs := [17]) (by kernel_rfl) (by simp) ?_
            refine AllReadyH.cons (o := { dst := none, op := Go.Op.store 35 (Go.Operand.tmp 31) (Go.Operand.tmp 29), type := 0, pos := "l07_ivf.go:181", after := #[{ on := 16, ground := Go.Ground.data }, { on := 14, ground := Go.Ground.data }, { on := 14, ground := Go.Ground.chain }, { on := 0, ground := Go.Ground.phase }, { on := 1, ground := Go.Ground.phase }, { on := 2, ground := Go.Ground.phase }, { on := 3, ground := Go.Ground.phase }, { on := 4, ground := Go.Ground.phase }, { on := 5, ground := Go.Ground.phase }, { on := 6, ground := Go.Ground.phase }, { on := 7, ground := Go.Ground.phase }, { on := 8, ground := Go.Ground.phase }, { on := 9, ground := Go.Ground.phase }, { on := 10, ground := Go.Ground.phase }, { on := 11, ground := Go.Ground.phase }, { on := 12, ground := Go.Ground.phase }, { on := 13, ground := Go.Ground.phase }, { on := 14, ground := Go.Ground.phase }], guard := none }) rfl (fun K hK => ?_) AllReadyH.nil
            obtain ⟨y7, f7, k7⟩ := hF5.after hE6
            go_simp
            refine hK.out _ _ (hHeld.other _ _ (by show w2.heap.size ≠ gl; omega)) (fun hHeld => ?_)
            clear hK K
            try simp only [Act.put, List.setIfInBounds_toArray, List.set_cons_zero, List.set_cons_succ]
            refine wpAnyH_done (by kernel_rfl) ?_ _
            refine NoPanic.normal ?_
            have HP := hide ((hF5.put hE6 hG6 hor6 (fun c hc => by have h1 := hbz5 c hc; exact ⟨by omega, by omega⟩) (by omega) (by omega) (by omega)).mono (show z.heap.size + 1 ≤ w.heap.size by omega) (Nat.le_refl _))
            have e7 : Ext (fun c => c = gl) w6 (w6.setCell ⟨gl, 0, none⟩ (.slice (some ⟨g6, 0, none⟩) (l0.items.length + 1) cp6)) := (Ext.refl (fun c => c = gl) w6).setCell ⟨gl, 0, none⟩ _ rfl
            have e57 : Ext (fun c => (Value.slice a0 l0.items.length c0).ownBlock = some c ∨ c = gl) w5 (w6.setCell ⟨gl, 0, none⟩ (.slice (some ⟨g6, 0, none⟩) (l0.items.length + 1) cp6)) := (hE6.mono (fun c _ h => Or.inl h)).trans (e7.mono (fun c _ h => Or.inr h))
            have hv1 : ∀ c, c < w.heap.size → ¬ ((Value.slice a0 l0.items.length c0).ownBlock = some c ∨ c = gl) := fun c hc h => by
              rcases h with h | h
              · have := (hF5.g0.own.lt c h).1; omega
              · have := hF5.glt.1; omega
            have hXq : Box w2.heap.size #[.slice a8 cs.length c8, .slice (some ⟨gl, 0, none⟩) (lr.length + 1) c9] 27 (w6.setCell ⟨gl, 0, none⟩ (.slice (some ⟨g6, 0, none⟩) (l0.items.length + 1) cp6)) w2.heap.size := hHeld
            have hRq := ((hRD.ext hE4 (by omega)).grownB g5 (by omega)).ext e57 (hv1 _ (by omega))
            have hSq := src_ext s5 e57 (hv1 _ (by omega))
            have hCq := code_ext c5 e57 (by omega) (fun k hk => hv1 k (by omega))
            have hGq := grown_ext (grown_trans (grown_ext hGD (ext_of_below nb8 nowhere) (fun _ _ h => h)) (grown_trans g4 g5)) e57 (fun k hk => hv1 k (by omega))
            clear hF5 hF4 hFD hE6 hG6 hor6 e7 e57 hv1 hRD hSD hCD hGD s4 c4 g4 s5 c5 g5 hE4 hHeld hX5 hNI hlz hbz5 hl5 hb6 L9 L11 nb8
            have x0 : (w6.setCell ⟨gl, 0, none⟩ (.slice (some ⟨g6, 0, none⟩) (l0.items.length + 1) cp6)).cell? ⟨w2.heap.size, 0, none⟩ = some (.slice a8 cs.length c8) := hXq.at 0 _ rfl
            have x1 : (w6.setCell ⟨gl, 0, none⟩ (.slice (some ⟨g6, 0, none⟩) (l0.items.length + 1) cp6)).cell? ⟨w2.heap.size, 1, none⟩ = some (.slice (some ⟨gl, 0, none⟩) (lr.length + 1) c9) := hXq.at 1 _ rfl
            have z0 : (w6.setCell ⟨gl, 0, none⟩ (.slice (some ⟨g6, 0, none⟩) (l0.items.length + 1) cp6)).cell? ⟨z.heap.size, 0, none⟩ = some (.slice none 0 0) := hRq.at 0 _ rfl
            have z1 : (w6.setCell ⟨gl, 0, none⟩ (.slice (some ⟨g6, 0, none⟩) (l0.items.length + 1) cp6)).cell? ⟨z.heap.size, 1, none⟩ = some (.slice none 0 0) := hRq.at 1 _ rfl
            have f0 := hRq.soft 0
            have f1 := hRq.soft 1
            have l0 := hRq.lt
            have HSq := hide hSq
            have HCq := hide hCq
            have HGq := hide hGq
            clear hSq hCq hGq hXq hRq
            go_wp2_with fail
            refine bodyPost_ret (v := .agg #[.slice a8 cs.length c8, .slice (some ⟨gl, 0, none⟩) (lr.length + 1) c9]) (by simp [results, Tryz.results82, go_sem, z0, z1]) rfl ?_
            refine bent_end hbz (unhide HP) (unhide HSq) (by omega) (unhide HCq) (unhide HGq)
  · obtain ⟨l0, lr, rfl⟩ : ∃ l0 lr, ls = l0 :: lr := by
      have := unhide HLL
      cases ls with
      | nil => simp at this; omega
      | cons l0 lr => exact ⟨l0, lr, rfl⟩
    have hll : lr.length ≤ 3 := by
      have h9 : lr.length + 1 = cs.length := by simpa using unhide HLL
      omega
    have hil : l0.items.length ≤ 11 := by have := unhide HIL l0 (by simp); omega
    obtain ⟨gl, rowsC, blsC, rowsL, blsL, v0, rows0, bls0, rfl, -, hF2⟩ := (unhide HT).fst
    have hzw := unhide HZW
    have hcap := hF2.cap
    by_cases h1c : c9 = 1
    · subst h1c
      obtain rfl : lr = [] := List.eq_nil_of_length_eq_zero (by omega)
      have hT2 : (Lay.sl Lay.tIvfList).LiesIn w2 [.slice (some ⟨gl, 0, none⟩) 0 0] [] w.heap.size w2.heap.size := ⟨[], ⟨some ⟨gl, 0, none⟩, 0, rfl, ⟨by simp, by simp⟩, Or.inl ⟨rfl, rfl⟩⟩, by simp⟩
      have hC2 : (Lay.sl Lay.tCenter).LiesIn w2 [.slice a8 cs.length c8] cs w.heap.size w2.heap.size := hF2.gC.toLies (by omega) hF2.sC
      have e4 : Ext (fun c => c = w2.heap.size) w3 (w3.setCell ⟨w2.heap.size, 1, none⟩ (.slice (some ⟨gl, 0, none⟩) 0 0)) := (Ext.refl (fun c => c = w2.heap.size) w3).setCell ⟨w2.heap.size, 1, none⟩ _ rfl
      have hL7 := (hT2.ext (unhide HE) (fun k h1 h2 e => by omega)).ext e4 (fun k h1 h2 e => by omega)
      have hC7 := (hC2.ext (unhide HE) (fun k h1 h2 e => by omega)).ext e4 (fun k h1 h2 e => by omega)
      have HP : Hid (Lay.tIvf.LiesIn (w3.setCell ⟨w2.heap.size, 1, none⟩ (.slice (some ⟨gl, 0, none⟩) 0 0)) [.slice a8 cs.length c8, .slice (some ⟨gl, 0, none⟩) 0 0] ⟨cs, []⟩ (z.heap.size + 1) (w3.setCell ⟨w2.heap.size, 1, none⟩ (.slice (some ⟨gl, 0, none⟩) 0 0)).heap.size) := ivf_lies (hC7.mono (by omega) (by have := e4.size; omega)) (hL7.mono (by omega) (by have := e4.size; omega))
      have hX3 : Box w2.heap.size #[.slice a8 cs.length c8, .slice (some ⟨gl, 0, none⟩) 1 1] 27 w3 w2.heap.size := unhide HX3
      have y0 : w3.cell? ⟨w2.heap.size, 1, none⟩ = some (.slice (some ⟨gl, 0, none⟩) 1 1) := hX3.at 1 _ rfl
      have g0 := hX3.soft 1
      have k0 := hX3.lt
      have hXq : Box w2.heap.size #[.slice a8 cs.length c8, .slice (some ⟨gl, 0, none⟩) 0 0] 27 (w3.setCell ⟨w2.heap.size, 1, none⟩ (.slice (some ⟨gl, 0, none⟩) 0 0)) w2.heap.size := hX3.set 1 _
      have hRq := (unhide HR3).ext e4 (by omega)
      have hSq := src_ext (unhide HS3) e4 (by omega)
      have hCq := code_ext (unhide HC3) e4 (by omega) (fun k hk e => by omega)
      have hGq := grown_ext (unhide HG3) e4 (fun k hk e => by omega)
      clear HX3 HR3 HS3 HC3 HG3 HT3 HT HE hzw hL7 hC7 hT2 hC2 hF2 e4 hX3
      have x0 : (w3.setCell ⟨w2.heap.size, 1, none⟩ (.slice (some ⟨gl, 0, none⟩) 0 0)).cell? ⟨w2.heap.size, 0, none⟩ = some (.slice a8 cs.length c8) := hXq.at 0 _ rfl
      have x1 : (w3.setCell ⟨w2.heap.size, 1, none⟩ (.slice (some ⟨gl, 0, none⟩) 0 0)).cell? ⟨w2.heap.size, 1, none⟩ = some (.slice (some ⟨gl, 0, none⟩) 0 0) := hXq.at 1 _ rfl
      have z0 : (w3.setCell ⟨w2.heap.size, 1, none⟩ (.slice (some ⟨gl, 0, none⟩) 0 0)).cell? ⟨z.heap.size, 0, none⟩ = some (.slice none 0 0) := hRq.at 0 _ rfl
      have z1 : (w3.setCell ⟨w2.heap.size, 1, none⟩ (.slice (some ⟨gl, 0, none⟩) 0 0)).cell? ⟨z.heap.size, 1, none⟩ = some (.slice none 0 0) := hRq.at 1 _ rfl
      have f0 := hRq.soft 0
      have f1 := hRq.soft 1
      have l0 := hRq.lt
      have HSq := hide hSq
      have HCq := hide hCq
      have HGq := hide hGq
      clear hSq hCq hGq hXq hRq
      go_wp2_with fail
      refine bodyPost_ret (v := .agg #[.slice a8 cs.length c8, .slice (some ⟨gl, 0, none⟩) 0 0]) (by simp [results, Tryz.results82, go_sem, z0, z1]) rfl ?_
      refine bent_end hbz (unhide HP) (unhide HSq) (by omega) (unhide HCq) (unhide HGq)
    · have h2c : c9 - 1 ≠ 0 := by omega
      have hT2 : (Lay.sl Lay.tIvfList).LiesIn w2 [.slice (some ⟨gl, 1, none⟩) lr.length (c9 - 1)] lr w.heap.size w2.heap.size := lists_tail hF2.gL (by omega) hF2.cap hF2.sL
      have hC2 : (Lay.sl Lay.tCenter).LiesIn w2 [.slice a8 cs.length c8] cs w.heap.size w2.heap.size := hF2.gC.toLies (by omega) hF2.sC
      have e4 : Ext (fun c => c = w2.heap.size) w3 (w3.setCell ⟨w2.heap.size, 1, none⟩ (.slice (some ⟨gl, 1, none⟩) lr.length (c9 - 1))) := (Ext.refl (fun c => c = w2.heap.size) w3).setCell ⟨w2.heap.size, 1, none⟩ _ rfl
      have hL7 := (hT2.ext (unhide HE) (fun k h1 h2 e => by omega)).ext e4 (fun k h1 h2 e => by omega)
      have hC7 := (hC2.ext (unhide HE) (fun k h1 h2 e => by omega)).ext e4 (fun k h1 h2 e => by omega)
      have HP : Hid (Lay.tIvf.LiesIn (w3.setCell ⟨w2.heap.size, 1, none⟩ (.slice (some ⟨gl, 1, none⟩) lr.length (c9 - 1))) [.slice a8 cs.length c8, .slice (some ⟨gl, 1, none⟩) lr.length (c9 - 1)] ⟨cs, lr⟩ (z.heap.size + 1) (w3.setCell ⟨w2.heap.size, 1, none⟩ (.slice (some ⟨gl, 1, none⟩) lr.length (c9 - 1))).heap.size) := ivf_lies (hC7.mono (by omega) (by have := e4.size; omega)) (hL7.mono (by omega) (by have := e4.size; omega))
      have hX3 : Box w2.heap.size #[.slice a8 cs.length c8, .slice (some ⟨gl, 0, none⟩) (lr.length + 1) c9] 27 w3 w2.heap.size := unhide HX3
      have y0 : w3.cell? ⟨w2.heap.size, 1, none⟩ = some (.slice (some ⟨gl, 0, none⟩) (lr.length + 1) c9) := hX3.at 1 _ rfl
      have g0 := hX3.soft 1
      have k0 := hX3.lt
      have hXq : Box w2.heap.size #[.slice a8 cs.length c8, .slice (some ⟨gl, 1, none⟩) lr.length (c9 - 1)] 27 (w3.setCell ⟨w2.heap.size, 1, none⟩ (.slice (some ⟨gl, 1, none⟩) lr.length (c9 - 1))) w2.heap.size := hX3.set 1 _
      have hRq := (unhide HR3).ext e4 (by omega)
      have hSq := src_ext (unhide HS3) e4 (by omega)
      have hCq := code_ext (unhide HC3) e4 (by omega) (fun k hk e => by omega)
      have hGq := grown_ext (unhide HG3) e4 (fun k hk e => by omega)
      clear HX3 HR3 HS3 HC3 HG3 HT3 HT HE hzw hL7 hC7 hT2 hC2 hF2 e4 hX3
      have x0 : (w3.setCell ⟨w2.heap.size, 1, none⟩ (.slice (some ⟨gl, 1, none⟩) lr.length (c9 - 1))).cell? ⟨w2.heap.size, 0, none⟩ = some (.slice a8 cs.length c8) := hXq.at 0 _ rfl
      have x1 : (w3.setCell ⟨w2.heap.size, 1, none⟩ (.slice (some ⟨gl, 1, none⟩) lr.length (c9 - 1))).cell? ⟨w2.heap.size, 1, none⟩ = some (.slice (some ⟨gl, 1, none⟩) lr.length (c9 - 1)) := hXq.at 1 _ rfl
      have z0 : (w3.setCell ⟨w2.heap.size, 1, none⟩ (.slice (some ⟨gl, 1, none⟩) lr.length (c9 - 1))).cell? ⟨z.heap.size, 0, none⟩ = some (.slice none 0 0) := hRq.at 0 _ rfl
      have z1 : (w3.setCell ⟨w2.heap.size, 1, none⟩ (.slice (some ⟨gl, 1, none⟩) lr.length (c9 - 1))).cell? ⟨z.heap.size, 1, none⟩ = some (.slice none 0 0) := hRq.at 1 _ rfl
      have f0 := hRq.soft 0
      have f1 := hRq.soft 1
      have l0 := hRq.lt
      have HSq := hide hSq
      have HCq := hide hCq
      have HGq := hide hGq
      clear hSq hCq hGq hXq hRq
      go_wp2_with fail
      refine bodyPost_ret (v := .agg #[.slice a8 cs.length c8, .slice (some ⟨gl, 1, none⟩) lr.length (c9 - 1)]) (by simp [results, Tryz.results82, go_sem, z0, z1]) rfl ?_
      refine bent_end hbz (unhide HP) (unhide HSq) (by omega) (unhide HCq) (unhide HGq)
  · have d0 : ((q : Int) == 0) = false := by rw [beq_eq_false_iff_ne]; omega
    have d1 : ((q : Int) == 1) = false := by rw [beq_eq_false_iff_ne]; omega
    have d2 : ((q : Int) == 2) = false := by rw [beq_eq_false_iff_ne]; omega
    have hzw := unhide HZW
    have hXq := unhide HX3
    have hRq := unhide HR3
    have hSq := unhide HS3
    have hCq := unhide HC3
    have hGq := unhide HG3
    have HP : Hid (Lay.tIvf.LiesIn w3 [.slice a8 cs.length c8, .slice a9 ls.length c9] ⟨cs, ls⟩ (z.heap.size + 1) w3.heap.size) := ((unhide HT3).two.lies (by omega) (by have := unhide HLL; omega)).mono (by omega) (Nat.le_refl _)
    clear HX3 HR3 HS3 HC3 HG3 HT3 HT HE hzw
    have x0 : (w3).cell? ⟨w2.heap.size, 0, none⟩ = some (.slice a8 cs.length c8) := hXq.at 0 _ rfl
    have x1 : (w3).cell? ⟨w2.heap.size, 1, none⟩ = some (.slice a9 ls.length c9) := hXq.at 1 _ rfl
    have z0 : (w3).cell? ⟨z.heap.size, 0, none⟩ = some (.slice none 0 0) := hRq.at 0 _ rfl
    have z1 : (w3).cell? ⟨z.heap.size, 1, none⟩ = some (.slice none 0 0) := hRq.at 1 _ rfl
    have f0 := hRq.soft 0
    have f1 := hRq.soft 1
    have l0 := hRq.lt
    have HSq := hide hSq
    have HCq := hide hCq
    have HGq := hide hGq
    clear hSq hCq hGq hXq hRq
    go_wp2_with fail
    refine bodyPost_ret (v := .agg #[.slice a8 cs.length c8, .slice a9 ls.length c9]) (by simp [results, Tryz.results82, go_sem, z0, z1]) rfl ?_
    refine bent_end hbz (unhide HP) (unhide HSq) (by omega) (unhide HCq) (unhide HGq)

end Go.Proofs.YtggnnbdjihihiaaGreat

namespace Go.Proofs.YtggnnbdjihihiaaGreat
open Go.RowKit

theorem code_upP {b b' : Nat} {w : World} {cv : Value} (h : IsCode b w cv) (hb : b ≤ b') : IsCode b' w cv := by
  obtain ⟨ao, len, cap, e, hl, hc⟩ := h
  refine ⟨ao, len, cap, e, hl, fun hp => ?_⟩
  obtain ⟨d, off, e2, hd, r⟩ := hc hp
  exact ⟨d, off, e2, by omega, r⟩

set_option maxRecDepth 10000 in
set_option maxHeartbeats 2000000 in
theorem draw_ProbesIn (ao : Option Addr) (len cap : Nat) (w : World) (hc : IsCode w.heap.size w (.slice ao len cap)) :
    Calls Tryz.prog 35 #[.slice ao len cap] w fun e w' => ∃ (rc rl : Value) (x : DIvf) (vv : Value) (vec : List Int) (n : Int), e = .returned (.tuple #[.agg #[rc, rl], vv, .int .i64 n]) ∧ Lay.tIvf.LiesIn w' [rc, rl] x w.heap.size w'.heap.size ∧ (Lay.sl Lay.int).LiesIn w' [vv] vec w.heap.size w'.heap.size ∧ vec.length ≤ 4 ∧ (-1 ≤ n ∧ n ≤ 7) ∧ Below w.heap.size w w' := by
  have nz : Below w.heap.size w (w.alloc (.cells #[.slice none 0 0, .slice none 0 0] 27)) := (Below.refl _ _).alloc (Nat.le_refl _) _
  have bR : Box w.heap.size #[.slice none 0 0, .slice none 0 0] 27 (w.alloc (.cells #[.slice none 0 0, .slice none 0 0] 27)) w.heap.size := newBox (Nat.le_refl _)
  have hwz : (w.alloc (.cells #[.slice none 0 0, .slice none 0 0] 27)).heap.size = w.heap.size + 1 := by simp
  have c0 := hc.on (Nat.le_refl _) nz
  have L0 := hide (source ao len cap (w.alloc (.cells #[.slice none 0 0, .slice none 0 0] 27)))
  have HNZ := hide nz
  have HBR := hide bR
  have HC0 := hide c0
  have HWZ := hide hwz
  clear nz bR c0 hc hwz
  go_enter Tryz.func35, Tryz.ntmps35
  go_wp2_with fail
  generalize hwd : w.alloc (.cells #[.slice none 0 0, .slice none 0 0] 27) = z at *
  clear hwd
  refine (unhide L0).mono ?_
  rintro e w1 ⟨rfl, rfl⟩
  have hzw := unhide HWZ
  have s1 := src_new z (.slice ao len cap)
  have nb1 : Below z.heap.size z (z.alloc (.cells #[.slice ao len cap, .int .i64 0] 131)) := (Below.refl _ _).alloc (Nat.le_refl _) _
  have c1 : IsCode z.heap.size (z.alloc (.cells #[.slice ao len cap, .int .i64 0] 131)) (.slice ao len cap) := (code_upP (unhide HC0) (by omega)).on (Nat.le_refl _) nb1
  have hR1 := (unhide HBR).keep nb1
  have hB1 : Below w.heap.size w (z.alloc (.cells #[.slice ao len cap, .int .i64 0] 131)) := (unhide HNZ).trans (nb1.mono (by omega))
  generalize z.alloc (.cells #[.slice ao len cap, .int .i64 0] 131) = w1 at *
  have hlt := s1.lt
  have HL := hide (drawB7 z.heap.size 0 _ w1 s1 c1 (by omega))
  have HR := hide hR1
  have HB := hide hB1
  have hzw1 : z.heap.size ≤ w.heap.size + 1 := by omega
  have hzw2 : w.heap.size + 1 ≤ z.heap.size := by omega
  clear s1 c1 nb1 hR1 hB1 L0 HNZ HBR HC0 HWZ hzw
  go_wp2_with fail
  refine (unhide HL).mono ?_
  rintro e w2 ⟨rc, rl, x, m', rfl, hX, s2, hm', c2, g2⟩
  have hXf := hX
  obtain ⟨blf, hXf, -⟩ := hXf
  obtain ⟨a8, c8, -, a9, c9, -, ef, -⟩ := lies_Ivf.1 hXf
  obtain ⟨rfl, rfl⟩ : rc = .slice a8 x.centers.length c8 ∧ rl = .slice a9 x.lists.length c9 := by simpa using ef
  clear hXf ef
  replace HR := hide ((unhide HR).grownB g2 (by omega))
  replace HB := hide ((unhide HB).grown g2 (by omega) (fun k hk => by simp at hk; omega))
  have hz2 := g2.size
  have HX := hide hX
  clear hX g2 HL
  have L3 := hide (bent z.heap.size m' _ w2 s2 c2 (by omega))
  clear s2 c2
  go_wp2_with fail
  refine (unhide L3).mono ?_
  rintro e w3 ⟨v3, zs, m3, rfl, hzs, hNI, hm3, s3, c3, g3⟩
  replace HX := hide ((unhide HX).ext (ext_grown g3) (fun k h1 h2 e => by omega))
  replace HR := hide ((unhide HR).grownB g3 (by omega))
  replace HB := hide ((unhide HB).grown g3 (unhide HB).size (fun k hk => by simp at hk; omega))
  have hz3 := g3.size
  obtain ⟨bz, hlz, hbz5⟩ := hNI.lies (by omega)
  obtain ⟨a3, d3, rfl⟩ := open_sl ⟨bz, hlz⟩
  have HV : Hid ((Lay.sl Lay.int).LiesIn w3 [.slice a3 zs.length d3] zs (z.heap.size + 1) w3.heap.size) := ⟨bz, hlz, fun c hc => ⟨by have := hbz5 c hc; omega, Lay.lt _ hlz c hc⟩⟩
  clear hNI hlz hbz5
  clear g3 L3
  have L4 := hide (next z.heap.size m3 _ 7 w3 s3 c3 (by omega) (by omega) (by omega))
  clear s3 c3
  go_wp2_with fail
  refine (unhide L4).mono ?_
  rintro e w4 ⟨q, rfl, hq, s4, c4, g4⟩
  replace HX := hide ((unhide HX).ext (ext_grown g4) (fun k h1 h2 e => by omega))
  replace HR := hide ((unhide HR).grownB g4 (by omega))
  replace HB := hide ((unhide HB).grown g4 (unhide HB).size (fun k hk => by simp at hk; omega))
  have hz4 := g4.size
  replace HV := hide ((unhide HV).ext (ext_grown g4) (fun k h1 h2 e => by omega))
  clear g4 L4
  have nb5 : Below w4.heap.size w4 (w4.alloc (.cells #[.int .i64 1, .int .i64 2, .int .i64 (q : Int), .int .i64 6, .int .i64 7, .int .i64 (-1)] 2)) := (Below.refl _ _).alloc (Nat.le_refl _) _
  have hg5 := heap_alloc_new w4 (.cells #[.int .i64 1, .int .i64 2, .int .i64 (q : Int), .int .i64 6, .int .i64 7, .int .i64 (-1)] 2)
  replace HX := hide ((unhide HX).later nb5)
  replace HV := hide ((unhide HV).later nb5)
  replace HR := hide ((unhide HR).keep nb5)
  replace HB := hide ((unhide HB).trans (nb5.mono (unhide HB).size))
  have L6 := hide (pick z.heap.size (m3 + 1) w4.heap.size _ [1, 2, (q : Int), 6, 7, -1] _ (s4.on nb5) (c4.on (by omega) nb5) (by omega) (by simp) (by simp) hg5 (by omega))
  have hz5 := nb5.size
  clear s4 c4 nb5 hg5
  go_wp2_with fail
  refine (unhide L6).mono ?_
  generalize w4.alloc (.cells #[.int .i64 1, .int .i64 2, .int .i64 (q : Int), .int .i64 6, .int .i64 7, .int .i64 (-1)] 2) = W5 at *
  rintro e w6 ⟨p, rfl, hp, s6, c6, g6⟩
  have hpb : -1 ≤ p ∧ p ≤ 7 := by
    simp only [List.mem_cons, List.not_mem_nil, or_false] at hp
    omega
  replace HX := hide ((unhide HX).ext (ext_grown g6) (fun k h1 h2 e => by omega))
  replace HV := hide ((unhide HV).ext (ext_grown g6) (fun k h1 h2 e => by omega))
  replace HR := hide ((unhide HR).grownB g6 (by omega))
  replace HB := hide ((unhide HB).grown g6 (unhide HB).size (fun k hk => by simp at hk; omega))
  have hz6 := g6.size
  clear g6 L6 hp s6 c6
  have hRq := unhide HR
  have z0 : w6.cell? ⟨w.heap.size, 0, none⟩ = some (.slice none 0 0) := hRq.at 0 _ rfl
  have z1 : w6.cell? ⟨w.heap.size, 1, none⟩ = some (.slice none 0 0) := hRq.at 1 _ rfl
  have f0 := hRq.soft 0
  have f1 := hRq.soft 1
  have l0 := hRq.lt
  have HE9 : Hid (Ext (fun c => c = w.heap.size) w6 ((w6.setCell ⟨w.heap.size, 0, none⟩ (.slice a8 x.centers.length c8)).setCell ⟨w.heap.size, 1, none⟩ (.slice a9 x.lists.length c9))) := ((Ext.refl (fun c => c = w.heap.size) _).setCell ⟨w.heap.size, 0, none⟩ _ rfl).setCell ⟨w.heap.size, 1, none⟩ _ rfl
  clear hRq
  go_wp2_with fail
  refine bodyPost_ret (v := .tuple #[.agg #[.slice a8 x.centers.length c8, .slice a9 x.lists.length c9], .slice a3 zs.length d3, .int .i64 p]) (by simp [results, Tryz.results35, go_sem, z0, z1]) rfl ?_
  have hE := unhide HE9
  have hX9 := ((unhide HX).ext hE (fun k h1 h2 e => by omega)).mono (lo' := w.heap.size) (by omega) (Nat.le_trans (m := w6.heap.size) (by omega) hE.size)
  have hV9 := ((unhide HV).ext hE (fun k h1 h2 e => by omega)).mono (lo' := w.heap.size) (by omega) (Nat.le_trans (m := w6.heap.size) (by omega) hE.size)
  have hB9 : Below w.heap.size w _ := (unhide HB).trans (hE.below (unhide HB).size (fun k hk e => by omega))
  exact ⟨_, _, x, _, zs, p, rfl, hX9, hV9, hzs, hpb, hB9⟩

theorem draw_DrawProbesOf (ao : Option Addr) (len cap : Nat) (w : World) (hc : IsCode w.heap.size w (.slice ao len cap)) :
    Calls Tryz.prog 35 #[.slice ao len cap] w fun e w' => ∃ (rc rl : Value) (x : DIvf) (vv : Value) (vec : List Int) (n : Int), e = .returned (.tuple #[.agg #[rc, rl], vv, .int .i64 n]) ∧ Lay.tIvf.Reads w' [rc, rl] x ∧ (Lay.sl Lay.int).Reads w' [vv] vec ∧ vec.length ≤ 4 ∧ (-1 ≤ n ∧ n ≤ 7) ∧ Below w.heap.size w w' := by
  refine (draw_ProbesIn ao len cap w hc).mono ?_
  rintro e w' ⟨rc, rl, x, vv, vec, n, rfl, h1, h2, h3⟩
  exact ⟨rc, rl, x, vv, vec, n, rfl, h1.reads, h2.reads, h3⟩

end Go.Proofs.YtggnnbdjihihiaaGreat

namespace Go.Proofs.YtggnnbdjihihiaaGreat
open Go.RowKit

set_option maxHeartbeats 400000 in
theorem drawK (b m : Nat) (cv : Value) (w : World) (hs : SrcAt w b cv m) (hc : IsCode b w cv) (hm : m ≤ 100000000) :
    Calls Tryz.prog 36 #[.pointer (some ⟨b, 0, none⟩)] w fun e w' => ∃ k : Int, e = .returned (.int .i64 k) ∧ (Lit.int .i64 k).wf = true ∧ SrcAt w' b cv (m + 3) ∧ IsCode b w' cv ∧ w.grownBy w' (some b) := by
  have hbw := hs.lt
  go_enter Tryz.func36, Tryz.ntmps36
  go_wp2_with fail
  refine (next b m cv 9 _ hs hc (by omega) (by omega) (by omega)).mono ?_
  rintro e w1 ⟨x, rfl, hx, s1, c1, g1⟩
  clear hs hc
  go_wp2_with fail
  refine (next b (m + 1) cv 21 _ s1 c1 (by omega) (by omega) (by omega)).mono ?_
  rintro e w2 ⟨y, rfl, hy, s2, c2, g2⟩
  have hz2 : b < w2.heap.size := s2.lt
  have G2 := hide (grown_trans g1 g2)
  clear g1 g2 s1 c1
  go_wp2_with fail
  have e := pick b (m + 1 + 1) w2.heap.size cv [3, (x : Int), (y : Int), 20, 21, -1] (w2.alloc (.cells #[.int .i64 3, .int .i64 (x : Int), .int .i64 (y : Int), .int .i64 20, .int .i64 21, .int .i64 (-1)] 2)) (s2.alloc _) (c2.alloc (by omega) _) (by omega) (by simp) (by simp) (heap_alloc_new w2 _) (by omega)
  refine e.mono ?_
  clear e
  rintro e w3 ⟨r, rfl, hr, s3, c3, g3⟩
  have hrr : -1000000000 ≤ r ∧ r ≤ 1000000000 := by
    simp at hr
    omega
  have G3 := hide (grown_trans (grown_trans (unhide G2) (World.grownBy_alloc w2 (.cells #[.int .i64 3, .int .i64 (x : Int), .int .i64 (y : Int), .int .i64 20, .int .i64 21, .int .i64 (-1)] 2) _)) g3)
  have S3 := hide s3
  have C3 := hide c3
  have HR := hide hrr
  clear g3 s3 c3 s2 c2 G2 hr hrr
  go_wp2_with fail
  go_ret
  exact ⟨r, rfl, wf_of_bd (unhide HR), unhide S3, unhide C3, unhide G3⟩

end Go.Proofs.YtggnnbdjihihiaaGreat

namespace Go.Proofs.YtggnnbdjihihiaaGreat
open Go.RowKit

theorem later8 (ao : Option Addr) (len cap : Nat) (w : World) :
    Calls Tryz.prog 37 #[.slice ao len cap, .int .i64 8] w fun e w' => e = .returned (.pointer (some ⟨w.heap.size, 0, none⟩)) ∧ SrcAt w' w.heap.size (.slice ao len cap) 61 ∧ Below w.heap.size w w' := by
  have h1 : SrcAt (w.alloc (.cells #[.slice ao len cap, .int .i64 61] 131)) w.heap.size (.slice ao len cap) 61 := heap_alloc_new w _
  have h2 : Below w.heap.size w (w.alloc (.cells #[.slice ao len cap, .int .i64 61] 131)) := (Below.refl _ _).alloc (Nat.le_refl _) _
  have H1 := hide h1
  have H2 := hide h2
  clear h1 h2
  go_enter Tryz.func37, Tryz.ntmps37
  go_wp2
  go_ret
  exact ⟨rfl, unhide H1, unhide H2⟩

set_option maxRecDepth 100000 in
set_option maxHeartbeats 4000000 in
theorem drawSI (ao : Option Addr) (len cap : Nat) (w : World) (hc : IsCode w.heap.size w (.slice ao len cap)) :
    Calls Tryz.prog 8 #[.slice ao len cap] w fun e w' => ∃ (rc rl : Value) (x : DIvf) (vv : Value) (vec : List Int) (k n : Int), e = .returned (.tuple #[.agg #[rc, rl], vv, .int .i64 k, .int .i64 n]) ∧ Lay.tIvf.Reads w' [rc, rl] x ∧ (Lay.sl Lay.int).Reads w' [vv] vec ∧ vec.length ≤ 4 ∧ Below w.heap.size w w' := by
  have nb0 : Below w.heap.size w (w.alloc (.cells #[.slice none 0 0, .slice none 0 0] 27)) := (Below.refl _ _).alloc (Nat.le_refl _) _
  have bR : Box 0 #[.slice none 0 0, .slice none 0 0] 27 (w.alloc (.cells #[.slice none 0 0, .slice none 0 0] 27)) w.heap.size := newBox (Nat.zero_le _)
  have hz0 : (w.alloc (.cells #[.slice none 0 0, .slice none 0 0] 27)).heap.size = w.heap.size + 1 := by simp
  have hC0 := hc.later nb0
  have HL0 := hide (draw_ProbesIn ao len cap (w.alloc (.cells #[.slice none 0 0, .slice none 0 0] 27)) (code_upP hC0 nb0.size))
  have HC := hide hC0
  have HR := hide bR
  have HB := hide nb0
  have HZ := hide hz0
  clear nb0 bR hC0 hc hz0
  go_enter Tryz.func8, Tryz.ntmps8
  go_wp2_with fail
  generalize w.alloc (.cells #[.slice none 0 0, .slice none 0 0] 27) = W0 at *
  refine (unhide HL0).mono ?_
  rintro e w1 ⟨rc, rl, x, vv, vec, n, rfl, hX, hV, hvl, -, hb1⟩
  obtain ⟨a8, c8, a9, c9, ef, -⟩ := open_Ivf hX.reads
  obtain ⟨rfl, rfl⟩ : rc = .slice a8 x.centers.length c8 ∧ rl = .slice a9 x.lists.length c9 := by simpa using ef
  obtain ⟨a3, d3, rfl⟩ := open_sl hV.reads
  clear ef HL0
  have nb3 : Below w1.heap.size w1 (w1.alloc (.cells #[.slice a8 x.centers.length c8, .slice a9 x.lists.length c9] 27)) := (Below.refl _ _).alloc (Nat.le_refl _) _
  have bL : Box 0 #[.slice a8 x.centers.length c8, .slice a9 x.lists.length c9] 27 (w1.alloc (.cells #[.slice a8 x.centers.length c8, .slice a9 x.lists.length c9] 27)) w1.heap.size := newBox (Nat.zero_le _)
  have hz3 : w1.heap.size < (w1.alloc (.cells #[.slice a8 x.centers.length c8, .slice a9 x.lists.length c9] 27)).heap.size := by simp
  have hz1 := unhide HZ
  have hz2 := hb1.size
  have HL := hide bL
  have HX := hide (hX.later nb3)
  have HV := hide (hV.later nb3)
  replace HR := hide (((unhide HR).keep hb1).keep nb3)
  replace HC := hide (((unhide HC).later (hb1.mono (unhide HB).size)).later (nb3.mono (by omega)))
  replace HB := hide (((unhide HB).trans (hb1.mono (unhide HB).size)).trans (nb3.mono (by omega)))
  have l1 := bL.at 0 _ rfl
  have l2 := bL.at 1 _ rfl
  have ll := bL.lt
  simp only [List.getElem_toArray, List.getElem_cons_zero, List.getElem_cons_succ] at l1 l2
  have hq1 : w.heap.size < w1.heap.size := by omega
  have hq2 : w.heap.size < W0.heap.size := by omega
  clear bL hX hV nb3 hb1 hz1 hz2 HZ
  go_wp2_with fail
  clear l1 l2 ll
  generalize w1.alloc (.cells #[.slice a8 x.centers.length c8, .slice a9 x.lists.length c9] 27) = W3 at *
  have hwW : w.heap.size ≤ W3.heap.size := by omega
  have hRD : Box 0 #[.slice none 0 0, .slice none 0 0] 27 W3.drew w.heap.size := (unhide HR).drew
  have hCD : IsCode w.heap.size W3.drew (.slice ao len cap) := unhide HC
  refine wp_region_noPanic ?_
  refine wp_region_held_drew (S := fun w' => Ext (fun q => q = w.heap.size ∨ W3.heap.size ≤ q) W3 w') (by kernel_rfl) ⟨rfl, rfl, rfl, Nat.le_refl _, fun _ _ _ => rfl⟩ (fun hHeld => ?_)
  generalize W3.drew = wD at hHeld hRD hCD ⊢
  refine wpAnyH_take (i := 0) (oi := { dst := some 15, op := Go.Op.load 27 (Go.Operand.tmp 6), type := 27, pos := "l07_ivf.go:211", after := #[], guard := none }) (v := ?v0_1) rfl (by kernel_rfl) (by kernel_rfl) (by kernel_rfl) (fun _ _ _ h => h) (Or.inl ⟨by rfl, ?h0_1⟩) hHeld ?r0_1
  case h0_1 =>
    intro wS hSw
    have y0 := ((unhide HL).ext hSw (by omega)).at 0 _ rfl
    have y1 := ((unhide HL).ext hSw (by omega)).at 1 _ rfl
    simp only [List.getElem_toArray, List.getElem_cons_zero, List.getElem_cons_succ] at y0 y1
    clear hSw
    (try dsimp only at hSw)
    go_simp
    try with_reducible rfl
  case r0_1 =>
  simp only [Act.put, List.setIfInBounds_toArray, List.set_cons_zero, List.set_cons_succ]
  refine wpAnyH_take (i := 1) (oi := { dst := some 16, op := Go.Op.move (Go.Operand.tmp 7), type := 28, pos := "l07_ivf.go:211", after := #[{ on := 6, ground := Go.Ground.gcOnly Go.Departure.lateStores }], guard := none }) (v := ?v1_2) rfl (by kernel_rfl) (by kernel_rfl) (by kernel_rfl) (fun _ _ _ h => h) (Or.inl ⟨by rfl, ?h1_2⟩) hHeld ?r1_2
  case h1_2 =>
    intro wS hSw
    (try dsimp only at hSw)
    go_simp
    try with_reducible rfl
  case r1_2 =>
  simp only [Act.put, List.setIfInBounds_toArray, List.set_cons_zero, List.set_cons_succ]
  refine wpAnyH_take (i := 2) (oi := { dst := some 17, op := Go.Op.move (Go.Operand.tmp 0), type := 22, pos := "l07_ivf.go:211", after := #[], guard := none }) (v := ?v2_3) rfl (by kernel_rfl) (by kernel_rfl) (by kernel_rfl) (fun _ _ _ h => h) (Or.inl ⟨by rfl, ?h2_3⟩) hHeld ?r2_3
  case h2_3 =>
    intro wS hSw
    (try dsimp only at hSw)
    go_simp
    try with_reducible rfl
  case r2_3 =>
  simp only [Act.put, List.setIfInBounds_toArray, List.set_cons_zero, List.set_cons_succ]
  refine wpAnyH_take (i := 5) (oi := { dst := some 20, op := Go.Op.move (Go.Operand.tmp 8), type := 2, pos := "l07_ivf.go:211", after := #[{ on := 8, ground := Go.Ground.gcOnly Go.Departure.lateStores }], guard := none }) (v := ?v5_4) rfl (by kernel_rfl) (by kernel_rfl) (by kernel_rfl) (fun _ _ _ h => h) (Or.inl ⟨by rfl, ?h5_4⟩) hHeld ?r5_4
  case h5_4 =>
    intro wS hSw
    (try dsimp only at hSw)
    go_simp
    try with_reducible rfl
  case r5_4 =>
  simp only [Act.put, List.setIfInBounds_toArray, List.set_cons_zero, List.set_cons_succ]
  refine wpAnyH_ready (rs := [3]) (by kernel_rfl) (by simp) ?_
  refine AllReadyH.cons (o := { dst := some 18, op := Go.Op.call { callee := Go.Callee.value (Go.Operand.func 37), args := #[Go.Operand.tmp 17, Go.Operand.const (Go.Value.int Go.IntKind.i64 8)], argTypes := #[22, 2] }, type := 76, pos := "l07_ivf.go:211", after := #[{ on := 2, ground := Go.Ground.data }], guard := none }) rfl (fun K hK => ?_) AllReadyH.nil
  have hz9 := hHeld.size
  go_simp
  go_at_call 37
  refine (later8 ao len cap _).mono ?_
  rintro e w4 ⟨rfl, s4, hb4⟩
  have c4 := (code_upP (hCD) (Nat.le_trans hwW hz9)).later hb4
  have b4 := hRD.keep hb4
  have hS4 := hHeld.trans (ext_of_below hb4 _)
  try go_wp2_with fail
  refine hK.out _ _ hS4 (fun hHeld => ?_)
  clear hK K
  try simp only [Act.put, List.setIfInBounds_toArray, List.set_cons_zero, List.set_cons_succ]
  refine wpAnyH_ready (rs := [4]) (by kernel_rfl) (by simp) ?_
  refine AllReadyH.cons (o := { dst := some 19, op := Go.Op.call { callee := Go.Callee.value (Go.Operand.func 36), args := #[Go.Operand.tmp 18], argTypes := #[76] }, type := 2, pos := "l07_ivf.go:211", after := #[{ on := 3, ground := Go.Ground.data }, { on := 3, ground := Go.Ground.chain }], guard := none }) rfl (fun K hK => ?_) AllReadyH.nil
  go_simp
  go_at_call 36
  refine (drawK _ 61 _ _ s4 c4 (by omega)).mono ?_
  rintro e w5 ⟨k, rfl, -, -, -, g5⟩
  have b5 := b4.ext (ext_grown g5) (by omega)
  have hS5 := hHeld.trans ((ext_grown g5).mono fun k _ h => Or.inr (by omega))
  try go_wp2_with fail
  refine hK.out _ _ hS5 (fun hHeld => ?_)
  clear hK K
  try simp only [Act.put, List.setIfInBounds_toArray, List.set_cons_zero, List.set_cons_succ]
  refine wpAnyH_ready (rs := [6]) (by kernel_rfl) (by simp) ?_
  refine AllReadyH.cons (o := { dst := none, op := Go.Op.store 27 (Go.Operand.tmp 2) (Go.Operand.tmp 15), type := 0, pos := "l07_ivf.go:211", after := #[{ on := 0, ground := Go.Ground.data }, { on := 4, ground := Go.Ground.chain }, { on := 0, ground := Go.Ground.phase }, { on := 1, ground := Go.Ground.textOnly Go.Departure.lateStores }, { on := 2, ground := Go.Ground.textOnly Go.Departure.lateStores }, { on := 3, ground := Go.Ground.textOnly Go.Departure.lateStoresUnsure }, { on := 4, ground := Go.Ground.textOnly Go.Departure.lateStoresUnsure }, { on := 5, ground := Go.Ground.textOnly Go.Departure.lateStores }], guard := none }) rfl (fun K hK => ?_) AllReadyH.nil
  have z0 := b5.at 0 _ rfl
  have z1 := b5.at 1 _ rfl
  have ff := b5.soft
  have l0 := b5.lt
  simp only [List.getElem_toArray, List.getElem_cons_zero, List.getElem_cons_succ] at z0 z1
  have bS := (b5.set 0 (.slice a8 x.centers.length c8)).set 1 (.slice a9 x.lists.length c9)
  simp only [List.setIfInBounds_toArray, List.set_cons_zero, List.set_cons_succ] at bS
  have eS : Ext (fun q => q = w.heap.size) w5 ((w5.setCell ⟨w.heap.size, 0, none⟩ (.slice a8 x.centers.length c8)).setCell ⟨w.heap.size, 1, none⟩ (.slice a9 x.lists.length c9)) := ((Ext.refl (fun q => q = w.heap.size) _).setCell ⟨w.heap.size, 0, none⟩ _ rfl).setCell ⟨w.heap.size, 1, none⟩ _ rfl
  have hSS := hHeld.trans (eS.mono fun q _ h => Or.inl h)
  go_simp
  try go_wp2_with fail
  refine hK.out _ _ hSS (fun hHeld => ?_)
  clear hK K
  try simp only [Act.put, List.setIfInBounds_toArray, List.set_cons_zero, List.set_cons_succ]
  refine wpAnyH_take (i := 7) (oi := { dst := some 3, op := Go.Op.assign (Go.Operand.tmp 16), type := 28, pos := "l07_ivf.go:211", after := #[{ on := 1, ground := Go.Ground.data }, { on := 6, ground := Go.Ground.chain }, { on := 0, ground := Go.Ground.phase }, { on := 1, ground := Go.Ground.phase }, { on := 2, ground := Go.Ground.textOnly Go.Departure.lateStores }, { on := 3, ground := Go.Ground.textOnly Go.Departure.lateStoresUnsure }, { on := 4, ground := Go.Ground.textOnly Go.Departure.lateStoresUnsure }, { on := 5, ground := Go.Ground.textOnly Go.Departure.lateStores }, { on := 6, ground := Go.Ground.phase }], guard := none }) (v := ?v7_5) rfl (by kernel_rfl) (by kernel_rfl) (by kernel_rfl) (fun _ _ _ h => h) (Or.inl ⟨by rfl, ?h7_5⟩) hHeld ?r7_5
  case h7_5 =>
    intro wS hSw
    (try dsimp only at hSw)
    go_simp
    try with_reducible rfl
  case r7_5 =>
  simp only [Act.put, List.setIfInBounds_toArray, List.set_cons_zero, List.set_cons_succ]
  refine wpAnyH_take (i := 8) (oi := { dst := some 4, op := Go.Op.assign (Go.Operand.tmp 19), type := 2, pos := "l07_ivf.go:211", after := #[{ on := 4, ground := Go.Ground.data }, { on := 7, ground := Go.Ground.chain }, { on := 0, ground := Go.Ground.phase }, { on := 1, ground := Go.Ground.phase }, { on := 2, ground := Go.Ground.phase }, { on := 3, ground := Go.Ground.phase }, { on := 4, ground := Go.Ground.phase }, { on := 5, ground := Go.Ground.textOnly Go.Departure.lateStores }, { on := 6, ground := Go.Ground.phase }, { on := 7, ground := Go.Ground.phase }], guard := none }) (v := ?v8_6) rfl (by kernel_rfl) (by kernel_rfl) (by kernel_rfl) (fun _ _ _ h => h) (Or.inl ⟨by rfl, ?h8_6⟩) hHeld ?r8_6
  case h8_6 =>
    intro wS hSw
    (try dsimp only at hSw)
    go_simp
    try with_reducible rfl
  case r8_6 =>
  simp only [Act.put, List.setIfInBounds_toArray, List.set_cons_zero, List.set_cons_succ]
  refine wpAnyH_take (i := 9) (oi := { dst := some 5, op := Go.Op.assign (Go.Operand.tmp 20), type := 2, pos := "l07_ivf.go:211", after := #[{ on := 5, ground := Go.Ground.data }, { on := 8, ground := Go.Ground.chain }, { on := 0, ground := Go.Ground.phase }, { on := 1, ground := Go.Ground.phase }, { on := 2, ground := Go.Ground.phase }, { on := 3, ground := Go.Ground.phase }, { on := 4, ground := Go.Ground.phase }, { on := 5, ground := Go.Ground.phase }, { on := 6, ground := Go.Ground.phase }, { on := 7, ground := Go.Ground.phase }, { on := 8, ground := Go.Ground.phase }], guard := none }) (v := ?v9_7) rfl (by kernel_rfl) (by kernel_rfl) (by kernel_rfl) (fun _ _ _ h => h) (Or.inl ⟨by rfl, ?h9_7⟩) hHeld ?r9_7
  case h9_7 =>
    intro wS hSw
    (try dsimp only at hSw)
    go_simp
    try with_reducible rfl
  case r9_7 =>
  simp only [Act.put, List.setIfInBounds_toArray, List.set_cons_zero, List.set_cons_succ]
  refine wpAnyH_done (by kernel_rfl) ?_ _
  refine NoPanic.normal ?_
  have bF := bS
  have y0 := bF.at 0 _ rfl
  have y1 := bF.at 1 _ rfl
  simp only [List.getElem_toArray, List.getElem_cons_zero, List.getElem_cons_succ] at y0 y1
  have HS9 := hide hHeld
  clear hHeld
  go_wp2_with fail
  refine bodyPost_ret (v := .tuple #[.agg #[.slice a8 x.centers.length c8, .slice a9 x.lists.length c9], .slice a3 vec.length d3, .int .i64 k, .int .i64 n]) (by simp [results, Tryz.results8, go_sem, y0, y1]) rfl ?_
  refine ⟨_, _, x, _, vec, k, n, rfl, ((unhide HX).ext (unhide HS9) (fun q h1 h2 e => by omega)).reads, ((unhide HV).ext (unhide HS9) (fun q h1 h2 e => by omega)).reads, hvl, ?_⟩
  exact (unhide HB).trans ((unhide HS9).below (unhide HB).size (fun q hq e => by have := (unhide HB).size; omega))
end Go.Proofs.YtggnnbdjihihiaaGreat
