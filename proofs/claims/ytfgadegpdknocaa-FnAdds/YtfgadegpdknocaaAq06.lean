/-
  Texts of this proof in one: DrawB7, DrawAdd7, IvfRight, TablesPlain, AddsPlain.
  Their conditions stand in their theorems.
-/
import Derived.Test.YtfgadegpdknocaaAq05
import Derived.Test.YtfgadegpdknocaaAq03
import Derived.Test.YtfgadegpdknocaaAq01

namespace Go.Proofs.Ytfgadegpdknocaa
open Go.RowKit

/-- Some index of the draw's own; the source has gone on. -/
def BentIvf (b m : Nat) (cv : Value) (z : World) (e : Ending) (z' : World) : Prop :=
  ∃ (rc rl : Value) (x : DIvf) (m' : Nat), e = .returned (.agg #[rc, rl]) ∧ Lay.tIvf.LiesIn z' [rc, rl] x z.heap.size z'.heap.size ∧ SrcAt z' b cv m' ∧ m' ≤ m + 1000 ∧ IsCode b z' cv ∧ z.grownBy z' (some b)
theorem Box.grownB {lo b : Nat} {cs : Array Value} {T : TypeId} {W w' : World} {s : Nat} (h : Box lo cs T W s) (g : W.grownBy w' (some b)) (hne : s ≠ b) : Box lo cs T w' s := ⟨h.1, (g.block s h.lt (fun e => hne (Option.some.inj e))).trans h.2⟩
theorem ext_grown {w w' : World} {b : Nat} (g : w.grownBy w' (some b)) : Ext (fun c => c = b) w w' := ⟨g.os, g.tape, g.output, g.size, fun k hk hn => g.block k hk (fun e => hn (Option.some.inj e))⟩
theorem grown_ext {S : Nat → Prop} {z w w' : World} {b : Nat} (g : z.grownBy w (some b)) (e : Ext S w w') (hs : ∀ k, k < z.heap.size → ¬ S k) : z.grownBy w' (some b) :=
  ⟨e.os.trans g.os, e.tape.trans g.tape, e.output.trans g.output, Nat.le_trans g.size e.size, fun k hk hn => (e.block k (Nat.lt_of_lt_of_le hk g.size) (hs k hk)).trans (g.block k hk hn)⟩
theorem src_ext {S : Nat → Prop} {w w' : World} {b m : Nat} {cv : Value} (s : SrcAt w b cv m) (e : Ext S w w') (hs : ¬ S b) : SrcAt w' b cv m := (e.block b s.lt hs).trans s
theorem code_ext {S : Nat → Prop} {w w' : World} {b : Nat} {cv : Value} (c : IsCode b w cv) (e : Ext S w w') (hb : b ≤ w.heap.size) (hs : ∀ k, k < b → ¬ S k) : IsCode b w' cv := c.later (e.below hb (fun k hk => hs k hk))
theorem bent_end {b m m' : Nat} {cv : Value} {z wq : World} {x : DIvf} {vc vl : Value} (hb : b < z.heap.size) (hX : Lay.tIvf.LiesIn wq [vc, vl] x (z.heap.size + 1) wq.heap.size) (s : SrcAt wq b cv m') (hm : m' ≤ m + 1000) (c : IsCode b wq cv) (g : z.grownBy wq (some b)) :
    BentIvf b m cv z (.returned (.agg #[vc, vl])) ((wq.setCell ⟨z.heap.size, 0, none⟩ vc).setCell ⟨z.heap.size, 1, none⟩ vl) := by
  have hE : Ext (fun c => c = z.heap.size) wq ((wq.setCell ⟨z.heap.size, 0, none⟩ vc).setCell ⟨z.heap.size, 1, none⟩ vl) := ((Ext.refl (fun c => c = z.heap.size) _).setCell ⟨z.heap.size, 0, none⟩ _ rfl).setCell ⟨z.heap.size, 1, none⟩ _ rfl
  have hz := g.size
  have hsz := hE.size
  exact ⟨vc, vl, x, m', rfl, (hX.ext hE (fun k h1 h2 e => by omega)).mono (by omega) hsz, src_ext s hE (by omega), hm, code_ext c hE (by omega) (fun k hk e => by omega), grown_ext g hE (fun k hk e => by omega)⟩
theorem ivf_lies {w : World} {rc rl : Value} {cs : List DCenter} {ls : List DIvfList} {lo hi : Nat} (h1 : (Lay.sl Lay.tCenter).LiesIn w [rc] cs lo hi) (h2 : (Lay.sl Lay.tIvfList).LiesIn w [rl] ls lo hi) : Lay.tIvf.LiesIn w [rc, rl] ⟨cs, ls⟩ lo hi := by
  obtain ⟨bC, hC, hCb⟩ := h1
  obtain ⟨bL, hL, hLb⟩ := h2
  have hC' := hC
  have hL' := hL
  obtain ⟨ac, dc, eC, -⟩ := hC'
  obtain ⟨al, dl, eL, -⟩ := hL'
  obtain rfl : rc = .slice ac cs.length dc := by simpa using eC
  obtain rfl : rl = .slice al ls.length dl := by simpa using eL
  refine ⟨bC ++ bL, lies_Ivf.2 ⟨ac, dc, bC, al, dl, bL, rfl, rfl, hC, hL⟩, fun c hc => ?_⟩
  rcases List.mem_append.1 hc with hc | hc
  · exact hCb c hc
  · exact hLb c hc
theorem Fst.after {w w6 : World} {base gl capl : Nat} {rc : Value} {cs : List DCenter} {l0 : DIvfList} {lr : List DIvfList} {rowsC : List (List Value)} {blsC : List (List Nat)} {rowsL : List (List Value)} {blsL : List (List Nat)} {v0 : Value} {rows0 : List (List Value)} {bls0 : List (List Nat)} (h : Fst w base rc cs gl capl l0 lr rowsC blsC rowsL blsL v0 rows0 bls0) (e : Ext (fun q => v0.ownBlock = some q) w w6) :
    w6.cell? ⟨gl, 0, none⟩ = some v0 ∧ w6.frozen? ⟨gl, 0, none⟩ = false ∧ gl < w6.heap.size := by
  have hk := e.block gl h.glt.2 (fun q => (h.t1 gl q).2.1 rfl)
  have h1 := h.cell
  have h2 := h.soft 0
  refine ⟨?_, ?_, Nat.lt_of_lt_of_le h.glt.2 e.size⟩
  · rw [← h1]; simp [World.cell?, hk]
  · rw [← h2]; simp [World.frozen?, hk]

set_option maxRecDepth 10000 in
set_option maxHeartbeats 4000000 in
theorem drawB7 (b m : Nat) (cv : Value) (z : World) (hs : SrcAt z b cv m) (hc : IsCode b z cv) (hm : m ≤ 900000) :
    Calls Try.prog 82 #[.pointer (some ⟨b, 0, none⟩)] z (BentIvf b m cv z) := by
  have hbz := hs.lt
  have nz : Below z.heap.size z (z.alloc (.cells #[.slice none 0 0, .slice none 0 0] 31)) := (Below.refl _ _).alloc (Nat.le_refl _) _
  have bR : Box z.heap.size #[.slice none 0 0, .slice none 0 0] 31 (z.alloc (.cells #[.slice none 0 0, .slice none 0 0] 31)) z.heap.size := newBox (Nat.le_refl _)
  have L := drawR7 b m cv _ (hs.on nz) (hc.on (Nat.le_of_lt hbz) nz) hm
  have hwz : (z.alloc (.cells #[.slice none 0 0, .slice none 0 0] 31)).heap.size = z.heap.size + 1 := by simp
  have HL := hide L
  have HNZ := hide nz
  have HBR := hide bR
  clear nz bR L hs hc
  go_enter Try.func82, Try.ntmps82
  go_wp2_with fail
  generalize hwd : z.alloc (.cells #[.slice none 0 0, .slice none 0 0] 31) = w at *
  have HWZ := hide hwz
  clear hwd hwz
  refine (unhide HL).mono ?_
  rintro e w2 ⟨rc, rl, cs, xs, m2, rfl, hT, ⟨hc1, hc2, hx2⟩, s2, hm2, c2, g2⟩
  have hzw := unhide HWZ
  have hg2 := g2.size
  have bR2 : Box z.heap.size #[.slice none 0 0, .slice none 0 0] 31 w2 z.heap.size := (unhide HBR).grownB g2 (by omega)
  have hGZ2 : z.grownBy w2 (some b) := by
    have q1 := unhide HNZ
    exact ⟨g2.os.trans q1.os, g2.tape.trans q1.tape, g2.output.trans q1.output, by omega, fun i hi hn => (g2.block i (by omega) hn).trans (q1.block i hi)⟩
  obtain ⟨a8, c8, rfl⟩ : ∃ a c, rc = .slice a cs.length c := by
    obtain ⟨_, _, _, _, gC, -⟩ := hT
    rcases gC.form with ⟨rfl, rfl⟩ | ⟨g, cap, rfl, -⟩
    · exact ⟨none, 0, rfl⟩
    · exact ⟨_, cap, rfl⟩
  obtain ⟨a9, c9, rfl⟩ : ∃ a c, rl = .slice a (buildI cs xs).lists.length c := by
    obtain ⟨_, _, _, _, -, gL, -⟩ := hT
    rcases gL.form with ⟨rfl, e⟩ | ⟨g, cap, rfl, -⟩
    · rw [e]; exact ⟨none, 0, rfl⟩
    · exact ⟨_, cap, rfl⟩
  have hll : (buildI cs xs).lists.length = cs.length := by simp [buildI]
  have hil : ∀ l ∈ (buildI cs xs).lists, l.items.length ≤ xs.length := fun l hl => by
    obtain ⟨k, -, rfl⟩ := List.mem_map.1 (show l ∈ (List.range cs.length).map fun k => (⟨mineI cs xs k⟩ : DIvfList) from hl)
    exact mineI_len cs xs k
  generalize hls : (buildI cs xs).lists = ls at *
  clear hls
  have bX : Box w2.heap.size #[.slice none 0 0, .slice none 0 0] 31 (w2.alloc (.cells #[.slice none 0 0, .slice none 0 0] 31)) w2.heap.size := newBox (Nat.le_refl _)
  have z0 : (w2.alloc (.cells #[.slice none 0 0, .slice none 0 0] 31)).cell? ⟨w2.heap.size, 0, none⟩ = some (.slice none 0 0) := bX.at 0 _ rfl
  have z1 : (w2.alloc (.cells #[.slice none 0 0, .slice none 0 0] 31)).cell? ⟨w2.heap.size, 1, none⟩ = some (.slice none 0 0) := bX.at 1 _ rfl
  have f0 := bX.soft 0
  have f1 := bX.soft 1
  have l0 := bX.lt
  have n2 : Below w2.heap.size w2 (w2.alloc (.cells #[.slice a8 cs.length c8, .slice a9 ls.length c9] 31)) := (Below.refl _ _).alloc (Nat.le_refl _) _
  have hX2 : Box w2.heap.size #[.slice a8 cs.length c8, .slice a9 ls.length c9] 31 (w2.alloc (.cells #[.slice a8 cs.length c8, .slice a9 ls.length c9] 31)) w2.heap.size := newBox (Nat.le_refl _)
  have L2 := hide (next b m2 cv 14 _ (s2.on n2) (c2.on (by omega) n2) (by omega) (by omega) (by omega))
  have HLL := hide hll
  have HIL := hide hil
  have HT := hide hT
  have HGZ := hide hGZ2
  have HR2 := hide bR2
  have HZW := hide hzw
  have HX2 := hide hX2
  have HN2 := hide n2
  clear hT s2 c2 g2 bR2 hzw HL HWZ HBR bX hll hil hGZ2 hX2 n2
  go_wp2_with fail
  refine (unhide L2).mono ?_
  rintro e w3 ⟨q, rfl, hq, s3, c3, g3⟩
  have hzw := unhide HZW
  have hX3 := (unhide HX2).grownB g3 (by omega)
  have hR3 := ((unhide HR2).keep (unhide HN2)).grownB g3 (by omega)
  have hG3 : z.grownBy w3 (some b) := grown_trans (grown_ext (unhide HGZ) (ext_of_below (unhide HN2) nowhere) (fun _ _ h => h)) g3
  have e23 : Ext (fun c => c = b) w2 w3 := (ext_of_below (unhide HN2) _).trans (ext_grown g3)
  have h23 : w2.heap.size < w3.heap.size := hX3.lt
  have HT3 := hide ((unhide HT).ext e23 (fun c h1 h2 => by omega))
  clear z0 z1 f0 f1 l0 L2 HX2 HN2 HGZ g3
  have HX3 := hide hX3
  have HR3 := hide hR3
  have HG3 := hide hG3
  have HS3 := hide s3
  have HC3 := hide c3
  have HE := hide e23
  clear hX3 hR3 hG3 s3 c3 e23 HR2 hzw
  rcases (show q = 0 ∨ q = 1 ∨ q = 2 ∨ 3 ≤ q by omega) with rfl | rfl | rfl | h3
  · have L := hide (drawCen b (m2 + 1) cv w3 (unhide HS3) (unhide HC3) (by omega))
    go_wp2_with fail
    refine (unhide L).mono ?_
    rintro e w4 ⟨v, rowsN, csN, blsN, m4, rfl, gN, sN, hnN, s4, hm4, c4, g4⟩
    obtain ⟨aN, cN, rfl⟩ : ∃ a c, v = .slice a csN.length c := by
      rcases gN.form with ⟨rfl, rfl⟩ | ⟨g, cap, rfl, -⟩
      · exact ⟨none, 0, rfl⟩
      · exact ⟨_, cap, rfl⟩
    have hzw := unhide HZW
    have hll := unhide HLL
    have hX4 := (unhide HX3).grownB g4 (by omega)
    have e4 : Ext (fun c => c = w2.heap.size) w4 (w4.setCell ⟨w2.heap.size, 0, none⟩ (.slice aN csN.length cN)) := (Ext.refl (fun c => c = w2.heap.size) w4).setCell ⟨w2.heap.size, 0, none⟩ _ rfl
    have hz4 := g4.size
    have hLst : (Lay.sl Lay.tIvfList).LiesIn w2 [.slice a9 ls.length c9] ls w.heap.size w2.heap.size := by
      obtain ⟨_, _, _, _, -, gL, -, sL, -⟩ := unhide HT
      exact gL.toLies (by omega) sL
    have hL7 := ((hLst.ext (unhide HE) (fun k h1 h2 e => by omega)).ext (ext_grown g4) (fun k h1 h2 e => by omega)).ext e4 (fun k h1 h2 e => by omega)
    have hC7 := (gN.toLies (by omega) sN).ext e4 (fun k h1 h2 e => by omega)
    have HP : Hid (Lay.tIvf.LiesIn (w4.setCell ⟨w2.heap.size, 0, none⟩ (.slice aN csN.length cN)) [.slice aN csN.length cN, .slice a9 ls.length c9] ⟨csN, ls⟩ (z.heap.size + 1) (w4.setCell ⟨w2.heap.size, 0, none⟩ (.slice aN csN.length cN)).heap.size) := ivf_lies (hC7.mono (by omega) e4.size) (hL7.mono (by omega) (by have := e4.size; omega))
    have y0 : w4.cell? ⟨w2.heap.size, 0, none⟩ = some (.slice a8 cs.length c8) := hX4.at 0 _ rfl
    have g0 := hX4.soft 0
    have k0 := hX4.lt
    have hXq : Box w2.heap.size #[.slice aN csN.length cN, .slice a9 ls.length c9] 31 (w4.setCell ⟨w2.heap.size, 0, none⟩ (.slice aN csN.length cN)) w2.heap.size := hX4.set 0 _
    have hRq := ((unhide HR3).grownB g4 (by omega)).ext e4 (by omega)
    have hSq := src_ext s4 e4 (by omega)
    have hCq := code_ext c4 e4 (by omega) (fun k hk e => by omega)
    have hGq := grown_ext (grown_trans (unhide HG3) g4) e4 (fun k hk e => by omega)
    clear HX3 HR3 HS3 HC3 HG3 HT3 HT HE hzw L hX4 hLst hL7 hC7 gN sN s4 c4 g4 e4 hll
    have x0 : (w4.setCell ⟨w2.heap.size, 0, none⟩ (.slice aN csN.length cN)).cell? ⟨w2.heap.size, 0, none⟩ = some (.slice aN csN.length cN) := hXq.at 0 _ rfl
    have x1 : (w4.setCell ⟨w2.heap.size, 0, none⟩ (.slice aN csN.length cN)).cell? ⟨w2.heap.size, 1, none⟩ = some (.slice a9 ls.length c9) := hXq.at 1 _ rfl
    have z0 : (w4.setCell ⟨w2.heap.size, 0, none⟩ (.slice aN csN.length cN)).cell? ⟨z.heap.size, 0, none⟩ = some (.slice none 0 0) := hRq.at 0 _ rfl
    have z1 : (w4.setCell ⟨w2.heap.size, 0, none⟩ (.slice aN csN.length cN)).cell? ⟨z.heap.size, 1, none⟩ = some (.slice none 0 0) := hRq.at 1 _ rfl
    have f0 := hRq.soft 0
    have f1 := hRq.soft 1
    have l0 := hRq.lt
    have HSq := hide hSq
    have HCq := hide hCq
    have HGq := hide hGq
    clear hSq hCq hGq hXq hRq
    go_wp2_with fail
    refine bodyPost_ret (v := .agg #[.slice aN csN.length cN, .slice a9 ls.length c9]) (by simp [results, Try.results82, go_sem, z0, z1]) rfl ?_
    refine bent_end hbz (unhide HP) (unhide HSq) (by omega) (unhide HCq) (unhide HGq)
  · obtain ⟨l0, lr, rfl⟩ : ∃ l0 lr, ls = l0 :: lr := by
      have := unhide HLL
      cases ls with
      | nil => simp at this; omega
      | cons l0 lr => exact ⟨l0, lr, rfl⟩
    have hll : lr.length ≤ 3 := by
      have h9 : lr.length + 1 = cs.length := by simpa using unhide HLL
      omega
    have hil : l0.items.length ≤ 11 := by have := unhide HIL l0 (by simp); omega
    obtain ⟨gl, rowsC, blsC, rowsL, blsL, v0, rows0, bls0, rfl, -, hF2⟩ := (unhide HT).fst
    obtain ⟨a0, c0, rfl⟩ : ∃ a c, v0 = .slice a l0.items.length c := by
      rcases hF2.g0.form with ⟨rfl, e⟩ | ⟨g, cap, rfl, -⟩
      · rw [e]; exact ⟨none, 0, rfl⟩
      · exact ⟨_, cap, rfl⟩
    have hzw := unhide HZW
    have hv0 : ∀ c, (Value.slice a0 l0.items.length c0).ownBlock = some c → c < w2.heap.size := fun c hc => (hF2.g0.own.lt c hc).2
    have hgl := hF2.glt
    have hFD : Fst w3.drew w.heap.size (.slice a8 cs.length c8) cs gl c9 l0 lr rowsC blsC rowsL blsL (.slice a0 l0.items.length c0) rows0 bls0 := (hF2.ext (unhide HE) (fun c h1 h2 => by omega)).later (Below.refl _ _).drew
    have hXD : Box w2.heap.size #[.slice a8 cs.length c8, .slice (some ⟨gl, 0, none⟩) (lr.length + 1) c9] 31 w3.drew w2.heap.size := unhide HX3
    have hRD : Box z.heap.size #[.slice none 0 0, .slice none 0 0] 31 w3.drew z.heap.size := unhide HR3
    have hSD : SrcAt w3.drew b cv (m2 + 1) := unhide HS3
    have hCD : IsCode b w3.drew cv := (unhide HC3).on (by omega) (Below.refl _ _).drew
    have hGD : z.grownBy w3.drew (some b) := grown_on (unhide HG3) (Below.refl _ _).drew
    have h23D : w2.heap.size < w3.drew.heap.size := h23
    clear HX3 HR3 HS3 HC3 HG3 HT3 HT HE hF2 HLL HIL
    go_wp2_with fail
    refine wp_region_noPanic ?_
    refine wp_region_held_drew (S := fun w' => Box w2.heap.size #[.slice a8 cs.length c8, .slice (some ⟨gl, 0, none⟩) (lr.length + 1) c9] 31 w' w2.heap.size) (by kernel_rfl) hXD (fun hHeld => ?_)
    generalize w3.drew = wD at hHeld hFD hRD hSD hCD hGD h23D ⊢
    refine wpAnyH_take (i := 0) (oi := { dst := some 15, op := Go.Op.fieldAddr 31 (Go.Operand.tmp 3) 1, type := 0, pos := "l07_ivf.go:181", after := #[], guard := none }) (v := ?vb0_1) rfl (by kernel_rfl) (by kernel_rfl) (by kernel_rfl) (fun _ _ _ h => h) (Or.inl ⟨by rfl, ?hb0_1⟩) hHeld ?rb0_1
    case hb0_1 =>
      intro wS hSw
      (try dsimp only at hSw)
      go_simp
      try with_reducible rfl
    case rb0_1 =>
    simp only [Act.put, List.setIfInBounds_toArray, List.set_cons_zero, List.set_cons_succ]
    refine wpAnyH_take (i := 1) (oi := { dst := some 16, op := Go.Op.load 29 (Go.Operand.tmp 15), type := 29, pos := "l07_ivf.go:181", after := #[{ on := 0, ground := Go.Ground.data }], guard := none }) (v := ?vb1_2) rfl (by kernel_rfl) (by kernel_rfl) (by kernel_rfl) (fun _ _ _ h => h) (Or.inl ⟨by rfl, ?hb1_2⟩) hHeld ?rb1_2
    case hb1_2 =>
      intro wS hSw
      have y1 := hSw.at 1 _ rfl
      (try dsimp only at hSw)
      go_simp
      try with_reducible rfl
    case rb1_2 =>
    simp only [Act.put, List.setIfInBounds_toArray, List.set_cons_zero, List.set_cons_succ]
    refine wpAnyH_take (i := 2) (oi := { dst := some 17, op := Go.Op.fieldAddr 31 (Go.Operand.tmp 3) 1, type := 0, pos := "l07_ivf.go:181", after := #[], guard := none }) (v := ?vb2_3) rfl (by kernel_rfl) (by kernel_rfl) (by kernel_rfl) (fun _ _ _ h => h) (Or.inl ⟨by rfl, ?hb2_3⟩) hHeld ?rb2_3
    case hb2_3 =>
      intro wS hSw
      (try dsimp only at hSw)
      go_simp
      try with_reducible rfl
    case rb2_3 =>
    simp only [Act.put, List.setIfInBounds_toArray, List.set_cons_zero, List.set_cons_succ]
    refine wpAnyH_take (i := 3) (oi := { dst := some 18, op := Go.Op.load 29 (Go.Operand.tmp 17), type := 29, pos := "l07_ivf.go:181", after := #[{ on := 2, ground := Go.Ground.data }], guard := none }) (v := ?vb3_4) rfl (by kernel_rfl) (by kernel_rfl) (by kernel_rfl) (fun _ _ _ h => h) (Or.inl ⟨by rfl, ?hb3_4⟩) hHeld ?rb3_4
    case hb3_4 =>
      intro wS hSw
      have y1 := hSw.at 1 _ rfl
      (try dsimp only at hSw)
      go_simp
      try with_reducible rfl
    case rb3_4 =>
    simp only [Act.put, List.setIfInBounds_toArray, List.set_cons_zero, List.set_cons_succ]
    refine wpAnyH_take (i := 4) (oi := { dst := some 19, op := Go.Op.indexAddr 29 (Go.Operand.tmp 18) (Go.Operand.const (Go.Value.int Go.IntKind.i64 0)), type := 0, pos := "l07_ivf.go:181", after := #[{ on := 3, ground := Go.Ground.data }], guard := none }) (v := ?vb4_5) rfl (by kernel_rfl) (by kernel_rfl) (by kernel_rfl) (fun _ _ _ h => h) (Or.inl ⟨by rfl, ?hb4_5⟩) hHeld ?rb4_5
    case hb4_5 =>
      intro wS hSw
      have y1 : (0 : Int) < ((lr.length + 1 : Nat) : Int) := by omega
      (try dsimp only at hSw)
      go_simp
      try with_reducible rfl
    case rb4_5 =>
    simp only [Act.put, List.setIfInBounds_toArray, List.set_cons_zero, List.set_cons_succ]
    refine wpAnyH_take (i := 5) (oi := { dst := some 20, op := Go.Op.fieldAddr 147 (Go.Operand.tmp 19) 0, type := 0, pos := "l07_ivf.go:181", after := #[{ on := 4, ground := Go.Ground.data }], guard := none }) (v := ?vb5_6) rfl (by kernel_rfl) (by kernel_rfl) (by kernel_rfl) (fun _ _ _ h => h) (Or.inl ⟨by rfl, ?hb5_6⟩) hHeld ?rb5_6
    case hb5_6 =>
      intro wS hSw
      (try dsimp only at hSw)
      go_simp
      try with_reducible rfl
    case rb5_6 =>
    simp only [Act.put, List.setIfInBounds_toArray, List.set_cons_zero, List.set_cons_succ]
    refine wpAnyH_take (i := 7) (oi := { dst := some 22, op := Go.Op.move (Go.Operand.tmp 0), type := 121, pos := "l07_ivf.go:181", after := #[], guard := none }) (v := ?vb7_7) rfl (by kernel_rfl) (by kernel_rfl) (by kernel_rfl) (fun _ _ _ h => h) (Or.inl ⟨by rfl, ?hb7_7⟩) hHeld ?rb7_7
    case hb7_7 =>
      intro wS hSw
      (try dsimp only at hSw)
      go_simp
      try with_reducible rfl
    case rb7_7 =>
    simp only [Act.put, List.setIfInBounds_toArray, List.set_cons_zero, List.set_cons_succ]
    refine wpAnyH_take (i := 10) (oi := { dst := some 25, op := Go.Op.move (Go.Operand.tmp 0), type := 121, pos := "l07_ivf.go:181", after := #[], guard := none }) (v := ?vb10_8) rfl (by kernel_rfl) (by kernel_rfl) (by kernel_rfl) (fun _ _ _ h => h) (Or.inl ⟨by rfl, ?hb10_8⟩) hHeld ?rb10_8
    case hb10_8 =>
      intro wS hSw
      (try dsimp only at hSw)
      go_simp
      try with_reducible rfl
    case rb10_8 =>
    simp only [Act.put, List.setIfInBounds_toArray, List.set_cons_zero, List.set_cons_succ]
    refine wpAnyH_ready (rs := [6, 8]) (by kernel_rfl) (by simp) ?_
    refine AllReadyH.cons (o := { dst := some 21, op := Go.Op.load 42 (Go.Operand.tmp 20), type := 42, pos := "l07_ivf.go:181", after := #[{ on := 5, ground := Go.Ground.data }], guard := none }) rfl (fun K hK => ?ob6_9) (AllReadyH.cons (o := { dst := some 23, op := Go.Op.buildSlice 51 3 #[(0, Go.Operand.const (Go.Value.int Go.IntKind.i64 0)), (1, Go.Operand.const (Go.Value.int Go.IntKind.i64 5)), (2, Go.Operand.const (Go.Value.int Go.IntKind.i64 999))], type := 51, pos := "l07_ivf.go:181", after := #[], guard := none }) rfl (fun K hK => ?ob8_9) (AllReadyH.nil))
    case ob6_9 =>
      have y6 : (wD).cell? ⟨gl, 0, none⟩ = some (.slice a0 l0.items.length c0) := hFD.cell
      go_simp
      refine hK.out _ _ hHeld (fun hHeld => ?_)
      clear hK K
      try simp only [Act.put, List.setIfInBounds_toArray, List.set_cons_zero, List.set_cons_succ]
      refine wpAnyH_ready (rs := [8]) (by kernel_rfl) (by simp) ?_
      refine AllReadyH.cons (o := { dst := some 23, op := Go.Op.buildSlice 51 3 #[(0, Go.Operand.const (Go.Value.int Go.IntKind.i64 0)), (1, Go.Operand.const (Go.Value.int Go.IntKind.i64 5)), (2, Go.Operand.const (Go.Value.int Go.IntKind.i64 999))], type := 51, pos := "l07_ivf.go:181", after := #[], guard := none }) rfl (fun K hK => ?_) AllReadyH.nil
      go_simp
      refine hK.out _ _ (hHeld.grow _) (fun hHeld => ?_)
      clear hK K
      try simp only [Act.put, List.setIfInBounds_toArray, List.set_cons_zero, List.set_cons_succ]
      refine wpAnyH_ready (rs := [9]) (by kernel_rfl) (by simp) ?_
      refine AllReadyH.cons (o := { dst := some 24, op := Go.Op.call { callee := Go.Callee.value (Go.Operand.func 84), args := #[Go.Operand.tmp 22, Go.Operand.tmp 23], argTypes := #[121, 51] }, type := 2, pos := "l07_ivf.go:181", after := #[{ on := 7, ground := Go.Ground.data }, { on := 8, ground := Go.Ground.data }], guard := none }) rfl (fun K hK => ?_) AllReadyH.nil
      have nb8 : Below wD.heap.size wD (wD.alloc (.cells #[.int .i64 0, .int .i64 5, .int .i64 999] 2)) := (Below.refl _ _).alloc (Nat.le_refl _) _
      have L9 := hide (pick b (m2 + 1) wD.heap.size cv [0, 5, 999] _ (hSD.on nb8) (hCD.on (by omega) nb8) (by omega) (by simp) (by simp) (heap_alloc_new wD _) (by omega))
      go_simp
      go_at_call 84
      refine (unhide L9).mono ?_
      rintro e w4 ⟨p, rfl, hp, s4, c4, g4⟩
      have hF4 := (hFD.later nb8).grown g4 (by omega)
      have hE4 : Ext (fun c => c = b) wD w4 := (ext_of_below nb8 _).trans (ext_grown g4)
      have hz4 := hE4.size
      try go_wp2_with fail
      refine hK.out _ _ (hHeld.grownB g4 (by omega)) (fun hHeld => ?_)
      clear hK K
      try simp only [Act.put, List.setIfInBounds_toArray, List.set_cons_zero, List.set_cons_succ]
      refine wpAnyH_ready (rs := [11]) (by kernel_rfl) (by simp) ?_
      refine AllReadyH.cons (o := { dst := some 26, op := Go.Op.call { callee := Go.Callee.value (Go.Operand.func 83), args := #[Go.Operand.tmp 25], argTypes := #[121] }, type := 51, pos := "l07_ivf.go:181", after := #[{ on := 10, ground := Go.Ground.data }, { on := 9, ground := Go.Ground.chain }], guard := none }) rfl (fun K hK => ?_) AllReadyH.nil
      have L11 := hide (bent b (m2 + 1 + 1) cv w4 s4 c4 (by omega))
      go_simp
      go_at_call 83
      refine (unhide L11).mono ?_
      rintro e w5 ⟨v3, zs, m5, rfl, hzs, hNI, hm5, s5, c5, g5⟩
      obtain ⟨bz, hlz, hbz5⟩ := hNI.lies (by omega)
      obtain ⟨a3, d3, rfl⟩ := open_sl ⟨bz, hlz⟩
      have hF5 := hF4.grown g5 (by omega)
      have hz5 := g5.size
      try go_wp2_with fail
      refine hK.out _ _ (hHeld.grownB g5 (by omega)) (fun hHeld => ?_)
      clear hK K
      try simp only [Act.put, List.setIfInBounds_toArray, List.set_cons_zero, List.set_cons_succ]
      refine wpAnyH_take (i := 12) (oi := { dst := some 27, op := Go.Op.build 106 #[(0, Go.Operand.tmp 24), (1, Go.Operand.tmp 26)], type := 106, pos := "l07_ivf.go:181", after := #[{ on := 9, ground := Go.Ground.data }, { on := 11, ground := Go.Ground.data }], guard := none }) (v := ?vb12_10) rfl (by kernel_rfl) (by kernel_rfl) (by kernel_rfl) (fun _ _ _ h => h) (Or.inl ⟨by rfl, ?hb12_10⟩) hHeld ?rb12_10
      case hb12_10 =>
        intro wS hSw
        (try dsimp only at hSw)
        go_simp
        try with_reducible rfl
      case rb12_10 =>
      simp only [Act.put, List.setIfInBounds_toArray, List.set_cons_zero, List.set_cons_succ]
      refine wpAnyH_ready (rs := [13]) (by kernel_rfl) (by simp) ?_
      refine AllReadyH.cons (o := { dst := some 28, op := Go.Op.buildSlice 42 1 #[(0, Go.Operand.tmp 27)], type := 42, pos := "l07_ivf.go:181", after := #[{ on := 12, ground := Go.Ground.data }], guard := none }) rfl (fun K hK => ?_) AllReadyH.nil
      have hX5 := hHeld
      go_simp
      refine hK.out _ _ (hHeld.grow _) (fun hHeld => ?_)
      clear hK K
      try simp only [Act.put, List.setIfInBounds_toArray, List.set_cons_zero, List.set_cons_succ]
      refine wpAnyH_ready (rs := [14]) (by kernel_rfl) (by simp) ?_
      refine AllReadyH.cons (o := { dst := some 29, op := Go.Op.call { callee := Go.Callee.builtin Go.Builtin.append, args := #[Go.Operand.tmp 21, Go.Operand.tmp 28], argTypes := #[42, 42] }, type := 42, pos := "l07_ivf.go:181", after := #[{ on := 6, ground := Go.Ground.data }, { on := 13, ground := Go.Ground.data }, { on := 11, ground := Go.Ground.chain }], guard := none }) rfl (fun K hK => ?_) AllReadyH.nil
      have hpb : 0 ≤ p ∧ p ≤ 1000 := by
        simp only [List.mem_cons, List.not_mem_nil, or_false] at hp
        omega
      have hl5 : Lay.tItem.lies w5 [.int .i64 p, .slice a3 zs.length d3] ⟨p, zs⟩ bz := lies_Item.2 ⟨a3, d3, bz, rfl, rfl, (show (Lit.int .i64 p).wf = true from wf_of_bd (by omega)), hlz⟩
      refine step_append_Item hF5.g0 (row := [.int .i64 p, .slice a3 zs.length d3]) (x := ⟨p, zs⟩) (bl := bz) hl5 (fun c hc e => by have h1 := hbz5 c hc; have h2 := hv0 c e; omega) rfl _ _ rfl rfl rfl (by omega) (by omega) ?_
      rintro g6 cp6 w6 hG6 hb6 hE6 hl6 hz6 hor6
      refine hK.out _ _ (hX5.ext hE6 (fun e => by have := hv0 _ e; omega)) (fun hHeld => ?_)
      clear hK K
      try simp only [Act.put, List.setIfInBounds_toArray, List.set_cons_zero, List.set_cons_succ]
      refine wpAnyH_take (i := 15) (oi := { dst := some 30, op := Go.Op.indexAddr 29 (Go.Operand.tmp 16) (Go.Operand.const (Go.Value.int Go.IntKind.i64 0)), type := 0, pos := "l07_ivf.go:181", after := #[{ on := 1, ground := Go.Ground.data }, { on := 0, ground := Go.Ground.phase }, { on := 1, ground := Go.Ground.phase }, { on := 2, ground := Go.Ground.phase }, { on := 3, ground := Go.Ground.phase }, { on := 4, ground := Go.Ground.phase }, { on := 5, ground := Go.Ground.phase }, { on := 6, ground := Go.Ground.phase }, { on := 7, ground := Go.Ground.phase }, { on := 8, ground := Go.Ground.phase }, { on := 9, ground := Go.Ground.phase }, { on := 10, ground := Go.Ground.phase }, { on := 11, ground := Go.Ground.phase }, { on := 12, ground := Go.Ground.phase }, { on := 13, ground := Go.Ground.phase }, { on := 14, ground := Go.Ground.phase }], guard := none }) (v := ?vb15_11) rfl (by kernel_rfl) (by kernel_rfl) (by kernel_rfl) (fun _ _ _ h => h) (Or.inl ⟨by rfl, ?hb15_11⟩) hHeld ?rb15_11
      case hb15_11 =>
        intro wS hSw
        have y1 : (0 : Int) < ((lr.length + 1 : Nat) : Int) := by omega
        (try dsimp only at hSw)
        go_simp
        try with_reducible rfl
      case rb15_11 =>
      simp only [Act.put, List.setIfInBounds_toArray, List.set_cons_zero, List.set_cons_succ]
      refine wpAnyH_take (i := 16) (oi := { dst := some 31, op := Go.Op.fieldAddr 147 (Go.Operand.tmp 30) 0, type := 0, pos := "l07_ivf.go:181", after := #[{ on := 15, ground := Go.Ground.data }, { on := 0, ground := Go.Ground.phase }, { on := 1, ground := Go.Ground.phase }, { on := 2, ground := Go.Ground.phase }, { on := 3, ground := Go.Ground.phase }, { on := 4, ground := Go.Ground.phase }, { on := 5, ground := Go.Ground.phase }, { on := 6, ground := Go.Ground.phase }, { on := 7, ground := Go.Ground.phase }, { on := 8, ground := Go.Ground.phase }, { on := 9, ground := Go.Ground.phase }, { on := 10, ground := Go.Ground.phase }, { on := 11, ground := Go.Ground.phase }, { on := 12, ground := Go.Ground.phase }, { on := 13, ground := Go.Ground.phase }, { on := 14, ground := Go.Ground.phase }], guard := none }) (v := ?vb16_12) rfl (by kernel_rfl) (by kernel_rfl) (by kernel_rfl) (fun _ _ _ h => h) (Or.inl ⟨by rfl, ?hb16_12⟩) hHeld ?rb16_12
      case hb16_12 =>
        intro wS hSw
        (try dsimp only at hSw)
        go_simp
        try with_reducible rfl
      case rb16_12 =>
      simp only [Act.put, List.setIfInBounds_toArray, List.set_cons_zero, List.set_cons_succ]
      refine wpAnyH_ready (rs := [17]) (by kernel_rfl) (by simp) ?_
      refine AllReadyH.cons (o := { dst := none, op := Go.Op.store 42 (Go.Operand.tmp 31) (Go.Operand.tmp 29), type := 0, pos := "l07_ivf.go:181", after := #[{ on := 16, ground := Go.Ground.data }, { on := 14, ground := Go.Ground.data }, { on := 14, ground := Go.Ground.chain }, { on := 0, ground := Go.Ground.phase }, { on := 1, ground := Go.Ground.phase }, { on := 2, ground := Go.Ground.phase }, { on := 3, ground := Go.Ground.phase }, { on := 4, ground := Go.Ground.phase }, { on := 5, ground := Go.Ground.phase }, { on := 6, ground := Go.Ground.phase }, { on := 7, ground := Go.Ground.phase }, { on := 8, ground := Go.Ground.phase }, { on := 9, ground := Go.Ground.phase }, { on := 10, ground := Go.Ground.phase }, { on := 11, ground := Go.Ground.phase }, { on := 12, ground := Go.Ground.phase }, { on := 13, ground := Go.Ground.phase }, { on := 14, ground := Go.Ground.phase }], guard := none }) rfl (fun K hK => ?_) AllReadyH.nil
      obtain ⟨y7, f7, k7⟩ := hF5.after hE6
      go_simp
      refine hK.out _ _ (hHeld.other _ _ (by show w2.heap.size ≠ gl; omega)) (fun hHeld => ?_)
      clear hK K
      try simp only [Act.put, List.setIfInBounds_toArray, List.set_cons_zero, List.set_cons_succ]
      refine wpAnyH_done (by kernel_rfl) ?_ _
      refine NoPanic.normal ?_
      have HP := hide ((hF5.put hE6 hG6 hor6 (fun c hc => by have h1 := hbz5 c hc; exact ⟨by omega, by omega⟩) (by omega) (by omega) (by omega)).mono (show z.heap.size + 1 ≤ w.heap.size by omega) (Nat.le_refl _))
      have e7 : Ext (fun c => c = gl) w6 (w6.setCell ⟨gl, 0, none⟩ (.slice (some ⟨g6, 0, none⟩) (l0.items.length + 1) cp6)) := (Ext.refl (fun c => c = gl) w6).setCell ⟨gl, 0, none⟩ _ rfl
      have e57 : Ext (fun c => (Value.slice a0 l0.items.length c0).ownBlock = some c ∨ c = gl) w5 (w6.setCell ⟨gl, 0, none⟩ (.slice (some ⟨g6, 0, none⟩) (l0.items.length + 1) cp6)) := (hE6.mono (fun c _ h => Or.inl h)).trans (e7.mono (fun c _ h => Or.inr h))
      have hv1 : ∀ c, c < w.heap.size → ¬ ((Value.slice a0 l0.items.length c0).ownBlock = some c ∨ c = gl) := fun c hc h => by
        rcases h with h | h
        · have := (hF5.g0.own.lt c h).1; omega
        · have := hF5.glt.1; omega
      have hXq : Box w2.heap.size #[.slice a8 cs.length c8, .slice (some ⟨gl, 0, none⟩) (lr.length + 1) c9] 31 (w6.setCell ⟨gl, 0, none⟩ (.slice (some ⟨g6, 0, none⟩) (l0.items.length + 1) cp6)) w2.heap.size := hHeld
      have hRq := ((hRD.ext hE4 (by omega)).grownB g5 (by omega)).ext e57 (hv1 _ (by omega))
      have hSq := src_ext s5 e57 (hv1 _ (by omega))
      have hCq := code_ext c5 e57 (by omega) (fun k hk => hv1 k (by omega))
      have hGq := grown_ext (grown_trans (grown_ext hGD (ext_of_below nb8 nowhere) (fun _ _ h => h)) (grown_trans g4 g5)) e57 (fun k hk => hv1 k (by omega))
      clear hF5 hF4 hFD hE6 hG6 hor6 e7 e57 hv1 hRD hSD hCD hGD s4 c4 g4 s5 c5 g5 hE4 hHeld hX5 hNI hlz hbz5 hl5 hb6 L9 L11 nb8
      have x0 : (w6.setCell ⟨gl, 0, none⟩ (.slice (some ⟨g6, 0, none⟩) (l0.items.length + 1) cp6)).cell? ⟨w2.heap.size, 0, none⟩ = some (.slice a8 cs.length c8) := hXq.at 0 _ rfl
      have x1 : (w6.setCell ⟨gl, 0, none⟩ (.slice (some ⟨g6, 0, none⟩) (l0.items.length + 1) cp6)).cell? ⟨w2.heap.size, 1, none⟩ = some (.slice (some ⟨gl, 0, none⟩) (lr.length + 1) c9) := hXq.at 1 _ rfl
      have z0 : (w6.setCell ⟨gl, 0, none⟩ (.slice (some ⟨g6, 0, none⟩) (l0.items.length + 1) cp6)).cell? ⟨z.heap.size, 0, none⟩ = some (.slice none 0 0) := hRq.at 0 _ rfl
      have z1 : (w6.setCell ⟨gl, 0, none⟩ (.slice (some ⟨g6, 0, none⟩) (l0.items.length + 1) cp6)).cell? ⟨z.heap.size, 1, none⟩ = some (.slice none 0 0) := hRq.at 1 _ rfl
      have f0 := hRq.soft 0
      have f1 := hRq.soft 1
      have l0 := hRq.lt
      have HSq := hide hSq
      have HCq := hide hCq
      have HGq := hide hGq
      clear hSq hCq hGq hXq hRq
      go_wp2_with fail
      refine bodyPost_ret (v := .agg #[.slice a8 cs.length c8, .slice (some ⟨gl, 0, none⟩) (lr.length + 1) c9]) (by simp [results, Try.results82, go_sem, z0, z1]) rfl ?_
      refine bent_end hbz (unhide HP) (unhide HSq) (by omega) (unhide HCq) (unhide HGq)
    case ob8_9 =>
      go_simp
      refine hK.out _ _ (hHeld.grow _) (fun hHeld => ?_)
      clear hK K
      try simp only [Act.put, List.setIfInBounds_toArray, List.set_cons_zero, List.set_cons_succ]
      refine wpAnyH_ready (rs := [6, 9]) (by kernel_rfl) (by simp) ?_
      refine AllReadyH.cons (o := { dst := some 21, op := Go.Op.load 42 (Go.Operand.tmp 20), type := 42, pos := "l07_ivf.go:181", after := #[{ on := 5, ground := Go.Ground.data }], guard := none }) rfl (fun K hK => ?ob6_13) (AllReadyH.cons (o := { dst := some 24, op := Go.Op.call { callee := Go.Callee.value (Go.Operand.func 84), args := #[Go.Operand.tmp 22, Go.Operand.tmp 23], argTypes := #[121, 51] }, type := 2, pos := "l07_ivf.go:181", after := #[{ on := 7, ground := Go.Ground.data }, { on := 8, ground := Go.Ground.data }], guard := none }) rfl (fun K hK => ?ob9_13) (AllReadyH.nil))
      case ob6_13 =>
        have y6 : (wD.alloc (.cells #[.int .i64 0, .int .i64 5, .int .i64 999] 2)).cell? ⟨gl, 0, none⟩ = some (.slice a0 l0.items.length c0) := (hFD.later ((Below.refl _ _).alloc (Nat.le_refl _) _)).cell
        go_simp
        refine hK.out _ _ hHeld (fun hHeld => ?_)
        clear hK K
        try simp only [Act.put, List.setIfInBounds_toArray, List.set_cons_zero, List.set_cons_succ]
        refine wpAnyH_ready (rs := [9]) (by kernel_rfl) (by simp) ?_
        refine AllReadyH.cons (o := { dst := some 24, op := Go.Op.call { callee := Go.Callee.value (Go.Operand.func 84), args := #[Go.Operand.tmp 22, Go.Operand.tmp 23], argTypes := #[121, 51] }, type := 2, pos := "l07_ivf.go:181", after := #[{ on := 7, ground := Go.Ground.data }, { on := 8, ground := Go.Ground.data }], guard := none }) rfl (fun K hK => ?_) AllReadyH.nil
        have nb8 : Below wD.heap.size wD (wD.alloc (.cells #[.int .i64 0, .int .i64 5, .int .i64 999] 2)) := (Below.refl _ _).alloc (Nat.le_refl _) _
        have L9 := hide (pick b (m2 + 1) wD.heap.size cv [0, 5, 999] _ (hSD.on nb8) (hCD.on (by omega) nb8) (by omega) (by simp) (by simp) (heap_alloc_new wD _) (by omega))
        go_simp
        go_at_call 84
        refine (unhide L9).mono ?_
        rintro e w4 ⟨p, rfl, hp, s4, c4, g4⟩
        have hF4 := (hFD.later nb8).grown g4 (by omega)
        have hE4 : Ext (fun c => c = b) wD w4 := (ext_of_below nb8 _).trans (ext_grown g4)
        have hz4 := hE4.size
        try go_wp2_with fail
        refine hK.out _ _ (hHeld.grownB g4 (by omega)) (fun hHeld => ?_)
        clear hK K
        try simp only [Act.put, List.setIfInBounds_toArray, List.set_cons_zero, List.set_cons_succ]
        refine wpAnyH_ready (rs := [11]) (by kernel_rfl) (by simp) ?_
        refine AllReadyH.cons (o := { dst := some 26, op := Go.Op.call { callee := Go.Callee.value (Go.Operand.func 83), args := #[Go.Operand.tmp 25], argTypes := #[121] }, type := 51, pos := "l07_ivf.go:181", after := #[{ on := 10, ground := Go.Ground.data }, { on := 9, ground := Go.Ground.chain }], guard := none }) rfl (fun K hK => ?_) AllReadyH.nil
        have L11 := hide (bent b (m2 + 1 + 1) cv w4 s4 c4 (by omega))
        go_simp
        go_at_call 83
        refine (unhide L11).mono ?_
        rintro e w5 ⟨v3, zs, m5, rfl, hzs, hNI, hm5, s5, c5, g5⟩
        obtain ⟨bz, hlz, hbz5⟩ := hNI.lies (by omega)
        obtain ⟨a3, d3, rfl⟩ := open_sl ⟨bz, hlz⟩
        have hF5 := hF4.grown g5 (by omega)
        have hz5 := g5.size
        try go_wp2_with fail
        refine hK.out _ _ (hHeld.grownB g5 (by omega)) (fun hHeld => ?_)
        clear hK K
        try simp only [Act.put, List.setIfInBounds_toArray, List.set_cons_zero, List.set_cons_succ]
        refine wpAnyH_take (i := 12) (oi := { dst := some 27, op := Go.Op.build 106 #[(0, Go.Operand.tmp 24), (1, Go.Operand.tmp 26)], type := 106, pos := "l07_ivf.go:181", after := #[{ on := 9, ground := Go.Ground.data }, { on := 11, ground := Go.Ground.data }], guard := none }) (v := ?vb12_14) rfl (by kernel_rfl) (by kernel_rfl) (by kernel_rfl) (fun _ _ _ h => h) (Or.inl ⟨by rfl, ?hb12_14⟩) hHeld ?rb12_14
        case hb12_14 =>
          intro wS hSw
          (try dsimp only at hSw)
          go_simp
          try with_reducible rfl
        case rb12_14 =>
        simp only [Act.put, List.setIfInBounds_toArray, List.set_cons_zero, List.set_cons_succ]
        refine wpAnyH_ready (rs := [13]) (by kernel_rfl) (by simp) ?_
        refine AllReadyH.cons (o := { dst := some 28, op := Go.Op.buildSlice 42 1 #[(0, Go.Operand.tmp 27)], type := 42, pos := "l07_ivf.go:181", after := #[{ on := 12, ground := Go.Ground.data }], guard := none }) rfl (fun K hK => ?_) AllReadyH.nil
        have hX5 := hHeld
        go_simp
        refine hK.out _ _ (hHeld.grow _) (fun hHeld => ?_)
        clear hK K
        try simp only [Act.put, List.setIfInBounds_toArray, List.set_cons_zero, List.set_cons_succ]
        refine wpAnyH_ready (rs := [14]) (by kernel_rfl) (by simp) ?_
        refine AllReadyH.cons (o := { dst := some 29, op := Go.Op.call { callee := Go.Callee.builtin Go.Builtin.append, args := #[Go.Operand.tmp 21, Go.Operand.tmp 28], argTypes := #[42, 42] }, type := 42, pos := "l07_ivf.go:181", after := #[{ on := 6, ground := Go.Ground.data }, { on := 13, ground := Go.Ground.data }, { on := 11, ground := Go.Ground.chain }], guard := none }) rfl (fun K hK => ?_) AllReadyH.nil
        have hpb : 0 ≤ p ∧ p ≤ 1000 := by
          simp only [List.mem_cons, List.not_mem_nil, or_false] at hp
          omega
        have hl5 : Lay.tItem.lies w5 [.int .i64 p, .slice a3 zs.length d3] ⟨p, zs⟩ bz := lies_Item.2 ⟨a3, d3, bz, rfl, rfl, (show (Lit.int .i64 p).wf = true from wf_of_bd (by omega)), hlz⟩
        refine step_append_Item hF5.g0 (row := [.int .i64 p, .slice a3 zs.length d3]) (x := ⟨p, zs⟩) (bl := bz) hl5 (fun c hc e => by have h1 := hbz5 c hc; have h2 := hv0 c e; omega) rfl _ _ rfl rfl rfl (by omega) (by omega) ?_
        rintro g6 cp6 w6 hG6 hb6 hE6 hl6 hz6 hor6
        refine hK.out _ _ (hX5.ext hE6 (fun e => by have := hv0 _ e; omega)) (fun hHeld => ?_)
        clear hK K
        try simp only [Act.put, List.setIfInBounds_toArray, List.set_cons_zero, List.set_cons_succ]
        refine wpAnyH_take (i := 15) (oi := { dst := some 30, op := Go.Op.indexAddr 29 (Go.Operand.tmp 16) (Go.Operand.const (Go.Value.int Go.IntKind.i64 0)), type := 0, pos := "l07_ivf.go:181", after := #[{ on := 1, ground := Go.Ground.data }, { on := 0, ground := Go.Ground.phase }, { on := 1, ground := Go.Ground.phase }, { on := 2, ground := Go.Ground.phase }, { on := 3, ground := Go.Ground.phase }, { on := 4, ground := Go.Ground.phase }, { on := 5, ground := Go.Ground.phase }, { on := 6, ground := Go.Ground.phase }, { on := 7, ground := Go.Ground.phase }, { on := 8, ground := Go.Ground.phase }, { on := 9, ground := Go.Ground.phase }, { on := 10, ground := Go.Ground.phase }, { on := 11, ground := Go.Ground.phase }, { on := 12, ground := Go.Ground.phase }, { on := 13, ground := Go.Ground.phase }, { on := 14, ground := Go.Ground.phase }], guard := none }) (v := ?vb15_15) rfl (by kernel_rfl) (by kernel_rfl) (by kernel_rfl) (fun _ _ _ h => h) (Or.inl ⟨by rfl, ?hb15_15⟩) hHeld ?rb15_15
        case hb15_15 =>
          intro wS hSw
          have y1 : (0 : Int) < ((lr.length + 1 : Nat) : Int) := by omega
          (try dsimp only at hSw)
          go_simp
          try with_reducible rfl
        case rb15_15 =>
        simp only [Act.put, List.setIfInBounds_toArray, List.set_cons_zero, List.set_cons_succ]
        refine wpAnyH_take (i := 16) (oi := { dst := some 31, op := Go.Op.fieldAddr 147 (Go.Operand.tmp 30) 0, type := 0, pos := "l07_ivf.go:181", after := #[{ on := 15, ground := Go.Ground.data }, { on := 0, ground := Go.Ground.phase }, { on := 1, ground := Go.Ground.phase }, { on := 2, ground := Go.Ground.phase }, { on := 3, ground := Go.Ground.phase }, { on := 4, ground := Go.Ground.phase }, { on := 5, ground := Go.Ground.phase }, { on := 6, ground := Go.Ground.phase }, { on := 7, ground := Go.Ground.phase }, { on := 8, ground := Go.Ground.phase }, { on := 9, ground := Go.Ground.phase }, { on := 10, ground := Go.Ground.phase }, { on := 11, ground := Go.Ground.phase }, { on := 12, ground := Go.Ground.phase }, { on := 13, ground := Go.Ground.phase }, { on := 14, ground := Go.Ground.phase }], guard := none }) (v := ?vb16_16) rfl (by kernel_rfl) (by kernel_rfl) (by kernel_rfl) (fun _ _ _ h => h) (Or.inl ⟨by rfl, ?hb16_16⟩) hHeld ?rb16_16
        case hb16_16 =>
          intro wS hSw
          (try dsimp only at hSw)
          go_simp
          try with_reducible rfl
        case rb16_16 =>
        simp only [Act.put, List.setIfInBounds_toArray, List.set_cons_zero, List.set_cons_succ]
        refine wpAnyH_ready (rs := [17]) (by kernel_rfl) (by simp) ?_
        refine AllReadyH.cons (o := { dst := none, op := Go.Op.store 42 (Go.Operand.tmp 31) (Go.Operand.tmp 29), type := 0, pos := "l07_ivf.go:181", after := #[{ on := 16, ground := Go.Ground.data }, { on := 14, ground := Go.Ground.data }, { on := 14, ground := Go.Ground.chain }, { on := 0, ground := Go.Ground.phase }, { on := 1, ground := Go.Ground.phase }, { on := 2, ground := Go.Ground.phase }, { on := 3, ground := Go.Ground.phase }, { on := 4, ground := Go.Ground.phase }, { on := 5, ground := Go.Ground.phase }, { on := 6, ground := Go.Ground.phase }, { on := 7, ground := Go.Ground.phase }, { on := 8, ground := Go.Ground.phase }, { on := 9, ground := Go.Ground.phase }, { on := 10, ground := Go.Ground.phase }, { on := 11, ground := Go.Ground.phase }, { on := 12, ground := Go.Ground.phase }, { on := 13, ground := Go.Ground.phase }, { on := 14, ground := Go.Ground.phase }], guard := none }) rfl (fun K hK => ?_) AllReadyH.nil
        obtain ⟨y7, f7, k7⟩ := hF5.after hE6
        go_simp
        refine hK.out _ _ (hHeld.other _ _ (by show w2.heap.size ≠ gl; omega)) (fun hHeld => ?_)
        clear hK K
        try simp only [Act.put, List.setIfInBounds_toArray, List.set_cons_zero, List.set_cons_succ]
        refine wpAnyH_done (by kernel_rfl) ?_ _
        refine NoPanic.normal ?_
        have HP := hide ((hF5.put hE6 hG6 hor6 (fun c hc => by have h1 := hbz5 c hc; exact ⟨by omega, by omega⟩) (by omega) (by omega) (by omega)).mono (show z.heap.size + 1 ≤ w.heap.size by omega) (Nat.le_refl _))
        have e7 : Ext (fun c => c = gl) w6 (w6.setCell ⟨gl, 0, none⟩ (.slice (some ⟨g6, 0, none⟩) (l0.items.length + 1) cp6)) := (Ext.refl (fun c => c = gl) w6).setCell ⟨gl, 0, none⟩ _ rfl
        have e57 : Ext (fun c => (Value.slice a0 l0.items.length c0).ownBlock = some c ∨ c = gl) w5 (w6.setCell ⟨gl, 0, none⟩ (.slice (some ⟨g6, 0, none⟩) (l0.items.length + 1) cp6)) := (hE6.mono (fun c _ h => Or.inl h)).trans (e7.mono (fun c _ h => Or.inr h))
        have hv1 : ∀ c, c < w.heap.size → ¬ ((Value.slice a0 l0.items.length c0).ownBlock = some c ∨ c = gl) := fun c hc h => by
          rcases h with h | h
          · have := (hF5.g0.own.lt c h).1; omega
          · have := hF5.glt.1; omega
        have hXq : Box w2.heap.size #[.slice a8 cs.length c8, .slice (some ⟨gl, 0, none⟩) (lr.length + 1) c9] 31 (w6.setCell ⟨gl, 0, none⟩ (.slice (some ⟨g6, 0, none⟩) (l0.items.length + 1) cp6)) w2.heap.size := hHeld
        have hRq := ((hRD.ext hE4 (by omega)).grownB g5 (by omega)).ext e57 (hv1 _ (by omega))
        have hSq := src_ext s5 e57 (hv1 _ (by omega))
        have hCq := code_ext c5 e57 (by omega) (fun k hk => hv1 k (by omega))
        have hGq := grown_ext (grown_trans (grown_ext hGD (ext_of_below nb8 nowhere) (fun _ _ h => h)) (grown_trans g4 g5)) e57 (fun k hk => hv1 k (by omega))
        clear hF5 hF4 hFD hE6 hG6 hor6 e7 e57 hv1 hRD hSD hCD hGD s4 c4 g4 s5 c5 g5 hE4 hHeld hX5 hNI hlz hbz5 hl5 hb6 L9 L11 nb8
        have x0 : (w6.setCell ⟨gl, 0, none⟩ (.slice (some ⟨g6, 0, none⟩) (l0.items.length + 1) cp6)).cell? ⟨w2.heap.size, 0, none⟩ = some (.slice a8 cs.length c8) := hXq.at 0 _ rfl
        have x1 : (w6.setCell ⟨gl, 0, none⟩ (.slice (some ⟨g6, 0, none⟩) (l0.items.length + 1) cp6)).cell? ⟨w2.heap.size, 1, none⟩ = some (.slice (some ⟨gl, 0, none⟩) (lr.length + 1) c9) := hXq.at 1 _ rfl
        have z0 : (w6.setCell ⟨gl, 0, none⟩ (.slice (some ⟨g6, 0, none⟩) (l0.items.length + 1) cp6)).cell? ⟨z.heap.size, 0, none⟩ = some (.slice none 0 0) := hRq.at 0 _ rfl
        have z1 : (w6.setCell ⟨gl, 0, none⟩ (.slice (some ⟨g6, 0, none⟩) (l0.items.length + 1) cp6)).cell? ⟨z.heap.size, 1, none⟩ = some (.slice none 0 0) := hRq.at 1 _ rfl
        have f0 := hRq.soft 0
        have f1 := hRq.soft 1
        have l0 := hRq.lt
        have HSq := hide hSq
        have HCq := hide hCq
        have HGq := hide hGq
        clear hSq hCq hGq hXq hRq
        go_wp2_with fail
        refine bodyPost_ret (v := .agg #[.slice a8 cs.length c8, .slice (some ⟨gl, 0, none⟩) (lr.length + 1) c9]) (by simp [results, Try.results82, go_sem, z0, z1]) rfl ?_
        refine bent_end hbz (unhide HP) (unhide HSq) (by omega) (unhide HCq) (unhide HGq)
      case ob9_13 =>
        have nb8 : Below wD.heap.size wD (wD.alloc (.cells #[.int .i64 0, .int .i64 5, .int .i64 999] 2)) := (Below.refl _ _).alloc (Nat.le_refl _) _
        have L9 := hide (pick b (m2 + 1) wD.heap.size cv [0, 5, 999] _ (hSD.on nb8) (hCD.on (by omega) nb8) (by omega) (by simp) (by simp) (heap_alloc_new wD _) (by omega))
        go_simp
        go_at_call 84
        refine (unhide L9).mono ?_
        rintro e w4 ⟨p, rfl, hp, s4, c4, g4⟩
        have hF4 := (hFD.later nb8).grown g4 (by omega)
        have hE4 : Ext (fun c => c = b) wD w4 := (ext_of_below nb8 _).trans (ext_grown g4)
        have hz4 := hE4.size
        try go_wp2_with fail
        refine hK.out _ _ (hHeld.grownB g4 (by omega)) (fun hHeld => ?_)
        clear hK K
        try simp only [Act.put, List.setIfInBounds_toArray, List.set_cons_zero, List.set_cons_succ]
        refine wpAnyH_ready (rs := [6, 11]) (by kernel_rfl) (by simp) ?_
        refine AllReadyH.cons (o := { dst := some 21, op := Go.Op.load 42 (Go.Operand.tmp 20), type := 42, pos := "l07_ivf.go:181", after := #[{ on := 5, ground := Go.Ground.data }], guard := none }) rfl (fun K hK => ?ob6_17) (AllReadyH.cons (o := { dst := some 26, op := Go.Op.call { callee := Go.Callee.value (Go.Operand.func 83), args := #[Go.Operand.tmp 25], argTypes := #[121] }, type := 51, pos := "l07_ivf.go:181", after := #[{ on := 10, ground := Go.Ground.data }, { on := 9, ground := Go.Ground.chain }], guard := none }) rfl (fun K hK => ?ob11_17) (AllReadyH.nil))
        case ob6_17 =>
          have y6 : (w4).cell? ⟨gl, 0, none⟩ = some (.slice a0 l0.items.length c0) := hF4.cell
          go_simp
          refine hK.out _ _ hHeld (fun hHeld => ?_)
          clear hK K
          try simp only [Act.put, List.setIfInBounds_toArray, List.set_cons_zero, List.set_cons_succ]
          refine wpAnyH_ready (rs := [11]) (by kernel_rfl) (by simp) ?_
          refine AllReadyH.cons (o := { dst := some 26, op := Go.Op.call { callee := Go.Callee.value (Go.Operand.func 83), args := #[Go.Operand.tmp 25], argTypes := #[121] }, type := 51, pos := "l07_ivf.go:181", after := #[{ on := 10, ground := Go.Ground.data }, { on := 9, ground := Go.Ground.chain }], guard := none }) rfl (fun K hK => ?_) AllReadyH.nil
          have L11 := hide (bent b (m2 + 1 + 1) cv w4 s4 c4 (by omega))
          go_simp
          go_at_call 83
          refine (unhide L11).mono ?_
          rintro e w5 ⟨v3, zs, m5, rfl, hzs, hNI, hm5, s5, c5, g5⟩
          obtain ⟨bz, hlz, hbz5⟩ := hNI.lies (by omega)
          obtain ⟨a3, d3, rfl⟩ := open_sl ⟨bz, hlz⟩
          have hF5 := hF4.grown g5 (by omega)
          have hz5 := g5.size
          try go_wp2_with fail
          refine hK.out _ _ (hHeld.grownB g5 (by omega)) (fun hHeld => ?_)
          clear hK K
          try simp only [Act.put, List.setIfInBounds_toArray, List.set_cons_zero, List.set_cons_succ]
          refine wpAnyH_take (i := 12) (oi := { dst := some 27, op := Go.Op.build 106 #[(0, Go.Operand.tmp 24), (1, Go.Operand.tmp 26)], type := 106, pos := "l07_ivf.go:181", after := #[{ on := 9, ground := Go.Ground.data }, { on := 11, ground := Go.Ground.data }], guard := none }) (v := ?vb12_18) rfl (by kernel_rfl) (by kernel_rfl) (by kernel_rfl) (fun _ _ _ h => h) (Or.inl ⟨by rfl, ?hb12_18⟩) hHeld ?rb12_18
          case hb12_18 =>
            intro wS hSw
            (try dsimp only at hSw)
            go_simp
            try with_reducible rfl
          case rb12_18 =>
          simp only [Act.put, List.setIfInBounds_toArray, List.set_cons_zero, List.set_cons_succ]
          refine wpAnyH_ready (rs := [13]) (by kernel_rfl) (by simp) ?_
          refine AllReadyH.cons (o := { dst := some 28, op := Go.Op.buildSlice 42 1 #[(0, Go.Operand.tmp 27)], type := 42, pos := "l07_ivf.go:181", after := #[{ on := 12, ground := Go.Ground.data }], guard := none }) rfl (fun K hK => ?_) AllReadyH.nil
          have hX5 := hHeld
          go_simp
          refine hK.out _ _ (hHeld.grow _) (fun hHeld => ?_)
          clear hK K
          try simp only [Act.put, List.setIfInBounds_toArray, List.set_cons_zero, List.set_cons_succ]
          refine wpAnyH_ready (rs := [14]) (by kernel_rfl) (by simp) ?_
          refine AllReadyH.cons (o := { dst := some 29, op := Go.Op.call { callee := Go.Callee.builtin Go.Builtin.append, args := #[Go.Operand.tmp 21, Go.Operand.tmp 28], argTypes := #[42, 42] }, type := 42, pos := "l07_ivf.go:181", after := #[{ on := 6, ground := Go.Ground.data }, { on := 13, ground := Go.Ground.data }, { on := 11, ground := Go.Ground.chain }], guard := none }) rfl (fun K hK => ?_) AllReadyH.nil
          have hpb : 0 ≤ p ∧ p ≤ 1000 := by
            simp only [List.mem_cons, List.not_mem_nil, or_false] at hp
            omega
          have hl5 : Lay.tItem.lies w5 [.int .i64 p, .slice a3 zs.length d3] ⟨p, zs⟩ bz := lies_Item.2 ⟨a3, d3, bz, rfl, rfl, (show (Lit.int .i64 p).wf = true from wf_of_bd (by omega)), hlz⟩
          refine step_append_Item hF5.g0 (row := [.int .i64 p, .slice a3 zs.length d3]) (x := ⟨p, zs⟩) (bl := bz) hl5 (fun c hc e => by have h1 := hbz5 c hc; have h2 := hv0 c e; omega) rfl _ _ rfl rfl rfl (by omega) (by omega) ?_
          rintro g6 cp6 w6 hG6 hb6 hE6 hl6 hz6 hor6
          refine hK.out _ _ (hX5.ext hE6 (fun e => by have := hv0 _ e; omega)) (fun hHeld => ?_)
          clear hK K
          try simp only [Act.put, List.setIfInBounds_toArray, List.set_cons_zero, List.set_cons_succ]
          refine wpAnyH_take (i := 15) (oi := { dst := some 30, op := Go.Op.indexAddr 29 (Go.Operand.tmp 16) (Go.Operand.const (Go.Value.int Go.IntKind.i64 0)), type := 0, pos := "l07_ivf.go:181", after := #[{ on := 1, ground := Go.Ground.data }, { on := 0, ground := Go.Ground.phase }, { on := 1, ground := Go.Ground.phase }, { on := 2, ground := Go.Ground.phase }, { on := 3, ground := Go.Ground.phase }, { on := 4, ground := Go.Ground.phase }, { on := 5, ground := Go.Ground.phase }, { on := 6, ground := Go.Ground.phase }, { on := 7, ground := Go.Ground.phase }, { on := 8, ground := Go.Ground.phase }, { on := 9, ground := Go.Ground.phase }, { on := 10, ground := Go.Ground.phase }, { on := 11, ground := Go.Ground.phase }, { on := 12, ground := Go.Ground.phase }, { on := 13, ground := Go.Ground.phase }, { on := 14, ground := Go.Ground.phase }], guard := none }) (v := ?vb15_19) rfl (by kernel_rfl) (by kernel_rfl) (by kernel_rfl) (fun _ _ _ h => h) (Or.inl ⟨by rfl, ?hb15_19⟩) hHeld ?rb15_19
          case hb15_19 =>
            intro wS hSw
            have y1 : (0 : Int) < ((lr.length + 1 : Nat) : Int) := by omega
            (try dsimp only at hSw)
            go_simp
            try with_reducible rfl
          case rb15_19 =>
          simp only [Act.put, List.setIfInBounds_toArray, List.set_cons_zero, List.set_cons_succ]
          refine wpAnyH_take (i := 16) (oi := { dst := some 31, op := Go.Op.fieldAddr 147 (Go.Operand.tmp 30) 0, type := 0, pos := "l07_ivf.go:181", after := #[{ on := 15, ground := Go.Ground.data }, { on := 0, ground := Go.Ground.phase }, { on := 1, ground := Go.Ground.phase }, { on := 2, ground := Go.Ground.phase }, { on := 3, ground := Go.Ground.phase }, { on := 4, ground := Go.Ground.phase }, { on := 5, ground := Go.Ground.phase }, { on := 6, ground := Go.Ground.phase }, { on := 7, ground := Go.Ground.phase }, { on := 8, ground := Go.Ground.phase }, { on := 9, ground := Go.Ground.phase }, { on := 10, ground := Go.Ground.phase }, { on := 11, ground := Go.Ground.phase }, { on := 12, ground := Go.Ground.phase }, { on := 13, ground := Go.Ground.phase }, { on := 14, ground := Go.Ground.phase }], guard := none }) (v := ?vb16_20) rfl (by kernel_rfl) (by kernel_rfl) (by kernel_rfl) (fun _ _ _ h => h) (Or.inl ⟨by rfl, ?hb16_20⟩) hHeld ?rb16_20
          case hb16_20 =>
            intro wS hSw
            (try dsimp only at hSw)
            go_simp
            try with_reducible rfl
          case rb16_20 =>
          simp only [Act.put, List.setIfInBounds_toArray, List.set_cons_zero, List.set_cons_succ]
          refine wpAnyH_ready (rs := [17]) (by kernel_rfl) (by simp) ?_
          refine AllReadyH.cons (o := { dst := none, op := Go.Op.store 42 (Go.Operand.tmp 31) (Go.Operand.tmp 29), type := 0, pos := "l07_ivf.go:181", after := #[{ on := 16, ground := Go.Ground.data }, { on := 14, ground := Go.Ground.data }, { on := 14, ground := Go.Ground.chain }, { on := 0, ground := Go.Ground.phase }, { on := 1, ground := Go.Ground.phase }, { on := 2, ground := Go.Ground.phase }, { on := 3, ground := Go.Ground.phase }, { on := 4, ground := Go.Ground.phase }, { on := 5, ground := Go.Ground.phase }, { on := 6, ground := Go.Ground.phase }, { on := 7, ground := Go.Ground.phase }, { on := 8, ground := Go.Ground.phase }, { on := 9, ground := Go.Ground.phase }, { on := 10, ground := Go.Ground.phase }, { on := 11, ground := Go.Ground.phase }, { on := 12, ground := Go.Ground.phase }, { on := 13, ground := Go.Ground.phase }, { on := 14, ground := Go.Ground.phase }], guard := none }) rfl (fun K hK => ?_) AllReadyH.nil
          obtain ⟨y7, f7, k7⟩ := hF5.after hE6
          go_simp
          refine hK.out _ _ (hHeld.other _ _ (by show w2.heap.size ≠ gl; omega)) (fun hHeld => ?_)
          clear hK K
          try simp only [Act.put, List.setIfInBounds_toArray, List.set_cons_zero, List.set_cons_succ]
          refine wpAnyH_done (by kernel_rfl) ?_ _
          refine NoPanic.normal ?_
          have HP := hide ((hF5.put hE6 hG6 hor6 (fun c hc => by have h1 := hbz5 c hc; exact ⟨by omega, by omega⟩) (by omega) (by omega) (by omega)).mono (show z.heap.size + 1 ≤ w.heap.size by omega) (Nat.le_refl _))
          have e7 : Ext (fun c => c = gl) w6 (w6.setCell ⟨gl, 0, none⟩ (.slice (some ⟨g6, 0, none⟩) (l0.items.length + 1) cp6)) := (Ext.refl (fun c => c = gl) w6).setCell ⟨gl, 0, none⟩ _ rfl
          have e57 : Ext (fun c => (Value.slice a0 l0.items.length c0).ownBlock = some c ∨ c = gl) w5 (w6.setCell ⟨gl, 0, none⟩ (.slice (some ⟨g6, 0, none⟩) (l0.items.length + 1) cp6)) := (hE6.mono (fun c _ h => Or.inl h)).trans (e7.mono (fun c _ h => Or.inr h))
          have hv1 : ∀ c, c < w.heap.size → ¬ ((Value.slice a0 l0.items.length c0).ownBlock = some c ∨ c = gl) := fun c hc h => by
            rcases h with h | h
            · have := (hF5.g0.own.lt c h).1; omega
            · have := hF5.glt.1; omega
          have hXq : Box w2.heap.size #[.slice a8 cs.length c8, .slice (some ⟨gl, 0, none⟩) (lr.length + 1) c9] 31 (w6.setCell ⟨gl, 0, none⟩ (.slice (some ⟨g6, 0, none⟩) (l0.items.length + 1) cp6)) w2.heap.size := hHeld
          have hRq := ((hRD.ext hE4 (by omega)).grownB g5 (by omega)).ext e57 (hv1 _ (by omega))
          have hSq := src_ext s5 e57 (hv1 _ (by omega))
          have hCq := code_ext c5 e57 (by omega) (fun k hk => hv1 k (by omega))
          have hGq := grown_ext (grown_trans (grown_ext hGD (ext_of_below nb8 nowhere) (fun _ _ h => h)) (grown_trans g4 g5)) e57 (fun k hk => hv1 k (by omega))
          clear hF5 hF4 hFD hE6 hG6 hor6 e7 e57 hv1 hRD hSD hCD hGD s4 c4 g4 s5 c5 g5 hE4 hHeld hX5 hNI hlz hbz5 hl5 hb6 L9 L11 nb8
          have x0 : (w6.setCell ⟨gl, 0, none⟩ (.slice (some ⟨g6, 0, none⟩) (l0.items.length + 1) cp6)).cell? ⟨w2.heap.size, 0, none⟩ = some (.slice a8 cs.length c8) := hXq.at 0 _ rfl
          have x1 : (w6.setCell ⟨gl, 0, none⟩ (.slice (some ⟨g6, 0, none⟩) (l0.items.length + 1) cp6)).cell? ⟨w2.heap.size, 1, none⟩ = some (.slice (some ⟨gl, 0, none⟩) (lr.length + 1) c9) := hXq.at 1 _ rfl
          have z0 : (w6.setCell ⟨gl, 0, none⟩ (.slice (some ⟨g6, 0, none⟩) (l0.items.length + 1) cp6)).cell? ⟨z.heap.size, 0, none⟩ = some (.slice none 0 0) := hRq.at 0 _ rfl
          have z1 : (w6.setCell ⟨gl, 0, none⟩ (.slice (some ⟨g6, 0, none⟩) (l0.items.length + 1) cp6)).cell? ⟨z.heap.size, 1, none⟩ = some (.slice none 0 0) := hRq.at 1 _ rfl
          have f0 := hRq.soft 0
          have f1 := hRq.soft 1
          have l0 := hRq.lt
          have HSq := hide hSq
          have HCq := hide hCq
          have HGq := hide hGq
          clear hSq hCq hGq hXq hRq
          go_wp2_with fail
          refine bodyPost_ret (v := .agg #[.slice a8 cs.length c8, .slice (some ⟨gl, 0, none⟩) (lr.length + 1) c9]) (by simp [results, Try.results82, go_sem, z0, z1]) rfl ?_
          refine bent_end hbz (unhide HP) (unhide HSq) (by omega) (unhide HCq) (unhide HGq)
        case ob11_17 =>
          have L11 := hide (bent b (m2 + 1 + 1) cv w4 s4 c4 (by omega))
          go_simp
          go_at_call 83
          refine (unhide L11).mono ?_
          rintro e w5 ⟨v3, zs, m5, rfl, hzs, hNI, hm5, s5, c5, g5⟩
          obtain ⟨bz, hlz, hbz5⟩ := hNI.lies (by omega)
          obtain ⟨a3, d3, rfl⟩ := open_sl ⟨bz, hlz⟩
          have hF5 := hF4.grown g5 (by omega)
          have hz5 := g5.size
          try go_wp2_with fail
          refine hK.out _ _ (hHeld.grownB g5 (by omega)) (fun hHeld => ?_)
          clear hK K
          try simp only [Act.put, List.setIfInBounds_toArray, List.set_cons_zero, List.set_cons_succ]
          refine wpAnyH_take (i := 12) (oi := { dst := some 27, op := Go.Op.build 106 #[(0, Go.Operand.tmp 24), (1, Go.Operand.tmp 26)], type := 106, pos := "l07_ivf.go:181", after := #[{ on := 9, ground := Go.Ground.data }, { on := 11, ground := Go.Ground.data }], guard := none }) (v := ?vb12_21) rfl (by kernel_rfl) (by kernel_rfl) (by kernel_rfl) (fun _ _ _ h => h) (Or.inl ⟨by rfl, ?hb12_21⟩) hHeld ?rb12_21
          case hb12_21 =>
            intro wS hSw
            (try dsimp only at hSw)
            go_simp
            try with_reducible rfl
          case rb12_21 =>
          simp only [Act.put, List.setIfInBounds_toArray, List.set_cons_zero, List.set_cons_succ]
          refine wpAnyH_ready (rs := [6, 13]) (by kernel_rfl) (by simp) ?_
          refine AllReadyH.cons (o := { dst := some 21, op := Go.Op.load 42 (Go.Operand.tmp 20), type := 42, pos := "l07_ivf.go:181", after := #[{ on := 5, ground := Go.Ground.data }], guard := none }) rfl (fun K hK => ?ob6_22) (AllReadyH.cons (o := { dst := some 28, op := Go.Op.buildSlice 42 1 #[(0, Go.Operand.tmp 27)], type := 42, pos := "l07_ivf.go:181", after := #[{ on := 12, ground := Go.Ground.data }], guard := none }) rfl (fun K hK => ?ob13_22) (AllReadyH.nil))
          case ob6_22 =>
            have y6 : (w5).cell? ⟨gl, 0, none⟩ = some (.slice a0 l0.items.length c0) := hF5.cell
            go_simp
            refine hK.out _ _ hHeld (fun hHeld => ?_)
            clear hK K
            try simp only [Act.put, List.setIfInBounds_toArray, List.set_cons_zero, List.set_cons_succ]
            refine wpAnyH_ready (rs := [13]) (by kernel_rfl) (by simp) ?_
            refine AllReadyH.cons (o := { dst := some 28, op := Go.Op.buildSlice 42 1 #[(0, Go.Operand.tmp 27)], type := 42, pos := "l07_ivf.go:181", after := #[{ on := 12, ground := Go.Ground.data }], guard := none }) rfl (fun K hK => ?_) AllReadyH.nil
            have hX5 := hHeld
            go_simp
            refine hK.out _ _ (hHeld.grow _) (fun hHeld => ?_)
            clear hK K
            try simp only [Act.put, List.setIfInBounds_toArray, List.set_cons_zero, List.set_cons_succ]
            refine wpAnyH_ready (rs := [14]) (by kernel_rfl) (by simp) ?_
            refine AllReadyH.cons (o := { dst := some 29, op := Go.Op.call { callee := Go.Callee.builtin Go.Builtin.append, args := #[Go.Operand.tmp 21, Go.Operand.tmp 28], argTypes := #[42, 42] }, type := 42, pos := "l07_ivf.go:181", after := #[{ on := 6, ground := Go.Ground.data }, { on := 13, ground := Go.Ground.data }, { on := 11, ground := Go.Ground.chain }], guard := none }) rfl (fun K hK => ?_) AllReadyH.nil
            have hpb : 0 ≤ p ∧ p ≤ 1000 := by
              simp only [List.mem_cons, List.not_mem_nil, or_false] at hp
              omega
            have hl5 : Lay.tItem.lies w5 [.int .i64 p, .slice a3 zs.length d3] ⟨p, zs⟩ bz := lies_Item.2 ⟨a3, d3, bz, rfl, rfl, (show (Lit.int .i64 p).wf = true from wf_of_bd (by omega)), hlz⟩
            refine step_append_Item hF5.g0 (row := [.int .i64 p, .slice a3 zs.length d3]) (x := ⟨p, zs⟩) (bl := bz) hl5 (fun c hc e => by have h1 := hbz5 c hc; have h2 := hv0 c e; omega) rfl _ _ rfl rfl rfl (by omega) (by omega) ?_
            rintro g6 cp6 w6 hG6 hb6 hE6 hl6 hz6 hor6
            refine hK.out _ _ (hX5.ext hE6 (fun e => by have := hv0 _ e; omega)) (fun hHeld => ?_)
            clear hK K
            try simp only [Act.put, List.setIfInBounds_toArray, List.set_cons_zero, List.set_cons_succ]
            refine wpAnyH_take (i := 15) (oi := { dst := some 30, op := Go.Op.indexAddr 29 (Go.Operand.tmp 16) (Go.Operand.const (Go.Value.int Go.IntKind.i64 0)), type := 0, pos := "l07_ivf.go:181", after := #[{ on := 1, ground := Go.Ground.data }, { on := 0, ground := Go.Ground.phase }, { on := 1, ground := Go.Ground.phase }, { on := 2, ground := Go.Ground.phase }, { on := 3, ground := Go.Ground.phase }, { on := 4, ground := Go.Ground.phase }, { on := 5, ground := Go.Ground.phase }, { on := 6, ground := Go.Ground.phase }, { on := 7, ground := Go.Ground.phase }, { on := 8, ground := Go.Ground.phase }, { on := 9, ground := Go.Ground.phase }, { on := 10, ground := Go.Ground.phase }, { on := 11, ground := Go.Ground.phase }, { on := 12, ground := Go.Ground.phase }, { on := 13, ground := Go.Ground.phase }, { on := 14, ground := Go.Ground.phase }], guard := none }) (v := ?vb15_23) rfl (by kernel_rfl) (by kernel_rfl) (by kernel_rfl) (fun _ _ _ h => h) (Or.inl ⟨by rfl, ?hb15_23⟩) hHeld ?rb15_23
            case hb15_23 =>
              intro wS hSw
              have y1 : (0 : Int) < ((lr.length + 1 : Nat) : Int) := by omega
              (try dsimp only at hSw)
              go_simp
              try with_reducible rfl
            case rb15_23 =>
            simp only [Act.put, List.setIfInBounds_toArray, List.set_cons_zero, List.set_cons_succ]
            refine wpAnyH_take (i := 16) (oi := { dst := some 31, op := Go.Op.fieldAddr 147 (Go.Operand.tmp 30) 0, type := 0, pos := "l07_ivf.go:181", after := #[{ on := 15, ground := Go.Ground.data }, { on := 0, ground := Go.Ground.phase }, { on := 1, ground := Go.Ground.phase }, { on := 2, ground := Go.Ground.phase }, { on := 3, ground := Go.Ground.phase }, { on := 4, ground := Go.Ground.phase }, { on := 5, ground := Go.Ground.phase }, { on := 6, ground := Go.Ground.phase }, { on := 7, ground := Go.Ground.phase }, { on := 8, ground := Go.Ground.phase }, { on := 9, ground := Go.Ground.phase }, { on := 10, ground := Go.Ground.phase }, { on := 11, ground := Go.Ground.phase }, { on := 12, ground := Go.Ground.phase }, { on := 13, ground := Go.Ground.phase }, { on := 14, ground := Go.Ground.phase }], guard := none }) (v := ?vb16_24) rfl (by kernel_rfl) (by kernel_rfl) (by kernel_rfl) (fun _ _ _ h => h) (Or.inl ⟨by rfl, ?hb16_24⟩) hHeld ?rb16_24
            case hb16_24 =>
              intro wS hSw
              (try dsimp only at hSw)
              go_simp
              try with_reducible rfl
            case rb16_24 =>
            simp only [Act.put, List.setIfInBounds_toArray, List.set_cons_zero, List.set_cons_succ]
            refine wpAnyH_ready (rs := [17]) (by kernel_rfl) (by simp) ?_
            refine AllReadyH.cons (o := { dst := none, op := Go.Op.store 42 (Go.Operand.tmp 31) (Go.Operand.tmp 29), type := 0, pos := "l07_ivf.go:181", after := #[{ on := 16, ground := Go.Ground.data }, { on := 14, ground := Go.Ground.data }, { on := 14, ground := Go.Ground.chain }, { on := 0, ground := Go.Ground.phase }, { on := 1, ground := Go.Ground.phase }, { on := 2, ground := Go.Ground.phase }, { on := 3, ground := Go.Ground.phase }, { on := 4, ground := Go.Ground.phase }, { on := 5, ground := Go.Ground.phase }, { on := 6, ground := Go.Ground.phase }, { on := 7, ground := Go.Ground.phase }, { on := 8, ground := Go.Ground.phase }, { on := 9, ground := Go.Ground.phase }, { on := 10, ground := Go.Ground.phase }, { on := 11, ground := Go.Ground.phase }, { on := 12, ground := Go.Ground.phase }, { on := 13, ground := Go.Ground.phase }, { on := 14, ground := Go.Ground.phase }], guard := none }) rfl (fun K hK => ?_) AllReadyH.nil
            obtain ⟨y7, f7, k7⟩ := hF5.after hE6
            go_simp
            refine hK.out _ _ (hHeld.other _ _ (by show w2.heap.size ≠ gl; omega)) (fun hHeld => ?_)
            clear hK K
            try simp only [Act.put, List.setIfInBounds_toArray, List.set_cons_zero, List.set_cons_succ]
            refine wpAnyH_done (by kernel_rfl) ?_ _
            refine NoPanic.normal ?_
            have HP := hide ((hF5.put hE6 hG6 hor6 (fun c hc => by have h1 := hbz5 c hc; exact ⟨by omega, by omega⟩) (by omega) (by omega) (by omega)).mono (show z.heap.size + 1 ≤ w.heap.size by omega) (Nat.le_refl _))
            have e7 : Ext (fun c => c = gl) w6 (w6.setCell ⟨gl, 0, none⟩ (.slice (some ⟨g6, 0, none⟩) (l0.items.length + 1) cp6)) := (Ext.refl (fun c => c = gl) w6).setCell ⟨gl, 0, none⟩ _ rfl
            have e57 : Ext (fun c => (Value.slice a0 l0.items.length c0).ownBlock = some c ∨ c = gl) w5 (w6.setCell ⟨gl, 0, none⟩ (.slice (some ⟨g6, 0, none⟩) (l0.items.length + 1) cp6)) := (hE6.mono (fun c _ h => Or.inl h)).trans (e7.mono (fun c _ h => Or.inr h))
            have hv1 : ∀ c, c < w.heap.size → ¬ ((Value.slice a0 l0.items.length c0).ownBlock = some c ∨ c = gl) := fun c hc h => by
              rcases h with h | h
              · have := (hF5.g0.own.lt c h).1; omega
              · have := hF5.glt.1; omega
            have hXq : Box w2.heap.size #[.slice a8 cs.length c8, .slice (some ⟨gl, 0, none⟩) (lr.length + 1) c9] 31 (w6.setCell ⟨gl, 0, none⟩ (.slice (some ⟨g6, 0, none⟩) (l0.items.length + 1) cp6)) w2.heap.size := hHeld
            have hRq := ((hRD.ext hE4 (by omega)).grownB g5 (by omega)).ext e57 (hv1 _ (by omega))
            have hSq := src_ext s5 e57 (hv1 _ (by omega))
            have hCq := code_ext c5 e57 (by omega) (fun k hk => hv1 k (by omega))
            have hGq := grown_ext (grown_trans (grown_ext hGD (ext_of_below nb8 nowhere) (fun _ _ h => h)) (grown_trans g4 g5)) e57 (fun k hk => hv1 k (by omega))
            clear hF5 hF4 hFD hE6 hG6 hor6 e7 e57 hv1 hRD hSD hCD hGD s4 c4 g4 s5 c5 g5 hE4 hHeld hX5 hNI hlz hbz5 hl5 hb6 L9 L11 nb8
            have x0 : (w6.setCell ⟨gl, 0, none⟩ (.slice (some ⟨g6, 0, none⟩) (l0.items.length + 1) cp6)).cell? ⟨w2.heap.size, 0, none⟩ = some (.slice a8 cs.length c8) := hXq.at 0 _ rfl
            have x1 : (w6.setCell ⟨gl, 0, none⟩ (.slice (some ⟨g6, 0, none⟩) (l0.items.length + 1) cp6)).cell? ⟨w2.heap.size, 1, none⟩ = some (.slice (some ⟨gl, 0, none⟩) (lr.length + 1) c9) := hXq.at 1 _ rfl
            have z0 : (w6.setCell ⟨gl, 0, none⟩ (.slice (some ⟨g6, 0, none⟩) (l0.items.length + 1) cp6)).cell? ⟨z.heap.size, 0, none⟩ = some (.slice none 0 0) := hRq.at 0 _ rfl
            have z1 : (w6.setCell ⟨gl, 0, none⟩ (.slice (some ⟨g6, 0, none⟩) (l0.items.length + 1) cp6)).cell? ⟨z.heap.size, 1, none⟩ = some (.slice none 0 0) := hRq.at 1 _ rfl
            have f0 := hRq.soft 0
            have f1 := hRq.soft 1
            have l0 := hRq.lt
            have HSq := hide hSq
            have HCq := hide hCq
            have HGq := hide hGq
            clear hSq hCq hGq hXq hRq
            go_wp2_with fail
            refine bodyPost_ret (v := .agg #[.slice a8 cs.length c8, .slice (some ⟨gl, 0, none⟩) (lr.length + 1) c9]) (by simp [results, Try.results82, go_sem, z0, z1]) rfl ?_
            refine bent_end hbz (unhide HP) (unhide HSq) (by omega) (unhide HCq) (unhide HGq)
          case ob13_22 =>
            have hX5 := hHeld
            go_simp
            refine hK.out _ _ (hHeld.grow _) (fun hHeld => ?_)
            clear hK K
            try simp only [Act.put, List.setIfInBounds_toArray, List.set_cons_zero, List.set_cons_succ]
            refine wpAnyH_ready (rs := [6]) (by kernel_rfl) (by simp) ?_
            refine AllReadyH.cons (o := { dst := some 21, op := Go.Op.load 42 (Go.Operand.tmp 20), type := 42, pos := "l07_ivf.go:181", after := #[{ on := 5, ground := Go.Ground.data }], guard := none }) rfl (fun K hK => ?_) AllReadyH.nil
            have y6 : (w5.alloc (.cells #[.int .i64 p, .slice a3 zs.length d3] 106)).cell? ⟨gl, 0, none⟩ = some (.slice a0 l0.items.length c0) := (hF5.later ((Below.refl _ _).alloc (Nat.le_refl _) _)).cell
            go_simp
            refine hK.out _ _ hHeld (fun hHeld => ?_)
            clear hK K
            try simp only [Act.put, List.setIfInBounds_toArray, List.set_cons_zero, List.set_cons_succ]
            refine wpAnyH_ready (rs := [14]) (by kernel_rfl) (by simp) ?_
            refine AllReadyH.cons (o := { dst := some 29, op := Go.Op.call { callee := Go.Callee.builtin Go.Builtin.append, args := #[Go.Operand.tmp 21, Go.Operand.tmp 28], argTypes := #[42, 42] }, type := 42, pos := "l07_ivf.go:181", after := #[{ on := 6, ground := Go.Ground.data }, { on := 13, ground := Go.Ground.data }, { on := 11, ground := Go.Ground.chain }], guard := none }) rfl (fun K hK => ?_) AllReadyH.nil
            have hpb : 0 ≤ p ∧ p ≤ 1000 := by
              simp only [List.mem_cons, List.not_mem_nil, or_false] at hp
              omega
            have hl5 : Lay.tItem.lies w5 [.int .i64 p, .slice a3 zs.length d3] ⟨p, zs⟩ bz := lies_Item.2 ⟨a3, d3, bz, rfl, rfl, (show (Lit.int .i64 p).wf = true from wf_of_bd (by omega)), hlz⟩
            refine step_append_Item hF5.g0 (row := [.int .i64 p, .slice a3 zs.length d3]) (x := ⟨p, zs⟩) (bl := bz) hl5 (fun c hc e => by have h1 := hbz5 c hc; have h2 := hv0 c e; omega) rfl _ _ rfl rfl rfl (by omega) (by omega) ?_
            rintro g6 cp6 w6 hG6 hb6 hE6 hl6 hz6 hor6
            refine hK.out _ _ (hX5.ext hE6 (fun e => by have := hv0 _ e; omega)) (fun hHeld => ?_)
            clear hK K
            try simp only [Act.put, List.setIfInBounds_toArray, List.set_cons_zero, List.set_cons_succ]
            refine wpAnyH_take (i := 15) (oi := { dst := some 30, op := Go.Op.indexAddr 29 (Go.Operand.tmp 16) (Go.Operand.const (Go.Value.int Go.IntKind.i64 0)), type := 0, pos := "l07_ivf.go:181", after := #[{ on := 1, ground := Go.Ground.data }, { on := 0, ground := Go.Ground.phase }, { on := 1, ground := Go.Ground.phase }, { on := 2, ground := Go.Ground.phase }, { on := 3, ground := Go.Ground.phase }, { on := 4, ground := Go.Ground.phase }, { on := 5, ground := Go.Ground.phase }, { on := 6, ground := Go.Ground.phase }, { on := 7, ground := Go.Ground.phase }, { on := 8, ground := Go.Ground.phase }, { on := 9, ground := Go.Ground.phase }, { on := 10, ground := Go.Ground.phase }, { on := 11, ground := Go.Ground.phase }, { on := 12, ground := Go.Ground.phase }, { on := 13, ground := Go.Ground.phase }, { on := 14, ground := Go.Ground.phase }], guard := none }) (v := ?vb15_25) rfl (by kernel_rfl) (by kernel_rfl) (by kernel_rfl) (fun _ _ _ h => h) (Or.inl ⟨by rfl, ?hb15_25⟩) hHeld ?rb15_25
            case hb15_25 =>
              intro wS hSw
              have y1 : (0 : Int) < ((lr.length + 1 : Nat) : Int) := by omega
              (try dsimp only at hSw)
              go_simp
              try with_reducible rfl
            case rb15_25 =>
            simp only [Act.put, List.setIfInBounds_toArray, List.set_cons_zero, List.set_cons_succ]
            refine wpAnyH_take (i := 16) (oi := { dst := some 31, op := Go.Op.fieldAddr 147 (Go.Operand.tmp 30) 0, type := 0, pos := "l07_ivf.go:181", after := #[{ on := 15, ground := Go.Ground.data }, { on := 0, ground := Go.Ground.phase }, { on := 1, ground := Go.Ground.phase }, { on := 2, ground := Go.Ground.phase }, { on := 3, ground := Go.Ground.phase }, { on := 4, ground := Go.Ground.phase }, { on := 5, ground := Go.Ground.phase }, { on := 6, ground := Go.Ground.phase }, { on := 7, ground := Go.Ground.phase }, { on := 8, ground := Go.Ground.phase }, { on := 9, ground := Go.Ground.phase }, { on := 10, ground := Go.Ground.phase }, { on := 11, ground := Go.Ground.phase }, { on := 12, ground := Go.Ground.phase }, { on := 13, ground := Go.Ground.phase }, { on := 14, ground := Go.Ground.phase }], guard := none }) (v := ?vb16_26) rfl (by kernel_rfl) (by kernel_rfl) (by kernel_rfl) (fun _ _ _ h => h) (Or.inl ⟨by rfl, ?hb16_26⟩) hHeld ?rb16_26
            case hb16_26 =>
              intro wS hSw
              (try dsimp only at hSw)
              go_simp
              try with_reducible rfl
            case rb16_26 =>
            simp only [Act.put, List.setIfInBounds_toArray, List.set_cons_zero, List.set_cons_succ]
            refine wpAnyH_ready (rs := [17]) (by kernel_rfl) (by simp) ?_
            refine AllReadyH.cons (o := { dst := none, op := Go.Op.store 42 (Go.Operand.tmp 31) (Go.Operand.tmp 29), type := 0, pos := "l07_ivf.go:181", after := #[{ on := 16, ground := Go.Ground.data }, { on := 14, ground := Go.Ground.data }, { on := 14, ground := Go.Ground.chain }, { on := 0, ground := Go.Ground.phase }, { on := 1, ground := Go.Ground.phase }, { on := 2, ground := Go.Ground.phase }, { on := 3, ground := Go.Ground.phase }, { on := 4, ground := Go.Ground.phase }, { on := 5, ground := Go.Ground.phase }, { on := 6, ground := Go.Ground.phase }, { on := 7, ground := Go.Ground.phase }, { on := 8, ground := Go.Ground.phase }, { on := 9, ground := Go.Ground.phase }, { on := 10, ground := Go.Ground.phase }, { on := 11, ground := Go.Ground.phase }, { on := 12, ground := Go.Ground.phase }, { on := 13, ground := Go.Ground.phase }, { on := 14, ground := Go.Ground.phase }], guard := none }) rfl (fun K hK => ?_) AllReadyH.nil
            obtain ⟨y7, f7, k7⟩ := hF5.after hE6
            go_simp
            refine hK.out _ _ (hHeld.other _ _ (by show w2.heap.size ≠ gl; omega)) (fun hHeld => ?_)
            clear hK K
            try simp only [Act.put, List.setIfInBounds_toArray, List.set_cons_zero, List.set_cons_succ]
            refine wpAnyH_done (by kernel_rfl) ?_ _
            refine NoPanic.normal ?_
            have HP := hide ((hF5.put hE6 hG6 hor6 (fun c hc => by have h1 := hbz5 c hc; exact ⟨by omega, by omega⟩) (by omega) (by omega) (by omega)).mono (show z.heap.size + 1 ≤ w.heap.size by omega) (Nat.le_refl _))
            have e7 : Ext (fun c => c = gl) w6 (w6.setCell ⟨gl, 0, none⟩ (.slice (some ⟨g6, 0, none⟩) (l0.items.length + 1) cp6)) := (Ext.refl (fun c => c = gl) w6).setCell ⟨gl, 0, none⟩ _ rfl
            have e57 : Ext (fun c => (Value.slice a0 l0.items.length c0).ownBlock = some c ∨ c = gl) w5 (w6.setCell ⟨gl, 0, none⟩ (.slice (some ⟨g6, 0, none⟩) (l0.items.length + 1) cp6)) := (hE6.mono (fun c _ h => Or.inl h)).trans (e7.mono (fun c _ h => Or.inr h))
            have hv1 : ∀ c, c < w.heap.size → ¬ ((Value.slice a0 l0.items.length c0).ownBlock = some c ∨ c = gl) := fun c hc h => by
              rcases h with h | h
              · have := (hF5.g0.own.lt c h).1; omega
              · have := hF5.glt.1; omega
            have hXq : Box w2.heap.size #[.slice a8 cs.length c8, .slice (some ⟨gl, 0, none⟩) (lr.length + 1) c9] 31 (w6.setCell ⟨gl, 0, none⟩ (.slice (some ⟨g6, 0, none⟩) (l0.items.length + 1) cp6)) w2.heap.size := hHeld
            have hRq := ((hRD.ext hE4 (by omega)).grownB g5 (by omega)).ext e57 (hv1 _ (by omega))
            have hSq := src_ext s5 e57 (hv1 _ (by omega))
            have hCq := code_ext c5 e57 (by omega) (fun k hk => hv1 k (by omega))
            have hGq := grown_ext (grown_trans (grown_ext hGD (ext_of_below nb8 nowhere) (fun _ _ h => h)) (grown_trans g4 g5)) e57 (fun k hk => hv1 k (by omega))
            clear hF5 hF4 hFD hE6 hG6 hor6 e7 e57 hv1 hRD hSD hCD hGD s4 c4 g4 s5 c5 g5 hE4 hHeld hX5 hNI hlz hbz5 hl5 hb6 L9 L11 nb8
            have x0 : (w6.setCell ⟨gl, 0, none⟩ (.slice (some ⟨g6, 0, none⟩) (l0.items.length + 1) cp6)).cell? ⟨w2.heap.size, 0, none⟩ = some (.slice a8 cs.length c8) := hXq.at 0 _ rfl
            have x1 : (w6.setCell ⟨gl, 0, none⟩ (.slice (some ⟨g6, 0, none⟩) (l0.items.length + 1) cp6)).cell? ⟨w2.heap.size, 1, none⟩ = some (.slice (some ⟨gl, 0, none⟩) (lr.length + 1) c9) := hXq.at 1 _ rfl
            have z0 : (w6.setCell ⟨gl, 0, none⟩ (.slice (some ⟨g6, 0, none⟩) (l0.items.length + 1) cp6)).cell? ⟨z.heap.size, 0, none⟩ = some (.slice none 0 0) := hRq.at 0 _ rfl
            have z1 : (w6.setCell ⟨gl, 0, none⟩ (.slice (some ⟨g6, 0, none⟩) (l0.items.length + 1) cp6)).cell? ⟨z.heap.size, 1, none⟩ = some (.slice none 0 0) := hRq.at 1 _ rfl
            have f0 := hRq.soft 0
            have f1 := hRq.soft 1
            have l0 := hRq.lt
            have HSq := hide hSq
            have HCq := hide hCq
            have HGq := hide hGq
            clear hSq hCq hGq hXq hRq
            go_wp2_with fail
            refine bodyPost_ret (v := .agg #[.slice a8 cs.length c8, .slice (some ⟨gl, 0, none⟩) (lr.length + 1) c9]) (by simp [results, Try.results82, go_sem, z0, z1]) rfl ?_
            refine bent_end hbz (unhide HP) (unhide HSq) (by omega) (unhide HCq) (unhide HGq)
  · obtain ⟨l0, lr, rfl⟩ : ∃ l0 lr, ls = l0 :: lr := by
      have := unhide HLL
      cases ls with
      | nil => simp at this; omega
      | cons l0 lr => exact ⟨l0, lr, rfl⟩
    have hll : lr.length ≤ 3 := by
      have h9 : lr.length + 1 = cs.length := by simpa using unhide HLL
      omega
    have hil : l0.items.length ≤ 11 := by have := unhide HIL l0 (by simp); omega
    obtain ⟨gl, rowsC, blsC, rowsL, blsL, v0, rows0, bls0, rfl, -, hF2⟩ := (unhide HT).fst
    have hzw := unhide HZW
    have hcap := hF2.cap
    by_cases h1c : c9 = 1
    · subst h1c
      obtain rfl : lr = [] := List.eq_nil_of_length_eq_zero (by omega)
      have hT2 : (Lay.sl Lay.tIvfList).LiesIn w2 [.slice (some ⟨gl, 0, none⟩) 0 0] [] w.heap.size w2.heap.size := ⟨[], ⟨some ⟨gl, 0, none⟩, 0, rfl, ⟨by simp, by simp⟩, Or.inl ⟨rfl, rfl⟩⟩, by simp⟩
      have hC2 : (Lay.sl Lay.tCenter).LiesIn w2 [.slice a8 cs.length c8] cs w.heap.size w2.heap.size := hF2.gC.toLies (by omega) hF2.sC
      have e4 : Ext (fun c => c = w2.heap.size) w3 (w3.setCell ⟨w2.heap.size, 1, none⟩ (.slice (some ⟨gl, 0, none⟩) 0 0)) := (Ext.refl (fun c => c = w2.heap.size) w3).setCell ⟨w2.heap.size, 1, none⟩ _ rfl
      have hL7 := (hT2.ext (unhide HE) (fun k h1 h2 e => by omega)).ext e4 (fun k h1 h2 e => by omega)
      have hC7 := (hC2.ext (unhide HE) (fun k h1 h2 e => by omega)).ext e4 (fun k h1 h2 e => by omega)
      have HP : Hid (Lay.tIvf.LiesIn (w3.setCell ⟨w2.heap.size, 1, none⟩ (.slice (some ⟨gl, 0, none⟩) 0 0)) [.slice a8 cs.length c8, .slice (some ⟨gl, 0, none⟩) 0 0] ⟨cs, []⟩ (z.heap.size + 1) (w3.setCell ⟨w2.heap.size, 1, none⟩ (.slice (some ⟨gl, 0, none⟩) 0 0)).heap.size) := ivf_lies (hC7.mono (by omega) (by have := e4.size; omega)) (hL7.mono (by omega) (by have := e4.size; omega))
      have hX3 : Box w2.heap.size #[.slice a8 cs.length c8, .slice (some ⟨gl, 0, none⟩) 1 1] 31 w3 w2.heap.size := unhide HX3
      have y0 : w3.cell? ⟨w2.heap.size, 1, none⟩ = some (.slice (some ⟨gl, 0, none⟩) 1 1) := hX3.at 1 _ rfl
      have g0 := hX3.soft 1
      have k0 := hX3.lt
      have hXq : Box w2.heap.size #[.slice a8 cs.length c8, .slice (some ⟨gl, 0, none⟩) 0 0] 31 (w3.setCell ⟨w2.heap.size, 1, none⟩ (.slice (some ⟨gl, 0, none⟩) 0 0)) w2.heap.size := hX3.set 1 _
      have hRq := (unhide HR3).ext e4 (by omega)
      have hSq := src_ext (unhide HS3) e4 (by omega)
      have hCq := code_ext (unhide HC3) e4 (by omega) (fun k hk e => by omega)
      have hGq := grown_ext (unhide HG3) e4 (fun k hk e => by omega)
      clear HX3 HR3 HS3 HC3 HG3 HT3 HT HE hzw hL7 hC7 hT2 hC2 hF2 e4 hX3
      have x0 : (w3.setCell ⟨w2.heap.size, 1, none⟩ (.slice (some ⟨gl, 0, none⟩) 0 0)).cell? ⟨w2.heap.size, 0, none⟩ = some (.slice a8 cs.length c8) := hXq.at 0 _ rfl
      have x1 : (w3.setCell ⟨w2.heap.size, 1, none⟩ (.slice (some ⟨gl, 0, none⟩) 0 0)).cell? ⟨w2.heap.size, 1, none⟩ = some (.slice (some ⟨gl, 0, none⟩) 0 0) := hXq.at 1 _ rfl
      have z0 : (w3.setCell ⟨w2.heap.size, 1, none⟩ (.slice (some ⟨gl, 0, none⟩) 0 0)).cell? ⟨z.heap.size, 0, none⟩ = some (.slice none 0 0) := hRq.at 0 _ rfl
      have z1 : (w3.setCell ⟨w2.heap.size, 1, none⟩ (.slice (some ⟨gl, 0, none⟩) 0 0)).cell? ⟨z.heap.size, 1, none⟩ = some (.slice none 0 0) := hRq.at 1 _ rfl
      have f0 := hRq.soft 0
      have f1 := hRq.soft 1
      have l0 := hRq.lt
      have HSq := hide hSq
      have HCq := hide hCq
      have HGq := hide hGq
      clear hSq hCq hGq hXq hRq
      go_wp2_with fail
      refine bodyPost_ret (v := .agg #[.slice a8 cs.length c8, .slice (some ⟨gl, 0, none⟩) 0 0]) (by simp [results, Try.results82, go_sem, z0, z1]) rfl ?_
      refine bent_end hbz (unhide HP) (unhide HSq) (by omega) (unhide HCq) (unhide HGq)
    · have h2c : c9 - 1 ≠ 0 := by omega
      have hT2 : (Lay.sl Lay.tIvfList).LiesIn w2 [.slice (some ⟨gl, 1, none⟩) lr.length (c9 - 1)] lr w.heap.size w2.heap.size := lists_tail hF2.gL (by omega) hF2.cap hF2.sL
      have hC2 : (Lay.sl Lay.tCenter).LiesIn w2 [.slice a8 cs.length c8] cs w.heap.size w2.heap.size := hF2.gC.toLies (by omega) hF2.sC
      have e4 : Ext (fun c => c = w2.heap.size) w3 (w3.setCell ⟨w2.heap.size, 1, none⟩ (.slice (some ⟨gl, 1, none⟩) lr.length (c9 - 1))) := (Ext.refl (fun c => c = w2.heap.size) w3).setCell ⟨w2.heap.size, 1, none⟩ _ rfl
      have hL7 := (hT2.ext (unhide HE) (fun k h1 h2 e => by omega)).ext e4 (fun k h1 h2 e => by omega)
      have hC7 := (hC2.ext (unhide HE) (fun k h1 h2 e => by omega)).ext e4 (fun k h1 h2 e => by omega)
      have HP : Hid (Lay.tIvf.LiesIn (w3.setCell ⟨w2.heap.size, 1, none⟩ (.slice (some ⟨gl, 1, none⟩) lr.length (c9 - 1))) [.slice a8 cs.length c8, .slice (some ⟨gl, 1, none⟩) lr.length (c9 - 1)] ⟨cs, lr⟩ (z.heap.size + 1) (w3.setCell ⟨w2.heap.size, 1, none⟩ (.slice (some ⟨gl, 1, none⟩) lr.length (c9 - 1))).heap.size) := ivf_lies (hC7.mono (by omega) (by have := e4.size; omega)) (hL7.mono (by omega) (by have := e4.size; omega))
      have hX3 : Box w2.heap.size #[.slice a8 cs.length c8, .slice (some ⟨gl, 0, none⟩) (lr.length + 1) c9] 31 w3 w2.heap.size := unhide HX3
      have y0 : w3.cell? ⟨w2.heap.size, 1, none⟩ = some (.slice (some ⟨gl, 0, none⟩) (lr.length + 1) c9) := hX3.at 1 _ rfl
      have g0 := hX3.soft 1
      have k0 := hX3.lt
      have hXq : Box w2.heap.size #[.slice a8 cs.length c8, .slice (some ⟨gl, 1, none⟩) lr.length (c9 - 1)] 31 (w3.setCell ⟨w2.heap.size, 1, none⟩ (.slice (some ⟨gl, 1, none⟩) lr.length (c9 - 1))) w2.heap.size := hX3.set 1 _
      have hRq := (unhide HR3).ext e4 (by omega)
      have hSq := src_ext (unhide HS3) e4 (by omega)
      have hCq := code_ext (unhide HC3) e4 (by omega) (fun k hk e => by omega)
      have hGq := grown_ext (unhide HG3) e4 (fun k hk e => by omega)
      clear HX3 HR3 HS3 HC3 HG3 HT3 HT HE hzw hL7 hC7 hT2 hC2 hF2 e4 hX3
      have x0 : (w3.setCell ⟨w2.heap.size, 1, none⟩ (.slice (some ⟨gl, 1, none⟩) lr.length (c9 - 1))).cell? ⟨w2.heap.size, 0, none⟩ = some (.slice a8 cs.length c8) := hXq.at 0 _ rfl
      have x1 : (w3.setCell ⟨w2.heap.size, 1, none⟩ (.slice (some ⟨gl, 1, none⟩) lr.length (c9 - 1))).cell? ⟨w2.heap.size, 1, none⟩ = some (.slice (some ⟨gl, 1, none⟩) lr.length (c9 - 1)) := hXq.at 1 _ rfl
      have z0 : (w3.setCell ⟨w2.heap.size, 1, none⟩ (.slice (some ⟨gl, 1, none⟩) lr.length (c9 - 1))).cell? ⟨z.heap.size, 0, none⟩ = some (.slice none 0 0) := hRq.at 0 _ rfl
      have z1 : (w3.setCell ⟨w2.heap.size, 1, none⟩ (.slice (some ⟨gl, 1, none⟩) lr.length (c9 - 1))).cell? ⟨z.heap.size, 1, none⟩ = some (.slice none 0 0) := hRq.at 1 _ rfl
      have f0 := hRq.soft 0
      have f1 := hRq.soft 1
      have l0 := hRq.lt
      have HSq := hide hSq
      have HCq := hide hCq
      have HGq := hide hGq
      clear hSq hCq hGq hXq hRq
      go_wp2_with fail
      refine bodyPost_ret (v := .agg #[.slice a8 cs.length c8, .slice (some ⟨gl, 1, none⟩) lr.length (c9 - 1)]) (by simp [results, Try.results82, go_sem, z0, z1]) rfl ?_
      refine bent_end hbz (unhide HP) (unhide HSq) (by omega) (unhide HCq) (unhide HGq)
  · have d0 : ((q : Int) == 0) = false := by rw [beq_eq_false_iff_ne]; omega
    have d1 : ((q : Int) == 1) = false := by rw [beq_eq_false_iff_ne]; omega
    have d2 : ((q : Int) == 2) = false := by rw [beq_eq_false_iff_ne]; omega
    have hzw := unhide HZW
    have hXq := unhide HX3
    have hRq := unhide HR3
    have hSq := unhide HS3
    have hCq := unhide HC3
    have hGq := unhide HG3
    have HP : Hid (Lay.tIvf.LiesIn w3 [.slice a8 cs.length c8, .slice a9 ls.length c9] ⟨cs, ls⟩ (z.heap.size + 1) w3.heap.size) := ((unhide HT3).two.lies (by omega) (by have := unhide HLL; omega)).mono (by omega) (Nat.le_refl _)
    clear HX3 HR3 HS3 HC3 HG3 HT3 HT HE hzw
    have x0 : (w3).cell? ⟨w2.heap.size, 0, none⟩ = some (.slice a8 cs.length c8) := hXq.at 0 _ rfl
    have x1 : (w3).cell? ⟨w2.heap.size, 1, none⟩ = some (.slice a9 ls.length c9) := hXq.at 1 _ rfl
    have z0 : (w3).cell? ⟨z.heap.size, 0, none⟩ = some (.slice none 0 0) := hRq.at 0 _ rfl
    have z1 : (w3).cell? ⟨z.heap.size, 1, none⟩ = some (.slice none 0 0) := hRq.at 1 _ rfl
    have f0 := hRq.soft 0
    have f1 := hRq.soft 1
    have l0 := hRq.lt
    have HSq := hide hSq
    have HCq := hide hCq
    have HGq := hide hGq
    clear hSq hCq hGq hXq hRq
    go_wp2_with fail
    refine bodyPost_ret (v := .agg #[.slice a8 cs.length c8, .slice a9 ls.length c9]) (by simp [results, Try.results82, go_sem, z0, z1]) rfl ?_
    refine bent_end hbz (unhide HP) (unhide HSq) (by omega) (unhide HCq) (unhide HGq)

end Go.Proofs.Ytfgadegpdknocaa

namespace Go.Proofs.Ytfgadegpdknocaa
open Go.RowKit

theorem code_up {b b' : Nat} {w : World} {cv : Value} (h : IsCode b w cv) (hb : b ≤ b') : IsCode b' w cv := by
  obtain ⟨ao, len, cap, e, hl, hc⟩ := h
  refine ⟨ao, len, cap, e, hl, fun hp => ?_⟩
  obtain ⟨d, off, e2, hd, r⟩ := hc hp
  exact ⟨d, off, e2, by omega, r⟩

set_option maxRecDepth 10000 in
set_option maxHeartbeats 2000000 in
theorem draw_DrawAddIvf (ao : Option Addr) (len cap : Nat) (w : World) (hc : IsCode w.heap.size w (.slice ao len cap)) :
    Calls Try.prog 47 #[.slice ao len cap] w fun e w' => ∃ (rc rl : Value) (x : DIvf) (id : Int) (vv : Value) (vec : List Int), e = .returned (.tuple #[.agg #[rc, rl], .int .i64 id, vv]) ∧ Lay.tIvf.Reads w' [rc, rl] x ∧ (0 ≤ id ∧ id ≤ 999) ∧ (Lay.sl Lay.int).Reads w' [vv] vec ∧ vec.length ≤ 4 ∧ Below w.heap.size w w' := by
  have nz : Below w.heap.size w (w.alloc (.cells #[.slice none 0 0, .slice none 0 0] 31)) := (Below.refl _ _).alloc (Nat.le_refl _) _
  have bR : Box w.heap.size #[.slice none 0 0, .slice none 0 0] 31 (w.alloc (.cells #[.slice none 0 0, .slice none 0 0] 31)) w.heap.size := newBox (Nat.le_refl _)
  have hwz : (w.alloc (.cells #[.slice none 0 0, .slice none 0 0] 31)).heap.size = w.heap.size + 1 := by simp
  have c0 := hc.on (Nat.le_refl _) nz
  have L0 := hide (source ao len cap (w.alloc (.cells #[.slice none 0 0, .slice none 0 0] 31)))
  have HNZ := hide nz
  have HBR := hide bR
  have HC0 := hide c0
  have HWZ := hide hwz
  clear nz bR c0 hc hwz
  go_enter Try.func47, Try.ntmps47
  go_wp2_with fail
  generalize hwd : w.alloc (.cells #[.slice none 0 0, .slice none 0 0] 31) = z at *
  clear hwd
  refine (unhide L0).mono ?_
  rintro e w1 ⟨rfl, rfl⟩
  have hzw := unhide HWZ
  have s1 := src_new z (.slice ao len cap)
  have nb1 : Below z.heap.size z (z.alloc (.cells #[.slice ao len cap, .int .i64 0] 167)) := (Below.refl _ _).alloc (Nat.le_refl _) _
  have c1 : IsCode z.heap.size (z.alloc (.cells #[.slice ao len cap, .int .i64 0] 167)) (.slice ao len cap) := (code_up (unhide HC0) (by omega)).on (Nat.le_refl _) nb1
  have hR1 := (unhide HBR).keep nb1
  have hB1 : Below w.heap.size w (z.alloc (.cells #[.slice ao len cap, .int .i64 0] 167)) := (unhide HNZ).trans (nb1.mono (by omega))
  generalize z.alloc (.cells #[.slice ao len cap, .int .i64 0] 167) = w1 at *
  have hlt := s1.lt
  have HL := hide (drawB7 z.heap.size 0 _ w1 s1 c1 (by omega))
  have HR := hide hR1
  have HB := hide hB1
  have hzw1 : z.heap.size ≤ w.heap.size + 1 := by omega
  have hzw2 : w.heap.size + 1 ≤ z.heap.size := by omega
  clear s1 c1 nb1 hR1 hB1 L0 HNZ HBR HC0 HWZ hzw
  go_wp2_with fail
  refine (unhide HL).mono ?_
  rintro e w2 ⟨rc, rl, x, m', rfl, hX, s2, hm', c2, g2⟩
  have hXf := hX
  obtain ⟨blf, hXf, -⟩ := hXf
  obtain ⟨a8, c8, -, a9, c9, -, ef, -⟩ := lies_Ivf.1 hXf
  obtain ⟨rfl, rfl⟩ : rc = .slice a8 x.centers.length c8 ∧ rl = .slice a9 x.lists.length c9 := by simpa using ef
  clear hXf ef
  replace HR := hide ((unhide HR).grownB g2 (by omega))
  replace HB := hide ((unhide HB).grown g2 (by omega) (fun k hk => by simp at hk; omega))
  have hz2 := g2.size
  have HX := hide hX
  clear hX g2 HL
  have L3 := hide (next z.heap.size m' _ 14 w2 s2 c2 (by omega) (by omega) (by omega))
  clear s2 c2
  go_wp2_with fail
  refine (unhide L3).mono ?_
  rintro e w3 ⟨q, rfl, hq, s3, c3, g3⟩
  replace HX := hide ((unhide HX).ext (ext_grown g3) (fun k h1 h2 e => by omega))
  replace HR := hide ((unhide HR).grownB g3 (by omega))
  replace HB := hide ((unhide HB).grown g3 (unhide HB).size (fun k hk => by simp at hk; omega))
  have hz3 := g3.size
  clear g3 L3
  have L4 := hide (next z.heap.size (m' + 1) _ 14 w3 s3 c3 (by omega) (by omega) (by omega))
  clear s3 c3
  go_wp2_with fail
  refine (unhide L4).mono ?_
  rintro e w4 ⟨y, rfl, hy, s4, c4, g4⟩
  replace HX := hide ((unhide HX).ext (ext_grown g4) (fun k h1 h2 e => by omega))
  replace HR := hide ((unhide HR).grownB g4 (by omega))
  replace HB := hide ((unhide HB).grown g4 (unhide HB).size (fun k hk => by simp at hk; omega))
  have hz4 := g4.size
  clear g4 L4
  have nb5 : Below w4.heap.size w4 (w4.alloc (.cells #[.int .i64 (1 + (q : Int)), .int .i64 (1 + (y : Int)), .int .i64 0, .int .i64 999] 2)) := (Below.refl _ _).alloc (Nat.le_refl _) _
  have hg5 := heap_alloc_new w4 (.cells #[.int .i64 (1 + (q : Int)), .int .i64 (1 + (y : Int)), .int .i64 0, .int .i64 999] 2)
  replace HX := hide ((unhide HX).later nb5)
  replace HR := hide ((unhide HR).keep nb5)
  replace HB := hide ((unhide HB).trans (nb5.mono (unhide HB).size))
  have L6 := hide (pick z.heap.size (m' + 1 + 1) w4.heap.size _ [1 + (q : Int), 1 + (y : Int), 0, 999] _ (s4.on nb5) (c4.on (by omega) nb5) (by omega) (by simp) (by simp) hg5 (by omega))
  have hz5 := nb5.size
  clear s4 c4 nb5 hg5
  go_wp2_with fail
  refine (unhide L6).mono ?_
  generalize w4.alloc (.cells #[.int .i64 (1 + (q : Int)), .int .i64 (1 + (y : Int)), .int .i64 0, .int .i64 999] 2) = W5 at *
  rintro e w6 ⟨p, rfl, hp, s6, c6, g6⟩
  have hpb : 0 ≤ p ∧ p ≤ 999 := by
    simp only [List.mem_cons, List.not_mem_nil, or_false] at hp
    omega
  replace HX := hide ((unhide HX).ext (ext_grown g6) (fun k h1 h2 e => by omega))
  replace HR := hide ((unhide HR).grownB g6 (by omega))
  replace HB := hide ((unhide HB).grown g6 (unhide HB).size (fun k hk => by simp at hk; omega))
  have hz6 := g6.size
  clear g6 L6 hp
  have L7 := hide (bent z.heap.size (m' + 1 + 1 + 1) _ w6 s6 c6 (by omega))
  clear s6 c6
  go_wp2_with fail
  refine (unhide L7).mono ?_
  rintro e w7 ⟨v3, zs, m3, rfl, hzs, hNI, hm3, s7, c7, g7⟩
  replace HX := hide ((unhide HX).ext (ext_grown g7) (fun k h1 h2 e => by omega))
  replace HR := hide ((unhide HR).grownB g7 (by omega))
  replace HB := hide ((unhide HB).grown g7 (unhide HB).size (fun k hk => by simp at hk; omega))
  have hz7 := g7.size
  obtain ⟨bz, hlz, hbz5⟩ := hNI.lies (by omega)
  obtain ⟨a3, d3, rfl⟩ := open_sl ⟨bz, hlz⟩
  have HV : Hid ((Lay.sl Lay.int).LiesIn w7 [.slice a3 zs.length d3] zs (z.heap.size + 1) w7.heap.size) := ⟨bz, hlz, fun c hc => ⟨by have := hbz5 c hc; omega, Lay.lt _ hlz c hc⟩⟩
  clear hNI hlz hbz5
  clear g7 L7
  have hRq := unhide HR
  have z0 : w7.cell? ⟨w.heap.size, 0, none⟩ = some (.slice none 0 0) := hRq.at 0 _ rfl
  have z1 : w7.cell? ⟨w.heap.size, 1, none⟩ = some (.slice none 0 0) := hRq.at 1 _ rfl
  have f0 := hRq.soft 0
  have f1 := hRq.soft 1
  have l0 := hRq.lt
  have HE9 : Hid (Ext (fun c => c = w.heap.size) w7 ((w7.setCell ⟨w.heap.size, 0, none⟩ (.slice a8 x.centers.length c8)).setCell ⟨w.heap.size, 1, none⟩ (.slice a9 x.lists.length c9))) := ((Ext.refl (fun c => c = w.heap.size) _).setCell ⟨w.heap.size, 0, none⟩ _ rfl).setCell ⟨w.heap.size, 1, none⟩ _ rfl
  clear hRq
  go_wp2_with fail
  refine bodyPost_ret (v := .tuple #[.agg #[.slice a8 x.centers.length c8, .slice a9 x.lists.length c9], .int .i64 p, .slice a3 zs.length d3]) (by simp [results, Try.results47, go_sem, z0, z1]) rfl ?_
  have hE := unhide HE9
  have hX9 := ((unhide HX).ext hE (fun k h1 h2 e => by omega)).reads
  have hV9 := ((unhide HV).ext hE (fun k h1 h2 e => by omega)).reads
  have hB9 : Below w.heap.size w _ := (unhide HB).trans (hE.below (unhide HB).size (fun k hk e => by omega))
  exact ⟨_, _, x, p, _, zs, rfl, hX9, hpb, hV9, hzs, hB9⟩

end Go.Proofs.Ytfgadegpdknocaa

namespace Go.Proofs.Ytfgadegpdknocaa
open Go.RowKit

theorem ivf_small {x : DIvf} (h : ivfFault x = 0) : (∀ l ∈ x.lists, tableFault l.items = 0) ∧ x.lists.length ≤ 6 := by
  obtain ⟨h1, h2, h3, -⟩ := ivfFault_zero h
  exact ⟨list_facts h3, by rw [h2]; exact (centersFault_zero h1).1.2⟩
theorem all_right {x : DIvf} (h : ivfFault x = 0) : Right (allIs x.lists) := by
  obtain ⟨-, -, h3, h4, h5⟩ := ivfFault_zero h
  exact tableFault_of (by omega) (fun y hy => by obtain ⟨l, hl, hm⟩ := allIs_mem hy; exact (tableFault_zero (list_facts h3 l hl)).2.1 y hm) (allIs_rising _)
theorem askedI_zero {x : DIvf} {id : Int} (h : askedI x id = 0) : ivfFault x = 0 ∧ idB id = true := by
  unfold askedI at h
  by_cases h1 : ivfFault x = 0
  · rw [if_pos h1] at h
    cases h2 : idB id with
    | true => exact ⟨h1, rfl⟩
    | false => rw [h2] at h; cases h
  · rw [if_neg h1] at h; exact absurd h h1
theorem askedI_wf (x : DIvf) (id : Int) : (Lit.int .i64 (askedI x id)).wf = true := by
  have := ivfFault_bd x
  refine wf_of_bd ?_
  unfold askedI
  split
  · split <;> omega
  · omega
theorem right_less {xs : List DItem} (h : Right xs) : xs.length ≤ 1000000 ∧ ∀ x ∈ xs, x.vec.length ≤ 100000000 := by
  obtain ⟨h1, h2, -⟩ := tableFault_zero h
  exact ⟨by omega, fun x hx => by have := (vecFault_zero (h2 x hx).2).1; omega⟩

end Go.Proofs.Ytfgadegpdknocaa

namespace Go.Proofs.Ytfgadegpdknocaa
open Go.RowKit

theorem rising_inj {xs : List DItem} (h : Rising xs) {x y : DItem} (hx : x ∈ xs) (hy : y ∈ xs) (e : x.id = y.id) : x = y := by
  induction xs with
  | nil => cases hx
  | cons z zs ih =>
    obtain ⟨h1, h2⟩ := List.pairwise_cons.1 h
    rcases List.mem_cons.1 hx with e1 | hx1 <;> rcases List.mem_cons.1 hy with e2 | hy1
    · rw [e1, e2]
    · have := h1 y hy1; rw [e1] at e; omega
    · have := h1 x hx1; rw [e2] at e; omega
    · exact ih h2 hx1 hy1
theorem find_rising {xs : List DItem} (h : Rising xs) {x : DItem} (hx : x ∈ xs) : xs.find? (fun y => y.id == x.id) = some x := by
  cases hf : xs.find? (fun y => y.id == x.id) with
  | none => exact absurd rfl (hasI_false (find_none hf) x hx)
  | some y =>
    obtain ⟨h1, h2⟩ := find_at hf
    rw [rising_inj h h1 hx h2]
theorem getI_in {xs : List DItem} (h : Right xs) {x : DItem} (hx : x ∈ xs) : getI xs x.id = ⟨0, x.vec⟩ := by
  obtain ⟨-, ha, hr⟩ := tableFault_zero h
  rw [getI, if_pos (show tableFault xs = 0 from h), if_pos (ha x hx).1, find_rising hr hx]
  rfl
theorem dropI_insI (x : DItem) (ds : List DItem) (h : ∀ y ∈ ds, y.id ≠ x.id) : dropI (insI x ds) x.id = ds := by
  induction ds with
  | nil => simp [insI, dropI]
  | cons y ys ih =>
    have hy := h y (by simp)
    rw [insI]
    split
    · rw [show dropI (x :: y :: ys) x.id = dropI (y :: ys) x.id by simp [dropI], dropI_none h]
    · rw [show dropI (y :: insI x ys) x.id = y :: dropI (insI x ys) x.id by simp [dropI, hy], ih fun z hz => h z (List.mem_cons_of_mem _ hz)]
theorem dropI_putI (xs : List DItem) (id : Int) (vec : List Int) : dropI (putI xs id vec) id = dropI xs id := dropI_insI ⟨id, vec⟩ (dropI xs id) fun _ hy => (mem_dropI.1 hy).2
theorem putI_again (xs : List DItem) (id : Int) (vec : List Int) : putI (putI xs id vec) id vec = putI xs id vec := by
  show insI ⟨id, vec⟩ (dropI (putI xs id vec) id) = insI ⟨id, vec⟩ (dropI xs id)
  rw [dropI_putI]
theorem putR_zero {xs : List DItem} {id : Int} {vec : List Int} (h : (putR xs id vec).code = 0) : Right xs ∧ idB id = true ∧ vecFault vec = 0 ∧ roomB xs id = true ∧ putR xs id vec = ⟨0, putI xs id vec⟩ := by
  unfold putR at h ⊢
  by_cases h1 : tableFault xs = 0
  · rw [if_pos h1] at h ⊢
    by_cases h2 : idB id = true
    · rw [if_pos h2] at h ⊢
      by_cases h3 : vecFault vec = 0
      · rw [if_pos h3] at h ⊢
        by_cases h4 : roomB xs id = true
        · rw [if_pos h4]
          exact ⟨h1, h2, h3, h4, rfl⟩
        · rw [if_neg h4] at h; cases h
      · rw [if_neg h3] at h; exact absurd h h3
    · rw [if_neg h2] at h; cases h
  · rw [if_neg h1] at h; exact absurd h h1
/-- All that the law of tables asks. -/
structure Tabled (xs : List DItem) (id : Int) (vec : List Int) (ys ds : List DItem) : Prop where
  right : tableFault ys = 0
  drop : dropR ys id = ⟨0, ds⟩
  get : getI ys id = ⟨0, vec⟩
  gone : (getI ds id).code = 4
  len : ds.length + 1 = ys.length
  again : putR ys id vec = ⟨0, ys⟩
  old : ∀ x ∈ xs, x.id ≠ id → getI ys x.id = ⟨0, x.vec⟩ ∧ getI ds x.id = ⟨0, x.vec⟩
theorem tabled {xs : List DItem} {id : Int} {vec : List Int} (h : (putR xs id vec).code = 0) : Tabled xs id vec (putI xs id vec) (dropI xs id) := by
  obtain ⟨h1, h2, h3, h4, -⟩ := putR_zero h
  have hR : Right (putI xs id vec) := right_put h1 h2 h3 (room_true h4)
  have hD : Right (dropI xs id) := right_drop h1 id
  have hm : (⟨id, vec⟩ : DItem) ∈ putI xs id vec := mem_putI.2 (Or.inl rfl)
  refine ⟨hR, ?_, getI_in hR hm, ?_, ?_, ?_, fun x hx hn => ⟨getI_in hR (mem_putI.2 (Or.inr ⟨hx, hn⟩)), getI_in hD (mem_dropI.2 ⟨hx, hn⟩)⟩⟩
  · rw [dropR, if_pos (show tableFault (putI xs id vec) = 0 from hR), if_pos h2, dropI_putI]
  · have hf : (dropI xs id).find? (fun x => x.id == id) = none := by
      rw [List.find?_eq_none]
      intro x hx
      simpa using (mem_dropI.1 hx).2
    rw [getI, if_pos (show tableFault (dropI xs id) = 0 from hD), if_pos h2, hf]
    rfl
  · rw [putI, insI_len]
  · have hh : hasI (putI xs id vec) id = true := by
      rw [hasI, List.any_eq_true]
      exact ⟨_, hm, by simp⟩
    rw [putR, if_pos (show tableFault (putI xs id vec) = 0 from hR), if_pos h2, if_pos h3, if_pos (by rw [roomB, hh]; rfl), putI_again]

end Go.Proofs.Ytfgadegpdknocaa

namespace Go.Proofs.Ytfgadegpdknocaa
open Go.RowKit

theorem rising_eq {xs ys : List DItem} (hx : Rising xs) (hy : Rising ys) (h : ∀ z, z ∈ xs ↔ z ∈ ys) : xs = ys := by
  induction xs generalizing ys with
  | nil =>
    cases ys with
    | nil => rfl
    | cons y ys => exact absurd ((h y).2 (by simp)) (by simp)
  | cons x xs ih =>
    cases ys with
    | nil => exact absurd ((h x).1 (by simp)) (by simp)
    | cons y ys =>
      have hx' := List.pairwise_cons.1 hx
      have hy' := List.pairwise_cons.1 hy
      have e : x = y := by
        rcases List.mem_cons.1 ((h x).1 (by simp)) with e | e
        · exact e
        · rcases List.mem_cons.1 ((h y).2 (by simp)) with e2 | e2
          · exact e2.symm
          · have h1 := hy'.1 x e
            have h2 := hx'.1 y e2
            omega
      subst e
      rw [ih hx'.2 hy'.2 fun z => ⟨fun hz => ?_, fun hz => ?_⟩]
      · rcases List.mem_cons.1 ((h z).1 (by simp [hz])) with e | e
        · have := hx'.1 z hz
          rw [e] at this
          omega
        · exact e
      · rcases List.mem_cons.1 ((h z).2 (by simp [hz])) with e | e
        · have := hy'.1 z hz
          rw [e] at this
          omega
        · exact e
theorem gatherI_all {xs : List DItem} (hx : Rising xs) {out zs : List DItem} (ho : ∀ y ∈ out, y ∈ xs) (hz : ∀ y ∈ zs, y ∈ xs) : ∀ y, y ∈ gatherI out zs ↔ y ∈ out ∨ y ∈ zs := by
  induction zs generalizing out with
  | nil => intro y; simp [gatherI]
  | cons a zs ih =>
    intro y
    have ha : a ∈ xs := hz a (by simp)
    have hp : ∀ y, y ∈ putI out a.id a.vec ↔ y ∈ out ∨ y = a := fun y => by
      rw [mem_putI]
      constructor
      · rintro (e | ⟨e, -⟩)
        · exact Or.inr e
        · exact Or.inl e
      · rintro (e | e)
        · by_cases h : y.id = a.id
          · exact Or.inl (rising_inj hx (ho y e) ha h)
          · exact Or.inr ⟨e, h⟩
        · exact Or.inl e
    have := ih (out := putI out a.id a.vec) (fun y hy => by
      rcases (hp y).1 hy with e | e
      · exact ho y e
      · rw [e]; exact ha) (fun y hy => hz y (by simp [hy])) y
    show y ∈ gatherI (putI out a.id a.vec) zs ↔ _
    rw [this, hp, List.mem_cons, or_assoc]
theorem foldIs_all {xs : List DItem} (hx : Rising xs) (ls : List DIvfList) {out : List DItem} (ho : ∀ y ∈ out, y ∈ xs) (hl : ∀ l ∈ ls, ∀ y ∈ l.items, y ∈ xs) : ∀ y, y ∈ ls.foldl (fun o l => gatherI o l.items) out ↔ y ∈ out ∨ ∃ l ∈ ls, y ∈ l.items := by
  induction ls generalizing out with
  | nil => intro y; simp
  | cons l ls ih =>
    intro y
    have hg := gatherI_all hx ho (hl l (by simp))
    rw [List.foldl_cons, ih (fun y hy => by
      rcases (hg y).1 hy with e | e
      · exact ho y e
      · exact hl l (by simp) y e) (fun l' hl' => hl l' (by simp [hl'])) y, hg]
    simp [or_assoc]
theorem build_all {cs : List DCenter} {xs : List DItem} (hc : centersFault cs = 0) (hx : Right xs) : allIs (buildI cs xs).lists = xs := by
  obtain ⟨-, hv, hr⟩ := tableFault_zero (show tableFault xs = 0 from hx)
  refine rising_eq (allIs_rising _) hr fun z => ?_
  rw [allIs, foldIs_all hr _ (by simp) (fun l hl y hy => ?_)]
  · simp only [List.not_mem_nil, false_or]
    constructor
    · rintro ⟨l, hl, hz⟩
      obtain ⟨k, -, rfl⟩ := List.mem_map.1 (show l ∈ (List.range cs.length).map fun k => (⟨mineI cs xs k⟩ : DIvfList) from hl)
      exact (List.mem_filter.1 hz).1
    · intro hz
      exact ⟨⟨mineI cs xs (near cs z.vec)⟩, List.mem_map.2 ⟨near cs z.vec, List.mem_range.2 (near_lt hc (hv z hz).2), rfl⟩, List.mem_filter.2 ⟨hz, by simp⟩⟩
  · obtain ⟨k, -, rfl⟩ := List.mem_map.1 (show l ∈ (List.range cs.length).map fun k => (⟨mineI cs xs k⟩ : DIvfList) from hl)
    exact (List.mem_filter.1 hy).1
theorem countIs_app (a b : List DIvfList) : countIs (a ++ b) = countIs a + countIs b := by
  induction a with
  | nil => simp [countIs]
  | cons l a ih => simp only [List.cons_append, countIs, ih]; omega
theorem mine_more (cs : List DCenter) (xs : List DItem) (n : Nat) : (xs.filter fun x => decide (near cs x.vec < n)).length + (mineI cs xs n).length = (xs.filter fun x => decide (near cs x.vec < n + 1)).length := by
  induction xs with
  | nil => rfl
  | cons x xs ih =>
    unfold mineI at ih ⊢
    simp only [List.filter_cons]
    rcases Nat.lt_trichotomy (near cs x.vec) n with h | h | h
    · have e1 : decide (near cs x.vec < n) = true := by simpa using h
      have e2 : (near cs x.vec == n) = false := by rw [beq_eq_false_iff_ne]; omega
      have e3 : decide (near cs x.vec < n + 1) = true := by simp; omega
      simp only [e1, e2, e3, if_true, List.length_cons, Bool.false_eq_true, if_false]; omega
    · have e1 : decide (near cs x.vec < n) = false := by simp; omega
      have e2 : (near cs x.vec == n) = true := by simpa using h
      have e3 : decide (near cs x.vec < n + 1) = true := by simp; omega
      simp only [e1, e2, e3, if_true, List.length_cons, Bool.false_eq_true, if_false]; omega
    · have e1 : decide (near cs x.vec < n) = false := by simp; omega
      have e2 : (near cs x.vec == n) = false := by rw [beq_eq_false_iff_ne]; omega
      have e3 : decide (near cs x.vec < n + 1) = false := by simp; omega
      simp only [e1, e2, e3, Bool.false_eq_true, if_false]; omega
theorem count_build (cs : List DCenter) (xs : List DItem) (n : Nat) : countIs ((List.range n).map fun i => (⟨mineI cs xs i⟩ : DIvfList)) = (xs.filter fun x => decide (near cs x.vec < n)).length := by
  induction n with
  | zero =>
    rw [List.filter_eq_nil_iff.2 (by simp)]
    rfl
  | succ n ih =>
    rw [List.range_succ, List.map_append, countIs_app, ih, ← mine_more]
    simp [countIs]
theorem listsFrom_of {cs : List DCenter} {i : Nat} {ls : List DIvfList} (h : ∀ j (hj : j < ls.length), listFault cs (i + j) ls[j].items = 0) : listsFrom cs i ls = 0 := by
  induction ls generalizing i with
  | nil => rfl
  | cons l ls ih =>
    rw [listsFrom, if_pos (show listFault cs i l.items = 0 from h 0 (by simp))]
    refine ih fun j hj => ?_
    have := h (j + 1) (by simpa using hj)
    simpa [Nat.add_comm, Nat.add_left_comm, Nat.add_assoc] using this
theorem build_right {cs : List DCenter} {xs : List DItem} (hc : centersFault cs = 0) (hx : Right xs) : ivfFault (buildI cs xs) = 0 := by
  obtain ⟨hl, hv, hr⟩ := tableFault_zero (show tableFault xs = 0 from hx)
  have hn : countIs (buildI cs xs).lists = xs.length := by
    refine (count_build cs xs cs.length).trans ?_
    rw [List.filter_eq_self.2 fun x hm => by simpa using near_lt hc (hv x hm).2]
  have hf : listsFrom cs 0 (buildI cs xs).lists = 0 := listsFrom_of fun j hj => by
    have hj' : j < cs.length := by simpa [buildI] using hj
    have e : (buildI cs xs).lists[j] = ⟨mineI cs xs j⟩ := by simp [buildI]
    rw [e, Nat.zero_add]
    have ht : tableFault (mineI cs xs j) = 0 := tableFault_of (Nat.le_trans (mineI_len cs xs j) hl) (fun x hm => hv x (List.mem_filter.1 hm).1) (hr.filter _)
    show listFault cs j (mineI cs xs j) = 0
    rw [listFault, if_pos ht, if_pos]
    rw [atB, List.all_eq_true]
    exact fun x hm => (List.mem_filter.1 hm).2
  rw [ivfFault]
  show (if centersFault cs = 0 then (if (buildI cs xs).lists.length = cs.length then _ else _) else _) = (0 : Int)
  rw [if_pos hc, if_pos (buildI_len cs xs)]
  show (if listsFrom cs 0 (buildI cs xs).lists = 0 then _ else _) = (0 : Int)
  rw [if_pos hf, build_all hc hx, hn, if_pos rfl, if_pos hl]
/-- What the law of added items asks: y is the index with the item, d the one without it. -/
structure Added (x : DIvf) (id : Int) (vec : List Int) (y : DIvf) (A Y D : List DItem) : Prop where
  fault : ivfFault y = 0
  was : itemsIvfR x = ⟨0, A⟩
  now : itemsIvfR y = ⟨0, Y⟩
  put : putR A id vec = ⟨0, Y⟩
  build : buildIvfR x.centers Y = ⟨0, y⟩
  drop : dropIvfR y id = ⟨0, buildI x.centers D⟩
  dropped : dropR A id = ⟨0, D⟩
  dfault : ivfFault (buildI x.centers D) = 0
  ditems : itemsIvfR (buildI x.centers D) = ⟨0, D⟩
theorem added {x : DIvf} {id : Int} {vec : List Int} (h : (addIvfR x id vec).code = 0) : addIvfR x id vec = ⟨0, buildI x.centers (putI (allIs x.lists) id vec)⟩ ∧ Added x id vec (buildI x.centers (putI (allIs x.lists) id vec)) (allIs x.lists) (putI (allIs x.lists) id vec) (dropI (allIs x.lists) id) := by
  unfold addIvfR at h
  by_cases h1 : askedI x id = 0
  · rw [if_pos h1] at h
    by_cases h2 : vecFault vec = 0
    · rw [if_pos h2] at h
      by_cases h3 : 30 ≤ (allIs x.lists).length ∧ hasI (allIs x.lists) id = false
      · rw [if_pos h3] at h; cases h
      · obtain ⟨hx, hi⟩ := askedI_zero h1
        have hc := (ivfFault_zero hx).1
        have hA := all_right hx
        have hroom : hasI (allIs x.lists) id = true ∨ (allIs x.lists).length < 30 := by
          cases hh : hasI (allIs x.lists) id with
          | true => exact Or.inl rfl
          | false => exact Or.inr (Nat.lt_of_not_le fun h9 => h3 ⟨h9, hh⟩)
        have hY : Right (putI (allIs x.lists) id vec) := right_put hA hi h2 hroom
        have hD : Right (dropI (allIs x.lists) id) := right_drop hA id
        refine ⟨by rw [addIvfR, if_pos h1, if_pos h2, if_neg h3], build_right hc hY, ?_, ?_, ?_, ?_, ?_, ?_, build_right hc hD, ?_⟩
        · rw [itemsIvfR, if_pos hx]
        · rw [itemsIvfR, if_pos (build_right hc hY), build_all hc hY]
        · rw [putR, if_pos (show tableFault _ = 0 from hA), if_pos hi, if_pos h2, if_pos (by simpa [roomB] using hroom)]
        · rw [buildIvfR, if_pos]
          rw [askFault, if_pos hc]
          exact hY
        · rw [dropIvfR, if_pos (by rw [askedI, if_pos (build_right hc hY), if_pos hi]), build_all hc hY, dropI_putI]
          rfl
        · rw [dropR, if_pos (show tableFault _ = 0 from hA), if_pos hi]
        · rw [itemsIvfR, if_pos (build_right hc hD), build_all hc hD]
    · rw [if_neg h2] at h; exact absurd h h2
  · rw [if_neg h1] at h; exact absurd h h1

end Go.Proofs.Ytfgadegpdknocaa
