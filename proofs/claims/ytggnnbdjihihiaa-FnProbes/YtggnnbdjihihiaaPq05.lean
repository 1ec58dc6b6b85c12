/-
  Texts of this proof in one: DrawB7, DrawProbes7, HitGround, HitInfo, HitModelB, HitFaultB, HitAppend, HitEq.
  Their conditions stand in their theorems.
-/
import Derived.Test.YtggnnbdjihihiaaPq04
import Derived.Test.YtggnnbdjihihiaaPq01
import Derived.Maps.AppendAt
import Derived.Deep.AppendLies
import Derived.Test.YtggnnbdjihihiaaChecked
import Derived.BigQuiet
import Derived.Deep.QuietTactic
import Derived.Deep.RegionWith
import Derived.Deep.RegionHeld3
import Derived.Laws.StructEq

namespace Go.Proofs.Ytggnnbdjihihiaa
open Go.RowKit

/-- Some index of the draw's own; the source has gone on. -/
def BentIvf (b m : Nat) (cv : Value) (z : World) (e : Ending) (z' : World) : Prop :=
  ∃ (rc rl : Value) (x : DIvf) (m' : Nat), e = .returned (.agg #[rc, rl]) ∧ Lay.tIvf.LiesIn z' [rc, rl] x z.heap.size z'.heap.size ∧ SrcAt z' b cv m' ∧ m' ≤ m + 1000 ∧ IsCode b z' cv ∧ z.grownBy z' (some b)
theorem Box.grownB {lo b : Nat} {cs : Array Value} {T : TypeId} {W w' : World} {s : Nat} (h : Box lo cs T W s) (g : W.grownBy w' (some b)) (hne : s ≠ b) : Box lo cs T w' s := ⟨h.1, (g.block s h.lt (fun e => hne (Option.some.inj e))).trans h.2⟩
theorem ext_grown {w w' : World} {b : Nat} (g : w.grownBy w' (some b)) : Ext (fun c => c = b) w w' := ⟨g.os, g.tape, g.output, g.size, fun k hk hn => g.block k hk (fun e => hn (Option.some.inj e))⟩
theorem grown_ext {S : Nat → Prop} {z w w' : World} {b : Nat} (g : z.grownBy w (some b)) (e : Ext S w w') (hs : ∀ k, k < z.heap.size → ¬ S k) : z.grownBy w' (some b) :=
  ⟨e.os.trans g.os, e.tape.trans g.tape, e.output.trans g.output, Nat.le_trans g.size e.size, fun k hk hn => (e.block k (Nat.lt_of_lt_of_le hk g.size) (hs k hk)).trans (g.block k hk hn)⟩
theorem src_ext {S : Nat → Prop} {w w' : World} {b m : Nat} {cv : Value} (s : SrcAt w b cv m) (e : Ext S w w') (hs : ¬ S b) : SrcAt w' b cv m := (e.block b s.lt hs).trans s
theorem code_ext {S : Nat → Prop} {w w' : World} {b : Nat} {cv : Value} (c : IsCode b w cv) (e : Ext S w w') (hb : b ≤ w.heap.size) (hs : ∀ k, k < b → ¬ S k) : IsCode b w' cv := c.later (e.below hb (fun k hk => hs k hk))
theorem bent_end {b m m' : Nat} {cv : Value} {z wq : World} {x : DIvf} {vc vl : Value} (hb : b < z.heap.size) (hX : Lay.tIvf.LiesIn wq [vc, vl] x (z.heap.size + 1) wq.heap.size) (s : SrcAt wq b cv m') (hm : m' ≤ m + 1000) (c : IsCode b wq cv) (g : z.grownBy wq (some b)) :
    BentIvf b m cv z (.returned (.agg #[vc, vl])) ((wq.setCell ⟨z.heap.size, 0, none⟩ vc).setCell ⟨z.heap.size, 1, none⟩ vl) := by
  have hE : Ext (fun c => c = z.heap.size) wq ((wq.setCell ⟨z.heap.size, 0, none⟩ vc).setCell ⟨z.heap.size, 1, none⟩ vl) := ((Ext.refl (fun c => c = z.heap.size) _).setCell ⟨z.heap.size, 0, none⟩ _ rfl).setCell ⟨z.heap.size, 1, none⟩ _ rfl
  have hz := g.size
  have hsz := hE.size
  exact ⟨vc, vl, x, m', rfl, (hX.ext hE (fun k h1 h2 e => by omega)).mono (by omega) hsz, src_ext s hE (by omega), hm, code_ext c hE (by omega) (fun k hk e => by omega), grown_ext g hE (fun k hk e => by omega)⟩
theorem ivf_lies {w : World} {rc rl : Value} {cs : List DCenter} {ls : List DIvfList} {lo hi : Nat} (h1 : (Lay.sl Lay.tCenter).LiesIn w [rc] cs lo hi) (h2 : (Lay.sl Lay.tIvfList).LiesIn w [rl] ls lo hi) : Lay.tIvf.LiesIn w [rc, rl] ⟨cs, ls⟩ lo hi := by
  obtain ⟨bC, hC, hCb⟩ := h1
  obtain ⟨bL, hL, hLb⟩ := h2
  have hC' := hC
  have hL' := hL
  obtain ⟨ac, dc, eC, -⟩ := hC'
  obtain ⟨al, dl, eL, -⟩ := hL'
  obtain rfl : rc = .slice ac cs.length dc := by simpa using eC
  obtain rfl : rl = .slice al ls.length dl := by simpa using eL
  refine ⟨bC ++ bL, lies_Ivf.2 ⟨ac, dc, bC, al, dl, bL, rfl, rfl, hC, hL⟩, fun c hc => ?_⟩
  rcases List.mem_append.1 hc with hc | hc
  · exact hCb c hc
  · exact hLb c hc
theorem Fst.after {w w6 : World} {base gl capl : Nat} {rc : Value} {cs : List DCenter} {l0 : DIvfList} {lr : List DIvfList} {rowsC : List (List Value)} {blsC : List (List Nat)} {rowsL : List (List Value)} {blsL : List (List Nat)} {v0 : Value} {rows0 : List (List Value)} {bls0 : List (List Nat)} (h : Fst w base rc cs gl capl l0 lr rowsC blsC rowsL blsL v0 rows0 bls0) (e : Ext (fun q => v0.ownBlock = some q) w w6) :
    w6.cell? ⟨gl, 0, none⟩ = some v0 ∧ w6.frozen? ⟨gl, 0, none⟩ = false ∧ gl < w6.heap.size := by
  have hk := e.block gl h.glt.2 (fun q => (h.t1 gl q).2.1 rfl)
  have h1 := h.cell
  have h2 := h.soft 0
  refine ⟨?_, ?_, Nat.lt_of_lt_of_le h.glt.2 e.size⟩
  · rw [← h1]; simp [World.cell?, hk]
  · rw [← h2]; simp [World.frozen?, hk]

set_option maxRecDepth 10000 in
set_option maxHeartbeats 4000000 in
theorem drawB7 (b m : Nat) (cv : Value) (z : World) (hs : SrcAt z b cv m) (hc : IsCode b z cv) (hm : m ≤ 900000) :
    Calls Try.prog 55 #[.pointer (some ⟨b, 0, none⟩)] z (BentIvf b m cv z) := by
  have hbz := hs.lt
  have nz : Below z.heap.size z (z.alloc (.cells #[.slice none 0 0, .slice none 0 0] 27)) := (Below.refl _ _).alloc (Nat.le_refl _) _
  have bR : Box z.heap.size #[.slice none 0 0, .slice none 0 0] 27 (z.alloc (.cells #[.slice none 0 0, .slice none 0 0] 27)) z.heap.size := newBox (Nat.le_refl _)
  have L := drawR7 b m cv _ (hs.on nz) (hc.on (Nat.le_of_lt hbz) nz) hm
  have hwz : (z.alloc (.cells #[.slice none 0 0, .slice none 0 0] 27)).heap.size = z.heap.size + 1 := by simp
  have HL := hide L
  have HNZ := hide nz
  have HBR := hide bR
  clear nz bR L hs hc
  go_enter Try.func55, Try.ntmps55
  go_wp2_with fail
  generalize hwd : z.alloc (.cells #[.slice none 0 0, .slice none 0 0] 27) = w at *
  have HWZ := hide hwz
  clear hwd hwz
  refine (unhide HL).mono ?_
  rintro e w2 ⟨rc, rl, cs, xs, m2, rfl, hT, ⟨hc1, hc2, hx2⟩, s2, hm2, c2, g2⟩
  have hzw := unhide HWZ
  have hg2 := g2.size
  have bR2 : Box z.heap.size #[.slice none 0 0, .slice none 0 0] 27 w2 z.heap.size := (unhide HBR).grownB g2 (by omega)
  have hGZ2 : z.grownBy w2 (some b) := by
    have q1 := unhide HNZ
    exact ⟨g2.os.trans q1.os, g2.tape.trans q1.tape, g2.output.trans q1.output, by omega, fun i hi hn => (g2.block i (by omega) hn).trans (q1.block i hi)⟩
  obtain ⟨a8, c8, rfl⟩ : ∃ a c, rc = .slice a cs.length c := by
    obtain ⟨_, _, _, _, gC, -⟩ := hT
    rcases gC.form with ⟨rfl, rfl⟩ | ⟨g, cap, rfl, -⟩
    · exact ⟨none, 0, rfl⟩
    · exact ⟨_, cap, rfl⟩
  obtain ⟨a9, c9, rfl⟩ : ∃ a c, rl = .slice a (buildI cs xs).lists.length c := by
    obtain ⟨_, _, _, _, -, gL, -⟩ := hT
    rcases gL.form with ⟨rfl, e⟩ | ⟨g, cap, rfl, -⟩
    · rw [e]; exact ⟨none, 0, rfl⟩
    · exact ⟨_, cap, rfl⟩
  have hll : (buildI cs xs).lists.length = cs.length := by simp [buildI]
  have hil : ∀ l ∈ (buildI cs xs).lists, l.items.length ≤ xs.length := fun l hl => by
    obtain ⟨k, -, rfl⟩ := List.mem_map.1 (show l ∈ (List.range cs.length).map fun k => (⟨mineI cs xs k⟩ : DIvfList) from hl)
    exact mineI_len cs xs k
  generalize hls : (buildI cs xs).lists = ls at *
  clear hls
  have bX : Box w2.heap.size #[.slice none 0 0, .slice none 0 0] 27 (w2.alloc (.cells #[.slice none 0 0, .slice none 0 0] 27)) w2.heap.size := newBox (Nat.le_refl _)
  have z0 : (w2.alloc (.cells #[.slice none 0 0, .slice none 0 0] 27)).cell? ⟨w2.heap.size, 0, none⟩ = some (.slice none 0 0) := bX.at 0 _ rfl
  have z1 : (w2.alloc (.cells #[.slice none 0 0, .slice none 0 0] 27)).cell? ⟨w2.heap.size, 1, none⟩ = some (.slice none 0 0) := bX.at 1 _ rfl
  have f0 := bX.soft 0
  have f1 := bX.soft 1
  have l0 := bX.lt
  have n2 : Below w2.heap.size w2 (w2.alloc (.cells #[.slice a8 cs.length c8, .slice a9 ls.length c9] 27)) := (Below.refl _ _).alloc (Nat.le_refl _) _
  have hX2 : Box w2.heap.size #[.slice a8 cs.length c8, .slice a9 ls.length c9] 27 (w2.alloc (.cells #[.slice a8 cs.length c8, .slice a9 ls.length c9] 27)) w2.heap.size := newBox (Nat.le_refl _)
  have L2 := hide (next b m2 cv 14 _ (s2.on n2) (c2.on (by omega) n2) (by omega) (by omega) (by omega))
  have HLL := hide hll
  have HIL := hide hil
  have HT := hide hT
  have HGZ := hide hGZ2
  have HR2 := hide bR2
  have HZW := hide hzw
  have HX2 := hide hX2
  have HN2 := hide n2
  clear hT s2 c2 g2 bR2 hzw HL HWZ HBR bX hll hil hGZ2 hX2 n2
  go_wp2_with fail
  refine (unhide L2).mono ?_
  rintro e w3 ⟨q, rfl, hq, s3, c3, g3⟩
  have hzw := unhide HZW
  have hX3 := (unhide HX2).grownB g3 (by omega)
  have hR3 := ((unhide HR2).keep (unhide HN2)).grownB g3 (by omega)
  have hG3 : z.grownBy w3 (some b) := grown_trans (grown_ext (unhide HGZ) (ext_of_below (unhide HN2) nowhere) (fun _ _ h => h)) g3
  have e23 : Ext (fun c => c = b) w2 w3 := (ext_of_below (unhide HN2) _).trans (ext_grown g3)
  have h23 : w2.heap.size < w3.heap.size := hX3.lt
  have HT3 := hide ((unhide HT).ext e23 (fun c h1 h2 => by omega))
  clear z0 z1 f0 f1 l0 L2 HX2 HN2 HGZ g3
  have HX3 := hide hX3
  have HR3 := hide hR3
  have HG3 := hide hG3
  have HS3 := hide s3
  have HC3 := hide c3
  have HE := hide e23
  clear hX3 hR3 hG3 s3 c3 e23 HR2 hzw
  rcases (show q = 0 ∨ q = 1 ∨ q = 2 ∨ 3 ≤ q by omega) with rfl | rfl | rfl | h3
  · have L := hide (drawCen b (m2 + 1) cv w3 (unhide HS3) (unhide HC3) (by omega))
    go_wp2_with fail
    refine (unhide L).mono ?_
    rintro e w4 ⟨v, rowsN, csN, blsN, m4, rfl, gN, sN, hnN, s4, hm4, c4, g4⟩
    obtain ⟨aN, cN, rfl⟩ : ∃ a c, v = .slice a csN.length c := by
      rcases gN.form with ⟨rfl, rfl⟩ | ⟨g, cap, rfl, -⟩
      · exact ⟨none, 0, rfl⟩
      · exact ⟨_, cap, rfl⟩
    have hzw := unhide HZW
    have hll := unhide HLL
    have hX4 := (unhide HX3).grownB g4 (by omega)
    have e4 : Ext (fun c => c = w2.heap.size) w4 (w4.setCell ⟨w2.heap.size, 0, none⟩ (.slice aN csN.length cN)) := (Ext.refl (fun c => c = w2.heap.size) w4).setCell ⟨w2.heap.size, 0, none⟩ _ rfl
    have hz4 := g4.size
    have hLst : (Lay.sl Lay.tIvfList).LiesIn w2 [.slice a9 ls.length c9] ls w.heap.size w2.heap.size := by
      obtain ⟨_, _, _, _, -, gL, -, sL, -⟩ := unhide HT
      exact gL.toLies (by omega) sL
    have hL7 := ((hLst.ext (unhide HE) (fun k h1 h2 e => by omega)).ext (ext_grown g4) (fun k h1 h2 e => by omega)).ext e4 (fun k h1 h2 e => by omega)
    have hC7 := (gN.toLies (by omega) sN).ext e4 (fun k h1 h2 e => by omega)
    have HP : Hid (Lay.tIvf.LiesIn (w4.setCell ⟨w2.heap.size, 0, none⟩ (.slice aN csN.length cN)) [.slice aN csN.length cN, .slice a9 ls.length c9] ⟨csN, ls⟩ (z.heap.size + 1) (w4.setCell ⟨w2.heap.size, 0, none⟩ (.slice aN csN.length cN)).heap.size) := ivf_lies (hC7.mono (by omega) e4.size) (hL7.mono (by omega) (by have := e4.size; omega))
    have y0 : w4.cell? ⟨w2.heap.size, 0, none⟩ = some (.slice a8 cs.length c8) := hX4.at 0 _ rfl
    have g0 := hX4.soft 0
    have k0 := hX4.lt
    have hXq : Box w2.heap.size #[.slice aN csN.length cN, .slice a9 ls.length c9] 27 (w4.setCell ⟨w2.heap.size, 0, none⟩ (.slice aN csN.length cN)) w2.heap.size := hX4.set 0 _
    have hRq := ((unhide HR3).grownB g4 (by omega)).ext e4 (by omega)
    have hSq := src_ext s4 e4 (by omega)
    have hCq := code_ext c4 e4 (by omega) (fun k hk e => by omega)
    have hGq := grown_ext (grown_trans (unhide HG3) g4) e4 (fun k hk e => by omega)
    clear HX3 HR3 HS3 HC3 HG3 HT3 HT HE hzw L hX4 hLst hL7 hC7 gN sN s4 c4 g4 e4 hll
    have x0 : (w4.setCell ⟨w2.heap.size, 0, none⟩ (.slice aN csN.length cN)).cell? ⟨w2.heap.size, 0, none⟩ = some (.slice aN csN.length cN) := hXq.at 0 _ rfl
    have x1 : (w4.setCell ⟨w2.heap.size, 0, none⟩ (.slice aN csN.length cN)).cell? ⟨w2.heap.size, 1, none⟩ = some (.slice a9 ls.length c9) := hXq.at 1 _ rfl
    have z0 : (w4.setCell ⟨w2.heap.size, 0, none⟩ (.slice aN csN.length cN)).cell? ⟨z.heap.size, 0, none⟩ = some (.slice none 0 0) := hRq.at 0 _ rfl
    have z1 : (w4.setCell ⟨w2.heap.size, 0, none⟩ (.slice aN csN.length cN)).cell? ⟨z.heap.size, 1, none⟩ = some (.slice none 0 0) := hRq.at 1 _ rfl
    have f0 := hRq.soft 0
    have f1 := hRq.soft 1
    have l0 := hRq.lt
    have HSq := hide hSq
    have HCq := hide hCq
    have HGq := hide hGq
    clear hSq hCq hGq hXq hRq
    go_wp2_with fail
    refine bodyPost_ret (v := .agg #[.slice aN csN.length cN, .slice a9 ls.length c9]) (by simp [results, Try.results55, go_sem, z0, z1]) rfl ?_
    refine bent_end hbz (unhide HP) (unhide HSq) (by omega) (unhide HCq) (unhide HGq)
  · obtain ⟨l0, lr, rfl⟩ : ∃ l0 lr, ls = l0 :: lr := by
      have := unhide HLL
      cases ls with
      | nil => simp at this; omega
      | cons l0 lr => exact ⟨l0, lr, rfl⟩
    have hll : lr.length ≤ 3 := by
      have h9 : lr.length + 1 = cs.length := by simpa using unhide HLL
      omega
    have hil : l0.items.length ≤ 11 := by have := unhide HIL l0 (by simp); omega
    obtain ⟨gl, rowsC, blsC, rowsL, blsL, v0, rows0, bls0, rfl, -, hF2⟩ := (unhide HT).fst
    obtain ⟨a0, c0, rfl⟩ : ∃ a c, v0 = .slice a l0.items.length c := by
      rcases hF2.g0.form with ⟨rfl, e⟩ | ⟨g, cap, rfl, -⟩
      · rw [e]; exact ⟨none, 0, rfl⟩
      · exact ⟨_, cap, rfl⟩
    have hzw := unhide HZW
    have hv0 : ∀ c, (Value.slice a0 l0.items.length c0).ownBlock = some c → c < w2.heap.size := fun c hc => (hF2.g0.own.lt c hc).2
    have hgl := hF2.glt
    have hFD : Fst w3.drew w.heap.size (.slice a8 cs.length c8) cs gl c9 l0 lr rowsC blsC rowsL blsL (.slice a0 l0.items.length c0) rows0 bls0 := (hF2.ext (unhide HE) (fun c h1 h2 => by omega)).later (Below.refl _ _).drew
    have hXD : Box w2.heap.size #[.slice a8 cs.length c8, .slice (some ⟨gl, 0, none⟩) (lr.length + 1) c9] 27 w3.drew w2.heap.size := unhide HX3
    have hRD : Box z.heap.size #[.slice none 0 0, .slice none 0 0] 27 w3.drew z.heap.size := unhide HR3
    have hSD : SrcAt w3.drew b cv (m2 + 1) := unhide HS3
    have hCD : IsCode b w3.drew cv := (unhide HC3).on (by omega) (Below.refl _ _).drew
    have hGD : z.grownBy w3.drew (some b) := grown_on (unhide HG3) (Below.refl _ _).drew
    have h23D : w2.heap.size < w3.drew.heap.size := h23
    clear HX3 HR3 HS3 HC3 HG3 HT3 HT HE hF2 HLL HIL
    go_wp2_with fail
    refine wp_region_noPanic ?_
    refine wp_region_held_drew (S := fun w' => Box w2.heap.size #[.slice a8 cs.length c8, .slice (some ⟨gl, 0, none⟩) (lr.length + 1) c9] 27 w' w2.heap.size) (by kernel_rfl) hXD (fun hHeld => ?_)
    generalize w3.drew = wD at hHeld hFD hRD hSD hCD hGD h23D ⊢
    refine wpAnyH_take (i := 0) (oi := { dst := some 15, op := Go.Op.fieldAddr 27 (Go.Operand.tmp 3) 1, type := 0, pos := "l07_ivf.go:181", after := #[], guard := none }) (v := ?vb0_1) rfl (by kernel_rfl) (by kernel_rfl) (by kernel_rfl) (fun _ _ _ h => h) (Or.inl ⟨by rfl, ?hb0_1⟩) hHeld ?rb0_1
    case hb0_1 =>
      intro wS hSw
      (try dsimp only at hSw)
      go_simp
      try with_reducible rfl
    case rb0_1 =>
    simp only [Act.put, List.setIfInBounds_toArray, List.set_cons_zero, List.set_cons_succ]
    refine wpAnyH_take (i := 1) (oi := { dst := some 16, op := Go.Op.load 25 (Go.Operand.tmp 15), type := 25, pos := "l07_ivf.go:181", after := #[{ on := 0, ground := Go.Ground.data }], guard := none }) (v := ?vb1_2) rfl (by kernel_rfl) (by kernel_rfl) (by kernel_rfl) (fun _ _ _ h => h) (Or.inl ⟨by rfl, ?hb1_2⟩) hHeld ?rb1_2
    case hb1_2 =>
      intro wS hSw
      have y1 := hSw.at 1 _ rfl
      (try dsimp only at hSw)
      go_simp
      try with_reducible rfl
    case rb1_2 =>
    simp only [Act.put, List.setIfInBounds_toArray, List.set_cons_zero, List.set_cons_succ]
    refine wpAnyH_take (i := 2) (oi := { dst := some 17, op := Go.Op.fieldAddr 27 (Go.Operand.tmp 3) 1, type := 0, pos := "l07_ivf.go:181", after := #[], guard := none }) (v := ?vb2_3) rfl (by kernel_rfl) (by kernel_rfl) (by kernel_rfl) (fun _ _ _ h => h) (Or.inl ⟨by rfl, ?hb2_3⟩) hHeld ?rb2_3
    case hb2_3 =>
      intro wS hSw
      (try dsimp only at hSw)
      go_simp
      try with_reducible rfl
    case rb2_3 =>
    simp only [Act.put, List.setIfInBounds_toArray, List.set_cons_zero, List.set_cons_succ]
    refine wpAnyH_take (i := 3) (oi := { dst := some 18, op := Go.Op.load 25 (Go.Operand.tmp 17), type := 25, pos := "l07_ivf.go:181", after := #[{ on := 2, ground := Go.Ground.data }], guard := none }) (v := ?vb3_4) rfl (by kernel_rfl) (by kernel_rfl) (by kernel_rfl) (fun _ _ _ h => h) (Or.inl ⟨by rfl, ?hb3_4⟩) hHeld ?rb3_4
    case hb3_4 =>
      intro wS hSw
      have y1 := hSw.at 1 _ rfl
      (try dsimp only at hSw)
      go_simp
      try with_reducible rfl
    case rb3_4 =>
    simp only [Act.put, List.setIfInBounds_toArray, List.set_cons_zero, List.set_cons_succ]
    refine wpAnyH_take (i := 4) (oi := { dst := some 19, op := Go.Op.indexAddr 25 (Go.Operand.tmp 18) (Go.Operand.const (Go.Value.int Go.IntKind.i64 0)), type := 0, pos := "l07_ivf.go:181", after := #[{ on := 3, ground := Go.Ground.data }], guard := none }) (v := ?vb4_5) rfl (by kernel_rfl) (by kernel_rfl) (by kernel_rfl) (fun _ _ _ h => h) (Or.inl ⟨by rfl, ?hb4_5⟩) hHeld ?rb4_5
    case hb4_5 =>
      intro wS hSw
      have y1 : (0 : Int) < ((lr.length + 1 : Nat) : Int) := by omega
      (try dsimp only at hSw)
      go_simp
      try with_reducible rfl
    case rb4_5 =>
    simp only [Act.put, List.setIfInBounds_toArray, List.set_cons_zero, List.set_cons_succ]
    refine wpAnyH_take (i := 5) (oi := { dst := some 20, op := Go.Op.fieldAddr 147 (Go.Operand.tmp 19) 0, type := 0, pos := "l07_ivf.go:181", after := #[{ on := 4, ground := Go.Ground.data }], guard := none }) (v := ?vb5_6) rfl (by kernel_rfl) (by kernel_rfl) (by kernel_rfl) (fun _ _ _ h => h) (Or.inl ⟨by rfl, ?hb5_6⟩) hHeld ?rb5_6
    case hb5_6 =>
      intro wS hSw
      (try dsimp only at hSw)
      go_simp
      try with_reducible rfl
    case rb5_6 =>
    simp only [Act.put, List.setIfInBounds_toArray, List.set_cons_zero, List.set_cons_succ]
    refine wpAnyH_take (i := 7) (oi := { dst := some 22, op := Go.Op.move (Go.Operand.tmp 0), type := 87, pos := "l07_ivf.go:181", after := #[], guard := none }) (v := ?vb7_7) rfl (by kernel_rfl) (by kernel_rfl) (by kernel_rfl) (fun _ _ _ h => h) (Or.inl ⟨by rfl, ?hb7_7⟩) hHeld ?rb7_7
    case hb7_7 =>
      intro wS hSw
      (try dsimp only at hSw)
      go_simp
      try with_reducible rfl
    case rb7_7 =>
    simp only [Act.put, List.setIfInBounds_toArray, List.set_cons_zero, List.set_cons_succ]
    refine wpAnyH_take (i := 10) (oi := { dst := some 25, op := Go.Op.move (Go.Operand.tmp 0), type := 87, pos := "l07_ivf.go:181", after := #[], guard := none }) (v := ?vb10_8) rfl (by kernel_rfl) (by kernel_rfl) (by kernel_rfl) (fun _ _ _ h => h) (Or.inl ⟨by rfl, ?hb10_8⟩) hHeld ?rb10_8
    case hb10_8 =>
      intro wS hSw
      (try dsimp only at hSw)
      go_simp
      try with_reducible rfl
    case rb10_8 =>
    simp only [Act.put, List.setIfInBounds_toArray, List.set_cons_zero, List.set_cons_succ]
    refine wpAnyH_ready (rs := [6, 8]) (by kernel_rfl) (by simp) ?_
    refine AllReadyH.cons (o := { dst := some 21, op := Go.Op.load 50 (Go.Operand.tmp 20), type := 50, pos := "l07_ivf.go:181", after := #[{ on := 5, ground := Go.Ground.data }], guard := none }) rfl (fun K hK => ?ob6_9) (AllReadyH.cons (o := { dst := some 23, op := Go.Op.buildSlice 28 3 #[(0, Go.Operand.const (Go.Value.int Go.IntKind.i64 0)), (1, Go.Operand.const (Go.Value.int Go.IntKind.i64 5)), (2, Go.Operand.const (Go.Value.int Go.IntKind.i64 999))], type := 28, pos := "l07_ivf.go:181", after := #[], guard := none }) rfl (fun K hK => ?ob8_9) (AllReadyH.nil))
    case ob6_9 =>
      have y6 : (wD).cell? ⟨gl, 0, none⟩ = some (.slice a0 l0.items.length c0) := hFD.cell
      go_simp
      refine hK.out _ _ hHeld (fun hHeld => ?_)
      clear hK K
      try simp only [Act.put, List.setIfInBounds_toArray, List.set_cons_zero, List.set_cons_succ]
      refine wpAnyH_ready (rs := [8]) (by kernel_rfl) (by simp) ?_
      refine AllReadyH.cons (o := { dst := some 23, op := Go.Op.buildSlice 28 3 #[(0, Go.Operand.const (Go.Value.int Go.IntKind.i64 0)), (1, Go.Operand.const (Go.Value.int Go.IntKind.i64 5)), (2, Go.Operand.const (Go.Value.int Go.IntKind.i64 999))], type := 28, pos := "l07_ivf.go:181", after := #[], guard := none }) rfl (fun K hK => ?_) AllReadyH.nil
      go_simp
      refine hK.out _ _ (hHeld.grow _) (fun hHeld => ?_)
      clear hK K
      try simp only [Act.put, List.setIfInBounds_toArray, List.set_cons_zero, List.set_cons_succ]
      refine wpAnyH_ready (rs := [9]) (by kernel_rfl) (by simp) ?_
      refine AllReadyH.cons (o := { dst := some 24, op := Go.Op.call { callee := Go.Callee.value (Go.Operand.func 57), args := #[Go.Operand.tmp 22, Go.Operand.tmp 23], argTypes := #[87, 28] }, type := 2, pos := "l07_ivf.go:181", after := #[{ on := 7, ground := Go.Ground.data }, { on := 8, ground := Go.Ground.data }], guard := none }) rfl (fun K hK => ?_) AllReadyH.nil
      have nb8 : Below wD.heap.size wD (wD.alloc (.cells #[.int .i64 0, .int .i64 5, .int .i64 999] 2)) := (Below.refl _ _).alloc (Nat.le_refl _) _
      have L9 := hide (pick b (m2 + 1) wD.heap.size cv [0, 5, 999] _ (hSD.on nb8) (hCD.on (by omega) nb8) (by omega) (by simp) (by simp) (heap_alloc_new wD _) (by omega))
      go_simp
      go_at_call 57
      refine (unhide L9).mono ?_
      rintro e w4 ⟨p, rfl, hp, s4, c4, g4⟩
      have hF4 := (hFD.later nb8).grown g4 (by omega)
      have hE4 : Ext (fun c => c = b) wD w4 := (ext_of_below nb8 _).trans (ext_grown g4)
      have hz4 := hE4.size
      try go_wp2_with fail
      refine hK.out _ _ (hHeld.grownB g4 (by omega)) (fun hHeld => ?_)
      clear hK K
      try simp only [Act.put, List.setIfInBounds_toArray, List.set_cons_zero, List.set_cons_succ]
      refine wpAnyH_ready (rs := [11]) (by kernel_rfl) (by simp) ?_
      refine AllReadyH.cons (o := { dst := some 26, op := Go.Op.call { callee := Go.Callee.value (Go.Operand.func 56), args := #[Go.Operand.tmp 25], argTypes := #[87] }, type := 28, pos := "l07_ivf.go:181", after := #[{ on := 10, ground := Go.Ground.data }, { on := 9, ground := Go.Ground.chain }], guard := none }) rfl (fun K hK => ?_) AllReadyH.nil
      have L11 := hide (bent b (m2 + 1 + 1) cv w4 s4 c4 (by omega))
      go_simp
      go_at_call 56
      refine (unhide L11).mono ?_
      rintro e w5 ⟨v3, zs, m5, rfl, hzs, hNI, hm5, s5, c5, g5⟩
      obtain ⟨bz, hlz, hbz5⟩ := hNI.lies (by omega)
      obtain ⟨a3, d3, rfl⟩ := open_sl ⟨bz, hlz⟩
      have hF5 := hF4.grown g5 (by omega)
      have hz5 := g5.size
      try go_wp2_with fail
      refine hK.out _ _ (hHeld.grownB g5 (by omega)) (fun hHeld => ?_)
      clear hK K
      try simp only [Act.put, List.setIfInBounds_toArray, List.set_cons_zero, List.set_cons_succ]
      refine wpAnyH_take (i := 12) (oi := { dst := some 27, op := Go.Op.build 127 #[(0, Go.Operand.tmp 24), (1, Go.Operand.tmp 26)], type := 127, pos := "l07_ivf.go:181", after := #[{ on := 9, ground := Go.Ground.data }, { on := 11, ground := Go.Ground.data }], guard := none }) (v := ?vb12_10) rfl (by kernel_rfl) (by kernel_rfl) (by kernel_rfl) (fun _ _ _ h => h) (Or.inl ⟨by rfl, ?hb12_10⟩) hHeld ?rb12_10
      case hb12_10 =>
        intro wS hSw
        (try dsimp only at hSw)
        go_simp
        try with_reducible rfl
      case rb12_10 =>
      simp only [Act.put, List.setIfInBounds_toArray, List.set_cons_zero, List.set_cons_succ]
      refine wpAnyH_ready (rs := [13]) (by kernel_rfl) (by simp) ?_
      refine AllReadyH.cons (o := { dst := some 28, op := Go.Op.buildSlice 50 1 #[(0, Go.Operand.tmp 27)], type := 50, pos := "l07_ivf.go:181", after := #[{ on := 12, ground := Go.Ground.data }], guard := none }) rfl (fun K hK => ?_) AllReadyH.nil
      have hX5 := hHeld
      go_simp
      refine hK.out _ _ (hHeld.grow _) (fun hHeld => ?_)
      clear hK K
      try simp only [Act.put, List.setIfInBounds_toArray, List.set_cons_zero, List.set_cons_succ]
      refine wpAnyH_ready (rs := [14]) (by kernel_rfl) (by simp) ?_
      refine AllReadyH.cons (o := { dst := some 29, op := Go.Op.call { callee := Go.Callee.builtin Go.Builtin.append, args := #[Go.Operand.tmp 21, Go.Operand.tmp 28], argTypes := #[50, 50] }, type := 50, pos := "l07_ivf.go:181", after := #[{ on := 6, ground := Go.Ground.data }, { on := 13, ground := Go.Ground.data }, { on := 11, ground := Go.Ground.chain }], guard := none }) rfl (fun K hK => ?_) AllReadyH.nil
      have hpb : 0 ≤ p ∧ p ≤ 1000 := by
        simp only [List.mem_cons, List.not_mem_nil, or_false] at hp
        omega
      have hl5 : Lay.tItem.lies w5 [.int .i64 p, .slice a3 zs.length d3] ⟨p, zs⟩ bz := lies_Item.2 ⟨a3, d3, bz, rfl, rfl, (show (Lit.int .i64 p).wf = true from wf_of_bd (by omega)), hlz⟩
      refine step_append_Item hF5.g0 (row := [.int .i64 p, .slice a3 zs.length d3]) (x := ⟨p, zs⟩) (bl := bz) hl5 (fun c hc e => by have h1 := hbz5 c hc; have h2 := hv0 c e; omega) rfl _ _ rfl rfl rfl (by omega) (by omega) ?_
      rintro g6 cp6 w6 hG6 hb6 hE6 hl6 hz6 hor6
      refine hK.out _ _ (hX5.ext hE6 (fun e => by have := hv0 _ e; omega)) (fun hHeld => ?_)
      clear hK K
      try simp only [Act.put, List.setIfInBounds_toArray, List.set_cons_zero, List.set_cons_succ]
      refine wpAnyH_take (i := 15) (oi := { dst := some 30, op := Go.Op.indexAddr 25 (Go.Operand.tmp 16) (Go.Operand.const (Go.Value.int Go.IntKind.i64 0)), type := 0, pos := "l07_ivf.go:181", after := #[{ on := 1, ground := Go.Ground.data }, { on := 0, ground := Go.Ground.phase }, { on := 1, ground := Go.Ground.phase }, { on := 2, ground := Go.Ground.phase }, { on := 3, ground := Go.Ground.phase }, { on := 4, ground := Go.Ground.phase }, { on := 5, ground := Go.Ground.phase }, { on := 6, ground := Go.Ground.phase }, { on := 7, ground := Go.Ground.phase }, { on := 8, ground := Go.Ground.phase }, { on := 9, ground := Go.Ground.phase }, { on := 10, ground := Go.Ground.phase }, { on := 11, ground := Go.Ground.phase }, { on := 12, ground := Go.Ground.phase }, { on := 13, ground := Go.Ground.phase }, { on := 14, ground := Go.Ground.phase }], guard := none }) (v := ?vb15_11) rfl (by kernel_rfl) (by kernel_rfl) (by kernel_rfl) (fun _ _ _ h => h) (Or.inl ⟨by rfl, ?hb15_11⟩) hHeld ?rb15_11
      case hb15_11 =>
        intro wS hSw
        have y1 : (0 : Int) < ((lr.length + 1 : Nat) : Int) := by omega
        (try dsimp only at hSw)
        go_simp
        try with_reducible rfl
      case rb15_11 =>
      simp only [Act.put, List.setIfInBounds_toArray, List.set_cons_zero, List.set_cons_succ]
      refine wpAnyH_take (i := 16) (oi := { dst := some 31, op := Go.Op.fieldAddr 147 (Go.Operand.tmp 30) 0, type := 0, pos := "l07_ivf.go:181", after := #[{ on := 15, ground := Go.Ground.data }, { on := 0, ground := Go.Ground.phase }, { on := 1, ground := Go.Ground.phase }, { on := 2, ground := Go.Ground.phase }, { on := 3, ground := Go.Ground.phase }, { on := 4, ground := Go.Ground.phase }, { on := 5, ground := Go.Ground.phase }, { on := 6, ground := Go.Ground.phase }, { on := 7, ground := Go.Ground.phase }, { on := 8, ground := Go.Ground.phase }, { on := 9, ground := Go.Ground.phase }, { on := 10, ground := Go.Ground.phase }, { on := 11, ground := Go.Ground.phase }, { on := 12, ground := Go.Ground.phase }, { on := 13, ground := Go.Ground.phase }, { on := 14, ground := Go.Ground.phase }], guard := none }) (v := ?vb16_12) rfl (by kernel_rfl) (by kernel_rfl) (by kernel_rfl) (fun _ _ _ h => h) (Or.inl ⟨by rfl, ?hb16_12⟩) hHeld ?rb16_12
      case hb16_12 =>
        intro wS hSw
        (try dsimp only at hSw)
        go_simp
        try with_reducible rfl
      case rb16_12 =>
      simp only [Act.put, List.setIfInBounds_toArray, List.set_cons_zero, List.set_cons_succ]
      refine wpAnyH_ready (rs := [17]) (by kernel_rfl) (by simp) ?_
      refine AllReadyH.cons (o := { dst := none, op := Go.Op.store 50 (Go.Operand.tmp 31) (Go.Operand.tmp 29), type := 0, pos := "l07_ivf.go:181", after := #[{ on := 16, ground := Go.Ground.data }, { on := 14, ground := Go.Ground.data }, { on := 14, ground := Go.Ground.chain }, { on := 0, ground := Go.Ground.phase }, { on := 1, ground := Go.Ground.phase }, { on := 2, ground := Go.Ground.phase }, { on := 3, ground := Go.Ground.phase }, { on := 4, ground := Go.Ground.phase }, { on := 5, ground := Go.Ground.phase }, { on := 6, ground := Go.Ground.phase }, { on := 7, ground := Go.Ground.phase }, { on := 8, ground := Go.Ground.phase }, { on := 9, ground := Go.Ground.phase }, { on := 10, ground := Go.Ground.phase }, { on := 11, ground := Go.Ground.phase }, { on := 12, ground := Go.Ground.phase }, { on := 13, ground := Go.Ground.phase }, { on := 14, ground := Go.Ground.phase }], guard := none }) rfl (fun K hK => ?_) AllReadyH.nil
      obtain ⟨y7, f7, k7⟩ := hF5.after hE6
      go_simp
      refine hK.out _ _ (hHeld.other _ _ (by show w2.heap.size ≠ gl; omega)) (fun hHeld => ?_)
      clear hK K
      try simp only [Act.put, List.setIfInBounds_toArray, List.set_cons_zero, List.set_cons_succ]
      refine wpAnyH_done (by kernel_rfl) ?_ _
      refine NoPanic.normal ?_
      have HP := hide ((hF5.put hE6 hG6 hor6 (fun c hc => by have h1 := hbz5 c hc; exact ⟨by omega, by omega⟩) (by omega) (by omega) (by omega)).mono (show z.heap.size + 1 ≤ w.heap.size by omega) (Nat.le_refl _))
      have e7 : Ext (fun c => c = gl) w6 (w6.setCell ⟨gl, 0, none⟩ (.slice (some ⟨g6, 0, none⟩) (l0.items.length + 1) cp6)) := (Ext.refl (fun c => c = gl) w6).setCell ⟨gl, 0, none⟩ _ rfl
      have e57 : Ext (fun c => (Value.slice a0 l0.items.length c0).ownBlock = some c ∨ c = gl) w5 (w6.setCell ⟨gl, 0, none⟩ (.slice (some ⟨g6, 0, none⟩) (l0.items.length + 1) cp6)) := (hE6.mono (fun c _ h => Or.inl h)).trans (e7.mono (fun c _ h => Or.inr h))
      have hv1 : ∀ c, c < w.heap.size → ¬ ((Value.slice a0 l0.items.length c0).ownBlock = some c ∨ c = gl) := fun c hc h => by
        rcases h with h | h
        · have := (hF5.g0.own.lt c h).1; omega
        · have := hF5.glt.1; omega
      have hXq : Box w2.heap.size #[.slice a8 cs.length c8, .slice (some ⟨gl, 0, none⟩) (lr.length + 1) c9] 27 (w6.setCell ⟨gl, 0, none⟩ (.slice (some ⟨g6, 0, none⟩) (l0.items.length + 1) cp6)) w2.heap.size := hHeld
      have hRq := ((hRD.ext hE4 (by omega)).grownB g5 (by omega)).ext e57 (hv1 _ (by omega))
      have hSq := src_ext s5 e57 (hv1 _ (by omega))
      have hCq := code_ext c5 e57 (by omega) (fun k hk => hv1 k (by omega))
      have hGq := grown_ext (grown_trans (grown_ext hGD (ext_of_below nb8 nowhere) (fun _ _ h => h)) (grown_trans g4 g5)) e57 (fun k hk => hv1 k (by omega))
      clear hF5 hF4 hFD hE6 hG6 hor6 e7 e57 hv1 hRD hSD hCD hGD s4 c4 g4 s5 c5 g5 hE4 hHeld hX5 hNI hlz hbz5 hl5 hb6 L9 L11 nb8
      have x0 : (w6.setCell ⟨gl, 0, none⟩ (.slice (some ⟨g6, 0, none⟩) (l0.items.length + 1) cp6)).cell? ⟨w2.heap.size, 0, none⟩ = some (.slice a8 cs.length c8) := hXq.at 0 _ rfl
      have x1 : (w6.setCell ⟨gl, 0, none⟩ (.slice (some ⟨g6, 0, none⟩) (l0.items.length + 1) cp6)).cell? ⟨w2.heap.size, 1, none⟩ = some (.slice (some ⟨gl, 0, none⟩) (lr.length + 1) c9) := hXq.at 1 _ rfl
      have z0 : (w6.setCell ⟨gl, 0, none⟩ (.slice (some ⟨g6, 0, none⟩) (l0.items.length + 1) cp6)).cell? ⟨z.heap.size, 0, none⟩ = some (.slice none 0 0) := hRq.at 0 _ rfl
      have z1 : (w6.setCell ⟨gl, 0, none⟩ (.slice (some ⟨g6, 0, none⟩) (l0.items.length + 1) cp6)).cell? ⟨z.heap.size, 1, none⟩ = some (.slice none 0 0) := hRq.at 1 _ rfl
      have f0 := hRq.soft 0
      have f1 := hRq.soft 1
      have l0 := hRq.lt
      have HSq := hide hSq
      have HCq := hide hCq
      have HGq := hide hGq
      clear hSq hCq hGq hXq hRq
      go_wp2_with fail
      refine bodyPost_ret (v := .agg #[.slice a8 cs.length c8, .slice (some ⟨gl, 0, none⟩) (lr.length + 1) c9]) (by simp [results, Try.results55, go_sem, z0, z1]) rfl ?_
      refine bent_end hbz (unhide HP) (unhide HSq) (by omega) (unhide HCq) (unhide HGq)
    case ob8_9 =>
      go_simp
      refine hK.out _ _ (hHeld.grow _) (fun hHeld => ?_)
      clear hK K
      try simp only [Act.put, List.setIfInBounds_toArray, List.set_cons_zero, List.set_cons_succ]
      refine wpAnyH_ready (rs := [6, 9]) (by kernel_rfl) (by simp) ?_
      refine AllReadyH.cons (o := { dst := some 21, op := Go.Op.load 50 (Go.Operand.tmp 20), type := 50, pos := "l07_ivf.go:181", after := #[{ on := 5, ground := Go.Ground.data }], guard := none }) rfl (fun K hK => ?ob6_13) (AllReadyH.cons (o := { dst := some 24, op := Go.Op.call { callee := Go.Callee.value (Go.Operand.func 57), args := #[Go.Operand.tmp 22, Go.Operand.tmp 23], argTypes := #[87, 28] }, type := 2, pos := "l07_ivf.go:181", after := #[{ on := 7, ground := Go.Ground.data }, { on := 8, ground := Go.Ground.data }], guard := none }) rfl (fun K hK => ?ob9_13) (AllReadyH.nil))
      case ob6_13 =>
        have y6 : (wD.alloc (.cells #[.int .i64 0, .int .i64 5, .int .i64 999] 2)).cell? ⟨gl, 0, none⟩ = some (.slice a0 l0.items.length c0) := (hFD.later ((Below.refl _ _).alloc (Nat.le_refl _) _)).cell
        go_simp
        refine hK.out _ _ hHeld (fun hHeld => ?_)
        clear hK K
        try simp only [Act.put, List.setIfInBounds_toArray, List.set_cons_zero, List.set_cons_succ]
        refine wpAnyH_ready (rs := [9]) (by kernel_rfl) (by simp) ?_
        refine AllReadyH.cons (o := { dst := some 24, op := Go.Op.call { callee := Go.Callee.value (Go.Operand.func 57), args := #[Go.Operand.tmp 22, Go.Operand.tmp 23], argTypes := #[87, 28] }, type := 2, pos := "l07_ivf.go:181", after := #[{ on := 7, ground := Go.Ground.data }, { on := 8, ground := Go.Ground.data }], guard := none }) rfl (fun K hK => ?_) AllReadyH.nil
        have nb8 : Below wD.heap.size wD (wD.alloc (.cells #[.int .i64 0, .int .i64 5, .int .i64 999] 2)) := (Below.refl _ _).alloc (Nat.le_refl _) _
        have L9 := hide (pick b (m2 + 1) wD.heap.size cv [0, 5, 999] _ (hSD.on nb8) (hCD.on (by omega) nb8) (by omega) (by simp) (by simp) (heap_alloc_new wD _) (by omega))
        go_simp
        go_at_call 57
        refine (unhide L9).mono ?_
        rintro e w4 ⟨p, rfl, hp, s4, c4, g4⟩
        have hF4 := (hFD.later nb8).grown g4 (by omega)
        have hE4 : Ext (fun c => c = b) wD w4 := (ext_of_below nb8 _).trans (ext_grown g4)
        have hz4 := hE4.size
        try go_wp2_with fail
        refine hK.out _ _ (hHeld.grownB g4 (by omega)) (fun hHeld => ?_)
        clear hK K
        try simp only [Act.put, List.setIfInBounds_toArray, List.set_cons_zero, List.set_cons_succ]
        refine wpAnyH_ready (rs := [11]) (by kernel_rfl) (by simp) ?_
        refine AllReadyH.cons (o := { dst := some 26, op := Go.Op.call { callee := Go.Callee.value (Go.Operand.func 56), args := #[Go.Operand.tmp 25], argTypes := #[87] }, type := 28, pos := "l07_ivf.go:181", after := #[{ on := 10, ground := Go.Ground.data }, { on := 9, ground := Go.Ground.chain }], guard := none }) rfl (fun K hK => ?_) AllReadyH.nil
        have L11 := hide (bent b (m2 + 1 + 1) cv w4 s4 c4 (by omega))
        go_simp
        go_at_call 56
        refine (unhide L11).mono ?_
        rintro e w5 ⟨v3, zs, m5, rfl, hzs, hNI, hm5, s5, c5, g5⟩
        obtain ⟨bz, hlz, hbz5⟩ := hNI.lies (by omega)
        obtain ⟨a3, d3, rfl⟩ := open_sl ⟨bz, hlz⟩
        have hF5 := hF4.grown g5 (by omega)
        have hz5 := g5.size
        try go_wp2_with fail
        refine hK.out _ _ (hHeld.grownB g5 (by omega)) (fun hHeld => ?_)
        clear hK K
        try simp only [Act.put, List.setIfInBounds_toArray, List.set_cons_zero, List.set_cons_succ]
        refine wpAnyH_take (i := 12) (oi := { dst := some 27, op := Go.Op.build 127 #[(0, Go.Operand.tmp 24), (1, Go.Operand.tmp 26)], type := 127, pos := "l07_ivf.go:181", after := #[{ on := 9, ground := Go.Ground.data }, { on := 11, ground := Go.Ground.data }], guard := none }) (v := ?vb12_14) rfl (by kernel_rfl) (by kernel_rfl) (by kernel_rfl) (fun _ _ _ h => h) (Or.inl ⟨by rfl, ?hb12_14⟩) hHeld ?rb12_14
        case hb12_14 =>
          intro wS hSw
          (try dsimp only at hSw)
          go_simp
          try with_reducible rfl
        case rb12_14 =>
        simp only [Act.put, List.setIfInBounds_toArray, List.set_cons_zero, List.set_cons_succ]
        refine wpAnyH_ready (rs := [13]) (by kernel_rfl) (by simp) ?_
        refine AllReadyH.cons (o := { dst := some 28, op := Go.Op.buildSlice 50 1 #[(0, Go.Operand.tmp 27)], type := 50, pos := "l07_ivf.go:181", after := #[{ on := 12, ground := Go.Ground.data }], guard := none }) rfl (fun K hK => ?_) AllReadyH.nil
        have hX5 := hHeld
        go_simp
        refine hK.out _ _ (hHeld.grow _) (fun hHeld => ?_)
        clear hK K
        try simp only [Act.put, List.setIfInBounds_toArray, List.set_cons_zero, List.set_cons_succ]
        refine wpAnyH_ready (rs := [14]) (by kernel_rfl) (by simp) ?_
        refine AllReadyH.cons (o := { dst := some 29, op := Go.Op.call { callee := Go.Callee.builtin Go.Builtin.append, args := #[Go.Operand.tmp 21, Go.Operand.tmp 28], argTypes := #[50, 50] }, type := 50, pos := "l07_ivf.go:181", after := #[{ on := 6, ground := Go.Ground.data }, { on := 13, ground := Go.Ground.data }, { on := 11, ground := Go.Ground.chain }], guard := none }) rfl (fun K hK => ?_) AllReadyH.nil
        have hpb : 0 ≤ p ∧ p ≤ 1000 := by
          simp only [List.mem_cons, List.not_mem_nil, or_false] at hp
          omega
        have hl5 : Lay.tItem.lies w5 [.int .i64 p, .slice a3 zs.length d3] ⟨p, zs⟩ bz := lies_Item.2 ⟨a3, d3, bz, rfl, rfl, (show (Lit.int .i64 p).wf = true from wf_of_bd (by omega)), hlz⟩
        refine step_append_Item hF5.g0 (row := [.int .i64 p, .slice a3 zs.length d3]) (x := ⟨p, zs⟩) (bl := bz) hl5 (fun c hc e => by have h1 := hbz5 c hc; have h2 := hv0 c e; omega) rfl _ _ rfl rfl rfl (by omega) (by omega) ?_
        rintro g6 cp6 w6 hG6 hb6 hE6 hl6 hz6 hor6
        refine hK.out _ _ (hX5.ext hE6 (fun e => by have := hv0 _ e; omega)) (fun hHeld => ?_)
        clear hK K
        try simp only [Act.put, List.setIfInBounds_toArray, List.set_cons_zero, List.set_cons_succ]
        refine wpAnyH_take (i := 15) (oi := { dst := some 30, op := Go.Op.indexAddr 25 (Go.Operand.tmp 16) (Go.Operand.const (Go.Value.int Go.IntKind.i64 0)), type := 0, pos := "l07_ivf.go:181", after := #[{ on := 1, ground := Go.Ground.data }, { on := 0, ground := Go.Ground.phase }, { on := 1, ground := Go.Ground.phase }, { on := 2, ground := Go.Ground.phase }, { on := 3, ground := Go.Ground.phase }, { on := 4, ground := Go.Ground.phase }, { on := 5, ground := Go.Ground.phase }, { on := 6, ground := Go.Ground.phase }, { on := 7, ground := Go.Ground.phase }, { on := 8, ground := Go.Ground.phase }, { on := 9, ground := Go.Ground.phase }, { on := 10, ground := Go.Ground.phase }, { on := 11, ground := Go.Ground.phase }, { on := 12, ground := Go.Ground.phase }, { on := 13, ground := Go.Ground.phase }, { on := 14, ground := Go.Ground.phase }], guard := none }) (v := ?vb15_15) rfl (by kernel_rfl) (by kernel_rfl) (by kernel_rfl) (fun _ _ _ h => h) (Or.inl ⟨by rfl, ?hb15_15⟩) hHeld ?rb15_15
        case hb15_15 =>
          intro wS hSw
          have y1 : (0 : Int) < ((lr.length + 1 : Nat) : Int) := by omega
          (try dsimp only at hSw)
          go_simp
          try with_reducible rfl
        case rb15_15 =>
        simp only [Act.put, List.setIfInBounds_toArray, List.set_cons_zero, List.set_cons_succ]
        refine wpAnyH_take (i := 16) (oi := { dst := some 31, op := Go.Op.fieldAddr 147 (Go.Operand.tmp 30) 0, type := 0, pos := "l07_ivf.go:181", after := #[{ on := 15, ground := Go.Ground.data }, { on := 0, ground := Go.Ground.phase }, { on := 1, ground := Go.Ground.phase }, { on := 2, ground := Go.Ground.phase }, { on := 3, ground := Go.Ground.phase }, { on := 4, ground := Go.Ground.phase }, { on := 5, ground := Go.Ground.phase }, { on := 6, ground := Go.Ground.phase }, { on := 7, ground := Go.Ground.phase }, { on := 8, ground := Go.Ground.phase }, { on := 9, ground := Go.Ground.phase }, { on := 10, ground := Go.Ground.phase }, { on := 11, ground := Go.Ground.phase }, { on := 12, ground := Go.Ground.phase }, { on := 13, ground := Go.Ground.phase }, { on := 14, ground := Go.Ground.phase }], guard := none }) (v := ?vb16_16) rfl (by kernel_rfl) (by kernel_rfl) (by kernel_rfl) (fun _ _ _ h => h) (Or.inl ⟨by rfl, ?hb16_16⟩) hHeld ?rb16_16
        case hb16_16 =>
          intro wS hSw
          (try dsimp only at hSw)
          go_simp
          try with_reducible rfl
        case rb16_16 =>
        simp only [Act.put, List.setIfInBounds_toArray, List.set_cons_zero, List.set_cons_succ]
        refine wpAnyH_ready (rs := [17]) (by kernel_rfl) (by simp) ?_
        refine AllReadyH.cons (o := { dst := none, op := Go.Op.store 50 (Go.Operand.tmp 31) (Go.Operand.tmp 29), type := 0, pos := "l07_ivf.go:181", after := #[{ on := 16, ground := Go.Ground.data }, { on := 14, ground := Go.Ground.data }, { on := 14, ground := Go.Ground.chain }, { on := 0, ground := Go.Ground.phase }, { on := 1, ground := Go.Ground.phase }, { on := 2, ground := Go.Ground.phase }, { on := 3, ground := Go.Ground.phase }, { on := 4, ground := Go.Ground.phase }, { on := 5, ground := Go.Ground.phase }, { on := 6, ground := Go.Ground.phase }, { on := 7, ground := Go.Ground.phase }, { on := 8, ground := Go.Ground.phase }, { on := 9, ground := Go.Ground.phase }, { on := 10, ground := Go.Ground.phase }, { on := 11, ground := Go.Ground.phase }, { on := 12, ground := Go.Ground.phase }, { on := 13, ground := Go.Ground.phase }, { on := 14, ground := Go.Ground.phase }], guard := none }) rfl (fun K hK => ?_) AllReadyH.nil
        obtain ⟨y7, f7, k7⟩ := hF5.after hE6
        go_simp
        refine hK.out _ _ (hHeld.other _ _ (by show w2.heap.size ≠ gl; omega)) (fun hHeld => ?_)
        clear hK K
        try simp only [Act.put, List.setIfInBounds_toArray, List.set_cons_zero, List.set_cons_succ]
        refine wpAnyH_done (by kernel_rfl) ?_ _
        refine NoPanic.normal ?_
        have HP := hide ((hF5.put hE6 hG6 hor6 (fun c hc => by have h1 := hbz5 c hc; exact ⟨by omega, by omega⟩) (by omega) (by omega) (by omega)).mono (show z.heap.size + 1 ≤ w.heap.size by omega) (Nat.le_refl _))
        have e7 : Ext (fun c => c = gl) w6 (w6.setCell ⟨gl, 0, none⟩ (.slice (some ⟨g6, 0, none⟩) (l0.items.length + 1) cp6)) := (Ext.refl (fun c => c = gl) w6).setCell ⟨gl, 0, none⟩ _ rfl
        have e57 : Ext (fun c => (Value.slice a0 l0.items.length c0).ownBlock = some c ∨ c = gl) w5 (w6.setCell ⟨gl, 0, none⟩ (.slice (some ⟨g6, 0, none⟩) (l0.items.length + 1) cp6)) := (hE6.mono (fun c _ h => Or.inl h)).trans (e7.mono (fun c _ h => Or.inr h))
        have hv1 : ∀ c, c < w.heap.size → ¬ ((Value.slice a0 l0.items.length c0).ownBlock = some c ∨ c = gl) := fun c hc h => by
          rcases h with h | h
          · have := (hF5.g0.own.lt c h).1; omega
          · have := hF5.glt.1; omega
        have hXq : Box w2.heap.size #[.slice a8 cs.length c8, .slice (some ⟨gl, 0, none⟩) (lr.length + 1) c9] 27 (w6.setCell ⟨gl, 0, none⟩ (.slice (some ⟨g6, 0, none⟩) (l0.items.length + 1) cp6)) w2.heap.size := hHeld
        have hRq := ((hRD.ext hE4 (by omega)).grownB g5 (by omega)).ext e57 (hv1 _ (by omega))
        have hSq := src_ext s5 e57 (hv1 _ (by omega))
        have hCq := code_ext c5 e57 (by omega) (fun k hk => hv1 k (by omega))
        have hGq := grown_ext (grown_trans (grown_ext hGD (ext_of_below nb8 nowhere) (fun _ _ h => h)) (grown_trans g4 g5)) e57 (fun k hk => hv1 k (by omega))
        clear hF5 hF4 hFD hE6 hG6 hor6 e7 e57 hv1 hRD hSD hCD hGD s4 c4 g4 s5 c5 g5 hE4 hHeld hX5 hNI hlz hbz5 hl5 hb6 L9 L11 nb8
        have x0 : (w6.setCell ⟨gl, 0, none⟩ (.slice (some ⟨g6, 0, none⟩) (l0.items.length + 1) cp6)).cell? ⟨w2.heap.size, 0, none⟩ = some (.slice a8 cs.length c8) := hXq.at 0 _ rfl
        have x1 : (w6.setCell ⟨gl, 0, none⟩ (.slice (some ⟨g6, 0, none⟩) (l0.items.length + 1) cp6)).cell? ⟨w2.heap.size, 1, none⟩ = some (.slice (some ⟨gl, 0, none⟩) (lr.length + 1) c9) := hXq.at 1 _ rfl
        have z0 : (w6.setCell ⟨gl, 0, none⟩ (.slice (some ⟨g6, 0, none⟩) (l0.items.length + 1) cp6)).cell? ⟨z.heap.size, 0, none⟩ = some (.slice none 0 0) := hRq.at 0 _ rfl
        have z1 : (w6.setCell ⟨gl, 0, none⟩ (.slice (some ⟨g6, 0, none⟩) (l0.items.length + 1) cp6)).cell? ⟨z.heap.size, 1, none⟩ = some (.slice none 0 0) := hRq.at 1 _ rfl
        have f0 := hRq.soft 0
        have f1 := hRq.soft 1
        have l0 := hRq.lt
        have HSq := hide hSq
        have HCq := hide hCq
        have HGq := hide hGq
        clear hSq hCq hGq hXq hRq
        go_wp2_with fail
        refine bodyPost_ret (v := .agg #[.slice a8 cs.length c8, .slice (some ⟨gl, 0, none⟩) (lr.length + 1) c9]) (by simp [results, Try.results55, go_sem, z0, z1]) rfl ?_
        refine bent_end hbz (unhide HP) (unhide HSq) (by omega) (unhide HCq) (unhide HGq)
      case ob9_13 =>
        have nb8 : Below wD.heap.size wD (wD.alloc (.cells #[.int .i64 0, .int .i64 5, .int .i64 999] 2)) := (Below.refl _ _).alloc (Nat.le_refl _) _
        have L9 := hide (pick b (m2 + 1) wD.heap.size cv [0, 5, 999] _ (hSD.on nb8) (hCD.on (by omega) nb8) (by omega) (by simp) (by simp) (heap_alloc_new wD _) (by omega))
        go_simp
        go_at_call 57
        refine (unhide L9).mono ?_
        rintro e w4 ⟨p, rfl, hp, s4, c4, g4⟩
        have hF4 := (hFD.later nb8).grown g4 (by omega)
        have hE4 : Ext (fun c => c = b) wD w4 := (ext_of_below nb8 _).trans (ext_grown g4)
        have hz4 := hE4.size
        try go_wp2_with fail
        refine hK.out _ _ (hHeld.grownB g4 (by omega)) (fun hHeld => ?_)
        clear hK K
        try simp only [Act.put, List.setIfInBounds_toArray, List.set_cons_zero, List.set_cons_succ]
        refine wpAnyH_ready (rs := [6, 11]) (by kernel_rfl) (by simp) ?_
        refine AllReadyH.cons (o := { dst := some 21, op := Go.Op.load 50 (Go.Operand.tmp 20), type := 50, pos := "l07_ivf.go:181", after := #[{ on := 5, ground := Go.Ground.data }], guard := none }) rfl (fun K hK => ?ob6_17) (AllReadyH.cons (o := { dst := some 26, op := Go.Op.call { callee := Go.Callee.value (Go.Operand.func 56), args := #[Go.Operand.tmp 25], argTypes := #[87] }, type := 28, pos := "l07_ivf.go:181", after := #[{ on := 10, ground := Go.Ground.data }, { on := 9, ground := Go.Ground.chain }], guard := none }) rfl (fun K hK => ?ob11_17) (AllReadyH.nil))
        case ob6_17 =>
          have y6 : (w4).cell? ⟨gl, 0, none⟩ = some (.slice a0 l0.items.length c0) := hF4.cell
          go_simp
          refine hK.out _ _ hHeld (fun hHeld => ?_)
          clear hK K
          try simp only [Act.put, List.setIfInBounds_toArray, List.set_cons_zero, List.set_cons_succ]
          refine wpAnyH_ready (rs := [11]) (by kernel_rfl) (by simp) ?_
          refine AllReadyH.cons (o := { dst := some 26, op := Go.Op.call { callee := Go.Callee.value (Go.Operand.func 56), args := #[Go.Operand.tmp 25], argTypes := #[87] }, type := 28, pos := "l07_ivf.go:181", after := #[{ on := 10, ground := Go.Ground.data }, { on := 9, ground := Go.Ground.chain }], guard := none }) rfl (fun K hK => ?_) AllReadyH.nil
          have L11 := hide (bent b (m2 + 1 + 1) cv w4 s4 c4 (by omega))
          go_simp
          go_at_call 56
          refine (unhide L11).mono ?_
          rintro e w5 ⟨v3, zs, m5, rfl, hzs, hNI, hm5, s5, c5, g5⟩
          obtain ⟨bz, hlz, hbz5⟩ := hNI.lies (by omega)
          obtain ⟨a3, d3, rfl⟩ := open_sl ⟨bz, hlz⟩
          have hF5 := hF4.grown g5 (by omega)
          have hz5 := g5.size
          try go_wp2_with fail
          refine hK.out _ _ (hHeld.grownB g5 (by omega)) (fun hHeld => ?_)
          clear hK K
          try simp only [Act.put, List.setIfInBounds_toArray, List.set_cons_zero, List.set_cons_succ]
          refine wpAnyH_take (i := 12) (oi := { dst := some 27, op := Go.Op.build 127 #[(0, Go.Operand.tmp 24), (1, Go.Operand.tmp 26)], type := 127, pos := "l07_ivf.go:181", after := #[{ on := 9, ground := Go.Ground.data }, { on := 11, ground := Go.Ground.data }], guard := none }) (v := ?vb12_18) rfl (by kernel_rfl) (by kernel_rfl) (by kernel_rfl) (fun _ _ _ h => h) (Or.inl ⟨by rfl, ?hb12_18⟩) hHeld ?rb12_18
          case hb12_18 =>
            intro wS hSw
            (try dsimp only at hSw)
            go_simp
            try with_reducible rfl
          case rb12_18 =>
          simp only [Act.put, List.setIfInBounds_toArray, List.set_cons_zero, List.set_cons_succ]
          refine wpAnyH_ready (rs := [13]) (by kernel_rfl) (by simp) ?_
          refine AllReadyH.cons (o := { dst := some 28, op := Go.Op.buildSlice 50 1 #[(0, Go.Operand.tmp 27)], type := 50, pos := "l07_ivf.go:181", after := #[{ on := 12, ground := Go.Ground.data }], guard := none }) rfl (fun K hK => ?_) AllReadyH.nil
          have hX5 := hHeld
          go_simp
          refine hK.out _ _ (hHeld.grow _) (fun hHeld => ?_)
          clear hK K
          try simp only [Act.put, List.setIfInBounds_toArray, List.set_cons_zero, List.set_cons_succ]
          refine wpAnyH_ready (rs := [14]) (by kernel_rfl) (by simp) ?_
          refine AllReadyH.cons (o := { dst := some 29, op := Go.Op.call { callee := Go.Callee.builtin Go.Builtin.append, args := #[Go.Operand.tmp 21, Go.Operand.tmp 28], argTypes := #[50, 50] }, type := 50, pos := "l07_ivf.go:181", after := #[{ on := 6, ground := Go.Ground.data }, { on := 13, ground := Go.Ground.data }, { on := 11, ground := Go.Ground.chain }], guard := none }) rfl (fun K hK => ?_) AllReadyH.nil
          have hpb : 0 ≤ p ∧ p ≤ 1000 := by
            simp only [List.mem_cons, List.not_mem_nil, or_false] at hp
            omega
          have hl5 : Lay.tItem.lies w5 [.int .i64 p, .slice a3 zs.length d3] ⟨p, zs⟩ bz := lies_Item.2 ⟨a3, d3, bz, rfl, rfl, (show (Lit.int .i64 p).wf = true from wf_of_bd (by omega)), hlz⟩
          refine step_append_Item hF5.g0 (row := [.int .i64 p, .slice a3 zs.length d3]) (x := ⟨p, zs⟩) (bl := bz) hl5 (fun c hc e => by have h1 := hbz5 c hc; have h2 := hv0 c e; omega) rfl _ _ rfl rfl rfl (by omega) (by omega) ?_
          rintro g6 cp6 w6 hG6 hb6 hE6 hl6 hz6 hor6
          refine hK.out _ _ (hX5.ext hE6 (fun e => by have := hv0 _ e; omega)) (fun hHeld => ?_)
          clear hK K
          try simp only [Act.put, List.setIfInBounds_toArray, List.set_cons_zero, List.set_cons_succ]
          refine wpAnyH_take (i := 15) (oi := { dst := some 30, op := Go.Op.indexAddr 25 (Go.Operand.tmp 16) (Go.Operand.const (Go.Value.int Go.IntKind.i64 0)), type := 0, pos := "l07_ivf.go:181", after := #[{ on := 1, ground := Go.Ground.data }, { on := 0, ground := Go.Ground.phase }, { on := 1, ground := Go.Ground.phase }, { on := 2, ground := Go.Ground.phase }, { on := 3, ground := Go.Ground.phase }, { on := 4, ground := Go.Ground.phase }, { on := 5, ground := Go.Ground.phase }, { on := 6, ground := Go.Ground.phase }, { on := 7, ground := Go.Ground.phase }, { on := 8, ground := Go.Ground.phase }, { on := 9, ground := Go.Ground.phase }, { on := 10, ground := Go.Ground.phase }, { on := 11, ground := Go.Ground.phase }, { on := 12, ground := Go.Ground.phase }, { on := 13, ground := Go.Ground.phase }, { on := 14, ground := Go.Ground.phase }], guard := none }) (v := ?vb15_19) rfl (by kernel_rfl) (by kernel_rfl) (by kernel_rfl) (fun _ _ _ h => h) (Or.inl ⟨by rfl, ?hb15_19⟩) hHeld ?rb15_19
          case hb15_19 =>
            intro wS hSw
            have y1 : (0 : Int) < ((lr.length + 1 : Nat) : Int) := by omega
            (try dsimp only at hSw)
            go_simp
            try with_reducible rfl
          case rb15_19 =>
          simp only [Act.put, List.setIfInBounds_toArray, List.set_cons_zero, List.set_cons_succ]
          refine wpAnyH_take (i := 16) (oi := { dst := some 31, op := Go.Op.fieldAddr 147 (Go.Operand.tmp 30) 0, type := 0, pos := "l07_ivf.go:181", after := #[{ on := 15, ground := Go.Ground.data }, { on := 0, ground := Go.Ground.phase }, { on := 1, ground := Go.Ground.phase }, { on := 2, ground := Go.Ground.phase }, { on := 3, ground := Go.Ground.phase }, { on := 4, ground := Go.Ground.phase }, { on := 5, ground := Go.Ground.phase }, { on := 6, ground := Go.Ground.phase }, { on := 7, ground := Go.Ground.phase }, { on := 8, ground := Go.Ground.phase }, { on := 9, ground := Go.Ground.phase }, { on := 10, ground := Go.Ground.phase }, { on := 11, ground := Go.Ground.phase }, { on := 12, ground := Go.Ground.phase }, { on := 13, ground := Go.Ground.phase }, { on := 14, ground := Go.Ground.phase }], guard := none }) (v := ?vb16_20) rfl (by kernel_rfl) (by kernel_rfl) (by kernel_rfl) (fun _ _ _ h => h) (Or.inl ⟨by rfl, ?hb16_20⟩) hHeld ?rb16_20
          case hb16_20 =>
            intro wS hSw
            (try dsimp only at hSw)
            go_simp
            try with_reducible rfl
          case rb16_20 =>
          simp only [Act.put, List.setIfInBounds_toArray, List.set_cons_zero, List.set_cons_succ]
          refine wpAnyH_ready (rs := [17]) (by kernel_rfl) (by simp) ?_
          refine AllReadyH.cons (o := { dst := none, op := Go.Op.store 50 (Go.Operand.tmp 31) (Go.Operand.tmp 29), type := 0, pos := "l07_ivf.go:181", after := #[{ on := 16, ground := Go.Ground.data }, { on := 14, ground := Go.Ground.data }, { on := 14, ground := Go.Ground.chain }, { on := 0, ground := Go.Ground.phase }, { on := 1, ground := Go.Ground.phase }, { on := 2, ground := Go.Ground.phase }, { on := 3, ground := Go.Ground.phase }, { on := 4, ground := Go.Ground.phase }, { on := 5, ground := Go.Ground.phase }, { on := 6, ground := Go.Ground.phase }, { on := 7, ground := Go.Ground.phase }, { on := 8, ground := Go.Ground.phase }, { on := 9, ground := Go.Ground.phase }, { on := 10, ground := Go.Ground.phase }, { on := 11, ground := Go.Ground.phase }, { on := 12, ground := Go.Ground.phase }, { on := 13, ground := Go.Ground.phase }, { on := 14, ground := Go.Ground.phase }], guard := none }) rfl (fun K hK => ?_) AllReadyH.nil
          obtain ⟨y7, f7, k7⟩ := hF5.after hE6
          go_simp
          refine hK.out _ _ (hHeld.other _ _ (by show w2.heap.size ≠ gl; omega)) (fun hHeld => ?_)
          clear hK K
          try simp only [Act.put, List.setIfInBounds_toArray, List.set_cons_zero, List.set_cons_succ]
          refine wpAnyH_done (by kernel_rfl) ?_ _
          refine NoPanic.normal ?_
          have HP := hide ((hF5.put hE6 hG6 hor6 (fun c hc => by have h1 := hbz5 c hc; exact ⟨by omega, by omega⟩) (by omega) (by omega) (by omega)).mono (show z.heap.size + 1 ≤ w.heap.size by omega) (Nat.le_refl _))
          have e7 : Ext (fun c => c = gl) w6 (w6.setCell ⟨gl, 0, none⟩ (.slice (some ⟨g6, 0, none⟩) (l0.items.length + 1) cp6)) := (Ext.refl (fun c => c = gl) w6).setCell ⟨gl, 0, none⟩ _ rfl
          have e57 : Ext (fun c => (Value.slice a0 l0.items.length c0).ownBlock = some c ∨ c = gl) w5 (w6.setCell ⟨gl, 0, none⟩ (.slice (some ⟨g6, 0, none⟩) (l0.items.length + 1) cp6)) := (hE6.mono (fun c _ h => Or.inl h)).trans (e7.mono (fun c _ h => Or.inr h))
          have hv1 : ∀ c, c < w.heap.size → ¬ ((Value.slice a0 l0.items.length c0).ownBlock = some c ∨ c = gl) := fun c hc h => by
            rcases h with h | h
            · have := (hF5.g0.own.lt c h).1; omega
            · have := hF5.glt.1; omega
          have hXq : Box w2.heap.size #[.slice a8 cs.length c8, .slice (some ⟨gl, 0, none⟩) (lr.length + 1) c9] 27 (w6.setCell ⟨gl, 0, none⟩ (.slice (some ⟨g6, 0, none⟩) (l0.items.length + 1) cp6)) w2.heap.size := hHeld
          have hRq := ((hRD.ext hE4 (by omega)).grownB g5 (by omega)).ext e57 (hv1 _ (by omega))
          have hSq := src_ext s5 e57 (hv1 _ (by omega))
          have hCq := code_ext c5 e57 (by omega) (fun k hk => hv1 k (by omega))
          have hGq := grown_ext (grown_trans (grown_ext hGD (ext_of_below nb8 nowhere) (fun _ _ h => h)) (grown_trans g4 g5)) e57 (fun k hk => hv1 k (by omega))
          clear hF5 hF4 hFD hE6 hG6 hor6 e7 e57 hv1 hRD hSD hCD hGD s4 c4 g4 s5 c5 g5 hE4 hHeld hX5 hNI hlz hbz5 hl5 hb6 L9 L11 nb8
          have x0 : (w6.setCell ⟨gl, 0, none⟩ (.slice (some ⟨g6, 0, none⟩) (l0.items.length + 1) cp6)).cell? ⟨w2.heap.size, 0, none⟩ = some (.slice a8 cs.length c8) := hXq.at 0 _ rfl
          have x1 : (w6.setCell ⟨gl, 0, none⟩ (.slice (some ⟨g6, 0, none⟩) (l0.items.length + 1) cp6)).cell? ⟨w2.heap.size, 1, none⟩ = some (.slice (some ⟨gl, 0, none⟩) (lr.length + 1) c9) := hXq.at 1 _ rfl
          have z0 : (w6.setCell ⟨gl, 0, none⟩ (.slice (some ⟨g6, 0, none⟩) (l0.items.length + 1) cp6)).cell? ⟨z.heap.size, 0, none⟩ = some (.slice none 0 0) := hRq.at 0 _ rfl
          have z1 : (w6.setCell ⟨gl, 0, none⟩ (.slice (some ⟨g6, 0, none⟩) (l0.items.length + 1) cp6)).cell? ⟨z.heap.size, 1, none⟩ = some (.slice none 0 0) := hRq.at 1 _ rfl
          have f0 := hRq.soft 0
          have f1 := hRq.soft 1
          have l0 := hRq.lt
          have HSq := hide hSq
          have HCq := hide hCq
          have HGq := hide hGq
          clear hSq hCq hGq hXq hRq
          go_wp2_with fail
          refine bodyPost_ret (v := .agg #[.slice a8 cs.length c8, .slice (some ⟨gl, 0, none⟩) (lr.length + 1) c9]) (by simp [results, Try.results55, go_sem, z0, z1]) rfl ?_
          refine bent_end hbz (unhide HP) (unhide HSq) (by omega) (unhide HCq) (unhide HGq)
        case ob11_17 =>
          have L11 := hide (bent b (m2 + 1 + 1) cv w4 s4 c4 (by omega))
          go_simp
          go_at_call 56
          refine (unhide L11).mono ?_
          rintro e w5 ⟨v3, zs, m5, rfl, hzs, hNI, hm5, s5, c5, g5⟩
          obtain ⟨bz, hlz, hbz5⟩ := hNI.lies (by omega)
          obtain ⟨a3, d3, rfl⟩ := open_sl ⟨bz, hlz⟩
          have hF5 := hF4.grown g5 (by omega)
          have hz5 := g5.size
          try go_wp2_with fail
          refine hK.out _ _ (hHeld.grownB g5 (by omega)) (fun hHeld => ?_)
          clear hK K
          try simp only [Act.put, List.setIfInBounds_toArray, List.set_cons_zero, List.set_cons_succ]
          refine wpAnyH_take (i := 12) (oi := { dst := some 27, op := Go.Op.build 127 #[(0, Go.Operand.tmp 24), (1, Go.Operand.tmp 26)], type := 127, pos := "l07_ivf.go:181", after := #[{ on := 9, ground := Go.Ground.data }, { on := 11, ground := Go.Ground.data }], guard := none }) (v := ?vb12_21) rfl (by kernel_rfl) (by kernel_rfl) (by kernel_rfl) (fun _ _ _ h => h) (Or.inl ⟨by rfl, ?hb12_21⟩) hHeld ?rb12_21
          case hb12_21 =>
            intro wS hSw
            (try dsimp only at hSw)
            go_simp
            try with_reducible rfl
          case rb12_21 =>
          simp only [Act.put, List.setIfInBounds_toArray, List.set_cons_zero, List.set_cons_succ]
          refine wpAnyH_ready (rs := [6, 13]) (by kernel_rfl) (by simp) ?_
          refine AllReadyH.cons (o := { dst := some 21, op := Go.Op.load 50 (Go.Operand.tmp 20), type := 50, pos := "l07_ivf.go:181", after := #[{ on := 5, ground := Go.Ground.data }], guard := none }) rfl (fun K hK => ?ob6_22) (AllReadyH.cons (o := { dst := some 28, op := Go.Op.buildSlice 50 1 #[(0, Go.Operand.tmp 27)], type := 50, pos := "l07_ivf.go:181", after := #[{ on := 12, ground := Go.Ground.data }], guard := none }) rfl (fun K hK => ?ob13_22) (AllReadyH.nil))
          case ob6_22 =>
            have y6 : (w5).cell? ⟨gl, 0, none⟩ = some (.slice a0 l0.items.length c0) := hF5.cell
            go_simp
            refine hK.out _ _ hHeld (fun hHeld => ?_)
            clear hK K
            try simp only [Act.put, List.setIfInBounds_toArray, List.set_cons_zero, List.set_cons_succ]
            refine wpAnyH_ready (rs := [13]) (by kernel_rfl) (by simp) ?_
            refine AllReadyH.cons (o := { dst := some 28, op := Go.Op.buildSlice 50 1 #[(0, Go.Operand.tmp 27)], type := 50, pos := "l07_ivf.go:181", after := #[{ on := 12, ground := Go.Ground.data }], guard := none }) rfl (fun K hK => ?_) AllReadyH.nil
            have hX5 := hHeld
            go_simp
            refine hK.out _ _ (hHeld.grow _) (fun hHeld => ?_)
            clear hK K
            try simp only [Act.put, List.setIfInBounds_toArray, List.set_cons_zero, List.set_cons_succ]
            refine wpAnyH_ready (rs := [14]) (by kernel_rfl) (by simp) ?_
            refine AllReadyH.cons (o := { dst := some 29, op := Go.Op.call { callee := Go.Callee.builtin Go.Builtin.append, args := #[Go.Operand.tmp 21, Go.Operand.tmp 28], argTypes := #[50, 50] }, type := 50, pos := "l07_ivf.go:181", after := #[{ on := 6, ground := Go.Ground.data }, { on := 13, ground := Go.Ground.data }, { on := 11, ground := Go.Ground.chain }], guard := none }) rfl (fun K hK => ?_) AllReadyH.nil
            have hpb : 0 ≤ p ∧ p ≤ 1000 := by
              simp only [List.mem_cons, List.not_mem_nil, or_false] at hp
              omega
            have hl5 : Lay.tItem.lies w5 [.int .i64 p, .slice a3 zs.length d3] ⟨p, zs⟩ bz := lies_Item.2 ⟨a3, d3, bz, rfl, rfl, (show (Lit.int .i64 p).wf = true from wf_of_bd (by omega)), hlz⟩
            refine step_append_Item hF5.g0 (row := [.int .i64 p, .slice a3 zs.length d3]) (x := ⟨p, zs⟩) (bl := bz) hl5 (fun c hc e => by have h1 := hbz5 c hc; have h2 := hv0 c e; omega) rfl _ _ rfl rfl rfl (by omega) (by omega) ?_
            rintro g6 cp6 w6 hG6 hb6 hE6 hl6 hz6 hor6
            refine hK.out _ _ (hX5.ext hE6 (fun e => by have := hv0 _ e; omega)) (fun hHeld => ?_)
            clear hK K
            try simp only [Act.put, List.setIfInBounds_toArray, List.set_cons_zero, List.set_cons_succ]
            refine wpAnyH_take (i := 15) (oi := { dst := some 30, op := Go.Op.indexAddr 25 (Go.Operand.tmp 16) (Go.Operand.const (Go.Value.int Go.IntKind.i64 0)), type := 0, pos := "l07_ivf.go:181", after := #[{ on := 1, ground := Go.Ground.data }, { on := 0, ground := Go.Ground.phase }, { on := 1, ground := Go.Ground.phase }, { on := 2, ground := Go.Ground.phase }, { on := 3, ground := Go.Ground.phase }, { on := 4, ground := Go.Ground.phase }, { on := 5, ground := Go.Ground.phase }, { on := 6, ground := Go.Ground.phase }, { on := 7, ground := Go.Ground.phase }, { on := 8, ground := Go.Ground.phase }, { on := 9, ground := Go.Ground.phase }, { on := 10, ground := Go.Ground.phase }, { on := 11, ground := Go.Ground.phase }, { on := 12, ground := Go.Ground.phase }, { on := 13, ground := Go.Ground.phase }, { on := 14, ground := Go.Ground.phase }], guard := none }) (v := ?vb15_23) rfl (by kernel_rfl) (by kernel_rfl) (by kernel_rfl) (fun _ _ _ h => h) (Or.inl ⟨by rfl, ?hb15_23⟩) hHeld ?rb15_23
            case hb15_23 =>
              intro wS hSw
              have y1 : (0 : Int) < ((lr.length + 1 : Nat) : Int) := by omega
              (try dsimp only at hSw)
              go_simp
              try with_reducible rfl
            case rb15_23 =>
            simp only [Act.put, List.setIfInBounds_toArray, List.set_cons_zero, List.set_cons_succ]
            refine wpAnyH_take (i := 16) (oi := { dst := some 31, op := Go.Op.fieldAddr 147 (Go.Operand.tmp 30) 0, type := 0, pos := "l07_ivf.go:181", after := #[{ on := 15, ground := Go.Ground.data }, { on := 0, ground := Go.Ground.phase }, { on := 1, ground := Go.Ground.phase }, { on := 2, ground := Go.Ground.phase }, { on := 3, ground := Go.Ground.phase }, { on := 4, ground := Go.Ground.phase }, { on := 5, ground := Go.Ground.phase }, { on := 6, ground := Go.Ground.phase }, { on := 7, ground := Go.Ground.phase }, { on := 8, ground := Go.Ground.phase }, { on := 9, ground := Go.Ground.phase }, { on := 10, ground := Go.Ground.phase }, { on := 11, ground := Go.Ground.phase }, { on := 12, ground := Go.Ground.phase }, { on := 13, ground := Go.Ground.phase }, { on := 14, ground := Go.Ground.phase }], guard := none }) (v := ?vb16_24) rfl (by kernel_rfl) (by kernel_rfl) (by kernel_rfl) (fun _ _ _ h => h) (Or.inl ⟨by rfl, ?hb16_24⟩) hHeld ?rb16_24
            case hb16_24 =>
              intro wS hSw
              (try dsimp only at hSw)
              go_simp
              try with_reducible rfl
            case rb16_24 =>
            simp only [Act.put, List.setIfInBounds_toArray, List.set_cons_zero, List.set_cons_succ]
            refine wpAnyH_ready (rs := [17]) (by kernel_rfl) (by simp) ?_
            refine AllReadyH.cons (o := { dst := none, op := Go.Op.store 50 (Go.Operand.tmp 31) (Go.Operand.tmp 29), type := 0, pos := "l07_ivf.go:181", after := #[{ on := 16, ground := Go.Ground.data }, { on := 14, ground := Go.Ground.data }, { on := 14, ground := Go.Ground.chain }, { on := 0, ground := Go.Ground.phase }, { on := 1, ground := Go.Ground.phase }, { on := 2, ground := Go.Ground.phase }, { on := 3, ground := Go.Ground.phase }, { on := 4, ground := Go.Ground.phase }, { on := 5, ground := Go.Ground.phase }, { on := 6, ground := Go.Ground.phase }, { on := 7, ground := Go.Ground.phase }, { on := 8, ground := Go.Ground.phase }, { on := 9, ground := Go.Ground.phase }, { on := 10, ground := Go.Ground.phase }, { on := 11, ground := Go.Ground.phase }, { on := 12, ground := Go.Ground.phase }, { on := 13, ground := Go.Ground.phase }, { on := 14, ground := Go.Ground.phase }], guard := none }) rfl (fun K hK => ?_) AllReadyH.nil
            obtain ⟨y7, f7, k7⟩ := hF5.after hE6
            go_simp
            refine hK.out _ _ (hHeld.other _ _ (by show w2.heap.size ≠ gl; omega)) (fun hHeld => ?_)
            clear hK K
            try simp only [Act.put, List.setIfInBounds_toArray, List.set_cons_zero, List.set_cons_succ]
            refine wpAnyH_done (by kernel_rfl) ?_ _
            refine NoPanic.normal ?_
            have HP := hide ((hF5.put hE6 hG6 hor6 (fun c hc => by have h1 := hbz5 c hc; exact ⟨by omega, by omega⟩) (by omega) (by omega) (by omega)).mono (show z.heap.size + 1 ≤ w.heap.size by omega) (Nat.le_refl _))
            have e7 : Ext (fun c => c = gl) w6 (w6.setCell ⟨gl, 0, none⟩ (.slice (some ⟨g6, 0, none⟩) (l0.items.length + 1) cp6)) := (Ext.refl (fun c => c = gl) w6).setCell ⟨gl, 0, none⟩ _ rfl
            have e57 : Ext (fun c => (Value.slice a0 l0.items.length c0).ownBlock = some c ∨ c = gl) w5 (w6.setCell ⟨gl, 0, none⟩ (.slice (some ⟨g6, 0, none⟩) (l0.items.length + 1) cp6)) := (hE6.mono (fun c _ h => Or.inl h)).trans (e7.mono (fun c _ h => Or.inr h))
            have hv1 : ∀ c, c < w.heap.size → ¬ ((Value.slice a0 l0.items.length c0).ownBlock = some c ∨ c = gl) := fun c hc h => by
              rcases h with h | h
              · have := (hF5.g0.own.lt c h).1; omega
              · have := hF5.glt.1; omega
            have hXq : Box w2.heap.size #[.slice a8 cs.length c8, .slice (some ⟨gl, 0, none⟩) (lr.length + 1) c9] 27 (w6.setCell ⟨gl, 0, none⟩ (.slice (some ⟨g6, 0, none⟩) (l0.items.length + 1) cp6)) w2.heap.size := hHeld
            have hRq := ((hRD.ext hE4 (by omega)).grownB g5 (by omega)).ext e57 (hv1 _ (by omega))
            have hSq := src_ext s5 e57 (hv1 _ (by omega))
            have hCq := code_ext c5 e57 (by omega) (fun k hk => hv1 k (by omega))
            have hGq := grown_ext (grown_trans (grown_ext hGD (ext_of_below nb8 nowhere) (fun _ _ h => h)) (grown_trans g4 g5)) e57 (fun k hk => hv1 k (by omega))
            clear hF5 hF4 hFD hE6 hG6 hor6 e7 e57 hv1 hRD hSD hCD hGD s4 c4 g4 s5 c5 g5 hE4 hHeld hX5 hNI hlz hbz5 hl5 hb6 L9 L11 nb8
            have x0 : (w6.setCell ⟨gl, 0, none⟩ (.slice (some ⟨g6, 0, none⟩) (l0.items.length + 1) cp6)).cell? ⟨w2.heap.size, 0, none⟩ = some (.slice a8 cs.length c8) := hXq.at 0 _ rfl
            have x1 : (w6.setCell ⟨gl, 0, none⟩ (.slice (some ⟨g6, 0, none⟩) (l0.items.length + 1) cp6)).cell? ⟨w2.heap.size, 1, none⟩ = some (.slice (some ⟨gl, 0, none⟩) (lr.length + 1) c9) := hXq.at 1 _ rfl
            have z0 : (w6.setCell ⟨gl, 0, none⟩ (.slice (some ⟨g6, 0, none⟩) (l0.items.length + 1) cp6)).cell? ⟨z.heap.size, 0, none⟩ = some (.slice none 0 0) := hRq.at 0 _ rfl
            have z1 : (w6.setCell ⟨gl, 0, none⟩ (.slice (some ⟨g6, 0, none⟩) (l0.items.length + 1) cp6)).cell? ⟨z.heap.size, 1, none⟩ = some (.slice none 0 0) := hRq.at 1 _ rfl
            have f0 := hRq.soft 0
            have f1 := hRq.soft 1
            have l0 := hRq.lt
            have HSq := hide hSq
            have HCq := hide hCq
            have HGq := hide hGq
            clear hSq hCq hGq hXq hRq
            go_wp2_with fail
            refine bodyPost_ret (v := .agg #[.slice a8 cs.length c8, .slice (some ⟨gl, 0, none⟩) (lr.length + 1) c9]) (by simp [results, Try.results55, go_sem, z0, z1]) rfl ?_
            refine bent_end hbz (unhide HP) (unhide HSq) (by omega) (unhide HCq) (unhide HGq)
          case ob13_22 =>
            have hX5 := hHeld
            go_simp
            refine hK.out _ _ (hHeld.grow _) (fun hHeld => ?_)
            clear hK K
            try simp only [Act.put, List.setIfInBounds_toArray, List.set_cons_zero, List.set_cons_succ]
            refine wpAnyH_ready (rs := [6]) (by kernel_rfl) (by simp) ?_
            refine AllReadyH.cons (o := { dst := some 21, op := Go.Op.load 50 (Go.Operand.tmp 20), type := 50, pos := "l07_ivf.go:181", after := #[{ on := 5, ground := Go.Ground.data }], guard := none }) rfl (fun K hK => ?_) AllReadyH.nil
            have y6 : (w5.alloc (.cells #[.int .i64 p, .slice a3 zs.length d3] 127)).cell? ⟨gl, 0, none⟩ = some (.slice a0 l0.items.length c0) := (hF5.later ((Below.refl _ _).alloc (Nat.le_refl _) _)).cell
            go_simp
            refine hK.out _ _ hHeld (fun hHeld => ?_)
            clear hK K
            try simp only [Act.put, List.setIfInBounds_toArray, List.set_cons_zero, List.set_cons_succ]
            refine wpAnyH_ready (rs := [14]) (by kernel_rfl) (by simp) ?_
            refine AllReadyH.cons (o := { dst := some 29, op := Go.Op.call { callee := Go.Callee.builtin Go.Builtin.append, args := #[Go.Operand.tmp 21, Go.Operand.tmp 28], argTypes := #[50, 50] }, type := 50, pos := "l07_ivf.go:181", after := #[{ on := 6, ground := Go.Ground.data }, { on := 13, ground := Go.Ground.data }, { on := 11, ground := Go.Ground.chain }], guard := none }) rfl (fun K hK => ?_) AllReadyH.nil
            have hpb : 0 ≤ p ∧ p ≤ 1000 := by
              simp only [List.mem_cons, List.not_mem_nil, or_false] at hp
              omega
            have hl5 : Lay.tItem.lies w5 [.int .i64 p, .slice a3 zs.length d3] ⟨p, zs⟩ bz := lies_Item.2 ⟨a3, d3, bz, rfl, rfl, (show (Lit.int .i64 p).wf = true from wf_of_bd (by omega)), hlz⟩
            refine step_append_Item hF5.g0 (row := [.int .i64 p, .slice a3 zs.length d3]) (x := ⟨p, zs⟩) (bl := bz) hl5 (fun c hc e => by have h1 := hbz5 c hc; have h2 := hv0 c e; omega) rfl _ _ rfl rfl rfl (by omega) (by omega) ?_
            rintro g6 cp6 w6 hG6 hb6 hE6 hl6 hz6 hor6
            refine hK.out _ _ (hX5.ext hE6 (fun e => by have := hv0 _ e; omega)) (fun hHeld => ?_)
            clear hK K
            try simp only [Act.put, List.setIfInBounds_toArray, List.set_cons_zero, List.set_cons_succ]
            refine wpAnyH_take (i := 15) (oi := { dst := some 30, op := Go.Op.indexAddr 25 (Go.Operand.tmp 16) (Go.Operand.const (Go.Value.int Go.IntKind.i64 0)), type := 0, pos := "l07_ivf.go:181", after := #[{ on := 1, ground := Go.Ground.data }, { on := 0, ground := Go.Ground.phase }, { on := 1, ground := Go.Ground.phase }, { on := 2, ground := Go.Ground.phase }, { on := 3, ground := Go.Ground.phase }, { on := 4, ground := Go.Ground.phase }, { on := 5, ground := Go.Ground.phase }, { on := 6, ground := Go.Ground.phase }, { on := 7, ground := Go.Ground.phase }, { on := 8, ground := Go.Ground.phase }, { on := 9, ground := Go.Ground.phase }, { on := 10, ground := Go.Ground.phase }, { on := 11, ground := Go.Ground.phase }, { on := 12, ground := Go.Ground.phase }, { on := 13, ground := Go.Ground.phase }, { on := 14, ground := Go.Ground.phase }], guard := none }) (v := ?vb15_25) rfl (by kernel_rfl) (by kernel_rfl) (by kernel_rfl) (fun _ _ _ h => h) (Or.inl ⟨by rfl, ?hb15_25⟩) hHeld ?rb15_25
            case hb15_25 =>
              intro wS hSw
              have y1 : (0 : Int) < ((lr.length + 1 : Nat) : Int) := by omega
              (try dsimp only at hSw)
              go_simp
              try with_reducible rfl
            case rb15_25 =>
            simp only [Act.put, List.setIfInBounds_toArray, List.set_cons_zero, List.set_cons_succ]
            refine wpAnyH_take (i := 16) (oi := { dst := some 31, op := Go.Op.fieldAddr 147 (Go.Operand.tmp 30) 0, type := 0, pos := "l07_ivf.go:181", after := #[{ on := 15, ground := Go.Ground.data }, { on := 0, ground := Go.Ground.phase }, { on := 1, ground := Go.Ground.phase }, { on := 2, ground := Go.Ground.phase }, { on := 3, ground := Go.Ground.phase }, { on := 4, ground := Go.Ground.phase }, { on := 5, ground := Go.Ground.phase }, { on := 6, ground := Go.Ground.phase }, { on := 7, ground := Go.Ground.phase }, { on := 8, ground := Go.Ground.phase }, { on := 9, ground := Go.Ground.phase }, { on := 10, ground := Go.Ground.phase }, { on := 11, ground := Go.Ground.phase }, { on := 12, ground := Go.Ground.phase }, { on := 13, ground := Go.Ground.phase }, { on := 14, ground := Go.Ground.phase }], guard := none }) (v := ?vb16_26) rfl (by kernel_rfl) (by kernel_rfl) (by kernel_rfl) (fun _ _ _ h => h) (Or.inl ⟨by rfl, ?hb16_26⟩) hHeld ?rb16_26
            case hb16_26 =>
              intro wS hSw
              (try dsimp only at hSw)
              go_simp
              try with_reducible rfl
            case rb16_26 =>
            simp only [Act.put, List.setIfInBounds_toArray, List.set_cons_zero, List.set_cons_succ]
            refine wpAnyH_ready (rs := [17]) (by kernel_rfl) (by simp) ?_
            refine AllReadyH.cons (o := { dst := none, op := Go.Op.store 50 (Go.Operand.tmp 31) (Go.Operand.tmp 29), type := 0, pos := "l07_ivf.go:181", after := #[{ on := 16, ground := Go.Ground.data }, { on := 14, ground := Go.Ground.data }, { on := 14, ground := Go.Ground.chain }, { on := 0, ground := Go.Ground.phase }, { on := 1, ground := Go.Ground.phase }, { on := 2, ground := Go.Ground.phase }, { on := 3, ground := Go.Ground.phase }, { on := 4, ground := Go.Ground.phase }, { on := 5, ground := Go.Ground.phase }, { on := 6, ground := Go.Ground.phase }, { on := 7, ground := Go.Ground.phase }, { on := 8, ground := Go.Ground.phase }, { on := 9, ground := Go.Ground.phase }, { on := 10, ground := Go.Ground.phase }, { on := 11, ground := Go.Ground.phase }, { on := 12, ground := Go.Ground.phase }, { on := 13, ground := Go.Ground.phase }, { on := 14, ground := Go.Ground.phase }], guard := none }) rfl (fun K hK => ?_) AllReadyH.nil
            obtain ⟨y7, f7, k7⟩ := hF5.after hE6
            go_simp
            refine hK.out _ _ (hHeld.other _ _ (by show w2.heap.size ≠ gl; omega)) (fun hHeld => ?_)
            clear hK K
            try simp only [Act.put, List.setIfInBounds_toArray, List.set_cons_zero, List.set_cons_succ]
            refine wpAnyH_done (by kernel_rfl) ?_ _
            refine NoPanic.normal ?_
            have HP := hide ((hF5.put hE6 hG6 hor6 (fun c hc => by have h1 := hbz5 c hc; exact ⟨by omega, by omega⟩) (by omega) (by omega) (by omega)).mono (show z.heap.size + 1 ≤ w.heap.size by omega) (Nat.le_refl _))
            have e7 : Ext (fun c => c = gl) w6 (w6.setCell ⟨gl, 0, none⟩ (.slice (some ⟨g6, 0, none⟩) (l0.items.length + 1) cp6)) := (Ext.refl (fun c => c = gl) w6).setCell ⟨gl, 0, none⟩ _ rfl
            have e57 : Ext (fun c => (Value.slice a0 l0.items.length c0).ownBlock = some c ∨ c = gl) w5 (w6.setCell ⟨gl, 0, none⟩ (.slice (some ⟨g6, 0, none⟩) (l0.items.length + 1) cp6)) := (hE6.mono (fun c _ h => Or.inl h)).trans (e7.mono (fun c _ h => Or.inr h))
            have hv1 : ∀ c, c < w.heap.size → ¬ ((Value.slice a0 l0.items.length c0).ownBlock = some c ∨ c = gl) := fun c hc h => by
              rcases h with h | h
              · have := (hF5.g0.own.lt c h).1; omega
              · have := hF5.glt.1; omega
            have hXq : Box w2.heap.size #[.slice a8 cs.length c8, .slice (some ⟨gl, 0, none⟩) (lr.length + 1) c9] 27 (w6.setCell ⟨gl, 0, none⟩ (.slice (some ⟨g6, 0, none⟩) (l0.items.length + 1) cp6)) w2.heap.size := hHeld
            have hRq := ((hRD.ext hE4 (by omega)).grownB g5 (by omega)).ext e57 (hv1 _ (by omega))
            have hSq := src_ext s5 e57 (hv1 _ (by omega))
            have hCq := code_ext c5 e57 (by omega) (fun k hk => hv1 k (by omega))
            have hGq := grown_ext (grown_trans (grown_ext hGD (ext_of_below nb8 nowhere) (fun _ _ h => h)) (grown_trans g4 g5)) e57 (fun k hk => hv1 k (by omega))
            clear hF5 hF4 hFD hE6 hG6 hor6 e7 e57 hv1 hRD hSD hCD hGD s4 c4 g4 s5 c5 g5 hE4 hHeld hX5 hNI hlz hbz5 hl5 hb6 L9 L11 nb8
            have x0 : (w6.setCell ⟨gl, 0, none⟩ (.slice (some ⟨g6, 0, none⟩) (l0.items.length + 1) cp6)).cell? ⟨w2.heap.size, 0, none⟩ = some (.slice a8 cs.length c8) := hXq.at 0 _ rfl
            have x1 : (w6.setCell ⟨gl, 0, none⟩ (.slice (some ⟨g6, 0, none⟩) (l0.items.length + 1) cp6)).cell? ⟨w2.heap.size, 1, none⟩ = some (.slice (some ⟨gl, 0, none⟩) (lr.length + 1) c9) := hXq.at 1 _ rfl
            have z0 : (w6.setCell ⟨gl, 0, none⟩ (.slice (some ⟨g6, 0, none⟩) (l0.items.length + 1) cp6)).cell? ⟨z.heap.size, 0, none⟩ = some (.slice none 0 0) := hRq.at 0 _ rfl
            have z1 : (w6.setCell ⟨gl, 0, none⟩ (.slice (some ⟨g6, 0, none⟩) (l0.items.length + 1) cp6)).cell? ⟨z.heap.size, 1, none⟩ = some (.slice none 0 0) := hRq.at 1 _ rfl
            have f0 := hRq.soft 0
            have f1 := hRq.soft 1
            have l0 := hRq.lt
            have HSq := hide hSq
            have HCq := hide hCq
            have HGq := hide hGq
            clear hSq hCq hGq hXq hRq
            go_wp2_with fail
            refine bodyPost_ret (v := .agg #[.slice a8 cs.length c8, .slice (some ⟨gl, 0, none⟩) (lr.length + 1) c9]) (by simp [results, Try.results55, go_sem, z0, z1]) rfl ?_
            refine bent_end hbz (unhide HP) (unhide HSq) (by omega) (unhide HCq) (unhide HGq)
  · obtain ⟨l0, lr, rfl⟩ : ∃ l0 lr, ls = l0 :: lr := by
      have := unhide HLL
      cases ls with
      | nil => simp at this; omega
      | cons l0 lr => exact ⟨l0, lr, rfl⟩
    have hll : lr.length ≤ 3 := by
      have h9 : lr.length + 1 = cs.length := by simpa using unhide HLL
      omega
    have hil : l0.items.length ≤ 11 := by have := unhide HIL l0 (by simp); omega
    obtain ⟨gl, rowsC, blsC, rowsL, blsL, v0, rows0, bls0, rfl, -, hF2⟩ := (unhide HT).fst
    have hzw := unhide HZW
    have hcap := hF2.cap
    by_cases h1c : c9 = 1
    · subst h1c
      obtain rfl : lr = [] := List.eq_nil_of_length_eq_zero (by omega)
      have hT2 : (Lay.sl Lay.tIvfList).LiesIn w2 [.slice (some ⟨gl, 0, none⟩) 0 0] [] w.heap.size w2.heap.size := ⟨[], ⟨some ⟨gl, 0, none⟩, 0, rfl, ⟨by simp, by simp⟩, Or.inl ⟨rfl, rfl⟩⟩, by simp⟩
      have hC2 : (Lay.sl Lay.tCenter).LiesIn w2 [.slice a8 cs.length c8] cs w.heap.size w2.heap.size := hF2.gC.toLies (by omega) hF2.sC
      have e4 : Ext (fun c => c = w2.heap.size) w3 (w3.setCell ⟨w2.heap.size, 1, none⟩ (.slice (some ⟨gl, 0, none⟩) 0 0)) := (Ext.refl (fun c => c = w2.heap.size) w3).setCell ⟨w2.heap.size, 1, none⟩ _ rfl
      have hL7 := (hT2.ext (unhide HE) (fun k h1 h2 e => by omega)).ext e4 (fun k h1 h2 e => by omega)
      have hC7 := (hC2.ext (unhide HE) (fun k h1 h2 e => by omega)).ext e4 (fun k h1 h2 e => by omega)
      have HP : Hid (Lay.tIvf.LiesIn (w3.setCell ⟨w2.heap.size, 1, none⟩ (.slice (some ⟨gl, 0, none⟩) 0 0)) [.slice a8 cs.length c8, .slice (some ⟨gl, 0, none⟩) 0 0] ⟨cs, []⟩ (z.heap.size + 1) (w3.setCell ⟨w2.heap.size, 1, none⟩ (.slice (some ⟨gl, 0, none⟩) 0 0)).heap.size) := ivf_lies (hC7.mono (by omega) (by have := e4.size; omega)) (hL7.mono (by omega) (by have := e4.size; omega))
      have hX3 : Box w2.heap.size #[.slice a8 cs.length c8, .slice (some ⟨gl, 0, none⟩) 1 1] 27 w3 w2.heap.size := unhide HX3
      have y0 : w3.cell? ⟨w2.heap.size, 1, none⟩ = some (.slice (some ⟨gl, 0, none⟩) 1 1) := hX3.at 1 _ rfl
      have g0 := hX3.soft 1
      have k0 := hX3.lt
      have hXq : Box w2.heap.size #[.slice a8 cs.length c8, .slice (some ⟨gl, 0, none⟩) 0 0] 27 (w3.setCell ⟨w2.heap.size, 1, none⟩ (.slice (some ⟨gl, 0, none⟩) 0 0)) w2.heap.size := hX3.set 1 _
      have hRq := (unhide HR3).ext e4 (by omega)
      have hSq := src_ext (unhide HS3) e4 (by omega)
      have hCq := code_ext (unhide HC3) e4 (by omega) (fun k hk e => by omega)
      have hGq := grown_ext (unhide HG3) e4 (fun k hk e => by omega)
      clear HX3 HR3 HS3 HC3 HG3 HT3 HT HE hzw hL7 hC7 hT2 hC2 hF2 e4 hX3
      have x0 : (w3.setCell ⟨w2.heap.size, 1, none⟩ (.slice (some ⟨gl, 0, none⟩) 0 0)).cell? ⟨w2.heap.size, 0, none⟩ = some (.slice a8 cs.length c8) := hXq.at 0 _ rfl
      have x1 : (w3.setCell ⟨w2.heap.size, 1, none⟩ (.slice (some ⟨gl, 0, none⟩) 0 0)).cell? ⟨w2.heap.size, 1, none⟩ = some (.slice (some ⟨gl, 0, none⟩) 0 0) := hXq.at 1 _ rfl
      have z0 : (w3.setCell ⟨w2.heap.size, 1, none⟩ (.slice (some ⟨gl, 0, none⟩) 0 0)).cell? ⟨z.heap.size, 0, none⟩ = some (.slice none 0 0) := hRq.at 0 _ rfl
      have z1 : (w3.setCell ⟨w2.heap.size, 1, none⟩ (.slice (some ⟨gl, 0, none⟩) 0 0)).cell? ⟨z.heap.size, 1, none⟩ = some (.slice none 0 0) := hRq.at 1 _ rfl
      have f0 := hRq.soft 0
      have f1 := hRq.soft 1
      have l0 := hRq.lt
      have HSq := hide hSq
      have HCq := hide hCq
      have HGq := hide hGq
      clear hSq hCq hGq hXq hRq
      go_wp2_with fail
      refine bodyPost_ret (v := .agg #[.slice a8 cs.length c8, .slice (some ⟨gl, 0, none⟩) 0 0]) (by simp [results, Try.results55, go_sem, z0, z1]) rfl ?_
      refine bent_end hbz (unhide HP) (unhide HSq) (by omega) (unhide HCq) (unhide HGq)
    · have h2c : c9 - 1 ≠ 0 := by omega
      have hT2 : (Lay.sl Lay.tIvfList).LiesIn w2 [.slice (some ⟨gl, 1, none⟩) lr.length (c9 - 1)] lr w.heap.size w2.heap.size := lists_tail hF2.gL (by omega) hF2.cap hF2.sL
      have hC2 : (Lay.sl Lay.tCenter).LiesIn w2 [.slice a8 cs.length c8] cs w.heap.size w2.heap.size := hF2.gC.toLies (by omega) hF2.sC
      have e4 : Ext (fun c => c = w2.heap.size) w3 (w3.setCell ⟨w2.heap.size, 1, none⟩ (.slice (some ⟨gl, 1, none⟩) lr.length (c9 - 1))) := (Ext.refl (fun c => c = w2.heap.size) w3).setCell ⟨w2.heap.size, 1, none⟩ _ rfl
      have hL7 := (hT2.ext (unhide HE) (fun k h1 h2 e => by omega)).ext e4 (fun k h1 h2 e => by omega)
      have hC7 := (hC2.ext (unhide HE) (fun k h1 h2 e => by omega)).ext e4 (fun k h1 h2 e => by omega)
      have HP : Hid (Lay.tIvf.LiesIn (w3.setCell ⟨w2.heap.size, 1, none⟩ (.slice (some ⟨gl, 1, none⟩) lr.length (c9 - 1))) [.slice a8 cs.length c8, .slice (some ⟨gl, 1, none⟩) lr.length (c9 - 1)] ⟨cs, lr⟩ (z.heap.size + 1) (w3.setCell ⟨w2.heap.size, 1, none⟩ (.slice (some ⟨gl, 1, none⟩) lr.length (c9 - 1))).heap.size) := ivf_lies (hC7.mono (by omega) (by have := e4.size; omega)) (hL7.mono (by omega) (by have := e4.size; omega))
      have hX3 : Box w2.heap.size #[.slice a8 cs.length c8, .slice (some ⟨gl, 0, none⟩) (lr.length + 1) c9] 27 w3 w2.heap.size := unhide HX3
      have y0 : w3.cell? ⟨w2.heap.size, 1, none⟩ = some (.slice (some ⟨gl, 0, none⟩) (lr.length + 1) c9) := hX3.at 1 _ rfl
      have g0 := hX3.soft 1
      have k0 := hX3.lt
      have hXq : Box w2.heap.size #[.slice a8 cs.length c8, .slice (some ⟨gl, 1, none⟩) lr.length (c9 - 1)] 27 (w3.setCell ⟨w2.heap.size, 1, none⟩ (.slice (some ⟨gl, 1, none⟩) lr.length (c9 - 1))) w2.heap.size := hX3.set 1 _
      have hRq := (unhide HR3).ext e4 (by omega)
      have hSq := src_ext (unhide HS3) e4 (by omega)
      have hCq := code_ext (unhide HC3) e4 (by omega) (fun k hk e => by omega)
      have hGq := grown_ext (unhide HG3) e4 (fun k hk e => by omega)
      clear HX3 HR3 HS3 HC3 HG3 HT3 HT HE hzw hL7 hC7 hT2 hC2 hF2 e4 hX3
      have x0 : (w3.setCell ⟨w2.heap.size, 1, none⟩ (.slice (some ⟨gl, 1, none⟩) lr.length (c9 - 1))).cell? ⟨w2.heap.size, 0, none⟩ = some (.slice a8 cs.length c8) := hXq.at 0 _ rfl
      have x1 : (w3.setCell ⟨w2.heap.size, 1, none⟩ (.slice (some ⟨gl, 1, none⟩) lr.length (c9 - 1))).cell? ⟨w2.heap.size, 1, none⟩ = some (.slice (some ⟨gl, 1, none⟩) lr.length (c9 - 1)) := hXq.at 1 _ rfl
      have z0 : (w3.setCell ⟨w2.heap.size, 1, none⟩ (.slice (some ⟨gl, 1, none⟩) lr.length (c9 - 1))).cell? ⟨z.heap.size, 0, none⟩ = some (.slice none 0 0) := hRq.at 0 _ rfl
      have z1 : (w3.setCell ⟨w2.heap.size, 1, none⟩ (.slice (some ⟨gl, 1, none⟩) lr.length (c9 - 1))).cell? ⟨z.heap.size, 1, none⟩ = some (.slice none 0 0) := hRq.at 1 _ rfl
      have f0 := hRq.soft 0
      have f1 := hRq.soft 1
      have l0 := hRq.lt
      have HSq := hide hSq
      have HCq := hide hCq
      have HGq := hide hGq
      clear hSq hCq hGq hXq hRq
      go_wp2_with fail
      refine bodyPost_ret (v := .agg #[.slice a8 cs.length c8, .slice (some ⟨gl, 1, none⟩) lr.length (c9 - 1)]) (by simp [results, Try.results55, go_sem, z0, z1]) rfl ?_
      refine bent_end hbz (unhide HP) (unhide HSq) (by omega) (unhide HCq) (unhide HGq)
  · have d0 : ((q : Int) == 0) = false := by rw [beq_eq_false_iff_ne]; omega
    have d1 : ((q : Int) == 1) = false := by rw [beq_eq_false_iff_ne]; omega
    have d2 : ((q : Int) == 2) = false := by rw [beq_eq_false_iff_ne]; omega
    have hzw := unhide HZW
    have hXq := unhide HX3
    have hRq := unhide HR3
    have hSq := unhide HS3
    have hCq := unhide HC3
    have hGq := unhide HG3
    have HP : Hid (Lay.tIvf.LiesIn w3 [.slice a8 cs.length c8, .slice a9 ls.length c9] ⟨cs, ls⟩ (z.heap.size + 1) w3.heap.size) := ((unhide HT3).two.lies (by omega) (by have := unhide HLL; omega)).mono (by omega) (Nat.le_refl _)
    clear HX3 HR3 HS3 HC3 HG3 HT3 HT HE hzw
    have x0 : (w3).cell? ⟨w2.heap.size, 0, none⟩ = some (.slice a8 cs.length c8) := hXq.at 0 _ rfl
    have x1 : (w3).cell? ⟨w2.heap.size, 1, none⟩ = some (.slice a9 ls.length c9) := hXq.at 1 _ rfl
    have z0 : (w3).cell? ⟨z.heap.size, 0, none⟩ = some (.slice none 0 0) := hRq.at 0 _ rfl
    have z1 : (w3).cell? ⟨z.heap.size, 1, none⟩ = some (.slice none 0 0) := hRq.at 1 _ rfl
    have f0 := hRq.soft 0
    have f1 := hRq.soft 1
    have l0 := hRq.lt
    have HSq := hide hSq
    have HCq := hide hCq
    have HGq := hide hGq
    clear hSq hCq hGq hXq hRq
    go_wp2_with fail
    refine bodyPost_ret (v := .agg #[.slice a8 cs.length c8, .slice a9 ls.length c9]) (by simp [results, Try.results55, go_sem, z0, z1]) rfl ?_
    refine bent_end hbz (unhide HP) (unhide HSq) (by omega) (unhide HCq) (unhide HGq)

end Go.Proofs.Ytggnnbdjihihiaa

namespace Go.Proofs.Ytggnnbdjihihiaa
open Go.RowKit

theorem code_upP {b b' : Nat} {w : World} {cv : Value} (h : IsCode b w cv) (hb : b ≤ b') : IsCode b' w cv := by
  obtain ⟨ao, len, cap, e, hl, hc⟩ := h
  refine ⟨ao, len, cap, e, hl, fun hp => ?_⟩
  obtain ⟨d, off, e2, hd, r⟩ := hc hp
  exact ⟨d, off, e2, by omega, r⟩

set_option maxRecDepth 10000 in
set_option maxHeartbeats 2000000 in
theorem draw_DrawProbesOf (ao : Option Addr) (len cap : Nat) (w : World) (hc : IsCode w.heap.size w (.slice ao len cap)) :
    Calls Try.prog 10 #[.slice ao len cap] w fun e w' => ∃ (rc rl : Value) (x : DIvf) (vv : Value) (vec : List Int) (n : Int), e = .returned (.tuple #[.agg #[rc, rl], vv, .int .i64 n]) ∧ Lay.tIvf.Reads w' [rc, rl] x ∧ (Lay.sl Lay.int).Reads w' [vv] vec ∧ vec.length ≤ 4 ∧ (-1 ≤ n ∧ n ≤ 7) ∧ Below w.heap.size w w' := by
  have nz : Below w.heap.size w (w.alloc (.cells #[.slice none 0 0, .slice none 0 0] 27)) := (Below.refl _ _).alloc (Nat.le_refl _) _
  have bR : Box w.heap.size #[.slice none 0 0, .slice none 0 0] 27 (w.alloc (.cells #[.slice none 0 0, .slice none 0 0] 27)) w.heap.size := newBox (Nat.le_refl _)
  have hwz : (w.alloc (.cells #[.slice none 0 0, .slice none 0 0] 27)).heap.size = w.heap.size + 1 := by simp
  have c0 := hc.on (Nat.le_refl _) nz
  have L0 := hide (source ao len cap (w.alloc (.cells #[.slice none 0 0, .slice none 0 0] 27)))
  have HNZ := hide nz
  have HBR := hide bR
  have HC0 := hide c0
  have HWZ := hide hwz
  clear nz bR c0 hc hwz
  go_enter Try.func10, Try.ntmps10
  go_wp2_with fail
  generalize hwd : w.alloc (.cells #[.slice none 0 0, .slice none 0 0] 27) = z at *
  clear hwd
  refine (unhide L0).mono ?_
  rintro e w1 ⟨rfl, rfl⟩
  have hzw := unhide HWZ
  have s1 := src_new z (.slice ao len cap)
  have nb1 : Below z.heap.size z (z.alloc (.cells #[.slice ao len cap, .int .i64 0] 144)) := (Below.refl _ _).alloc (Nat.le_refl _) _
  have c1 : IsCode z.heap.size (z.alloc (.cells #[.slice ao len cap, .int .i64 0] 144)) (.slice ao len cap) := (code_upP (unhide HC0) (by omega)).on (Nat.le_refl _) nb1
  have hR1 := (unhide HBR).keep nb1
  have hB1 : Below w.heap.size w (z.alloc (.cells #[.slice ao len cap, .int .i64 0] 144)) := (unhide HNZ).trans (nb1.mono (by omega))
  generalize z.alloc (.cells #[.slice ao len cap, .int .i64 0] 144) = w1 at *
  have hlt := s1.lt
  have HL := hide (drawB7 z.heap.size 0 _ w1 s1 c1 (by omega))
  have HR := hide hR1
  have HB := hide hB1
  have hzw1 : z.heap.size ≤ w.heap.size + 1 := by omega
  have hzw2 : w.heap.size + 1 ≤ z.heap.size := by omega
  clear s1 c1 nb1 hR1 hB1 L0 HNZ HBR HC0 HWZ hzw
  go_wp2_with fail
  refine (unhide HL).mono ?_
  rintro e w2 ⟨rc, rl, x, m', rfl, hX, s2, hm', c2, g2⟩
  have hXf := hX
  obtain ⟨blf, hXf, -⟩ := hXf
  obtain ⟨a8, c8, -, a9, c9, -, ef, -⟩ := lies_Ivf.1 hXf
  obtain ⟨rfl, rfl⟩ : rc = .slice a8 x.centers.length c8 ∧ rl = .slice a9 x.lists.length c9 := by simpa using ef
  clear hXf ef
  replace HR := hide ((unhide HR).grownB g2 (by omega))
  replace HB := hide ((unhide HB).grown g2 (by omega) (fun k hk => by simp at hk; omega))
  have hz2 := g2.size
  have HX := hide hX
  clear hX g2 HL
  have L3 := hide (bent z.heap.size m' _ w2 s2 c2 (by omega))
  clear s2 c2
  go_wp2_with fail
  refine (unhide L3).mono ?_
  rintro e w3 ⟨v3, zs, m3, rfl, hzs, hNI, hm3, s3, c3, g3⟩
  replace HX := hide ((unhide HX).ext (ext_grown g3) (fun k h1 h2 e => by omega))
  replace HR := hide ((unhide HR).grownB g3 (by omega))
  replace HB := hide ((unhide HB).grown g3 (unhide HB).size (fun k hk => by simp at hk; omega))
  have hz3 := g3.size
  obtain ⟨bz, hlz, hbz5⟩ := hNI.lies (by omega)
  obtain ⟨a3, d3, rfl⟩ := open_sl ⟨bz, hlz⟩
  have HV : Hid ((Lay.sl Lay.int).LiesIn w3 [.slice a3 zs.length d3] zs (z.heap.size + 1) w3.heap.size) := ⟨bz, hlz, fun c hc => ⟨by have := hbz5 c hc; omega, Lay.lt _ hlz c hc⟩⟩
  clear hNI hlz hbz5
  clear g3 L3
  have L4 := hide (next z.heap.size m3 _ 7 w3 s3 c3 (by omega) (by omega) (by omega))
  clear s3 c3
  go_wp2_with fail
  refine (unhide L4).mono ?_
  rintro e w4 ⟨q, rfl, hq, s4, c4, g4⟩
  replace HX := hide ((unhide HX).ext (ext_grown g4) (fun k h1 h2 e => by omega))
  replace HR := hide ((unhide HR).grownB g4 (by omega))
  replace HB := hide ((unhide HB).grown g4 (unhide HB).size (fun k hk => by simp at hk; omega))
  have hz4 := g4.size
  replace HV := hide ((unhide HV).ext (ext_grown g4) (fun k h1 h2 e => by omega))
  clear g4 L4
  have nb5 : Below w4.heap.size w4 (w4.alloc (.cells #[.int .i64 1, .int .i64 2, .int .i64 (q : Int), .int .i64 6, .int .i64 7, .int .i64 (-1)] 2)) := (Below.refl _ _).alloc (Nat.le_refl _) _
  have hg5 := heap_alloc_new w4 (.cells #[.int .i64 1, .int .i64 2, .int .i64 (q : Int), .int .i64 6, .int .i64 7, .int .i64 (-1)] 2)
  replace HX := hide ((unhide HX).later nb5)
  replace HV := hide ((unhide HV).later nb5)
  replace HR := hide ((unhide HR).keep nb5)
  replace HB := hide ((unhide HB).trans (nb5.mono (unhide HB).size))
  have L6 := hide (pick z.heap.size (m3 + 1) w4.heap.size _ [1, 2, (q : Int), 6, 7, -1] _ (s4.on nb5) (c4.on (by omega) nb5) (by omega) (by simp) (by simp) hg5 (by omega))
  have hz5 := nb5.size
  clear s4 c4 nb5 hg5
  go_wp2_with fail
  refine (unhide L6).mono ?_
  generalize w4.alloc (.cells #[.int .i64 1, .int .i64 2, .int .i64 (q : Int), .int .i64 6, .int .i64 7, .int .i64 (-1)] 2) = W5 at *
  rintro e w6 ⟨p, rfl, hp, s6, c6, g6⟩
  have hpb : -1 ≤ p ∧ p ≤ 7 := by
    simp only [List.mem_cons, List.not_mem_nil, or_false] at hp
    omega
  replace HX := hide ((unhide HX).ext (ext_grown g6) (fun k h1 h2 e => by omega))
  replace HV := hide ((unhide HV).ext (ext_grown g6) (fun k h1 h2 e => by omega))
  replace HR := hide ((unhide HR).grownB g6 (by omega))
  replace HB := hide ((unhide HB).grown g6 (unhide HB).size (fun k hk => by simp at hk; omega))
  have hz6 := g6.size
  clear g6 L6 hp s6 c6
  have hRq := unhide HR
  have z0 : w6.cell? ⟨w.heap.size, 0, none⟩ = some (.slice none 0 0) := hRq.at 0 _ rfl
  have z1 : w6.cell? ⟨w.heap.size, 1, none⟩ = some (.slice none 0 0) := hRq.at 1 _ rfl
  have f0 := hRq.soft 0
  have f1 := hRq.soft 1
  have l0 := hRq.lt
  have HE9 : Hid (Ext (fun c => c = w.heap.size) w6 ((w6.setCell ⟨w.heap.size, 0, none⟩ (.slice a8 x.centers.length c8)).setCell ⟨w.heap.size, 1, none⟩ (.slice a9 x.lists.length c9))) := ((Ext.refl (fun c => c = w.heap.size) _).setCell ⟨w.heap.size, 0, none⟩ _ rfl).setCell ⟨w.heap.size, 1, none⟩ _ rfl
  clear hRq
  go_wp2_with fail
  refine bodyPost_ret (v := .tuple #[.agg #[.slice a8 x.centers.length c8, .slice a9 x.lists.length c9], .slice a3 zs.length d3, .int .i64 p]) (by simp [results, Try.results10, go_sem, z0, z1]) rfl ?_
  have hE := unhide HE9
  have hX9 := ((unhide HX).ext hE (fun k h1 h2 e => by omega)).reads
  have hV9 := ((unhide HV).ext hE (fun k h1 h2 e => by omega)).reads
  have hB9 : Below w.heap.size w _ := (unhide HB).trans (hE.below (unhide HB).size (fun k hk e => by omega))
  exact ⟨_, _, x, _, zs, p, rfl, hX9, hV9, hzs, hpb, hB9⟩

end Go.Proofs.Ytggnnbdjihihiaa

namespace Go.Proofs.Ytggnnbdjihihiaa
open Go.RowKit

/-- The cells of hits. -/
def cells2 : List (Int × Int) → List Value
  | [] => []
  | h :: r => .int .i64 h.1 :: .int .i64 h.2 :: cells2 r
theorem cells2_len (hs : List (Int × Int)) : (cells2 hs).length = hs.length * 2 := by
  induction hs with
  | nil => rfl
  | cons h r ih => simp [cells2, ih]; omega
theorem cells2_app (a b : List (Int × Int)) : cells2 (a ++ b) = cells2 a ++ cells2 b := by
  induction a with
  | nil => rfl
  | cons h r ih => simp [cells2, ih]
theorem cells2_take (hs : List (Int × Int)) (k : Nat) : (cells2 hs).take (k * 2) = cells2 (hs.take k) := by
  induction hs generalizing k with
  | nil => simp [cells2]
  | cons h r ih =>
    cases k with
    | zero => simp [cells2]
    | succ k => simp [cells2, ih, Nat.add_mul]
theorem cells2_at (hs : List (Int × Int)) (j : Nat) (x y : Int) (h : hs[j]? = some (x, y)) : (cells2 hs)[j * 2]? = some (.int .i64 x) ∧ (cells2 hs)[j * 2 + 1]? = some (.int .i64 y) := by
  induction hs generalizing j with
  | nil => simp at h
  | cons p r ih =>
    cases j with
    | zero =>
      simp at h
      subst h
      simp [cells2]
    | succ j =>
      have := ih j (by simpa using h)
      simpa [cells2, Nat.add_mul] using this
theorem cells2_one (hs : List (Int × Int)) : ∀ u ∈ cells2 hs, u.oneCell' = true := by
  induction hs with
  | nil => simp [cells2]
  | cons h r ih =>
    intro u hu
    simp [cells2] at hu
    rcases hu with rfl | rfl | hu
    · rfl
    · rfl
    · exact ih u hu
theorem cells2_get (hs : List (Int × Int)) (j : Nat) (u : Value) (h : (cells2 hs)[j]? = some u) : ∃ k x y, hs[k]? = some (x, y) ∧ ((j = k * 2 ∧ u = .int .i64 x) ∨ (j = k * 2 + 1 ∧ u = .int .i64 y)) := by
  induction hs generalizing j with
  | nil => simp [cells2] at h
  | cons p r ih =>
    match j with
    | 0 =>
      simp [cells2] at h
      exact ⟨0, p.1, p.2, by simp, Or.inl ⟨rfl, h.symm⟩⟩
    | 1 =>
      simp [cells2] at h
      exact ⟨0, p.1, p.2, by simp, Or.inr ⟨rfl, h.symm⟩⟩
    | j + 2 =>
      obtain ⟨k, x, y, h1, h2⟩ := ih j (by simpa [cells2] using h)
      refine ⟨k + 1, x, y, by simpa using h1, ?_⟩
      rcases h2 with ⟨h2, h3⟩ | ⟨h2, h3⟩
      · exact Or.inl ⟨by omega, h3⟩
      · exact Or.inr ⟨by omega, h3⟩

/-- Both numbers are int64. -/
def Wf2 (h : Int × Int) : Prop := (Lit.int .i64 h.1).wf = true ∧ (Lit.int .i64 h.2).wf = true
theorem Wf2.bd {x y : Int} (h : Wf2 (x, y)) : (-9223372036854775808 ≤ x ∧ x ≤ 9223372036854775807) ∧ (-9223372036854775808 ≤ y ∧ y ≤ 9223372036854775807) := by
  simpa [Wf2, Lit.wf, IntKind.min, IntKind.max, IntKind.signed, IntKind.bits] using h

/-- The slice v holds the hits hs. -/
def IsHits (w : World) (v : Value) (hs : List (Int × Int)) : Prop :=
  ∃ ao cap, v = .slice ao hs.length cap ∧ hs.length ≤ cap ∧ (cap ≤ maxLen ∧ (ao = none → cap = 0)) ∧ (∀ h ∈ hs, Wf2 h) ∧
    (0 < hs.length → ∃ b off, ao = some ⟨b, off, none⟩ ∧ ∀ j x y, hs[j]? = some (x, y) → w.cell? ⟨b, off + j * 2, none⟩ = some (.int .i64 x) ∧ w.cell? ⟨b, off + j * 2 + 1, none⟩ = some (.int .i64 y))

theorem IsHits.wf {w : World} {v : Value} {hs : List (Int × Int)} (h : IsHits w v hs) : ∀ p ∈ hs, Wf2 p := by
  obtain ⟨_, _, _, _, _, hwf, _⟩ := h
  exact hwf
theorem IsHits.later {w w' : World} {v : Value} {hs : List (Int × Int)} (h : IsHits w v hs) (hb : Below w.heap.size w w') : IsHits w' v hs := by
  obtain ⟨ao, cap, rfl, h1, h2, hwf, hc⟩ := h
  refine ⟨ao, cap, rfl, h1, h2, hwf, fun hp => ?_⟩
  obtain ⟨b, off, hao, hc1⟩ := hc hp
  exact ⟨b, off, hao, fun j x y hj => ⟨cell_keep hb (hc1 j x y hj).1, cell_keep hb (hc1 j x y hj).2⟩⟩

/-- Whatever owns a row of hits holds them. -/
theorem isHits_row {w : World} {base T : Nat} {v : Value} {hs : List (Int × Int)} (hwf : ∀ p ∈ hs, Wf2 p)
    (h : w.ownsRow base T 2 v hs.length (cells2 hs)) : IsHits w v hs := by
  rcases h.2 with ⟨rfl, h0⟩ | ⟨g, cap, cur, rfl, _, _, h1, h2, _⟩
  · have : hs = [] := List.eq_nil_of_length_eq_zero h0
    subst this
    exact ⟨none, 0, rfl, by simp, ⟨Nat.zero_le _, fun _ => rfl⟩, by simp, by simp⟩
  · refine ⟨_, _, rfl, h1, ⟨h2, by simp⟩, hwf, fun hp => ⟨g, 0, rfl, fun j x y hj => ?_⟩⟩
    have hj2 : j < hs.length := by
      rcases Nat.lt_or_ge j hs.length with h | h
      · exact h
      · rw [List.getElem?_eq_none h] at hj; cases hj
    have := cells2_at hs j x y hj
    rw [Nat.zero_add, h.cellAt (j * 2) (by omega), h.cellAt (j * 2 + 1) (by omega)]
    exact this

theorem IsHits.take {w : World} {ao : Option Addr} {n cap : Nat} {hs : List (Int × Int)} (h : IsHits w (.slice ao n cap) hs) (k : Nat) (hk : k ≤ n) : IsHits w (.slice ao k cap) (hs.take k) := by
  obtain ⟨ao', cap', he, h1, h2, hwf, hc⟩ := h
  simp only [Value.slice.injEq] at he
  obtain ⟨rfl, rfl, rfl⟩ := he
  have hl : (hs.take k).length = k := by simp; omega
  refine ⟨ao, cap, by rw [hl], by omega, h2, fun p hp => hwf p (List.mem_of_mem_take hp), fun hp => ?_⟩
  obtain ⟨b, off, hao, hc1⟩ := hc (by omega)
  refine ⟨b, off, hao, fun j x y hj => hc1 j x y ?_⟩
  rw [List.getElem?_take] at hj
  split at hj
  · exact hj
  · cases hj
theorem IsHits.drop {w : World} {b off n cap : Nat} {hs : List (Int × Int)} (h : IsHits w (.slice (some ⟨b, off, none⟩) n cap) hs) (k : Nat) (hk : k ≤ n) (o2 : Nat) (ho : k < n → o2 = off + k * 2) : IsHits w (.slice (some ⟨b, o2, none⟩) (n - k) (cap - k)) (hs.drop k) := by
  obtain ⟨ao', cap', he, h1, h2, hwf, hc⟩ := h
  simp only [Value.slice.injEq] at he
  obtain ⟨rfl, rfl, rfl⟩ := he
  refine ⟨_, _, by rw [List.length_drop], by rw [List.length_drop]; omega, ⟨by omega, by simp⟩, fun p hp => hwf p (List.mem_of_mem_drop hp), fun hp => ?_⟩
  rw [List.length_drop] at hp
  obtain ⟨b', off', hao, hc1⟩ := hc (by omega)
  simp only [Option.some.injEq, Addr.mk.injEq, and_true] at hao
  obtain ⟨rfl, rfl⟩ := hao
  have ho2 := ho (by omega)
  subst ho2
  refine ⟨b, _, rfl, fun j x y hj => ?_⟩
  have := hc1 (k + j) x y (by simpa [List.getElem?_drop] using hj)
  rw [show off + k * 2 + j * 2 = off + (k + j) * 2 by omega]
  exact this

/-- The cells that append reads. -/
theorem IsHits.news {w : World} {b off n cap : Nat} {hs : List (Int × Int)} (h : IsHits w (.slice (some ⟨b, off, none⟩) n cap) hs) : ∀ j u, (cells2 hs)[j]? = some u → w.cell? ((⟨b, off, none⟩ : Addr).add j) = some u := by
  intro j u hj
  obtain ⟨k, x, y, h1, h2⟩ := cells2_get hs j u hj
  obtain ⟨ao', cap', he, h3, h4, hwf, hc⟩ := h
  simp only [Value.slice.injEq] at he
  obtain ⟨rfl, rfl, rfl⟩ := he
  have hk : k < hs.length := by
    rcases Nat.lt_or_ge k hs.length with h | h
    · exact h
    · rw [List.getElem?_eq_none h] at h1; cases h1
  obtain ⟨b', off', hao, hc1⟩ := hc (by omega)
  simp only [Option.some.injEq, Addr.mk.injEq, and_true] at hao
  obtain ⟨rfl, rfl⟩ := hao
  have hadd : (⟨b, off, none⟩ : Addr).add j = ⟨b, off + j, none⟩ := Addr.add_lit _ _ _
  rw [hadd]
  have := hc1 k x y h1
  rcases h2 with ⟨rfl, rfl⟩ | ⟨rfl, rfl⟩
  · exact this.1
  · exact this.2

end Go.Proofs.Ytggnnbdjihihiaa

namespace Go.Proofs.Ytggnnbdjihihiaa

/-- A hit is (id, score): the lower score is better, then the lower id. -/
def bet (a b : Int × Int) : Bool := decide (a.2 < b.2) || (decide (a.2 = b.2) && decide (a.1 < b.1))
theorem bet_iff (a b : Int × Int) : bet a b = true ↔ a.2 < b.2 ∨ (a.2 = b.2 ∧ a.1 < b.1) := by simp [bet]
theorem bet_irrefl (a : Int × Int) : bet a a = false := by simp [bet]
theorem bet_trans {a b c : Int × Int} (h : bet a b = true) (k : bet b c = true) : bet a c = true := by
  rw [bet_iff] at *
  omega
theorem bet_asymm {a b : Int × Int} (h : bet a b = true) : bet b a = false := by
  cases k : bet b a with
  | false => rfl
  | true =>
    have := bet_trans h k
    rw [bet_irrefl] at this
    cases this
theorem bet_total {a b : Int × Int} (h : bet a b = false) (hne : a ≠ b) : bet b a = true := by
  rw [bet_iff]
  have h1 : ¬ (a.2 < b.2 ∨ (a.2 = b.2 ∧ a.1 < b.1)) := by rw [← bet_iff, h]; simp
  have h2 : ¬ (a.1 = b.1 ∧ a.2 = b.2) := fun ⟨e1, e2⟩ => hne (Prod.ext e1 e2)
  omega

/-- The id and the score are in their ranges. -/
def oneB (h : Int × Int) : Bool := (decide (1 ≤ h.1) && decide (h.1 ≤ 999)) && (decide (0 ≤ h.2) && decide (h.2 ≤ 12000000))

/-- What is wrong with a list of hits behind p. -/
def faultFrom : Option (Int × Int) → List (Int × Int) → Int
  | _, [] => 0
  | p, h :: r => if oneB h then (if p.all (bet · h) then faultFrom (some h) r else 1) else 3
def hitsFault (hs : List (Int × Int)) : Int := if 20 < hs.length then 2 else faultFrom none hs
/-- The hit ahead of place k. -/
def ahead (hs : List (Int × Int)) (k : Nat) : Option (Int × Int) := if k = 0 then none else hs[k - 1]?

def Sorted (hs : List (Int × Int)) : Prop := hs.Pairwise (fun a b => bet a b = true)

theorem faultFrom_zero {p : Option (Int × Int)} {hs : List (Int × Int)} (h : faultFrom p hs = 0) : (∀ x ∈ hs, oneB x = true) ∧ Sorted hs ∧ ∀ q, p = some q → ∀ x ∈ hs, bet q x = true := by
  induction hs generalizing p with
  | nil => exact ⟨by simp, List.Pairwise.nil, by simp⟩
  | cons a r ih =>
    unfold faultFrom at h
    split at h
    · next h1 =>
      split at h
      · next h2 =>
        obtain ⟨i1, i2, i3⟩ := ih h
        refine ⟨fun x hx => ?_, List.Pairwise.cons (fun x hx => i3 a rfl x hx) i2, fun q hq x hx => ?_⟩
        · rcases List.mem_cons.1 hx with rfl | hx
          · exact h1
          · exact i1 x hx
        · subst hq
          simp at h2
          rcases List.mem_cons.1 hx with rfl | hx
          · exact h2
          · exact bet_trans h2 (i3 a rfl x hx)
      · simp at h
    · simp at h
theorem hitsFault_zero {hs : List (Int × Int)} (h : hitsFault hs = 0) : hs.length ≤ 20 ∧ (∀ x ∈ hs, oneB x = true) ∧ Sorted hs := by
  unfold hitsFault at h
  split at h
  · simp at h
  · next hl =>
    obtain ⟨h1, h2, _⟩ := faultFrom_zero h
    exact ⟨by omega, h1, h2⟩
theorem hitsFault_of {hs : List (Int × Int)} (hl : hs.length ≤ 20) (h1 : ∀ x ∈ hs, oneB x = true) (h2 : Sorted hs) : hitsFault hs = 0 := by
  have key : ∀ (hs : List (Int × Int)) (p : Option (Int × Int)), (∀ x ∈ hs, oneB x = true) → Sorted hs → (∀ q, p = some q → ∀ x ∈ hs, bet q x = true) → faultFrom p hs = 0 := by
    intro hs
    induction hs with
    | nil => intros; rfl
    | cons a r ih =>
      intro p h1 h2 h3
      unfold faultFrom
      rw [if_pos (h1 a (by simp)), if_pos]
      · exact ih (some a) (fun x hx => h1 x (by simp [hx])) h2.of_cons (fun q hq x hx => by cases hq; exact List.rel_of_pairwise_cons h2 hx)
      · cases p with
        | none => rfl
        | some q => simpa using h3 q rfl a (by simp)
  unfold hitsFault
  rw [if_neg (by omega)]
  exact key hs none h1 h2 (by simp)

/-- A hit put into a list. -/
def ins : List (Int × Int) → Int × Int → List (Int × Int)
  | [], h => [h]
  | x :: r, h => if bet x h then x :: ins r h else if x = h then x :: r else h :: x :: r
theorem ins_mem {hs : List (Int × Int)} {h x : Int × Int} : x ∈ ins hs h ↔ x = h ∨ x ∈ hs := by
  induction hs with
  | nil => simp [ins]
  | cons a r ih =>
    unfold ins
    split
    · simp [ih]
      constructor
      · rintro (h | h | h) <;> simp [h]
      · rintro (h | h | h) <;> simp [h]
    · split
      · next e => subst e; simp
      · simp
theorem ins_sorted {hs : List (Int × Int)} (hs1 : Sorted hs) (h : Int × Int) : Sorted (ins hs h) := by
  induction hs with
  | nil => exact List.pairwise_singleton _ _
  | cons a r ih =>
    unfold ins
    split
    · next h1 =>
      refine List.Pairwise.cons (fun x hx => ?_) (ih hs1.of_cons)
      rcases ins_mem.1 hx with rfl | hx
      · exact h1
      · exact List.rel_of_pairwise_cons hs1 hx
    · next h1 =>
      split
      · exact hs1
      · next h2 =>
        have h3 := bet_total (by simpa using h1) h2
        refine List.Pairwise.cons (fun x hx => ?_) hs1
        rcases List.mem_cons.1 hx with rfl | hx
        · exact h3
        · exact bet_trans h3 (List.rel_of_pairwise_cons hs1 hx)
theorem ins_len (hs : List (Int × Int)) (h : Int × Int) : (ins hs h).length ≤ hs.length + 1 := by
  induction hs with
  | nil => simp [ins]
  | cons a r ih =>
    unfold ins
    split
    · simp; omega
    · split <;> simp

/-- Two lists in order with the same members are the same. -/
theorem sorted_ext {a b : List (Int × Int)} (ha : Sorted a) (hb : Sorted b) (h : ∀ x, x ∈ a ↔ x ∈ b) : a = b := by
  induction a generalizing b with
  | nil =>
    cases b with
    | nil => rfl
    | cons y s => exact absurd ((h y).2 (by simp)) (by simp)
  | cons x r ih =>
    cases b with
    | nil => exact absurd ((h x).1 (by simp)) (by simp)
    | cons y s =>
      have hxy : x = y := by
        rcases List.mem_cons.1 ((h x).1 (by simp)) with e | hx
        · exact e
        · rcases List.mem_cons.1 ((h y).2 (by simp)) with e | hy
          · exact e.symm
          · have h1 := List.rel_of_pairwise_cons ha hy
            have h2 := List.rel_of_pairwise_cons hb hx
            rw [bet_asymm h1] at h2
            cases h2
      subst hxy
      congr 1
      refine ih ha.of_cons hb.of_cons (fun z => ?_)
      constructor
      · intro hz
        rcases List.mem_cons.1 ((h z).1 (by simp [hz])) with e | hz2
        · subst e
          have := List.rel_of_pairwise_cons ha hz
          rw [bet_irrefl] at this
          cases this
        · exact hz2
      · intro hz
        rcases List.mem_cons.1 ((h z).2 (by simp [hz])) with e | hz2
        · subst e
          have := List.rel_of_pairwise_cons hb hz
          rw [bet_irrefl] at this
          cases this
        · exact hz2

/-- All hits of a list, in order. -/
def allOf (hs : List (Int × Int)) : List (Int × Int) := hs.foldl ins []
theorem foldl_sorted {a : List (Int × Int)} (ha : Sorted a) (hs : List (Int × Int)) : Sorted (hs.foldl ins a) := by
  induction hs generalizing a with
  | nil => exact ha
  | cons h r ih => exact ih (ins_sorted ha h)
theorem foldl_mem {a hs : List (Int × Int)} {x : Int × Int} : x ∈ hs.foldl ins a ↔ x ∈ a ∨ x ∈ hs := by
  induction hs generalizing a with
  | nil => simp
  | cons h r ih =>
    simp only [List.foldl_cons, ih, ins_mem, List.mem_cons]
    constructor
    · rintro ((h | h) | h) <;> simp [h]
    · rintro (h | h | h) <;> simp [h]
theorem allOf_sorted (hs : List (Int × Int)) : Sorted (allOf hs) := foldl_sorted List.Pairwise.nil hs
theorem allOf_mem {hs : List (Int × Int)} {x : Int × Int} : x ∈ allOf hs ↔ x ∈ hs := by simp [allOf, foldl_mem]
theorem allOf_of_sorted {hs : List (Int × Int)} (h : Sorted hs) : allOf hs = hs := sorted_ext (allOf_sorted hs) h (fun _ => allOf_mem)
theorem ins_allOf (hs : List (Int × Int)) (h : Int × Int) : ins (allOf hs) h = allOf (hs ++ [h]) := by simp [allOf, List.foldl_append]

/-- Cut to k ahead or behind: the first k are the same. -/
theorem ins_take {hs : List (Int × Int)} (h : Int × Int) (k : Nat) : (ins (hs.take k) h).take k = (ins hs h).take k := by
  induction hs generalizing k with
  | nil => simp
  | cons a r ih =>
    cases k with
    | zero => simp
    | succ k =>
      simp only [List.take_succ_cons]
      unfold ins
      split
      · simp [ih]
      · split
        · simp [List.take_take]
        · cases k with
          | zero => simp
          | succ k => simp [List.take_take]; try omega

/-- The best k of a list, as they are reckoned one by one. -/
def best (k : Nat) (hs : List (Int × Int)) : List (Int × Int) := hs.foldl (fun out h => (ins out h).take k) []
theorem best_eq (k : Nat) (hs : List (Int × Int)) : best k hs = (allOf hs).take k := by
  have key : ∀ (hs a : List (Int × Int)), hs.foldl (fun out h => (ins out h).take k) (a.take k) = (hs.foldl ins a).take k := by
    intro hs
    induction hs with
    | nil => intro a; rfl
    | cons h r ih =>
      intro a
      simp only [List.foldl_cons]
      rw [ins_take, ih]
  have := key hs []
  simpa [best, allOf] using this
theorem best_sorted (k : Nat) (hs : List (Int × Int)) : Sorted (best k hs) := by
  rw [best_eq]
  exact (allOf_sorted hs).sublist (List.take_sublist _ _)
theorem best_mem {k : Nat} {hs : List (Int × Int)} {x : Int × Int} (h : x ∈ best k hs) : x ∈ hs := by
  rw [best_eq] at h
  exact allOf_mem.1 (List.mem_of_mem_take h)
theorem best_len (k : Nat) (hs : List (Int × Int)) : (best k hs).length ≤ k := by
  rw [best_eq]
  simp
  omega
theorem allOf_congr {a b : List (Int × Int)} (h : ∀ x, x ∈ a ↔ x ∈ b) : allOf a = allOf b := sorted_ext (allOf_sorted a) (allOf_sorted b) (fun x => by rw [allOf_mem, allOf_mem, h])
theorem best_congr (k : Nat) {a b : List (Int × Int)} (h : ∀ x, x ∈ a ↔ x ∈ b) : best k a = best k b := by rw [best_eq, best_eq, allOf_congr h]

end Go.Proofs.Ytggnnbdjihihiaa

namespace Go.Proofs.Ytggnnbdjihihiaa
open Go.RowKit

structure DHit where
  id : Int
  score : Int

def Lay.tHit : Lay DHit := Lay.via (Lay.pair Lay.int Lay.int) (fun x => (x.id, x.score)) (fun p => ⟨p.1, p.2⟩)

theorem lies_Hit {w : World} {cs : List Value} {x : DHit} {bl : List Nat} : Lay.tHit.lies w cs x bl ↔ cs = [.int .i64 x.id, .int .i64 x.score] ∧ bl = [] ∧ (Lit.int .i64 x.id).wf = true ∧ (Lit.int .i64 x.score).wf = true := by
  constructor
  · intro h
    obtain ⟨c0_, r0_, e0_, s0_, rfl, rfl, h0, h1⟩ := h
    obtain ⟨rfl, w0, rfl⟩ := h0
    obtain ⟨rfl, w1, rfl⟩ := h1
    exact ⟨by simp, by simp, w0, w1⟩
  · rintro ⟨rfl, hbl, w0, w1⟩
    rw [hbl]
    exact ⟨[.int .i64 x.id], [.int .i64 x.score], [], [], rfl, by simp, ⟨rfl, w0, rfl⟩, ⟨rfl, w1, rfl⟩⟩

end Go.Proofs.Ytggnnbdjihihiaa

namespace Go.Proofs.Ytggnnbdjihihiaa
open Go.RowKit

structure DHitsResult where
  code : Int
  hits : List DHit

def Lay.tHitsResult : Lay DHitsResult := Lay.via (Lay.pair Lay.int (Lay.sl Lay.tHit)) (fun x => (x.code, x.hits)) (fun p => ⟨p.1, p.2⟩)

theorem lies_HitsResult {w : World} {cs : List Value} {x : DHitsResult} {bl : List Nat} : Lay.tHitsResult.lies w cs x bl ↔ ∃ (a1 : Option Addr) (d1 : Nat) (b1 : List Nat), cs = [.int .i64 x.code, .slice a1 x.hits.length d1] ∧ bl = b1 ∧ (Lit.int .i64 x.code).wf = true ∧ (Lay.sl Lay.tHit).lies w [.slice a1 x.hits.length d1] x.hits b1 := by
  constructor
  · intro h
    obtain ⟨c0_, r0_, e0_, s0_, rfl, rfl, h0, h1⟩ := h
    obtain ⟨rfl, w0, rfl⟩ := h0
    have k1 := h1
    obtain ⟨a1, d1, rfl, -⟩ := k1
    exact ⟨a1, d1, s0_, by simp, by simp, w0, h1⟩
  · rintro ⟨a1, d1, b1, rfl, hbl, w0, l1⟩
    rw [hbl]
    exact ⟨[.int .i64 x.code], [.slice a1 x.hits.length d1], [], b1, rfl, by simp, ⟨rfl, w0, rfl⟩, l1⟩

theorem open_HitsResult {w : World} {cs : List Value} {x : DHitsResult} (h : Lay.tHitsResult.Reads w cs x) : ∃ (a1 : Option Addr) (d1 : Nat), cs = [.int .i64 x.code, .slice a1 x.hits.length d1] ∧ (Lay.sl Lay.tHit).Reads w [.slice a1 x.hits.length d1] x.hits := by
  obtain ⟨bl, h⟩ := h
  obtain ⟨a1, d1, b1, rfl, -, w0, l1⟩ := lies_HitsResult.1 h
  exact ⟨a1, d1, rfl, ⟨_, l1⟩⟩

end Go.Proofs.Ytggnnbdjihihiaa

namespace Go.Proofs.Ytggnnbdjihihiaa
open Go.RowKit

theorem vcnt_HitsResult (x : DHitsResult) : Lay.tHitsResult.vcnt x = (Lay.sl Lay.tHit).vcnt x.hits := by
  show 0 + ((Lay.sl Lay.tHit).vcnt x.hits) = (Lay.sl Lay.tHit).vcnt x.hits
  omega
theorem mkv_HitsResult (k : Int) (x : DHitsResult) : Lay.tHitsResult.mkv k x = ⟨x.code, (Lay.sl Lay.tHit).mkv (k) x.hits⟩ := by
  simp [Lay.tHitsResult, Lay.via, Lay.pair, Lay.int]
theorem own_HitsResult {w : World} {cs : List Value} {x : DHitsResult} {bl : List Nat} (h : Lay.tHitsResult.Own w cs x bl) : ∃ (a1 : Option Addr) (d1 : Nat) (g1 : List Nat), cs = [.int .i64 x.code, .slice a1 x.hits.length d1] ∧ bl = g1 ∧ (Lay.sl Lay.tHit).Own w [.slice a1 x.hits.length d1] x.hits g1 ∧ (Lit.int .i64 x.code).wf = true := by
  obtain ⟨hl, hn, hf⟩ := h
  obtain ⟨a1, d1, b1, rfl, hbl, w0, l1⟩ := lies_HitsResult.1 hl
  rw [hbl] at hn hf
  exact ⟨a1, d1, b1, rfl, hbl, ⟨l1, hn, hf⟩, w0⟩
theorem mkOwn_HitsResult {w : World} {x : DHitsResult} {c1 : List Value} {g1 : List Nat} (O1 : (Lay.sl Lay.tHit).Own w c1 x.hits g1) (v0 : (Lit.int .i64 x.code).wf = true) (hn : (g1).Nodup) : Lay.tHitsResult.Own w ([.int .i64 x.code] ++ c1) x (g1) := by
  refine ⟨⟨[.int .i64 x.code], c1, [], g1, rfl, by simp, ⟨rfl, v0, rfl⟩, O1.1⟩, hn, ?_⟩
  intro b hb o
  exact O1.2.2 b hb o

end Go.Proofs.Ytggnnbdjihihiaa

namespace Go.Proofs.Ytggnnbdjihihiaa
open Go.RowKit

theorem infoHit : (Try.prog.info? 41).map (fun i => (i.zero, i.size, i.bytes)) = some (some (.agg #[.int .i64 0, .int .i64 0]), 2, 16) := by kernel_rfl

theorem made2 (n : Nat) : (madeCells #[.int .i64 0, .int .i64 0] (n * 2)).toList = cells2 (List.replicate n (0, 0)) := by
  apply List.ext_getElem?
  intro j
  by_cases hj : j < n * 2
  · obtain ⟨u, hu⟩ : ∃ u, (cells2 (List.replicate n (0, 0)))[j]? = some u := ⟨_, List.getElem?_eq_getElem (by rw [cells2_len]; simpa using hj)⟩
    obtain ⟨k, x, y, h1, h2⟩ := cells2_get _ _ _ hu
    rw [hu]
    simp [List.getElem?_replicate] at h1
    obtain ⟨h3, rfl, rfl⟩ := h1
    have hm : j % 2 = 0 ∨ j % 2 = 1 := by omega
    rcases h2 with ⟨-, rfl⟩ | ⟨-, rfl⟩ <;> rcases hm with hm | hm <;> simp [madeCells, hj, hm]
  · have h1 : (cells2 (List.replicate n ((0 : Int), (0 : Int)))).length = n * 2 := by rw [cells2_len]; simp
    rw [List.getElem?_eq_none (l := cells2 _) (by rw [h1]; omega)]
    simp [madeCells, hj]

/-- Hits that are filled in, up to k. -/
theorem set_fill2 (hs : List (Int × Int)) (k : Nat) (x y : Int) (hk : hs[k]? = some (x, y)) :
    ((cells2 (hs.take k ++ List.replicate (hs.length - k) (0, 0))).set (k * 2) (.int .i64 x)).set (k * 2 + 1) (.int .i64 y) = cells2 (hs.take (k + 1) ++ List.replicate (hs.length - (k + 1)) (0, 0)) := by
  have hlt : k < hs.length := by
    rcases Nat.lt_or_ge k hs.length with h | h
    · exact h
    · rw [List.getElem?_eq_none h] at hk; cases hk
  have hl : (cells2 (hs.take k)).length = k * 2 := by rw [cells2_len]; simp; omega
  rw [cells2_app, List.set_append_right _ _ (by omega), List.set_append_right _ _ (by omega), hl, Nat.sub_self, show k * 2 + 1 - k * 2 = 1 by omega]
  obtain ⟨m, hm⟩ : ∃ m, hs.length - k = m + 1 := ⟨hs.length - k - 1, by omega⟩
  rw [hm, show hs.length - (k + 1) = m by omega, List.replicate_succ, List.take_succ_eq_append_getElem hlt, cells2_app, cells2_app]
  have he : hs[k] = (x, y) := by simpa [hlt] using hk
  rw [he]
  simp [cells2]

theorem below_keep2 {w W W' : World} (h : Below w.heap.size w W) (k : Below W.heap.size W W') : Below w.heap.size w W' := h.trans (k.mono h.size)

end Go.Proofs.Ytggnnbdjihihiaa

namespace Go.Proofs.Ytggnnbdjihihiaa
open Go.RowKit

theorem l1In (v lo hi : Int) (w : World) :
    Calls Try.prog 111 #[.int .i64 v, .int .i64 lo, .int .i64 hi] w fun e w' => e = .returned (.bool (decide (lo ≤ v) && decide (v ≤ hi))) ∧ w' = w := by
  by_cases h1 : lo ≤ v
  · by_cases h2 : v ≤ hi
    · have d1 : decide (lo ≤ v) = true := by simpa using h1
      have d2 : decide (v ≤ hi) = true := by simpa using h2
      rw [d1, d2]
      go_enter Try.func111, Try.ntmps111
      go_wp2_with fail
      go_ret
      exact ⟨rfl, rfl⟩
    · have d1 : decide (lo ≤ v) = true := by simpa using h1
      have d2 : decide (v ≤ hi) = false := by simpa using h2
      rw [d1, d2]
      go_enter Try.func111, Try.ntmps111
      go_wp2_with fail
      go_ret
      exact ⟨rfl, rfl⟩
  · have d1 : decide (lo ≤ v) = false := by simpa using h1
    rw [d1]
    go_enter Try.func111, Try.ntmps111
    go_wp2_with fail
    go_ret
    exact ⟨rfl, rfl⟩

set_option maxHeartbeats 400000 in
theorem l2Better (x y a b : Int) (w : World) :
    Calls Try.prog 154 #[.agg #[.int .i64 x, .int .i64 y], .agg #[.int .i64 a, .int .i64 b]] w fun e w' => e = .returned (.bool (bet (x, y) (a, b))) ∧ Below w.heap.size w w' := by
  have B : ∀ o o2, Below w.heap.size w ((w.alloc o).alloc o2) := fun o o2 => ((Below.refl _ _).alloc (Nat.le_refl _) o).alloc (by simp) o2
  by_cases h1 : y < b
  · have d1 : decide (y < b) = true := by simpa using h1
    have e : bet (x, y) (a, b) = true := by simp [bet, h1]
    rw [e]
    go_enter Try.func154, Try.ntmps154
    go_wp2_with fail
    go_ret
    exact ⟨rfl, B _ _⟩
  · have d1 : decide (y < b) = false := by simpa using h1
    by_cases h2 : y = b
    · subst h2
      have d2 : (y == y) = true := by simp
      have e : bet (x, y) (a, y) = decide (x < a) := by simp [bet]
      rw [e]
      cases d3 : decide (x < a) <;>
      · go_enter Try.func154, Try.ntmps154
        go_wp2_with fail
        go_ret
        exact ⟨rfl, B _ _⟩
    · have d2 : (y == b) = false := by simpa using h2
      have e : bet (x, y) (a, b) = false := by simp [bet, h1, h2]
      rw [e]
      go_enter Try.func154, Try.ntmps154
      go_wp2_with fail
      go_ret
      exact ⟨rfl, B _ _⟩

theorem l1Min (a b : Int) (w : World) :
    Calls Try.prog 155 #[.int .i64 a, .int .i64 b] w fun e w' => e = .returned (.int .i64 (min a b)) ∧ w' = w := by
  by_cases h : a < b
  · have e : min a b = a := by omega
    rw [e]
    go_enter Try.func155, Try.ntmps155
    go_wp2_with fail
    go_ret
    exact ⟨rfl, rfl⟩
  · have e : min a b = b := by omega
    rw [e]
    go_enter Try.func155, Try.ntmps155
    go_wp2_with fail
    go_ret
    exact ⟨rfl, rfl⟩

end Go.Proofs.Ytggnnbdjihihiaa

namespace Go.Proofs.Ytggnnbdjihihiaa
open Go.RowKit

theorem at_some {α : Type} {l : List α} {k : Nat} {x : α} (h : l[k]? = some x) : k < l.length := by
  rcases Nat.lt_or_ge k l.length with h2 | h2
  · exact h2
  · rw [List.getElem?_eq_none h2] at h; cases h

theorem drop_at {α : Type} {l : List α} {k : Nat} {x : α} (h : l[k]? = some x) : l.drop k = x :: l.drop (k + 1) := by
  have hk := at_some h
  rw [List.drop_eq_getElem_cons hk]
  congr 1
  simpa [hk] using h

theorem faultFrom_step (hs : List (Int × Int)) (k : Nat) (x y : Int) (h : hs[k]? = some (x, y)) :
    faultFrom (ahead hs k) (hs.drop k) = if oneB (x, y) then (if (ahead hs k).all (bet · (x, y)) then faultFrom (ahead hs (k + 1)) (hs.drop (k + 1)) else 1) else 3 := by
  rw [drop_at h]
  have : ahead hs (k + 1) = some (x, y) := by simpa [ahead] using h
  rw [this]
  rfl

end Go.Proofs.Ytggnnbdjihihiaa

namespace Go.Proofs.Ytggnnbdjihihiaa
open Go.RowKit

theorem append_none {P : Program} (t ty e : TypeId) (i : TypeInfo) (ht : P.underlying t = some (.slice e)) (hi : P.info? e = some i) (bo : Option Addr) (n cap c : Nat) (hn : n ≤ cap) (w : World) :
    (Builtin.append_ #[t, t] ty #[.slice bo n cap, .slice none 0 c]).run P w = (Builtin.append_ #[t, t] ty #[.slice bo n cap, .slice (some ⟨0, 0, none⟩) 0 c]).run P w := by
  simp [Builtin.append_, run_underlying ht, sizeOf, typeInfo, hi, Builtin.lenOf, hn, Builtin.firstCells, loadCells, loadCellsFrom]

theorem run_append_hits {w : World} (base ty : Nat) (v : Value) (n : Nat) (hs : List (Int × Int)) (hown : w.ownsRow base 41 2 v n (cells2 hs)) (x : Value) (ks : List (Int × Int)) (hx : IsHits w x ks)
    (hn : n + ks.length ≤ 100000000) (hbase : base ≤ w.heap.size) :
    ∃ v' w', (Builtin.append_ #[35, 35] ty #[v, x]).run Try.prog w = .ok v' w' ∧ w'.ownsRow base 41 2 v' (n + ks.length) (cells2 (hs ++ ks)) ∧ w.grownBy w' v.ownBlock ∧
      (v'.ownBlock = v.ownBlock ∨ v'.ownBlock = some w.heap.size) := by
  obtain ⟨i0, hi, hz0, hz1, hz2⟩ := info_parts infoHit
  have hml : n + ks.length ≤ maxLen := by unfold maxLen; omega
  rw [cells2_app]
  by_cases hp : 0 < ks.length
  · have hx' := hx
    obtain ⟨ao, cap, rfl, h1, h2, hwf, hc⟩ := hx'
    obtain ⟨b, off, rfl, hc1⟩ := hc hp
    obtain ⟨v', w', r1, r2, r3, -, r5⟩ := run_append_own_at (P := Try.prog) w base 35 ty 41 i0 _ 2 16 Try.underlying35 hi hz0 hz1 hz2 rfl (by omega) v n (cells2 hs) hown ⟨b, off, none⟩ ks.length cap (cells2 ks) (cells2_len ks) hx.news (cells2_one ks) hml (by omega) hbase
    exact ⟨v', w', r1, r2, r3, r5⟩
  · obtain rfl : ks = [] := List.eq_nil_of_length_eq_zero (by omega)
    obtain ⟨ao, cap, rfl, h1, h2, hwf, hc⟩ := hx
    cases ao with
    | none =>
      obtain ⟨v', w', r1, r2, r3, -, r5⟩ := run_append_own_at (P := Try.prog) w base 35 ty 41 i0 _ 2 16 Try.underlying35 hi hz0 hz1 hz2 rfl (by omega) v n (cells2 hs) hown ⟨0, 0, none⟩ 0 cap [] rfl (by simp) (by simp) hml (by simp at hn; omega) hbase
      refine ⟨v', w', ?_, r2, r3, r5⟩
      rcases hown.2 with ⟨rfl, h0⟩ | ⟨g, cp, cur, rfl, _, _, hle, _⟩
      · exact (append_none _ _ _ i0 Try.underlying35 hi none 0 0 cap (Nat.le_refl _) w).trans r1
      · exact (append_none _ _ _ i0 Try.underlying35 hi _ n cp cap hle w).trans r1
    | some ad =>
      obtain ⟨v', w', r1, r2, r3, -, r5⟩ := run_append_own_at (P := Try.prog) w base 35 ty 41 i0 _ 2 16 Try.underlying35 hi hz0 hz1 hz2 rfl (by omega) v n (cells2 hs) hown ad 0 cap [] rfl (by simp) (by simp) hml (by simp at hn; omega) hbase
      exact ⟨v', w', r1, r2, r3, r5⟩

/-- The same at an operation of a plain region. -/
theorem wpList_append_hits {w : World} {ops : Array Oper} {rest : List Oper} {o : Oper} {a : Act} {Q : Exit → Act → World → Prop} (hgd : o.guard = none) (s x : Operand)
    (ho : o.op = .call { callee := .builtin .append, args := #[s, x], argTypes := #[35, 35] })
    (base : Nat) (v : Value) (n : Nat) (hs : List (Int × Int)) (hv : a.eval s = v) (hown : w.ownsRow base 41 2 v n (cells2 hs)) (X : Value) (ks : List (Int × Int)) (hX : a.eval x = X) (hx : IsHits w X ks)
    (hn : n + ks.length ≤ 100000000) (hbase : base ≤ w.heap.size)
    (h : ∀ v' w', w'.ownsRow base 41 2 v' (n + ks.length) (cells2 (hs ++ ks)) → w.grownBy w' v.ownBlock → (v'.ownBlock = v.ownBlock ∨ v'.ownBlock = some w.heap.size) → wpList Try.prog ops Q rest (a.put o.dst v') w') :
    wpList Try.prog ops Q (o :: rest) a w := by
  refine wpList_plain hgd fun K hK => ?_
  obtain ⟨v', w', hr, h2, h3, h4⟩ := run_append_hits base o.type v n hs hown X ks hx hn hbase
  unfold Oper.wp execOp
  simp only [ho, resolve, invoke, builtin, Sem.run_bind, Sem.run_pure, Result.andThen_ok, List.map_toArray, List.map_cons, List.map_nil, hv, hX, hr]
  exact hK _ _ (h v' w' h2 h3 h4)

/-- .. onto a row that has a block: the new slice written out. -/
theorem wpList_append_row {w : World} {ops : Array Oper} {rest : List Oper} {o : Oper} {a : Act} {Q : Exit → Act → World → Prop} (hgd : o.guard = none) (s x : Operand)
    (ho : o.op = .call { callee := .builtin .append, args := #[s, x], argTypes := #[35, 35] })
    (base g n cp : Nat) (hs : List (Int × Int)) (hv : a.eval s = .slice (some ⟨g, 0, none⟩) n cp) (hown : w.ownsRow base 41 2 (.slice (some ⟨g, 0, none⟩) n cp) n (cells2 hs)) (X : Value) (ks : List (Int × Int)) (hX : a.eval x = X) (hx : IsHits w X ks)
    (m : Nat) (hm : n + ks.length = m) (hn : m ≤ 100000000) (hbase : base ≤ w.heap.size)
    (h : ∀ g' cp' w', w'.ownsRow base 41 2 (.slice (some ⟨g', 0, none⟩) m cp') m (cells2 (hs ++ ks)) → w.grownBy w' (some g) → (g' = g ∨ g' = w.heap.size) → wpList Try.prog ops Q rest (a.put o.dst (.slice (some ⟨g', 0, none⟩) m cp')) w') :
    wpList Try.prog ops Q (o :: rest) a w := by
  subst hm
  refine wpList_append_hits hgd s x ho base _ n hs hv hown X ks hX hx hn hbase fun v' w' h2 h3 h4 => ?_
  rcases h2.2 with ⟨rfl, h0⟩ | ⟨g', cap', cur, rfl, _⟩
  · rcases h4 with h4 | h4 <;> simp [Value.ownBlock] at h4
  · exact h g' cap' w' h2 h3 (by rcases h4 with h4 | h4 <;> simp [Value.ownBlock] at h4 <;> simp [h4])

/-- A row's first hits are a row. -/
theorem own_take {w : World} {base T g n cap : Nat} {hs : List (Int × Int)} (h : w.ownsRow base T 2 (.slice (some ⟨g, 0, none⟩) n cap) n (cells2 hs)) (k : Nat) (hk : k ≤ n) :
    w.ownsRow base T 2 (.slice (some ⟨g, 0, none⟩) k cap) k (cells2 (hs.take k)) := by
  have hl : (cells2 hs).length = n * 2 := h.1
  rcases h.2 with ⟨h', _⟩ | ⟨g', cap', cur, h', hb, hg, hnc, hcm, hcs, htake⟩
  · simp at h'
  · simp only [Value.slice.injEq, Option.some.injEq, Addr.mk.injEq, and_true, true_and] at h'
    obtain ⟨rfl, rfl⟩ := h'
    refine ⟨?_, .inr ⟨g, cap, cur, rfl, hb, hg, by omega, hcm, hcs, ?_⟩⟩
    · rw [cells2_len] at hl ⊢
      simp
      omega
    · rw [← cells2_take, ← htake, List.take_take]
      congr 1
      omega

end Go.Proofs.Ytggnnbdjihihiaa

namespace Go.Proofs.Ytggnnbdjihihiaa
open Go.RowKit

theorem eqIn2 (a b c d : Int) (w : World) : (Op.equalIn 10000 41 (.agg #[.int .i64 a, .int .i64 b]) (.agg #[.int .i64 c, .int .i64 d])).run Try.prog w = .ok (a == c && b == d) w := by
  have u3 := Try.underlying2
  have a3 := Try.isAgg2
  have z3 := Try.sizeOf2
  have hS : Try.prog.underlying 41 = some (.struct (Try.prog.fieldsOf 41)) := by kernel_rfl
  have hp : Try.prog.stoodInHeld 41 = false := by kernel_rfl
  rw [show (10000 : Nat) = 9999 + 1 from rfl, run_equalIn_agg w 9999 41 _ _ hS hp]
  simp only [Program.fieldsOf, Try.underlying41]
  go_simp
  by_cases h1 : a = c <;> by_cases h2 : b = d <;> simp [h1, h2]
theorem neq2 (a b c d : Int) (w : World) : (binOp .neq 41 (.agg #[.int .i64 a, .int .i64 b]) (.agg #[.int .i64 c, .int .i64 d])).run Try.prog w = .ok (.bool (!(a == c && b == d))) w := by
  simp only [binOp]
  simp only [Op.equal, Op.maxDepth]
  simp [eqIn2]
theorem eql2 (a b c d : Int) (w : World) : (binOp .eql 41 (.agg #[.int .i64 a, .int .i64 b]) (.agg #[.int .i64 c, .int .i64 d])).run Try.prog w = .ok (.bool (a == c && b == d)) w := by
  simp only [binOp]
  simp only [Op.equal, Op.maxDepth]
  simp [eqIn2]

end Go.Proofs.Ytggnnbdjihihiaa
