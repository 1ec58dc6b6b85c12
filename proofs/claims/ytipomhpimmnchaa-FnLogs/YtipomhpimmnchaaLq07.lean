/-
  Texts of this proof in one: DrawL8, RangeKit, DrawB8, DrawPA8, NextBig.
  Their conditions stand in their theorems.
-/
import Derived.Test.YtipomhpimmnchaaLq05
import Derived.Test.YtipomhpimmnchaaLq06
import Derived.Deep.RegionHeld3
import Derived.Test.YtipomhpimmnchaaLq01
import Derived.RangeFuncNested
import Derived.RangeFuncBound
import Derived.RangeFuncCalls
import Derived.RangeFuncLeaves
import Derived.Shelf.Abstract
import Derived.Shelf.RegionOpen
import Derived.WalkKit
import Derived.OwnWalkIn
import Derived.TacticsInMore
import Derived.LoopNIn
import Derived.LoopIn
import Derived.Deep.CutRange
import Derived.Test.YtipomhpimmnchaaLq02

namespace Go.Proofs.Ytipomhpimmnchaa
open Go.RowKit

theorem own_ext8 {S : Nat → Prop} {w w' : World} {base T sz : Nat} {v : Value} {n : Nat} {xs : List Value} (h : w.ownsRow base T sz v n xs) (e : Ext S w w') (hs : ∀ c, v.ownBlock = some c → ¬ S c) : w'.ownsRow base T sz v n xs := by
  refine ⟨h.1, ?_⟩
  rcases h.2 with h2 | ⟨g, cap, cur, hv, hg, hh, r⟩
  · exact Or.inl h2
  · exact Or.inr ⟨g, cap, cur, hv, hg, (e.block g (lt_of_block hh) (hs g (by rw [hv]; rfl))).trans hh, r⟩
/-- A log of the draw's own; the source has gone on. -/
def LogPost (b m : Nat) (cv : Value) (w : World) (e : Ending) (w' : World) : Prop :=
  ∃ (u v : Value) (xs ys : List Int) (m' : Nat), e = .returned (.agg #[u, v]) ∧ w'.ownsRow (w.heap.size + 1) 2 1 u xs.length (xs.map (Value.int .i64)) ∧ w'.ownsRow (w.heap.size + 1) 2 1 v ys.length (ys.map (Value.int .i64)) ∧ (∀ c, u.ownBlock = some c → v.ownBlock ≠ some c) ∧
    (∀ z ∈ xs, (Lit.int .i64 z).wf = true) ∧ (∀ z ∈ ys, (Lit.int .i64 z).wf = true) ∧ xs.length ≤ 100 ∧ ys.length ≤ 100 ∧ SrcAt w' b cv m' ∧ m' ≤ m + 2000 ∧ IsCode b w' cv ∧ w.grownBy w' (some b)
theorem closeL {b m m' : Nat} {cv : Value} {w w3 F : World} {u v : Value} {xs ys : List Int} (hE : Ext (fun q => q = b ∨ w.heap.size ≤ q) w w3) (hS : SrcAt w3 b cv m') (hC : IsCode b w3 cv) (hb : b < w.heap.size) (hm : m' ≤ m + 2000) (hF : Ext (fun q => q = w.heap.size) w3 F)
    (o4 : F.ownsRow (w.heap.size + 1) 2 1 u xs.length (xs.map (Value.int .i64))) (o5 : F.ownsRow (w.heap.size + 1) 2 1 v ys.length (ys.map (Value.int .i64))) (hd : ∀ c, u.ownBlock = some c → v.ownBlock ≠ some c)
    (w1 : ∀ z ∈ xs, (Lit.int .i64 z).wf = true) (w2 : ∀ z ∈ ys, (Lit.int .i64 z).wf = true) (l1 : xs.length ≤ 100) (l2 : ys.length ≤ 100) : LogPost b m cv w (.returned (.agg #[u, v])) F := by
  have hz := hE.size
  refine ⟨u, v, xs, ys, m', rfl, o4, o5, hd, w1, w2, l1, l2, hS.extW hF (fun e => by omega), hm, hC.extW (by omega) hF (fun k hk e => by omega), ?_⟩
  exact ⟨hF.os.trans hE.os, hF.tape.trans hE.tape, hF.output.trans hE.output, Nat.le_trans hE.size hF.size, fun i hi hn => (hF.block i (by omega) (fun e => by omega)).trans (hE.block i hi (fun e => by
      rcases e with e | e
      · exact hn (by rw [e])
      · omega))⟩

set_option maxRecDepth 100000 in
set_option maxHeartbeats 4000000 in
theorem drawRight8 (b m : Nat) (cv : Value) (w : World) (hs : SrcAt w b cv m) (hc : IsCode b w cv) (hm : m ≤ 100) :
    Calls Try.prog 94 #[.pointer (some ⟨b, 0, none⟩)] w (LogPost b m cv w) := by
  have hbw0 := hs.lt
  have nb : Below w.heap.size w (w.alloc (.cells #[.slice none 0 0, .slice none 0 0] 48)) := (Below.refl _ _).alloc (Nat.le_refl _) _
  have bR : Box 0 #[.slice none 0 0, .slice none 0 0] 48 (w.alloc (.cells #[.slice none 0 0, .slice none 0 0] 48)) w.heap.size := newBox (Nat.zero_le _)
  have L := hide (drawRightR b m 9 cv _ (hs.onW nb) (hc.onW (Nat.le_of_lt hbw0) nb) (by omega) (by omega) (by omega))
  have HE0 := hide (ext_of_below nb (fun q => q = b ∨ w.heap.size ≤ q))
  have HR0 := hide bR
  clear nb bR hs hc
  go_enter Try.func94, Try.ntmps94
  go_wp2_with fail
  generalize w.alloc (.cells #[.slice none 0 0, .slice none 0 0] 48) = W0 at *
  refine (unhide L).mono ?_
  rintro e w1 ⟨v1, rows, xs, bls, m1, rfl, hG, -, hlen, hq, s1, hm1, c1, g1⟩
  have hall : ∀ y ∈ xs, wF y = 0 := fun y hy => (hq y hy).1
  have hR1 := hG.toReads (by omega)
  obtain ⟨ao1, cp1, rfl⟩ := open_sl hR1
  have L2 := hide (pack8C _ xs w1 hR1 (by omega) hall)
  have HPL : Hid ((packs xs).length = 8 * xs.length) := packs_len xs hall
  have HE1 := hide ((unhide HE0).trans ((ext_grown g1).mono fun k _ h => Or.inl h))
  have HR1 := hide ((unhide HR0).ext (ext_grown g1) (by omega))
  have HS1 := hide s1
  have HC1 := hide c1
  have HPW := hide (packs_wf xs)
  clear L HE0 HR0 hG hq hall hR1 s1 c1 g1
  go_wp2_with fail
  refine (unhide L2).mono ?_
  rintro e w2 ⟨v2, rfl, O2, hb2⟩
  obtain ⟨ps, hps⟩ : ∃ ps, ps = packs xs := ⟨_, rfl⟩
  rw [← hps] at O2 HPL HPW
  obtain ⟨ao, cap, rfl⟩ := own_shape O2
  have hcap : ps.length ≤ cap := by
    rcases O2.2 with ⟨h1, h2⟩ | ⟨g, cp, cur, h1, -, -, h2, -⟩
    · omega
    · simp only [Value.slice.injEq] at h1; omega
  have hsome : cap ≠ 0 → ∃ g, ao = some ⟨g, 0, none⟩ := fun hc0 => by
    rcases O2.2 with ⟨h1, -⟩ | ⟨g, cp, cur, h1, -⟩
    · simp only [Value.slice.injEq] at h1; omega
    · simp only [Value.slice.injEq] at h1; exact ⟨g, h1.1⟩
  have hOI := Lay.ownInts (zs := ps) (unhide HPW) (by have := unhide HPL; omega) O2
  have hsx : SrcAt w2 b cv m1 := (unhide HS1).onW hb2
  have hcx : IsCode b w2 cv := (unhide HC1).onW (by have := (unhide HS1).lt; omega) hb2
  have L3 := hide (next b m1 cv (((xs.length : Nat) : Int) + 1) w2 hsx hcx (by omega) (by omega) (by omega))
  have HE2 := hide ((unhide HE1).trans (ext_of_below hb2 _))
  have HR2 := hide ((unhide HR1).keep hb2)
  have HLO : Hid (w.heap.size < w1.heap.size) := (unhide HR1).lt
  have HOI := hide hOI
  have hdiv : ((ps.length : Int)).tdiv 8 = (xs.length : Int) := by
    rw [unhide HPL, Int.tdiv_eq_ediv_of_nonneg (by omega)]
    omega
  have HB1 : Hid (b < w1.heap.size) := by show b < w1.heap.size; have := unhide HLO; omega
  clear O2 hOI hb2 HE1 HR1 HS1 HC1 hsx hcx L2 hps
  go_wp2_with fail
  refine (unhide L3).mono ?_
  rintro e w3 ⟨r, rfl, hr, s3, c3, g3⟩
  have HE3 := hide ((unhide HE2).trans ((ext_grown g3).mono fun k _ h => Or.inl h))
  have HR3 := hide ((unhide HR2).ext (ext_grown g3) (by omega))
  have HS3 := hide s3
  have HC3 := hide c3
  have HRX := hide ((unhide HOI).lies.ext (ext_grown g3) (fun q h1 h2 e => by have := unhide HB1; omega))
  have hr8 : 8 * r ≤ ps.length := by have := unhide HPL; omega
  have hpl9 : ps.length ≤ 72 := by have := unhide HPL; omega
  have HRD0 : Hid (∀ W, Ext (fun q => q = w.heap.size) w3 W → (Lay.sl Lay.int).Reads W [.slice ao ps.length cap] ps) := fun W hW => ((unhide HRX).ext hW (fun q h1 h2 e => by have := unhide HLO; omega)).reads
  have HRA : Hid (∀ W, Ext (fun q => q = w.heap.size) w3 W → (Lay.sl Lay.int).Reads W [.slice ao (8 * r) cap] (ps.take (8 * r))) := fun W hW => take_reads (unhide HRD0 W hW) (8 * r) hr8
  clear s3 c3 g3 L3 HE2 HR2 HOI hdiv
  go_wp2_with fail
  have hRD : Box 0 #[.slice none 0 0, .slice none 0 0] 48 w3.drew w.heap.size := (unhide HR3).drew
  by_cases hck : cap = 8 * r
  · subst hck
    have hl0 : ps.length = 8 * r := by omega
    have HRB : Hid (∀ W, Ext (fun q => q = w.heap.size) w3 W → (Lay.sl Lay.int).Reads W [.slice ao 0 0] (ps.drop (8 * r))) := fun W hW => by
      rw [List.drop_eq_nil_of_le (by omega)]
      exact Lay.reads_ints ⟨ao, _, rfl, by simp, fun hp => by simp at hp⟩ (fun _ _ _ => by simp) (by simp)
    have HL0 := hide hl0
    clear hl0
    refine wp_region_noPanic ?_
    refine wp_region_held_drew (S := fun w' => Ext (fun q => q = w.heap.size) w3 w') (by kernel_rfl) ⟨rfl, rfl, rfl, Nat.le_refl _, fun _ _ _ => rfl⟩ (fun hHeld => ?_)
    generalize w3.drew = wD at hHeld hRD ⊢
    refine wpAnyH_take (i := 0) (oi := { dst := some 15, op := Go.Op.move (Go.Operand.tmp 3), type := 24, pos := "l08_log.go:105", after := #[], guard := none }) (v := ?va0_1) rfl (by kernel_rfl) (by kernel_rfl) (by kernel_rfl) (fun _ _ _ h => h) (Or.inl ⟨by rfl, ?ha0_1⟩) hHeld ?ra0_1
    case ha0_1 =>
      intro wS hSw
      (try dsimp only at hSw)
      go_simp
      try with_reducible rfl
    case ra0_1 =>
    simp only [Act.put, List.setIfInBounds_toArray, List.set_cons_zero, List.set_cons_succ]
    refine wpAnyH_take (i := 1) (oi := { dst := some 16, op := Go.Op.move (Go.Operand.tmp 4), type := 2, pos := "l08_log.go:105", after := #[], guard := none }) (v := ?va1_2) rfl (by kernel_rfl) (by kernel_rfl) (by kernel_rfl) (fun _ _ _ h => h) (Or.inl ⟨by rfl, ?ha1_2⟩) hHeld ?ra1_2
    case ha1_2 =>
      intro wS hSw
      (try dsimp only at hSw)
      go_simp
      try with_reducible rfl
    case ra1_2 =>
    simp only [Act.put, List.setIfInBounds_toArray, List.set_cons_zero, List.set_cons_succ]
    refine wpAnyH_take (i := 2) (oi := { dst := some 17, op := Go.Op.slice 24 (Go.Operand.tmp 15) none (some (Go.Operand.tmp 16)) none, type := 24, pos := "l08_log.go:105", after := #[{ on := 0, ground := Go.Ground.data }, { on := 1, ground := Go.Ground.data }], guard := none }) (v := ?va2_3) rfl (by kernel_rfl) (by kernel_rfl) (by kernel_rfl) (fun _ _ _ h => h) (Or.inl ⟨by rfl, ?ha2_3⟩) hHeld ?ra2_3
    case ha2_3 =>
      intro wS hSw
      clear hSw
      have t0 : 8 * (r : Int) ≤ (ps.length : Int) := by omega
      have t2 : (0 : Int) ≤ 8 * (r : Int) := by omega
      have t3 : (8 * (r : Int)).toNat = 8 * r := by omega
      (try dsimp only at hSw)
      go_simp
      try with_reducible rfl
    case ra2_3 =>
    simp only [Act.put, List.setIfInBounds_toArray, List.set_cons_zero, List.set_cons_succ]
    refine wpAnyH_take (i := 4) (oi := { dst := some 19, op := Go.Op.move (Go.Operand.tmp 3), type := 24, pos := "l08_log.go:105", after := #[], guard := none }) (v := ?va4_4) rfl (by kernel_rfl) (by kernel_rfl) (by kernel_rfl) (fun _ _ _ h => h) (Or.inl ⟨by rfl, ?ha4_4⟩) hHeld ?ra4_4
    case ha4_4 =>
      intro wS hSw
      (try dsimp only at hSw)
      go_simp
      try with_reducible rfl
    case ra4_4 =>
    simp only [Act.put, List.setIfInBounds_toArray, List.set_cons_zero, List.set_cons_succ]
    refine wpAnyH_take (i := 5) (oi := { dst := some 20, op := Go.Op.move (Go.Operand.tmp 4), type := 2, pos := "l08_log.go:105", after := #[], guard := none }) (v := ?va5_5) rfl (by kernel_rfl) (by kernel_rfl) (by kernel_rfl) (fun _ _ _ h => h) (Or.inl ⟨by rfl, ?ha5_5⟩) hHeld ?ra5_5
    case ha5_5 =>
      intro wS hSw
      (try dsimp only at hSw)
      go_simp
      try with_reducible rfl
    case ra5_5 =>
    simp only [Act.put, List.setIfInBounds_toArray, List.set_cons_zero, List.set_cons_succ]
    refine wpAnyH_take (i := 6) (oi := { dst := some 21, op := Go.Op.slice 24 (Go.Operand.tmp 19) (some (Go.Operand.tmp 20)) none none, type := 24, pos := "l08_log.go:105", after := #[{ on := 4, ground := Go.Ground.data }, { on := 5, ground := Go.Ground.data }], guard := none }) (v := ?va6_6) rfl (by kernel_rfl) (by kernel_rfl) (by kernel_rfl) (fun _ _ _ h => h) (Or.inl ⟨by rfl, ?ha6_6⟩) hHeld ?ra6_6
    case ha6_6 =>
      intro wS hSw
      clear hSw
      have t0 : 8 * (r : Int) ≤ (ps.length : Int) := by omega
      have t2 : (0 : Int) ≤ 8 * (r : Int) := by omega
      have t3 : (8 * (r : Int)).toNat = 8 * r := by omega
      (try dsimp only at hSw)
      go_simp
      try with_reducible rfl
    case ra6_6 =>
    simp only [Act.put, List.setIfInBounds_toArray, List.set_cons_zero, List.set_cons_succ]
    refine wpAnyH_ready (rs := [3]) (by kernel_rfl) (by simp) ?_
    refine AllReadyH.cons (o := { dst := some 18, op := Go.Op.call { callee := Go.Callee.value (Go.Operand.func 65), args := #[Go.Operand.tmp 17], argTypes := #[24] }, type := 24, pos := "l08_log.go:105", after := #[{ on := 2, ground := Go.Ground.data }], guard := none }) rfl (fun K hK => ?_) AllReadyH.nil
    go_simp
    go_at_call 65
    refine (l1Ints _ (ps.take (8 * r)) _ (Lay.ints_reads (unhide HRA _ hHeld)) (by rw [List.length_take]; omega)).mono ?_
    rintro e w4 ⟨v4, rfl, O4, hbw⟩
    obtain ⟨a4, c4, rfl⟩ := own_shape O4
    have hS4 := hHeld.trans (ext_of_below hbw _)
    have bR4 := hRD.keep hbw
    have hz4 := hbw.size
    have hzD := hRD.lt
    obtain ⟨n4, hn4⟩ : ∃ n4, n4 = (ps.take (8 * r)).length := ⟨_, rfl⟩
    rw [← hn4] at O4 ⊢
    have HN4 := hide hn4
    have HO4 := hide O4
    clear hn4 O4
    try go_wp2_with fail
    refine hK.out _ _ hS4 (fun hHeld => ?_)
    clear hK K
    try simp only [Act.put, List.setIfInBounds_toArray, List.set_cons_zero, List.set_cons_succ]
    refine wpAnyH_ready (rs := [7]) (by kernel_rfl) (by simp) ?_
    refine AllReadyH.cons (o := { dst := some 22, op := Go.Op.call { callee := Go.Callee.value (Go.Operand.func 65), args := #[Go.Operand.tmp 21], argTypes := #[24] }, type := 24, pos := "l08_log.go:105", after := #[{ on := 6, ground := Go.Ground.data }, { on := 3, ground := Go.Ground.chain }], guard := none }) rfl (fun K hK => ?_) AllReadyH.nil
    go_simp
    go_at_call 65
    refine (l1Ints _ (ps.drop (8 * r)) _ (Lay.ints_reads (unhide HRB _ hS4)) (by rw [List.length_drop]; omega)).mono ?_
    rintro e w5 ⟨v5, rfl, O5, hbw5⟩
    obtain ⟨a5, c5, rfl⟩ := own_shape O5
    have hS5 := hS4.trans (ext_of_below hbw5 _)
    have bR5 := bR4.keep hbw5
    have hz5 := hbw5.size
    obtain ⟨n5, hn5⟩ : ∃ n5, n5 = (ps.drop (8 * r)).length := ⟨_, rfl⟩
    rw [← hn5] at O5 ⊢
    have HN5 := hide hn5
    have hE9 : Ext (fun q => q = w.heap.size) w5 (setAll w5 w.heap.size 0 [.slice a4 n4 c4, .slice a5 n5 c5]) := ext_setAll (fun q => q = w.heap.size) (Ext.refl _ _) w.heap.size 0 [.slice a4 n4 c4, .slice a5 n5 c5] rfl
    have HO49 := hide (own_mono (b' := w.heap.size + 1) (by omega) (own_ext8 (own_below (unhide HO4) hbw5) hE9 (fun c hc e => by have := ((unhide HO4).lt c hc).1; omega)))
    have HO59 := hide (own_mono (b' := w.heap.size + 1) (by omega) (own_ext8 O5 hE9 (fun c hc e => by have := (O5.lt c hc).1; omega)))
    have HDI : Hid (∀ c, (Value.slice a4 n4 c4).ownBlock = some c → (Value.slice a5 n5 c5).ownBlock ≠ some c) := fun c h1 h2 => by
      have q1 := ((unhide HO4).lt c h1).2
      have q2 := (O5.lt c h2).1
      omega
    clear O5 hE9 hn5
    try go_wp2_with fail
    refine hK.out _ _ hS5 (fun hHeld => ?_)
    clear hK K
    try simp only [Act.put, List.setIfInBounds_toArray, List.set_cons_zero, List.set_cons_succ]
    refine wpAnyH_take (i := 8) (oi := { dst := some 23, op := Go.Op.build 48 #[(0, Go.Operand.tmp 18), (1, Go.Operand.tmp 22)], type := 48, pos := "l08_log.go:105", after := #[{ on := 3, ground := Go.Ground.data }, { on := 7, ground := Go.Ground.data }], guard := none }) (v := ?va8_7) rfl (by kernel_rfl) (by kernel_rfl) (by kernel_rfl) (fun _ _ _ h => h) (Or.inl ⟨by rfl, ?ha8_7⟩) hHeld ?ra8_7
    case ha8_7 =>
      intro wS hSw
      (try dsimp only at hSw)
      go_simp
      try with_reducible rfl
    case ra8_7 =>
    simp only [Act.put, List.setIfInBounds_toArray, List.set_cons_zero, List.set_cons_succ]
    refine wpAnyH_ready (rs := [9]) (by kernel_rfl) (by simp) ?_
    refine AllReadyH.cons (o := { dst := none, op := Go.Op.store 48 (Go.Operand.tmp 2) (Go.Operand.tmp 23), type := 0, pos := "l08_log.go:105", after := #[{ on := 8, ground := Go.Ground.data }, { on := 7, ground := Go.Ground.chain }, { on := 0, ground := Go.Ground.phase }, { on := 1, ground := Go.Ground.phase }, { on := 2, ground := Go.Ground.phase }, { on := 3, ground := Go.Ground.phase }, { on := 4, ground := Go.Ground.phase }, { on := 5, ground := Go.Ground.phase }, { on := 6, ground := Go.Ground.phase }, { on := 7, ground := Go.Ground.phase }, { on := 8, ground := Go.Ground.phase }], guard := none }) rfl (fun K hK => ?_) AllReadyH.nil
    have z0 := bR5.at 0 _ rfl
    have z1 := bR5.at 1 _ rfl
    have ff := bR5.soft
    have l0 := bR5.lt
    simp only [List.getElem_toArray, List.getElem_cons_zero, List.getElem_cons_succ] at z0 z1
    go_simp
    try go_wp2_with fail
    refine hK.out _ _ (ext_setAll (fun q => q = w.heap.size) hS5 w.heap.size 0 [.slice a4 n4 c4, .slice a5 n5 c5] rfl) (fun hHeld => ?_)
    clear hK K
    try simp only [Act.put, List.setIfInBounds_toArray, List.set_cons_zero, List.set_cons_succ]
    refine wpAnyH_done (by kernel_rfl) ?_ _
    refine NoPanic.normal ?_
    have HS9 := hide hHeld
    clear hHeld
    go_wp2_with fail
    refine bodyPost_ret (v := .agg #[.slice a4 n4 c4, .slice a5 n5 c5]) (by simp [results, Try.results94, go_sem, z0, z1]) rfl ?_
    have h4 := unhide HO49
    have h5 := unhide HO59
    rw [unhide HN4] at h4
    rw [unhide HN5] at h5
    refine closeL (xs := ps.take (8 * r)) (ys := ps.drop (8 * r)) (unhide HE3) (unhide HS3) (unhide HC3) hbw0 (by omega) (unhide HS9) (by rw [unhide HN4]; exact h4) (by rw [unhide HN5]; exact h5) (unhide HDI) (fun z hz => unhide HPW z (List.mem_of_mem_take hz)) (fun z hz => unhide HPW z (List.mem_of_mem_drop hz)) (by rw [List.length_take]; omega) (by rw [List.length_drop]; omega)
  · obtain ⟨g, rfl⟩ := hsome (by omega)
    have HRB : Hid (∀ W, Ext (fun q => q = w.heap.size) w3 W → (Lay.sl Lay.int).Reads W [.slice (some ⟨g, 8 * r, none⟩) (ps.length - 8 * r) (cap - 8 * r)] (ps.drop (8 * r))) := fun W hW => by
      have h1 := part_reads (unhide HRD0 W hW) (8 * r) (ps.length - 8 * r) (cap - 8 * r) (by omega) (by omega)
      rw [List.take_of_length_le (by rw [List.length_drop]; omega), Nat.zero_add] at h1
      exact h1
    refine wp_region_noPanic ?_
    refine wp_region_held_drew (S := fun w' => Ext (fun q => q = w.heap.size) w3 w') (by kernel_rfl) ⟨rfl, rfl, rfl, Nat.le_refl _, fun _ _ _ => rfl⟩ (fun hHeld => ?_)
    generalize w3.drew = wD at hHeld hRD ⊢
    refine wpAnyH_take (i := 0) (oi := { dst := some 15, op := Go.Op.move (Go.Operand.tmp 3), type := 24, pos := "l08_log.go:105", after := #[], guard := none }) (v := ?vb0_1) rfl (by kernel_rfl) (by kernel_rfl) (by kernel_rfl) (fun _ _ _ h => h) (Or.inl ⟨by rfl, ?hb0_1⟩) hHeld ?rb0_1
    case hb0_1 =>
      intro wS hSw
      (try dsimp only at hSw)
      go_simp
      try with_reducible rfl
    case rb0_1 =>
    simp only [Act.put, List.setIfInBounds_toArray, List.set_cons_zero, List.set_cons_succ]
    refine wpAnyH_take (i := 1) (oi := { dst := some 16, op := Go.Op.move (Go.Operand.tmp 4), type := 2, pos := "l08_log.go:105", after := #[], guard := none }) (v := ?vb1_2) rfl (by kernel_rfl) (by kernel_rfl) (by kernel_rfl) (fun _ _ _ h => h) (Or.inl ⟨by rfl, ?hb1_2⟩) hHeld ?rb1_2
    case hb1_2 =>
      intro wS hSw
      (try dsimp only at hSw)
      go_simp
      try with_reducible rfl
    case rb1_2 =>
    simp only [Act.put, List.setIfInBounds_toArray, List.set_cons_zero, List.set_cons_succ]
    refine wpAnyH_take (i := 2) (oi := { dst := some 17, op := Go.Op.slice 24 (Go.Operand.tmp 15) none (some (Go.Operand.tmp 16)) none, type := 24, pos := "l08_log.go:105", after := #[{ on := 0, ground := Go.Ground.data }, { on := 1, ground := Go.Ground.data }], guard := none }) (v := ?vb2_3) rfl (by kernel_rfl) (by kernel_rfl) (by kernel_rfl) (fun _ _ _ h => h) (Or.inl ⟨by rfl, ?hb2_3⟩) hHeld ?rb2_3
    case hb2_3 =>
      intro wS hSw
      clear hSw
      have t1 : 8 * (r : Int) ≤ (cap : Int) := by omega
      have t0 : 8 * (r : Int) ≤ (ps.length : Int) := by omega
      have t2 : (0 : Int) ≤ 8 * (r : Int) := by omega
      have t3 : (8 * (r : Int)).toNat = 8 * r := by omega
      (try dsimp only at hSw)
      go_simp
      try with_reducible rfl
    case rb2_3 =>
    simp only [Act.put, List.setIfInBounds_toArray, List.set_cons_zero, List.set_cons_succ]
    refine wpAnyH_take (i := 4) (oi := { dst := some 19, op := Go.Op.move (Go.Operand.tmp 3), type := 24, pos := "l08_log.go:105", after := #[], guard := none }) (v := ?vb4_4) rfl (by kernel_rfl) (by kernel_rfl) (by kernel_rfl) (fun _ _ _ h => h) (Or.inl ⟨by rfl, ?hb4_4⟩) hHeld ?rb4_4
    case hb4_4 =>
      intro wS hSw
      (try dsimp only at hSw)
      go_simp
      try with_reducible rfl
    case rb4_4 =>
    simp only [Act.put, List.setIfInBounds_toArray, List.set_cons_zero, List.set_cons_succ]
    refine wpAnyH_take (i := 5) (oi := { dst := some 20, op := Go.Op.move (Go.Operand.tmp 4), type := 2, pos := "l08_log.go:105", after := #[], guard := none }) (v := ?vb5_5) rfl (by kernel_rfl) (by kernel_rfl) (by kernel_rfl) (fun _ _ _ h => h) (Or.inl ⟨by rfl, ?hb5_5⟩) hHeld ?rb5_5
    case hb5_5 =>
      intro wS hSw
      (try dsimp only at hSw)
      go_simp
      try with_reducible rfl
    case rb5_5 =>
    simp only [Act.put, List.setIfInBounds_toArray, List.set_cons_zero, List.set_cons_succ]
    refine wpAnyH_take (i := 6) (oi := { dst := some 21, op := Go.Op.slice 24 (Go.Operand.tmp 19) (some (Go.Operand.tmp 20)) none none, type := 24, pos := "l08_log.go:105", after := #[{ on := 4, ground := Go.Ground.data }, { on := 5, ground := Go.Ground.data }], guard := none }) (v := ?vb6_6) rfl (by kernel_rfl) (by kernel_rfl) (by kernel_rfl) (fun _ _ _ h => h) (Or.inl ⟨by rfl, ?hb6_6⟩) hHeld ?rb6_6
    case hb6_6 =>
      intro wS hSw
      clear hSw
      have t1 : 8 * (r : Int) ≤ (cap : Int) := by omega
      have t0 : 8 * (r : Int) ≤ (ps.length : Int) := by omega
      have t2 : (0 : Int) ≤ 8 * (r : Int) := by omega
      have t3 : (8 * (r : Int)).toNat = 8 * r := by omega
      (try dsimp only at hSw)
      go_simp
      try with_reducible rfl
    case rb6_6 =>
    simp only [Act.put, List.setIfInBounds_toArray, List.set_cons_zero, List.set_cons_succ]
    refine wpAnyH_ready (rs := [3]) (by kernel_rfl) (by simp) ?_
    refine AllReadyH.cons (o := { dst := some 18, op := Go.Op.call { callee := Go.Callee.value (Go.Operand.func 65), args := #[Go.Operand.tmp 17], argTypes := #[24] }, type := 24, pos := "l08_log.go:105", after := #[{ on := 2, ground := Go.Ground.data }], guard := none }) rfl (fun K hK => ?_) AllReadyH.nil
    go_simp
    go_at_call 65
    refine (l1Ints _ (ps.take (8 * r)) _ (Lay.ints_reads (unhide HRA _ hHeld)) (by rw [List.length_take]; omega)).mono ?_
    rintro e w4 ⟨v4, rfl, O4, hbw⟩
    obtain ⟨a4, c4, rfl⟩ := own_shape O4
    have hS4 := hHeld.trans (ext_of_below hbw _)
    have bR4 := hRD.keep hbw
    have hz4 := hbw.size
    have hzD := hRD.lt
    obtain ⟨n4, hn4⟩ : ∃ n4, n4 = (ps.take (8 * r)).length := ⟨_, rfl⟩
    rw [← hn4] at O4 ⊢
    have HN4 := hide hn4
    have HO4 := hide O4
    clear hn4 O4
    try go_wp2_with fail
    refine hK.out _ _ hS4 (fun hHeld => ?_)
    clear hK K
    try simp only [Act.put, List.setIfInBounds_toArray, List.set_cons_zero, List.set_cons_succ]
    refine wpAnyH_ready (rs := [7]) (by kernel_rfl) (by simp) ?_
    refine AllReadyH.cons (o := { dst := some 22, op := Go.Op.call { callee := Go.Callee.value (Go.Operand.func 65), args := #[Go.Operand.tmp 21], argTypes := #[24] }, type := 24, pos := "l08_log.go:105", after := #[{ on := 6, ground := Go.Ground.data }, { on := 3, ground := Go.Ground.chain }], guard := none }) rfl (fun K hK => ?_) AllReadyH.nil
    go_simp
    go_at_call 65
    refine (l1Ints _ (ps.drop (8 * r)) _ (Lay.ints_reads (unhide HRB _ hS4)) (by rw [List.length_drop]; omega)).mono ?_
    rintro e w5 ⟨v5, rfl, O5, hbw5⟩
    obtain ⟨a5, c5, rfl⟩ := own_shape O5
    have hS5 := hS4.trans (ext_of_below hbw5 _)
    have bR5 := bR4.keep hbw5
    have hz5 := hbw5.size
    obtain ⟨n5, hn5⟩ : ∃ n5, n5 = (ps.drop (8 * r)).length := ⟨_, rfl⟩
    rw [← hn5] at O5 ⊢
    have HN5 := hide hn5
    have hE9 : Ext (fun q => q = w.heap.size) w5 (setAll w5 w.heap.size 0 [.slice a4 n4 c4, .slice a5 n5 c5]) := ext_setAll (fun q => q = w.heap.size) (Ext.refl _ _) w.heap.size 0 [.slice a4 n4 c4, .slice a5 n5 c5] rfl
    have HO49 := hide (own_mono (b' := w.heap.size + 1) (by omega) (own_ext8 (own_below (unhide HO4) hbw5) hE9 (fun c hc e => by have := ((unhide HO4).lt c hc).1; omega)))
    have HO59 := hide (own_mono (b' := w.heap.size + 1) (by omega) (own_ext8 O5 hE9 (fun c hc e => by have := (O5.lt c hc).1; omega)))
    have HDI : Hid (∀ c, (Value.slice a4 n4 c4).ownBlock = some c → (Value.slice a5 n5 c5).ownBlock ≠ some c) := fun c h1 h2 => by
      have q1 := ((unhide HO4).lt c h1).2
      have q2 := (O5.lt c h2).1
      omega
    clear O5 hE9 hn5
    try go_wp2_with fail
    refine hK.out _ _ hS5 (fun hHeld => ?_)
    clear hK K
    try simp only [Act.put, List.setIfInBounds_toArray, List.set_cons_zero, List.set_cons_succ]
    refine wpAnyH_take (i := 8) (oi := { dst := some 23, op := Go.Op.build 48 #[(0, Go.Operand.tmp 18), (1, Go.Operand.tmp 22)], type := 48, pos := "l08_log.go:105", after := #[{ on := 3, ground := Go.Ground.data }, { on := 7, ground := Go.Ground.data }], guard := none }) (v := ?vb8_7) rfl (by kernel_rfl) (by kernel_rfl) (by kernel_rfl) (fun _ _ _ h => h) (Or.inl ⟨by rfl, ?hb8_7⟩) hHeld ?rb8_7
    case hb8_7 =>
      intro wS hSw
      (try dsimp only at hSw)
      go_simp
      try with_reducible rfl
    case rb8_7 =>
    simp only [Act.put, List.setIfInBounds_toArray, List.set_cons_zero, List.set_cons_succ]
    refine wpAnyH_ready (rs := [9]) (by kernel_rfl) (by simp) ?_
    refine AllReadyH.cons (o := { dst := none, op := Go.Op.store 48 (Go.Operand.tmp 2) (Go.Operand.tmp 23), type := 0, pos := "l08_log.go:105", after := #[{ on := 8, ground := Go.Ground.data }, { on := 7, ground := Go.Ground.chain }, { on := 0, ground := Go.Ground.phase }, { on := 1, ground := Go.Ground.phase }, { on := 2, ground := Go.Ground.phase }, { on := 3, ground := Go.Ground.phase }, { on := 4, ground := Go.Ground.phase }, { on := 5, ground := Go.Ground.phase }, { on := 6, ground := Go.Ground.phase }, { on := 7, ground := Go.Ground.phase }, { on := 8, ground := Go.Ground.phase }], guard := none }) rfl (fun K hK => ?_) AllReadyH.nil
    have z0 := bR5.at 0 _ rfl
    have z1 := bR5.at 1 _ rfl
    have ff := bR5.soft
    have l0 := bR5.lt
    simp only [List.getElem_toArray, List.getElem_cons_zero, List.getElem_cons_succ] at z0 z1
    go_simp
    try go_wp2_with fail
    refine hK.out _ _ (ext_setAll (fun q => q = w.heap.size) hS5 w.heap.size 0 [.slice a4 n4 c4, .slice a5 n5 c5] rfl) (fun hHeld => ?_)
    clear hK K
    try simp only [Act.put, List.setIfInBounds_toArray, List.set_cons_zero, List.set_cons_succ]
    refine wpAnyH_done (by kernel_rfl) ?_ _
    refine NoPanic.normal ?_
    have HS9 := hide hHeld
    clear hHeld
    go_wp2_with fail
    refine bodyPost_ret (v := .agg #[.slice a4 n4 c4, .slice a5 n5 c5]) (by simp [results, Try.results94, go_sem, z0, z1]) rfl ?_
    have h4 := unhide HO49
    have h5 := unhide HO59
    rw [unhide HN4] at h4
    rw [unhide HN5] at h5
    refine closeL (xs := ps.take (8 * r)) (ys := ps.drop (8 * r)) (unhide HE3) (unhide HS3) (unhide HC3) hbw0 (by omega) (unhide HS9) (by rw [unhide HN4]; exact h4) (by rw [unhide HN5]; exact h5) (unhide HDI) (fun z hz => unhide HPW z (List.mem_of_mem_take hz)) (fun z hz => unhide HPW z (List.mem_of_mem_drop hz)) (by rw [List.length_take]; omega) (by rw [List.length_drop]; omega)

end Go.Proofs.Ytipomhpimmnchaa

namespace Go.Proofs.Ytipomhpimmnchaa
open Go.RowKit

/-- Blocks below n that are not in S are as they were. -/
def KpS (n : Nat) (S : Nat → Prop) (W W' : World) : Prop := W.heap.size ≤ W'.heap.size ∧ ∀ b, b < n → ¬ S b → W'.heap[b]? = W.heap[b]?
theorem KpS.refl (n : Nat) (S : Nat → Prop) (W : World) : KpS n S W W := ⟨Nat.le_refl _, fun _ _ _ => rfl⟩
theorem KpS.trans {n : Nat} {S : Nat → Prop} {a b c : World} (h : KpS n S a b) (k : KpS n S b c) : KpS n S a c := ⟨Nat.le_trans h.1 k.1, fun i h1 h2 => (k.2 i h1 h2).trans (h.2 i h1 h2)⟩
theorem KpS.put {n : Nat} (S : Nat → Prop) (W : World) (l : Nat) (o' : Obj) (hl : n ≤ l) : KpS n S W (W.putObj l o') :=
  ⟨by simp, fun b hb _ => World.putObj_heap_other (by omega)⟩
theorem KpS.of_ext {n : Nat} {S T : Nat → Prop} {a b : World} (h : Ext T a b) (hn : n ≤ a.heap.size) (hs : ∀ k, k < n → T k → S k) : KpS n S a b :=
  ⟨h.size, fun k hk hS => h.block k (by omega) fun ht => hS (hs k hk ht)⟩
theorem KpS.of_below {n : Nat} (S : Nat → Prop) {a b : World} (h : Below a.heap.size a b) (hn : n ≤ a.heap.size) : KpS n S a b := ⟨h.size, fun k hk _ => h.block k (by omega)⟩
theorem ext_of_grownBy {A B : World} {row : Option Nat} (h : A.grownBy B row) : Ext (fun q => row = some q) A B := ⟨h.os, h.tape, h.output, h.size, fun k hk hn => h.block k hk fun e => hn e.symm⟩
theorem keepsFrom_ext {B : Nat} {S : Nat → Prop} {a b : World} (h : Ext S a b) (hs : ∀ k o, B ≤ k → a.heap[k]? = some o → o.isCells = false → ¬ S k) : KeepsFrom B a b :=
  ⟨h.size, fun k o hB hk ho => (h.block k (Array.getElem?_eq_some_iff.1 hk).1 (hs k o hB hk ho)).trans hk⟩
theorem keepsFrom_below {B : Nat} {a b : World} (h : Below a.heap.size a b) : KeepsFrom B a b :=
  ⟨h.size, fun k _ _ hk _ => (h.block k (Array.getElem?_eq_some_iff.1 hk).1).trans hk⟩
/-- A block of cells is not turned. -/
theorem grown_cells {A B : World} {row : Option Nat} (h : A.grownBy B row) {n : Nat} (hr : ∀ r, row = some r → n ≤ r ∧ ∃ o : Obj, A.heap[r]? = some o ∧ o.isCells = false) {b : Nat} {o : Obj} (hb : A.heap[b]? = some o) (ho : b < n ∨ o.isCells = true) : B.heap[b]? = some o := by
  refine (h.block b (Array.getElem?_eq_some_iff.1 hb).1 fun e => ?_).trans hb
  obtain ⟨h1, o', h2, h3⟩ := hr b e.symm
  rcases ho with ho | ho
  · omega
  · rw [hb] at h2
    cases h2
    rw [ho] at h3
    cases h3
theorem box_grown {A B : World} {row : Option Nat} (h : A.grownBy B row) {n lo : Nat} (hr : ∀ r, row = some r → n ≤ r ∧ ∃ o : Obj, A.heap[r]? = some o ∧ o.isCells = false) {cs : Array Value} {T s : Nat} (hb : Box lo cs T A s) : Box lo cs T B s :=
  ⟨hb.1, grown_cells h hr hb.2 (Or.inr rfl)⟩
theorem below_grown {A B w : World} {row : Option Nat} (h : A.grownBy B row) {n m : Nat} (hr : ∀ r, row = some r → n ≤ r ∧ ∃ o : Obj, A.heap[r]? = some o ∧ o.isCells = false) (hb : Below m w A) (hm : m ≤ n) (hw : m ≤ w.heap.size) : Below m w B :=
  hb.grown h (Nat.le_trans hw hb.size) fun k e => by have := (hr k e).1; omega

end Go.Proofs.Ytipomhpimmnchaa

namespace Go.Proofs.Ytipomhpimmnchaa
open Go.RowKit

/-- A log of the draw's own, right or not; the source has gone on. -/
def BentL (b m : Nat) (cv : Value) (w : World) (e : Ending) (w' : World) : Prop :=
  ∃ (cs : List Value) (x : DLog) (m' : Nat), e = .returned (.agg cs.toArray) ∧ Lay.tLog.LiesIn w' cs x (w.heap.size + 1) w'.heap.size ∧ x.sure.length ≤ 400 ∧ x.loose.length ≤ 400 ∧ SrcAt w' b cv m' ∧ m' ≤ m + 3000 ∧ IsCode b w' cv ∧ w.grownBy w' (some b)
theorem closeB {b m m' : Nat} {cv : Value} {w W F : World} {a1 a2 : Option Addr} {c1 c2 n1 n2 : Nat} {xs ys : List Int} (hE : Ext (fun q => q = b ∨ w.heap.size ≤ q) w W) (hS : SrcAt W b cv m') (hC : IsCode b W cv) (hb : b < w.heap.size) (hm : m' ≤ m + 3000) (hF : Ext (fun q => q = w.heap.size) W F) (e1 : n1 = xs.length) (e2 : n2 = ys.length)
    (o4 : W.ownsRow (w.heap.size + 1) 2 1 (.slice a1 n1 c1) n1 (xs.map (Value.int .i64))) (o5 : W.ownsRow (w.heap.size + 1) 2 1 (.slice a2 n2 c2) n2 (ys.map (Value.int .i64)))
    (w1 : ∀ z ∈ xs, (Lit.int .i64 z).wf = true) (w2 : ∀ z ∈ ys, (Lit.int .i64 z).wf = true) (l1 : xs.length ≤ 400) (l2 : ys.length ≤ 400) : BentL b m cv w (.returned (.agg #[.slice a1 n1 c1, .slice a2 n2 c2])) F := by
  subst e1 e2
  have hz := hE.size
  refine ⟨[.slice a1 xs.length c1, .slice a2 ys.length c2], ⟨xs, ys⟩, m', rfl, ?_, l1, l2, hS.extW hF (fun e => by omega), hm, hC.extW (by omega) hF (fun k hk e => by omega), ?_⟩
  · obtain ⟨b1, k1, r1⟩ := ((Lay.ownInts w1 (by omega) o4).lies.ext hF (fun q h1 h2 e => by omega)).mono (Nat.le_refl _) hF.size
    obtain ⟨b2, k2, r2⟩ := ((Lay.ownInts w2 (by omega) o5).lies.ext hF (fun q h1 h2 e => by omega)).mono (Nat.le_refl _) hF.size
    refine ⟨b1 ++ b2, ⟨[.slice a1 xs.length c1], [.slice a2 ys.length c2], b1, b2, rfl, rfl, k1, k2⟩, fun c hc => ?_⟩
    rcases List.mem_append.1 hc with hc | hc
    · exact r1 c hc
    · exact r2 c hc
  · exact ⟨hF.os.trans hE.os, hF.tape.trans hE.tape, hF.output.trans hE.output, Nat.le_trans hE.size hF.size, fun i hi hn => (hF.block i (by omega) (fun e => by omega)).trans (hE.block i hi (fun e => by
      rcases e with e | e
      · exact hn (by rw [e])
      · omega))⟩
theorem box_ne {w : World} {base T1 T2 lo s : Nat} {v : Value} {n : Nat} {xs : List Value} {cs : Array Value} (h : w.ownsRow base T1 1 v n xs) (k : Box lo cs T2 w s) (hT : T1 ≠ T2) : ∀ c, v.ownBlock = some c → c ≠ s := fun c hc e => by
  subst e
  rcases h.2 with ⟨rfl, -⟩ | ⟨g, cap, cur, rfl, -, hh, -⟩
  · simp [Value.ownBlock] at hc
  · obtain rfl : g = c := by simpa [Value.ownBlock] using hc
    rw [k.2] at hh
    simp only [Option.some.injEq, Obj.cells.injEq] at hh
    exact hT hh.2.1.symm
theorem snoc_wf {xs zs : List Int} (h : ∀ z ∈ xs, (Lit.int .i64 z).wf = true) (k : ∀ z ∈ zs, (Lit.int .i64 z).wf = true) : ∀ z ∈ xs ++ zs, (Lit.int .i64 z).wf = true := fun z hz => by
  rcases List.mem_append.1 hz with hz | hz
  · exact h z hz
  · exact k z hz

set_option maxRecDepth 100000 in
set_option maxHeartbeats 4000000 in
theorem drawBent8 (b m : Nat) (cv : Value) (w : World) (hs : SrcAt w b cv m) (hc : IsCode b w cv) (hm : m ≤ 100) :
    Calls Try.prog 76 #[.pointer (some ⟨b, 0, none⟩)] w (BentL b m cv w) := by
  have hbw0 := hs.lt
  have nb : Below w.heap.size w (w.alloc (.cells #[.slice none 0 0, .slice none 0 0] 48)) := (Below.refl _ _).alloc (Nat.le_refl _) _
  have bR : Box 0 #[.slice none 0 0, .slice none 0 0] 48 (w.alloc (.cells #[.slice none 0 0, .slice none 0 0] 48)) w.heap.size := newBox (Nat.zero_le _)
  have L := hide (drawRight8 b m cv _ (hs.onW nb) (hc.onW (Nat.le_of_lt hbw0) nb) (by omega))
  have HE0 := hide (ext_of_below nb (fun q => q = b ∨ w.heap.size ≤ q))
  have HR0 := hide bR
  have HZ0 : Hid ((w.alloc (.cells #[.slice none 0 0, .slice none 0 0] 48)).heap.size = w.heap.size + 1) := by show _ = _; simp
  clear nb bR hs hc
  go_enter Try.func76, Try.ntmps76
  go_wp2_with fail
  generalize w.alloc (.cells #[.slice none 0 0, .slice none 0 0] 48) = W0 at *
  refine (unhide L).mono ?_
  rintro e w1 ⟨u, v, xs, ys, m1, rfl, o4, o5, hdis, wf1, wf2, l1, l2, s1, hm1, c1', g1⟩
  obtain ⟨a1, c1, rfl⟩ := own_shape o4
  obtain ⟨a2, c2, rfl⟩ := own_shape o5
  have hb4 : ∀ c, (Value.slice a1 xs.length c1).ownBlock = some c → w.heap.size + 1 < c ∧ c < w1.heap.size := fun c hc => ⟨by have h1 := (o4.lt c hc).1; have h2 := unhide HZ0; omega, (o4.lt c hc).2⟩
  have hb5 : ∀ c, (Value.slice a2 ys.length c2).ownBlock = some c → w.heap.size + 1 < c ∧ c < w1.heap.size := fun c hc => ⟨by have h1 := (o5.lt c hc).1; have h2 := unhide HZ0; omega, (o5.lt c hc).2⟩
  have nb2 : Below w1.heap.size w1 (w1.alloc (.cells #[.slice a1 xs.length c1, .slice a2 ys.length c2] 48)) := (Below.refl _ _).alloc (Nat.le_refl _) _
  have bL : Box 0 #[.slice a1 xs.length c1, .slice a2 ys.length c2] 48 (w1.alloc (.cells #[.slice a1 xs.length c1, .slice a2 ys.length c2] 48)) w1.heap.size := newBox (Nat.zero_le _)
  have hz1 : w.heap.size < w1.heap.size := by have h1 := (unhide HR0).lt; have h2 := g1.size; omega
  have L2 := hide (next b m1 cv 14 _ (s1.onW nb2) (c1'.onW (by omega) nb2) (by omega) (by omega) (by omega))
  have HE1 := hide (((unhide HE0).trans ((ext_grown g1).mono fun k _ h => Or.inl h)).trans (ext_of_below nb2 _))
  have HR1 := hide (((unhide HR0).ext (ext_grown g1) (by omega)).keep nb2)
  have HBL := hide bL
  have HO4 := hide (own_mono (b' := w.heap.size + 1) (by have := unhide HZ0; omega) (own_below o4 nb2))
  have HO5 := hide (own_mono (b' := w.heap.size + 1) (by have := unhide HZ0; omega) (own_below o5 nb2))
  have HDI := hide hdis
  have HB4 := hide hb4
  have HB5 := hide hb5
  have HW1 := hide wf1
  have HW2 := hide wf2
  clear L HE0 HR0 nb2 bL s1 c1' g1 o4 o5 hdis hb4 hb5 wf1 wf2
  go_wp2_with fail
  refine (unhide L2).mono ?_
  generalize w1.alloc (.cells #[.slice a1 xs.length c1, .slice a2 ys.length c2] 48) = Wx at *
  rintro e w3 ⟨q, rfl, hq, s3, c3, g3⟩
  have HE := hide ((unhide HE1).trans ((ext_grown g3).mono fun k _ h => Or.inl h))
  have HR := hide ((unhide HR1).ext (ext_grown g3) (by omega))
  have HL := hide ((unhide HBL).ext (ext_grown g3) (by omega))
  replace HO4 := hide (own_ext8 (unhide HO4) (ext_grown g3) (fun c hc e => by have := unhide HB4 c hc; omega))
  replace HO5 := hide (own_ext8 (unhide HO5) (ext_grown g3) (fun c hc e => by have := unhide HB5 c hc; omega))
  have HS := hide s3
  have HC := hide c3
  clear L2 HE1 HR1 HBL s3 c3 g3
  have hLl := (unhide HL).lt
  rcases (show q = 0 ∨ q = 1 ∨ q = 2 ∨ 3 ≤ q by omega) with rfl | rfl | rfl | h3
  · have y0 := (unhide HL).at 0 _ rfl
    have y1 := (unhide HL).at 1 _ rfl
    have yf := (unhide HL).soft
    simp only [List.getElem_toArray, List.getElem_cons_zero, List.getElem_cons_succ] at y0 y1
    have nbn : Below w3.heap.size w3 (w3.alloc (.cells #[.int .i64 1] 2)) := (Below.refl _ _).alloc (Nat.le_refl _) _
    have bN : Box 0 #[.int .i64 1] 2 (w3.alloc (.cells #[.int .i64 1] 2)) w3.heap.size := newBox (Nat.zero_le _)
    have hI : IsInts (w3.alloc (.cells #[.int .i64 1] 2)) (.slice (some ⟨w3.heap.size, 0, none⟩) 1 1) [1] := ⟨_, _, rfl, by decide, fun _ => ⟨w3.heap.size, 0, rfl, fun j hj => by
      have hj2 : j < 1 := hj
      rw [Nat.zero_add]
      exact bN.at j _ (by rcases j with _ | _ | _ | j <;> first | rfl | omega)⟩⟩
    have hOw := own_below (unhide HO4) nbn
    have hZ : w.heap.size + 1 ≤ (w3.alloc (.cells #[.int .i64 1] 2)).heap.size := by simp; omega
    have HLN := hide ((unhide HL).keep nbn)
    have HRN := hide ((unhide HR).keep nbn)
    have HON := hide (own_below (unhide HO5) nbn)
    have HEN := hide ((unhide HE).trans (ext_of_below nbn _))
    have HSN := hide ((unhide HS).onW nbn)
    have HCN := hide ((unhide HC).onW (by omega) nbn)
    clear nbn bN
    go_wp2_with (at_builtin; refine wpList_append_ints hOw hI rfl _ _ rfl rfl rfl (by simp; omega) hZ ?_)
    rintro v7 w7 O7 hg7 hb7
    have E7 := ext_of_grownBy hg7
    obtain ⟨a7, c7, rfl⟩ := own_shape O7
    have hself : ∀ q, (Value.slice a1 xs.length c1).ownBlock = some q → w.heap.size + 1 < q ∧ q < w1.heap.size := unhide HB4
    have bL7 := (unhide HLN).ext E7 (fun e => by have := hself _ e; omega)
    have hnew := box_ne O7 bL7 (by decide)
    have EF : Ext (fun q => q = w1.heap.size) w7 (w7.setCell ⟨w1.heap.size, 0, none⟩ (.slice a7 (xs.length + 1) c7)) := (Ext.refl (fun q => q = w1.heap.size) _).setCell ⟨w1.heap.size, 0, none⟩ _ rfl
    have HoN : Hid (World.ownsRow (w7.setCell ⟨w1.heap.size, 0, none⟩ (.slice a7 (xs.length + 1) c7)) (w.heap.size + 1) 2 1 (.slice a7 (xs.length + 1) c7) (xs.length + 1) ((xs ++ [1]).map (Value.int .i64))) := by
      have := own_ext8 O7 EF (fun c hc e => hnew c hc e)
      rw [List.map_append]
      exact this
    have HoO := hide (own_ext8 (own_ext8 (unhide HON) E7 (fun c hc e => unhide HDI c e hc)) EF (fun c hc e => by have := unhide HB5 c hc; omega))
    have HbL := hide (bL7.set 0 (.slice a7 (xs.length + 1) c7))
    have HbR := hide (((unhide HRN).ext E7 (fun e => by have := hself _ e; omega)).other ⟨w1.heap.size, 0, none⟩ (.slice a7 (xs.length + 1) c7) (by simp; omega))
    have HEF := hide (((unhide HEN).trans (E7.mono fun k _ h => Or.inr (by have := hself _ h; omega))).trans (EF.mono fun k _ h => Or.inr (by omega)))
    have HSF := hide (((unhide HSN).extW E7 (fun e => by have := hself _ e; omega)).extW EF (by omega))
    have HCF := hide (((unhide HCN).extW (by have := hself; simp; omega) E7 (fun k hk e => by have := hself _ e; omega)).extW (by have := E7.size; simp at this; omega) EF (fun k hk e => by omega))
    have yl7 := bL7.lt
    have yf7 := bL7.soft 0
    have y7 := bL7.at 0 _ rfl
    simp only [List.getElem_toArray, List.getElem_cons_zero] at y7
    clear hOw hI hZ O7 hg7 hb7 E7 bL7 hnew EF y0 y1 yf HLN HRN HON HEN HSN HCN hself
    go_upto_region 9 with fail
    generalize w7.setCell ⟨w1.heap.size, 0, none⟩ (.slice a7 (xs.length + 1) c7) = WF at *
    have bR := unhide HbR
    have bL := unhide HbL
    simp only [List.setIfInBounds_toArray, List.set_cons_zero] at bL
    have E := unhide HEF
    have S := unhide HSF
    have C := unhide HCF
    have oN := unhide HoN
    have oO := unhide HoO
    have o4 := oN
    have o5 := oO
    have E1 : xs.length + 1 = (xs ++ [1]).length := by simp
    have E2 : ys.length = ys.length := rfl
    have W1 := snoc_wf (zs := [1]) (unhide HW1) (by decide)
    have W2 := unhide HW2
    have N1 : (xs ++ [1]).length ≤ 400 := by simp; omega
    have N2 : ys.length ≤ 400 := by omega
    clear oN oO
    have z0 := bR.at 0 _ rfl
    have z1 := bR.at 1 _ rfl
    have ff := bR.soft
    have l0 := bR.lt
    have y0 := bL.at 0 _ rfl
    have y1 := bL.at 1 _ rfl
    have yl := bL.lt
    simp only [List.getElem_toArray, List.getElem_cons_zero, List.getElem_cons_succ] at z0 z1 y0 y1
    have HF := hide (closeB (m := m) (m' := m1 + 1) E S C hbw0 (by omega) (ext_setAll (fun q => q = w.heap.size) (Ext.refl _ _) w.heap.size 0 [.slice a7 (xs.length + 1) c7, .slice a2 ys.length c2] rfl) E1 E2 o4 o5 W1 W2 N1 N2)
    clear bR bL E S C o4 o5 W1 W2 N1 N2 E1 E2
    go_wp2_with fail
    refine bodyPost_ret (v := .agg #[.slice a7 (xs.length + 1) c7, .slice a2 ys.length c2]) (by simp [results, Try.results76, go_sem, z0, z1]) rfl ?_
    exact unhide HF
  · have y0 := (unhide HL).at 0 _ rfl
    have y1 := (unhide HL).at 1 _ rfl
    have yf := (unhide HL).soft
    simp only [List.getElem_toArray, List.getElem_cons_zero, List.getElem_cons_succ] at y0 y1
    have nbn : Below w3.heap.size w3 (w3.alloc (.cells #[.int .i64 1, .int .i64 2, .int .i64 3] 2)) := (Below.refl _ _).alloc (Nat.le_refl _) _
    have bN : Box 0 #[.int .i64 1, .int .i64 2, .int .i64 3] 2 (w3.alloc (.cells #[.int .i64 1, .int .i64 2, .int .i64 3] 2)) w3.heap.size := newBox (Nat.zero_le _)
    have hI : IsInts (w3.alloc (.cells #[.int .i64 1, .int .i64 2, .int .i64 3] 2)) (.slice (some ⟨w3.heap.size, 0, none⟩) 3 3) [1, 2, 3] := ⟨_, _, rfl, by decide, fun _ => ⟨w3.heap.size, 0, rfl, fun j hj => by
      have hj2 : j < 3 := hj
      rw [Nat.zero_add]
      exact bN.at j _ (by rcases j with _ | _ | _ | j <;> first | rfl | omega)⟩⟩
    have hOw := own_below (unhide HO5) nbn
    have hZ : w.heap.size + 1 ≤ (w3.alloc (.cells #[.int .i64 1, .int .i64 2, .int .i64 3] 2)).heap.size := by simp; omega
    have HLN := hide ((unhide HL).keep nbn)
    have HRN := hide ((unhide HR).keep nbn)
    have HON := hide (own_below (unhide HO4) nbn)
    have HEN := hide ((unhide HE).trans (ext_of_below nbn _))
    have HSN := hide ((unhide HS).onW nbn)
    have HCN := hide ((unhide HC).onW (by omega) nbn)
    clear nbn bN
    go_wp2_with (at_builtin; refine wpList_append_ints hOw hI rfl _ _ rfl rfl rfl (by simp; omega) hZ ?_)
    rintro v7 w7 O7 hg7 hb7
    have E7 := ext_of_grownBy hg7
    obtain ⟨a7, c7, rfl⟩ := own_shape O7
    have hself : ∀ q, (Value.slice a2 ys.length c2).ownBlock = some q → w.heap.size + 1 < q ∧ q < w1.heap.size := unhide HB5
    have bL7 := (unhide HLN).ext E7 (fun e => by have := hself _ e; omega)
    have hnew := box_ne O7 bL7 (by decide)
    have EF : Ext (fun q => q = w1.heap.size) w7 (w7.setCell ⟨w1.heap.size, 1, none⟩ (.slice a7 (ys.length + 3) c7)) := (Ext.refl (fun q => q = w1.heap.size) _).setCell ⟨w1.heap.size, 1, none⟩ _ rfl
    have HoN : Hid (World.ownsRow (w7.setCell ⟨w1.heap.size, 1, none⟩ (.slice a7 (ys.length + 3) c7)) (w.heap.size + 1) 2 1 (.slice a7 (ys.length + 3) c7) (ys.length + 3) ((ys ++ [1, 2, 3]).map (Value.int .i64))) := by
      have := own_ext8 O7 EF (fun c hc e => hnew c hc e)
      rw [List.map_append]
      exact this
    have HoO := hide (own_ext8 (own_ext8 (unhide HON) E7 (fun c hc e => unhide HDI c hc e)) EF (fun c hc e => by have := unhide HB4 c hc; omega))
    have HbL := hide (bL7.set 1 (.slice a7 (ys.length + 3) c7))
    have HbR := hide (((unhide HRN).ext E7 (fun e => by have := hself _ e; omega)).other ⟨w1.heap.size, 1, none⟩ (.slice a7 (ys.length + 3) c7) (by simp; omega))
    have HEF := hide (((unhide HEN).trans (E7.mono fun k _ h => Or.inr (by have := hself _ h; omega))).trans (EF.mono fun k _ h => Or.inr (by omega)))
    have HSF := hide (((unhide HSN).extW E7 (fun e => by have := hself _ e; omega)).extW EF (by omega))
    have HCF := hide (((unhide HCN).extW (by have := hself; simp; omega) E7 (fun k hk e => by have := hself _ e; omega)).extW (by have := E7.size; simp at this; omega) EF (fun k hk e => by omega))
    have yl7 := bL7.lt
    have yf7 := bL7.soft 1
    have y7 := bL7.at 1 _ rfl
    simp only [List.getElem_toArray, List.getElem_cons_zero, List.getElem_cons_succ] at y7
    clear hOw hI hZ O7 hg7 hb7 E7 bL7 hnew EF y0 y1 yf HLN HRN HON HEN HSN HCN hself
    go_upto_region 9 with fail
    generalize w7.setCell ⟨w1.heap.size, 1, none⟩ (.slice a7 (ys.length + 3) c7) = WF at *
    have bR := unhide HbR
    have bL := unhide HbL
    simp only [List.setIfInBounds_toArray, List.set_cons_zero, List.set_cons_succ] at bL
    have E := unhide HEF
    have S := unhide HSF
    have C := unhide HCF
    have oN := unhide HoN
    have oO := unhide HoO
    have o4 := oO
    have o5 := oN
    have E1 : xs.length = xs.length := rfl
    have E2 : ys.length + 3 = (ys ++ [1, 2, 3]).length := by simp
    have W1 := unhide HW1
    have W2 := snoc_wf (zs := [1, 2, 3]) (unhide HW2) (by decide)
    have N1 : xs.length ≤ 400 := by omega
    have N2 : (ys ++ [1, 2, 3]).length ≤ 400 := by simp; omega
    clear oN oO
    have z0 := bR.at 0 _ rfl
    have z1 := bR.at 1 _ rfl
    have ff := bR.soft
    have l0 := bR.lt
    have y0 := bL.at 0 _ rfl
    have y1 := bL.at 1 _ rfl
    have yl := bL.lt
    simp only [List.getElem_toArray, List.getElem_cons_zero, List.getElem_cons_succ] at z0 z1 y0 y1
    have HF := hide (closeB (m := m) (m' := m1 + 1) E S C hbw0 (by omega) (ext_setAll (fun q => q = w.heap.size) (Ext.refl _ _) w.heap.size 0 [.slice a1 xs.length c1, .slice a7 (ys.length + 3) c7] rfl) E1 E2 o4 o5 W1 W2 N1 N2)
    clear bR bL E S C o4 o5 W1 W2 N1 N2 E1 E2
    go_wp2_with fail
    refine bodyPost_ret (v := .agg #[.slice a1 xs.length c1, .slice a7 (ys.length + 3) c7]) (by simp [results, Try.results76, go_sem, z0, z1]) rfl ?_
    exact unhide HF
  · obtain ⟨i0, hi, hz0, hz1, hz2⟩ := info_parts info2
    have y1 := (unhide HL).at 1 _ rfl
    have yf := (unhide HL).soft 1
    simp only [List.getElem_toArray, List.getElem_cons_zero, List.getElem_cons_succ] at y1
    go_wp2_with (at_make; refine wpList_make_full _ rfl _ _ 24 rfl w3.heap.size 2 i0 (.int .i64 0) 1 Try.underlying24 hi hz0 hz1 _ _ _ _ 321 rfl rfl rfl rfl ?c1 ?c2 ?c3 ?_)
    case c1 => rw [hz2]; omega
    case c2 => unfold maxLen; omega
    case c3 => exact Nat.le_refl _
    intro w7 O7 hg7
    rw [toList_madeCells_one] at O7
    have hb7 : Below w3.heap.size w3 w7 := (Below.refl _ _).grown hg7 (Nat.le_refl _) (by simp)
    have bL7 := (unhide HL).keep hb7
    have EF : Ext (fun q => q = w1.heap.size) w7 (w7.setCell ⟨w1.heap.size, 1, none⟩ (.slice (some ⟨w3.heap.size, 0, none⟩) 321 321)) := (Ext.refl (fun q => q = w1.heap.size) _).setCell ⟨w1.heap.size, 1, none⟩ _ rfl
    have HoN : Hid (World.ownsRow (w7.setCell ⟨w1.heap.size, 1, none⟩ (.slice (some ⟨w3.heap.size, 0, none⟩) 321 321)) (w.heap.size + 1) 2 1 (.slice (some ⟨w3.heap.size, 0, none⟩) 321 321) 321 ((List.replicate 321 (0 : Int)).map (Value.int .i64))) := by
      have := own_mono (b' := w.heap.size + 1) (by omega) (own_ext8 O7 EF (fun c hc e => by have := (O7.lt c hc).1; omega))
      rw [List.map_replicate]
      exact this
    have HoO := hide (own_ext8 (own_below (unhide HO4) hb7) EF (fun c hc e => by have := unhide HB4 c hc; omega))
    have HbL := hide (bL7.set 1 (.slice (some ⟨w3.heap.size, 0, none⟩) 321 321))
    have HbR := hide (((unhide HR).keep hb7).other ⟨w1.heap.size, 1, none⟩ (.slice (some ⟨w3.heap.size, 0, none⟩) 321 321) (by simp; omega))
    have HEF := hide (((unhide HE).trans (ext_of_below hb7 _)).trans (EF.mono fun k _ h => Or.inr (by omega)))
    have HSF := hide (((unhide HS).onW hb7).extW EF (by omega))
    have HCF := hide (((unhide HC).onW (by omega) hb7).extW (by have := hb7.size; omega) EF (fun k hk e => by omega))
    have yl7 := bL7.lt
    have yf7 := bL7.soft 1
    have y7 := bL7.at 1 _ rfl
    simp only [List.getElem_toArray, List.getElem_cons_zero, List.getElem_cons_succ] at y7
    clear O7 hg7 hb7 bL7 EF y1 yf hi hz0 hz1 hz2
    go_upto_region 9 with fail
    generalize w7.setCell ⟨w1.heap.size, 1, none⟩ (.slice (some ⟨w3.heap.size, 0, none⟩) 321 321) = WF at *
    have bR := unhide HbR
    have bL := unhide HbL
    simp only [List.setIfInBounds_toArray, List.set_cons_zero, List.set_cons_succ] at bL
    have E := unhide HEF
    have S := unhide HSF
    have C := unhide HCF
    have o4 := unhide HoO
    have o5 := unhide HoN
    have E1 : xs.length = xs.length := rfl
    have E2 : 321 = (List.replicate 321 (0 : Int)).length := by simp
    have W1 := unhide HW1
    have W2 : ∀ z ∈ List.replicate 321 (0 : Int), (Lit.int .i64 z).wf = true := fun z hz => by rw [List.eq_of_mem_replicate hz]; decide
    have N1 : xs.length ≤ 400 := by omega
    have N2 : (List.replicate 321 (0 : Int)).length ≤ 400 := by simp
    have z0 := bR.at 0 _ rfl
    have z1 := bR.at 1 _ rfl
    have ff := bR.soft
    have l0 := bR.lt
    have y0 := bL.at 0 _ rfl
    have y1 := bL.at 1 _ rfl
    have yl := bL.lt
    simp only [List.getElem_toArray, List.getElem_cons_zero, List.getElem_cons_succ] at z0 z1 y0 y1
    have HF := hide (closeB (m := m) (m' := m1 + 1) E S C hbw0 (by omega) (ext_setAll (fun q => q = w.heap.size) (Ext.refl _ _) w.heap.size 0 [.slice a1 xs.length c1, .slice (some ⟨w3.heap.size, 0, none⟩) 321 321] rfl) E1 E2 o4 o5 W1 W2 N1 N2)
    clear bR bL E S C o4 o5 W1 W2 N1 N2 E1 E2
    go_wp2_with fail
    refine bodyPost_ret (v := .agg #[.slice a1 xs.length c1, .slice (some ⟨w3.heap.size, 0, none⟩) 321 321]) (by simp [results, Try.results76, go_sem, z0, z1]) rfl ?_
    exact unhide HF
  · have hd0 : ((q : Int) == 0) = false := by simp; omega
    have hd1 : ((q : Int) == 1) = false := by simp; omega
    have hd2 : ((q : Int) == 2) = false := by simp; omega
    have bR := unhide HR
    have bL := unhide HL
    have E := unhide HE
    have S := unhide HS
    have C := unhide HC
    have o4 := unhide HO4
    have o5 := unhide HO5
    have E1 : xs.length = xs.length := rfl
    have E2 : ys.length = ys.length := rfl
    have W1 := unhide HW1
    have W2 := unhide HW2
    have N1 : xs.length ≤ 400 := by omega
    have N2 : ys.length ≤ 400 := by omega
    have z0 := bR.at 0 _ rfl
    have z1 := bR.at 1 _ rfl
    have ff := bR.soft
    have l0 := bR.lt
    have y0 := bL.at 0 _ rfl
    have y1 := bL.at 1 _ rfl
    have yl := bL.lt
    simp only [List.getElem_toArray, List.getElem_cons_zero, List.getElem_cons_succ] at z0 z1 y0 y1
    have HF := hide (closeB (m := m) (m' := m1 + 1) E S C hbw0 (by omega) (ext_setAll (fun q => q = w.heap.size) (Ext.refl _ _) w.heap.size 0 [.slice a1 xs.length c1, .slice a2 ys.length c2] rfl) E1 E2 o4 o5 W1 W2 N1 N2)
    clear bR bL E S C o4 o5 W1 W2 N1 N2 E1 E2
    go_wp2_with fail
    refine bodyPost_ret (v := .agg #[.slice a1 xs.length c1, .slice a2 ys.length c2]) (by simp [results, Try.results76, go_sem, z0, z1]) rfl ?_
    exact unhide HF
end Go.Proofs.Ytipomhpimmnchaa

namespace Go.Proofs.Ytipomhpimmnchaa
open Go.RowKit

theorem made_flat8 (row : List Value) (n : Nat) (h0 : 0 < row.length) : (madeCells row.toArray (n * row.length)).toList = (List.replicate n row).flatten := by
  have hl : (List.replicate n row).flatten.length = n * row.length := by simp
  apply List.ext_getElem?
  intro i
  by_cases hi : i < n * row.length
  · have hm := Nat.mod_lt i h0
    have hj : i / row.length < n := (Nat.div_lt_iff_lt_mul h0).2 hi
    have e := Lay.flat_at (rows := List.replicate n row) (n := row.length) (fun r hr => by rw [List.eq_of_mem_replicate hr]) (i / row.length) (i % row.length) (by simpa using hj) hm
    rw [Nat.div_add_mod' i row.length] at e
    rw [e]
    simp [madeCells, hi, hm]
  · rw [List.getElem?_eq_none (by simp [madeCells]; omega), List.getElem?_eq_none (by omega)]
theorem made41 : (madeCells #[.int .i64 0, .int .i64 0, .slice none 0 0, .int .i64 0, .int .i64 0] 205).toList = (List.replicate 41 [.int .i64 0, .int .i64 0, .slice none 0 0, .int .i64 0, .int .i64 0]).flatten :=
  made_flat8 [.int .i64 0, .int .i64 0, .slice none 0 0, .int .i64 0, .int .i64 0] 41 (by decide)
theorem zeroWrite8 (w : World) : Lay.tWrite.lies w [.int .i64 0, .int .i64 0, .slice none 0 0, .int .i64 0, .int .i64 0] ⟨0, 0, [], 0, 0⟩ [] :=
  lies_Write.2 ⟨none, 0, [], rfl, rfl, by decide, by decide, Lay.lies_ints.2 ⟨none, 0, rfl, by simp, by simp, Or.inl ⟨rfl, rfl⟩⟩, by decide, by decide⟩
theorem grow41 {w : World} {base : Nat} {v : Value} (h : w.ownsRow base 58 5 v 41 (madeCells #[.int .i64 0, .int .i64 0, .slice none 0 0, .int .i64 0, .int .i64 0] 205).toList) :
    Grow Lay.tWrite w base 58 v (List.replicate 41 [.int .i64 0, .int .i64 0, .slice none 0 0, .int .i64 0, .int .i64 0]) (List.replicate 41 ⟨0, 0, [], 0, 0⟩) (List.replicate 41 []) := by
  rw [made41] at h
  refine ⟨by rw [List.length_replicate]; exact h, by rw [List.length_replicate, List.length_replicate], by rw [List.length_replicate, List.length_replicate], fun j h1 h2 h3 => ?_, ?_⟩
  · rw [List.getElem_replicate, List.getElem_replicate, List.getElem_replicate]
    exact zeroWrite8 w
  · intro b hb
    obtain ⟨l, h1, h2⟩ := List.mem_flatten.1 hb
    rw [List.eq_of_mem_replicate h1] at h2
    simp at h2

theorem low8 {w0 w w' : World} {b : Nat} (h : w.grownBy w' (some b)) (hb : w0.heap.size = b) (hz : w0.heap.size ≤ w.heap.size) : Below w0.heap.size w w' :=
  (Below.refl _ _).grown h hz (fun k e => by cases e; omega)

set_option maxRecDepth 100000 in
set_option maxHeartbeats 4000000 in
theorem drawPA (ao : Option Addr) (len cap : Nat) (w0 : World) (hc0 : IsCode w0.heap.size w0 (.slice ao len cap)) :
    Calls Try.prog 48 #[.slice ao len cap] w0 fun e w' => ∃ (v : Value) (xs : List DWrite), e = .returned v ∧ (Lay.sl Lay.tWrite).Reads w' [v] xs ∧ xs.length ≤ 60 ∧ Below w0.heap.size w0 w' := by
  obtain ⟨cv, hcv⟩ : ∃ cv, cv = Value.slice ao len cap := ⟨_, rfl⟩
  obtain ⟨m, hm0⟩ : ∃ m : Nat, m = 0 := ⟨_, rfl⟩
  have nb0 : Below w0.heap.size w0 (w0.alloc (.cells #[.slice ao len cap, .int .i64 0] 115)) := (Below.refl _ _).alloc (Nat.le_refl _) _
  have hs : SrcAt (w0.alloc (.cells #[.slice ao len cap, .int .i64 0] 115)) w0.heap.size cv m := by rw [hcv, hm0]; exact src_new w0 _
  have hc : IsCode w0.heap.size (w0.alloc (.cells #[.slice ao len cap, .int .i64 0] 115)) cv := by rw [hcv]; exact hc0.later nb0
  have hm : m ≤ 1000 := by omega
  have HB00 := hide nb0
  clear nb0 hc0 hcv hm0
  go_enter Try.func48, Try.ntmps48
  go_wp2_with fail
  refine (source ao len cap w0).mono ?_
  rintro e w ⟨rfl, hw⟩
  rw [hw] at hs hc HB00
  clear hw
  obtain ⟨b, hbe⟩ : ∃ b, w0.heap.size = b := ⟨_, rfl⟩
  rw [hbe] at hs hc ⊢
  have HBE := hide hbe
  clear hbe
  have hbw := hs.lt
  have HL := hide (drawRight b m 9 cv w hs hc (by omega) (by omega) (by omega))
  clear hs hc
  go_wp2_with fail
  refine (unhide HL).mono ?_
  rintro e w2 ⟨v, rows, xs, bls, m', rfl, hG, hsf, hlen, s2, hm', c2, g2⟩
  have HL2 := hide (next b m' cv 10 w2 s2 c2 (by omega) (by omega) (by omega))
  have HG := hide hG
  have HSF := hide hsf
  have HGR2 := hide g2
  clear hG hsf s2 c2 g2 HL
  go_wp2_with fail
  refine (unhide HL2).mono ?_
  rintro e w3 ⟨q, rfl, hq, s3, c3, g3⟩
  replace HG := hide ((unhide HG).grown g3 hbw (unhide HSF))
  have HGR3 := hide (grown_trans (unhide HGR2) g3)
  have HS := hide s3
  have HC := hide c3
  clear s3 c3 g3 HL2 HGR2
  have hw3 : w.heap.size ≤ w3.heap.size := (unhide HGR3).size
  rcases (show q = 0 ∨ q = 1 ∨ 2 ≤ q by omega) with rfl | rfl | h2
  · have HL := hide (bentWrite b (m' + 1) _ w3 (unhide HS) (unhide HC) (by omega))
    clear HS HC
    go_wp2_with fail
    refine (unhide HL).mono ?_
    rintro e w4 ⟨cs, x, bl, m4, rfl, hl, hbl, s4, hm4, c4, g4⟩
    have hG := (unhide HG).grown g4 hbw (unhide HSF)
    have hoff : ∀ c ∈ bl, v.ownBlock ≠ some c := fun c hc e => by
      have h1 := hbl c hc
      have h2 := ((unhide HG).own.lt c e).2
      omega
    have HSF2 : Hid (∀ c ∈ (bls ++ [bl]).flatten, w.heap.size ≤ c) := flat_snoc5 (unhide HSF) (fun c hc => Nat.le_trans hw3 (hbl c hc).1)
    have HGR4 := hide (grown_trans (unhide HGR3) g4)
    have HS4 := hide s4
    have HC4 := hide c4
    have hZ : w.heap.size ≤ w4.heap.size := Nat.le_trans hw3 g4.size
    obtain ⟨a2, d2, bv, rfl, rfl, -, -, -, -, -⟩ := lies_Write.1 hl
    clear s4 c4 g4 HL HG HSF HGR3 hbl
    go_wp2_with (at_builtin; refine wpList_append_Write hG hl hoff rfl _ _ rfl rfl rfl (by omega) hZ ?_)
    intro g cap w5 hG5 hb5 hE5 hg5 hz5 hor5
    have HG5 := hide hG5
    have HS5 : Hid (SrcAt w5 b cv m4) := (hb5.block b hbw).trans (unhide HS4)
    have HC5 := hide ((unhide HC4).later (hb5.mono (Nat.le_of_lt hbw)))
    have HGR5 := hide (grown_low5 (unhide HGR4) hb5)
    clear hG hl hoff hG5 hb5 hE5 hg5 hz5 hor5 HGR4 HS4 HC4
    go_wp2_with fail
    go_ret
    exact ⟨_, _, rfl, (unhide HG5).toReads (by simp; omega), by simp; omega, (unhide HB00).trans (low8 (unhide HGR5) (unhide HBE) (unhide HB00).size)⟩
  · obtain ⟨i0, hi, hz0, hz1, hz2⟩ := info_parts infoAppWrite
    clear HG HSF
    go_wp2_with (at_make; refine wpList_make_full _ rfl _ _ 28 rfl w.heap.size 58 i0 _ 5 Try.underlying28 hi hz0 hz1 _ _ _ _ 41 rfl rfl rfl rfl ?c1 ?c2 ?c3 ?_)
    case c1 => omega
    case c2 => unfold maxLen; omega
    case c3 => omega
    intro w4 o4 g4
    have HG4 := hide (grow41 o4)
    have HB4 : Hid (Below w3.heap.size w3 w4) := (Below.refl _ _).grown g4 (Nat.le_refl _) (by simp)
    clear o4 g4 hi hz0 hz1 hz2
    have HS4 : Hid (SrcAt w4 b cv (m' + 1)) := (unhide HS).onW (unhide HB4)
    have HC4 : Hid (IsCode b w4 cv) := (unhide HC).onW (Nat.le_of_lt (unhide HS).lt) (unhide HB4)
    have HGR4 := hide (grown_low5 (unhide HGR3) ((unhide HB4).mono hw3))
    clear HS HC HGR3 HB4
    go_wp2_with fail
    go_ret
    exact ⟨_, _, rfl, (unhide HG4).toReads (by rw [List.length_replicate]; omega), by rw [List.length_replicate]; omega, (unhide HB00).trans (low8 (unhide HGR4) (unhide HBE) (unhide HB00).size)⟩
  · have d0 : ((q : Int) == 0) = false := by rw [beq_eq_false_iff_ne]; omega
    have d1 : ((q : Int) == 1) = false := by rw [beq_eq_false_iff_ne]; omega
    go_wp2_with fail
    go_ret
    exact ⟨_, _, rfl, (unhide HG).toReads (by omega), by omega, (unhide HB00).trans (low8 (unhide HGR3) (unhide HBE) (unhide HB00).size)⟩

end Go.Proofs.Ytipomhpimmnchaa

namespace Go.Proofs.Ytipomhpimmnchaa
open Go.RowKit

set_option maxHeartbeats 2000000 in
theorem nextB_some (b m cb off k cap : Nat) (n : Int) (w : World) (hs : SrcAt w b (.slice (some ⟨cb, off, none⟩) k cap) m) (hm : m ≤ 1000000000) (hn : 200 < n) (hn2 : n ≤ 1000) (hk : 0 < k) (hk2 : k ≤ 1048576) (hcb : cb < b)
    (hc : ∀ j, j < k → ∃ z : Int, w.cell? ⟨cb, off + j, none⟩ = some (.int .u8 z) ∧ 0 ≤ z ∧ z ≤ 255) :
    Calls Try.prog 74 #[.pointer (some ⟨b, 0, none⟩), .int .i64 n] w fun e w' => ∃ r : Int, e = .returned (.int .i64 r) ∧ (0 ≤ r ∧ r < n) ∧ SrcAt w' b (.slice (some ⟨cb, off, none⟩) k cap) (m + 1) ∧ w.grownBy w' (some b) := by
  have c0 := hs.c0
  have c1 := hs.c1
  have fz := hs.fz
  have HS := hide hs.set
  clear hs
  obtain ⟨z, hz, z1, z2⟩ := hc (m % k) (Nat.mod_lt _ hk)
  obtain ⟨y, hy, y1, y2⟩ := hc ((m + 1) % k) (Nat.mod_lt _ hk)
  obtain ⟨q1, q2⟩ := quot_bd m k hm
  have hd : (n == 0) = false := by rw [beq_eq_false_iff_ne]; omega
  have hd2 : ((k : Int) == 0) = false := by rw [beq_eq_false_iff_ne]; omega
  have hne : ¬ cb = b := by omega
  have hne2 : ¬ b = cb := by omega
  have r1 : 0 ≤ (m : Int) % (k : Int) := Int.emod_nonneg _ (by omega)
  have r2 : (m : Int) % (k : Int) < (k : Int) := Int.emod_lt_of_pos _ (by omega)
  have r3 : 0 ≤ ((m : Int) + 1) % (k : Int) := Int.emod_nonneg _ (by omega)
  have r4 : ((m : Int) + 1) % (k : Int) < (k : Int) := Int.emod_lt_of_pos _ (by omega)
  have e1 : (((m : Int) + 1) % (k : Int)).toNat = (m + 1) % k := by
    have h : ((m : Int) + 1) % (k : Int) = (((m + 1) % k : Nat) : Int) := by rw [Int.natCast_emod]; rfl
    rw [h]
    exact Int.toNat_natCast _
  clear hc
  go_enter Try.func74, Try.ntmps74
  go_wp2
  go_quiet (fail)
  go_wp2
  go_quiet (fail)
  go_wp2
  go_ret
  exact ⟨_, rfl, ⟨Int.emod_nonneg _ (by omega), Int.emod_lt_of_pos _ (by omega)⟩, unhide HS, grown_drawn (grown_set _ _ _ _) _⟩

/-- l1Next: a number below n. -/
theorem nextAll (b m : Nat) (cv : Value) (n : Int) (w : World) (hs : SrcAt w b cv m) (hc : IsCode b w cv) (hm : m ≤ 1000000000) (hn : 1 ≤ n) (hn2 : n ≤ 1000) :
    Calls Try.prog 74 #[.pointer (some ⟨b, 0, none⟩), .int .i64 n] w fun e w' => ∃ r : Nat, e = .returned (.int .i64 r) ∧ (r : Int) < n ∧ SrcAt w' b cv (m + 1) ∧ IsCode b w' cv ∧ w.grownBy w' (some b) := by
  by_cases h2 : n ≤ 200
  · exact next b m cv n w hs hc hm hn h2
  · have fin : ∀ (e : Ending) (w' : World), (∃ r : Int, e = .returned (.int .i64 r) ∧ (0 ≤ r ∧ r < n) ∧ SrcAt w' b cv (m + 1) ∧ w.grownBy w' (some b)) → ∃ r : Nat, e = .returned (.int .i64 r) ∧ (r : Int) < n ∧ SrcAt w' b cv (m + 1) ∧ IsCode b w' cv ∧ w.grownBy w' (some b) := by
      rintro e w' ⟨r, rfl, ⟨h1, h2⟩, h3, h4⟩
      obtain ⟨j, rfl⟩ := Int.eq_ofNat_of_zero_le h1
      exact ⟨j, rfl, h2, h3, hc.later (below_of_grown h4 (Nat.le_of_lt hs.lt)), h4⟩
    obtain ⟨ao, len, cap, rfl, hl, hc1⟩ := hc
    by_cases hp : 0 < len
    · obtain ⟨cb, off, rfl, hB, hc2⟩ := hc1 hp
      exact (nextB_some b m cb off len cap n w hs hm (by omega) hn2 hp hl hB hc2).mono fin
    · obtain rfl : len = 0 := by omega
      exact (next_empty b m ao cap n w hs hm hn).mono fin

end Go.Proofs.Ytipomhpimmnchaa
