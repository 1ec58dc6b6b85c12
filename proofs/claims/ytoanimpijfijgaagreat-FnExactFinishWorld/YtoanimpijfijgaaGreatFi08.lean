/-
  Texts of this proof in one: SpecWC, SpecWE, SpecNodeO, SpecChainF, SpecChainO.
  Their conditions stand in their theorems.
-/
import Derived.Test.YtoanimpijfijgaaGreatFi05
import Derived.Test.YtoanimpijfijgaaGreatFi06
import Derived.Test.YtoanimpijfijgaaGreatFi07
import Derived.Deep.RegionHeld3
import Derived.Deep.CutRange
import Derived.Test.YtoanimpijfijgaaGreatFi00
import Derived.Test.YtoanimpijfijgaaGreatChecked
set_option maxRecDepth 100000
set_option maxHeartbeats 4000000
namespace Go.Proofs.YtoanimpijfijgaaGreat
open Go.RowKit
abbrev o137x1 : Oper := ⟨some 3, .alloc 36, 0, "l12_world.go:81", #[], none⟩
abbrev o137x2 : Oper := ⟨some 26, .load 32 (.tmp 25), 32, "l12_world.go:83", #[⟨0, .data⟩], none⟩
theorem box_set7Z {lo : Nat} {T : TypeId} {W : World} {s : Nat} {c0 c1 c2 c3 c4 c5 c6 : Value} (h : Box lo #[c0, c1, c2, c3, c4, c5, c6] T W s) (v0 v1 v2 v3 v4 v5 v6 : Value) : Box lo #[v0, v1, v2, v3, v4, v5, v6] T (setAll W s 0 [v0, v1, v2, v3, v4, v5, v6]) s := by
 have q := (Box.set (Box.set (Box.set (Box.set (Box.set (Box.set (Box.set h 0 v0) 1 v1) 2 v2) 3 v3) 4 v4) 5 v5) 6 v6)
 simp only [List.setIfInBounds_toArray, List.set_cons_zero, List.set_cons_succ] at q
 exact q
theorem box_lowW {lo : Nat} {cs : Array Value} {T : TypeId} {W w' : World} {s B : Nat} (h : Box lo cs T W s) (hb : Below B W w') (hs : s < B) : Box lo cs T w' s := ⟨h.1, (hb.block s hs).trans h.2⟩
theorem grow_keepW {α : Type} {A : Lay α} {S : Nat → Prop} {w w' : World} {base T : Nat} {v : Value} {rows : List (List Value)} {xs : List α} {bls : List (List Nat)} (h : Grow A w base T v rows xs bls) (e : Ext S w w') (h1 : ∀ c ∈ bls.flatten, ¬ S c) (h2 : ∀ g, v.ownBlock = some g → ¬ S g) : Grow A w' base T v rows xs bls := by
 refine h.kept ?_ (fun c hc => e.block c (h.sub_lt c hc) (h1 c hc))
 obtain ⟨q1, q2⟩ := h.own
 refine ⟨q1, ?_⟩
 rcases q2 with q2 | ⟨g, cap, cu, hv, hg, hh, r⟩
 ·
  exact Or.inl q2
 exact Or.inr ⟨g, cap, cu, hv, hg, (e.block g (lt_of_block hh) (h2 g (by rw [hv]; rfl))).trans hh, r⟩
theorem liesIn_below {α : Type} {A : Lay α} {w w' : World} {cs : List Value} {x : α} {lo hi B : Nat} (h : A.LiesIn w cs x lo hi) (hb : Below B w w') (hh : hi ≤ B) : A.LiesIn w' cs x lo hi := by
 obtain ⟨bl, l, hl⟩ := h
 exact ⟨bl, A.keep l fun b hm => hb.block b (by have := hl b hm; omega), hl⟩
def wfE (e : DEntry) : Prop := (Lit.int .i64 e.kind).wf = true ∧ (Lit.int .i64 e.session).wf = true ∧ (Lit.int .i64 e.seq).wf = true ∧ (Lit.int .i64 e.id).wf = true ∧ (Lit.int .i64 e.k).wf = true ∧ (Lit.int .i64 e.start).wf = true ∧ (Lit.int .i64 e.fin).wf = true ∧ (Lit.int .i64 e.place).wf = true
def WNewH (W : World) (lo hi : Nat) (cells : List Value) (x : DWorld) : Prop := ∃ (q : WBl) (H : Nat) (rows : List (List Value)) (bls : List (List Nat)), cells = q.cells x ∧ WLie W q x ∧ (lo ≤ q.b ∧ q.b < H) ∧ (∀ c ∈ q.l3, lo ≤ c ∧ c < H) ∧ (∀ c ∈ q.r, lo ≤ c ∧ c < H) ∧ (∀ c ∈ q.l5, lo ≤ c ∧ c < H) ∧ (∀ c ∈ q.l6, H ≤ c ∧ c < hi) ∧ (lo ≤ H ∧ H ≤ hi) ∧ Grow Lay.tEntry W H 127 (.slice q.a6 x.history.length q.d6) rows x.history bls ∧ (∀ c ∈ bls.flatten, H ≤ c ∧ c < hi) ∧ (∀ g, (Value.slice q.a6 x.history.length q.d6).ownBlock = some g → H ≤ g ∧ g < hi)
theorem WNewH.toNew {W : World} {lo hi : Nat} {cells : List Value} {x : DWorld} (h : WNewH W lo hi cells x) : WNew W lo hi cells x := by
 obtain ⟨q, H, rows, bls, e, hl, hb, h3, hr, h5, h6, hH, -, -, -⟩ := h
 exact ⟨q, e, hl, by omega, fun c hc => by have := h3 c hc; omega, fun c hc => by have := hr c hc; omega, fun c hc => by have := h5 c hc; omega, fun c hc => by have := h6 c hc; omega⟩
theorem WNewH.ext {S : Nat → Prop} {W W' : World} {lo hi : Nat} {cells : List Value} {x : DWorld} (h : WNewH W lo hi cells x) (e : Ext S W W') (hs : ∀ k, lo ≤ k → k < hi → ¬ S k) : WNewH W' lo hi cells x := by
 obtain ⟨q, H, rows, bls, rfl, hl, hb, h3, hr, h5, h6, hH, hG, hB, hO⟩ := h
 refine ⟨q, H, rows, bls, rfl, hl.ext e (fun c hc hm => ?_), hb, h3, hr, h5, h6, hH, grow_keepW hG e (fun c hc => hs c (by have := hB c hc; omega) (hB c hc).2) (fun g hg => hs g (by have := hO g hg; omega) (hO g hg).2), hB, hO⟩
 rcases hm with rfl | hm | hm | hm | hm
 ·
  exact hs _ hb.1 (by omega)
 ·
  exact hs c (h3 c hm).1 (by have := h3 c hm; omega)
 ·
  exact hs c (hr c hm).1 (by have := hr c hm; omega)
 ·
  exact hs c (h5 c hm).1 (by have := h5 c hm; omega)
 exact hs c (by have := h6 c hm; omega) (h6 c hm).2
theorem WNewH.later {W W' : World} {lo hi : Nat} {cells : List Value} {x : DWorld} (h : WNewH W lo hi cells x) (hb : Below W.heap.size W W') : WNewH W' lo hi cells x := h.ext (ext_of_below hb nowhere) fun _ _ _ q => q
theorem WNewH.mono {W : World} {lo hi lo' hi' : Nat} {cells : List Value} {x : DWorld} (h : WNewH W lo hi cells x) (h1 : lo' ≤ lo) (h2 : hi ≤ hi') : WNewH W lo' hi' cells x := by
 obtain ⟨q, H, rows, bls, rfl, hl, hb, h3, hr, h5, h6, hH, hG, hB, hO⟩ := h
 exact ⟨q, H, rows, bls, rfl, hl, by omega, fun c hc => by have := h3 c hc; omega, fun c hc => by have := hr c hc; omega, fun c hc => by have := h5 c hc; omega, fun c hc => by have := h6 c hc; omega, by omega, hG, fun c hc => by have := hB c hc; omega, fun g hg => by have := hO g hg; omega⟩
theorem WNewH.reads {W : World} {lo hi : Nat} {cells : List Value} {x : DWorld} (h : WNewH W lo hi cells x) : Lay.tWorld.Reads W cells x := h.toNew.reads
theorem WNewH.count {W : World} {lo hi : Nat} {v3 v4 v5 v6 : Value} {x : DWorld} (h : WNewH W lo hi [.int .i64 x.now, .int .i64 x.events, .int .i64 x.chain.epoch, v3, v4, v5, v6] x) (n e : Int) (hn : (Lit.int .i64 n).wf = true) (he : (Lit.int .i64 e).wf = true) : WNewH W lo hi [.int .i64 n, .int .i64 e, .int .i64 x.chain.epoch, v3, v4, v5, v6] { x with now := n, events := e } := by
 obtain ⟨q, H, rows, bls, hq, hl, r⟩ := h
 simp only [WBl.cells, List.cons.injEq, and_true, true_and] at hq
 obtain ⟨rfl, rfl, rfl, rfl⟩ := hq
 exact ⟨q, H, rows, bls, rfl, ⟨hn, he, hl.w2, hl.i3, hl.i4, hl.i5, hl.i6, hl.n3, hl.n5, hl.n6⟩, r⟩
theorem l12CopyH (cs : List Value) (x : DWorld) (w : World) (h : Lay.tWorld.Reads w cs x) (hok : WorldOK x) (hf : Fits x) :
  Calls Tryz.prog 154 #[.agg cs.toArray] w fun e w' => ∃ cs', e = .returned (.agg cs'.toArray) ∧ WNewH w' w.heap.size w'.heap.size cs' x ∧ Below w.heap.size w w' := by
 obtain ⟨a3, d3, a4, d4, a5, d5, a6, d6, rfl, RC, RN, RM, RE⟩ := open_World h
 have nb : Below w.heap.size w ((w.alloc (.cells #[.int .i64 x.now, .int .i64 x.events, .int .i64 x.chain.epoch, .slice a3 x.chain.ids.length d3, .slice a4 x.nodes.length d4, .slice a5 x.msgs.length d5, .slice a6 x.history.length d6] 36)).alloc (.cells #[.int .i64 0, .int .i64 0, .int .i64 0, .slice none 0 0, .slice none 0 0, .slice none 0 0, .slice none 0 0] 36)) := ((Below.refl _ _).alloc (Nat.le_refl _) _).alloc (by simp) _
 have hz0 : ((w.alloc (.cells #[.int .i64 x.now, .int .i64 x.events, .int .i64 x.chain.epoch, .slice a3 x.chain.ids.length d3, .slice a4 x.nodes.length d4, .slice a5 x.msgs.length d5, .slice a6 x.history.length d6] 36)).alloc (.cells #[.int .i64 0, .int .i64 0, .int .i64 0, .slice none 0 0, .slice none 0 0, .slice none 0 0, .slice none 0 0] 36)).heap.size = w.heap.size + 2 := by simp
 obtain ⟨b, off, rfl, hbl⟩ := Lay.sl_addr RN (by have := hok.some; omega)
 have HX : Hid (Box 0 #[.int .i64 x.now, .int .i64 x.events, .int .i64 x.chain.epoch, .slice a3 x.chain.ids.length d3, .slice (some ⟨b, off, none⟩) x.nodes.length d4, .slice a5 x.msgs.length d5, .slice a6 x.history.length d6] 36 ((w.alloc (.cells #[.int .i64 x.now, .int .i64 x.events, .int .i64 x.chain.epoch, .slice a3 x.chain.ids.length d3, .slice (some ⟨b, off, none⟩) x.nodes.length d4, .slice a5 x.msgs.length d5, .slice a6 x.history.length d6] 36)).alloc (.cells #[.int .i64 0, .int .i64 0, .int .i64 0, .slice none 0 0, .slice none 0 0, .slice none 0 0, .slice none 0 0] 36)) w.heap.size) := (newBox (Nat.zero_le _)).grow _
 have HY : Hid (Box 0 #[.int .i64 0, .int .i64 0, .int .i64 0, .slice none 0 0, .slice none 0 0, .slice none 0 0, .slice none 0 0] 36 ((w.alloc (.cells #[.int .i64 x.now, .int .i64 x.events, .int .i64 x.chain.epoch, .slice a3 x.chain.ids.length d3, .slice (some ⟨b, off, none⟩) x.nodes.length d4, .slice a5 x.msgs.length d5, .slice a6 x.history.length d6] 36)).alloc (.cells #[.int .i64 0, .int .i64 0, .int .i64 0, .slice none 0 0, .slice none 0 0, .slice none 0 0, .slice none 0 0] 36)) (w.heap.size + 1)) := newBoxAt (Nat.zero_le _) (by simp)
 have HRC := yh (RC.later nb)
 have HRM := yh (RM.later nb)
 have HRN := yh (RN.later nb)
 have HRE := yh (RE.later nb)
 have HWF := yh (wf_World h)
 have HOK := yh hok
 have HN3 : Hid (x.chain.ids.length ≤ 100000000) := by have := (chainFault_zero hok.chain).len; show x.chain.ids.length ≤ 100000000; omega
 have HN5 : Hid (x.msgs.length ≤ 10000000 ∧ ∀ m ∈ x.msgs, m.write.vec.length ≤ 100000000) := ⟨by have := (netFault_zero hok.net).1; omega, msgs_vec hok.net⟩
 have HF := yh hf
 have HB := yh nb
 have hbl0 : b < ((w.alloc (.cells #[.int .i64 x.now, .int .i64 x.events, .int .i64 x.chain.epoch, .slice a3 x.chain.ids.length d3, .slice (some ⟨b, off, none⟩) x.nodes.length d4, .slice a5 x.msgs.length d5, .slice a6 x.history.length d6] 36)).alloc (.cells #[.int .i64 0, .int .i64 0, .int .i64 0, .slice none 0 0, .slice none 0 0, .slice none 0 0, .slice none 0 0] 36)).heap.size := Nat.lt_of_lt_of_le hbl nb.size
 clear nb h RC RN RM RE hok hf hbl
 go_enter Tryz.func154, Tryz.ntmps154
 go_upto_region 1 with fail
 generalize (w.alloc (.cells #[.int .i64 x.now, .int .i64 x.events, .int .i64 x.chain.epoch, .slice a3 x.chain.ids.length d3, .slice (some ⟨b, off, none⟩) x.nodes.length d4, .slice a5 x.msgs.length d5, .slice a6 x.history.length d6] 36)).alloc (.cells #[.int .i64 0, .int .i64 0, .int .i64 0, .slice none 0 0, .slice none 0 0, .slice none 0 0, .slice none 0 0] 36) = W0 at *
 go_cut [3] from 7 to 17 (fun s3 wx => ∃ (wz : World) (g : Nat) (v3 v5 : Value), wz = wx ∧ s3 = .pointer (some ⟨g, 0, none⟩) ∧ Box 0 #[.int .i64 x.now, .int .i64 x.events, .int .i64 x.chain.epoch, v3, .slice none 0 0, v5, .slice none 0 0] 36 wz g ∧ Clear Lay.int wz v3 x.chain.ids W0.heap.size wz.heap.size g ∧ Clear Lay.tMsg wz v5 x.msgs W0.heap.size wz.heap.size g ∧ W0.heap.size ≤ g ∧ Below W0.heap.size W0 wz)
 case first =>
  have z0 := Box.at (uh HX) 0 _ rfl
  have z1 := Box.at (uh HX) 1 _ rfl
  have z2 := Box.at (uh HX) 2 _ rfl
  have z3 := Box.at (uh HX) 3 _ rfl
  have z5 := Box.at (uh HX) 5 _ rfl
  simp only [ga, gb, gc] at z0 z1 z2 z3 z5
  have hxl := (uh HX).lt
  have HDS : W0.heap.size ≤ W0.drew.heap.size := Nat.le_refl _
  clear HX HY HRN HRE HOK HF HB
  refine wp_region_noPanic ?_
  refine wp_region_held_drew (S := fun w' => Below W0.heap.size W0 w') (by kernel_rfl) ((Below.refl _ _).drew) (fun zq => ?_)
  generalize W0.drew = wD at zq HDS ⊢
  refine tkH 0 zq ?_
  refine tkJ 1 (v := ?ve1_2) ?he1_2 zq ?re1_2
  case he1_2 =>
   intro wS hSw
   have q0 := (hSw.cell (p := ⟨w.heap.size, 0, none⟩) hxl).trans z0
   clear hSw
   (try dsimp only at hSw)
   go_simp
   try with_reducible rfl
  refine tkH 2 zq ?_
  refine tkJ 3 (v := ?ve3_4) ?he3_4 zq ?re3_4
  case he3_4 =>
   intro wS hSw
   have q1 := (hSw.cell (p := ⟨w.heap.size, 1, none⟩) hxl).trans z1
   clear hSw
   (try dsimp only at hSw)
   go_simp
   try with_reducible rfl
  refine tkH 4 zq ?_
  refine tkJ 5 (v := ?ve5_6) ?he5_6 zq ?re5_6
  case he5_6 =>
   intro wS hSw
   have q2 := (hSw.cell (p := ⟨w.heap.size, 2, none⟩) hxl).trans z2
   have q3 := (hSw.cell (p := ⟨w.heap.size, 3, none⟩) hxl).trans z3
   clear hSw
   (try dsimp only at hSw)
   go_simp
   try with_reducible rfl
  refine tkH 7 zq ?_
  refine tkJ 8 (v := ?ve8_8) ?he8_8 zq ?re8_8
  case he8_8 =>
   intro wS hSw
   have q5 := (hSw.cell (p := ⟨w.heap.size, 5, none⟩) hxl).trans z5
   clear hSw
   (try dsimp only at hSw)
   go_simp
   try with_reducible rfl
  refine wpAnyH_ready (rs := [6, 11]) (by kernel_rfl) (by simp) ?_
  refine AllReadyH.cons (o := ⟨some 13, .call { callee := .value (.func 222), args := #[.tmp 12], argTypes := #[31] }, 31, "l12_world.go:81", #[⟨5, .data⟩], none⟩) rfl (fun K hK => ?oe6_9) (AllReadyH.cons (o := o137x1) rfl (fun K hK => ?oe11_9) (AllReadyH.nil))
  case oe6_9 =>
   go_simp
   go_at_call 222
   refine (l10CopyC _ x.chain _ ((uh HRC).later zq) (uh HN3)).mono ?_
   rintro e u6 ⟨a3q, c3q, rfl, O3, hb6⟩
   have hz6 : wD.heap.size ≤ u6.heap.size := hb6.size
   try go_wp2_with fail
   refine hK.out _ _ (zq.trans (hb6.mono zq.size)) (fun zq => ?_)
   clear hK K
   try simp only [Act.put, pz, py, px]
   refine wpAnyH_ready (rs := [9, 11]) (by kernel_rfl) (by simp) ?_
   refine AllReadyH.cons (o := ⟨some 16, .call { callee := .value (.func 210), args := #[.tmp 15], argTypes := #[33] }, 33, "l12_world.go:81", #[⟨8, .data⟩, ⟨6, .chain⟩], none⟩) rfl (fun K hK => ?oe9_10) (AllReadyH.cons (o := o137x1) rfl (fun K hK => ?oe11_10) (AllReadyH.nil))
   case oe9_10 =>
    go_simp
    go_at_call 210
    refine (mcopyC _ x.msgs _ ((uh HRM).later zq) (uh HN5).1 (uh HN5).2).mono ?_
    rintro e u9 ⟨v5, rfl, ⟨rows, bls, G9, hs9⟩, hb9⟩
    have hz9 : u6.heap.size ≤ u9.heap.size := hb9.size
    obtain ⟨a5q, c5q, rfl⟩ := own_shape G9.own
    have O5 := G9.toLies (by have := (uh HN5).1; omega) hs9
    replace O3 := O3.later hb9
    try go_wp2_with fail
    refine hK.out _ _ (zq.trans (hb9.mono zq.size)) (fun zq => ?_)
    clear hK K
    try simp only [Act.put, pz, py, px]
    refine tkH 10 zq ?_
    refine rdH 11 (fun K hK => ?_)
    have HG : Hid (Box 0 #[.int .i64 0, .int .i64 0, .int .i64 0, .slice none 0 0, .slice none 0 0, .slice none 0 0, .slice none 0 0] 36 (u9.alloc (.cells #[.int .i64 0, .int .i64 0, .int .i64 0, .slice none 0 0, .slice none 0 0, .slice none 0 0, .slice none 0 0] 36)) u9.heap.size) := newBox (Nat.zero_le _)
    have hH11 := zq
    go_simp
    refine hK.out _ _ (zq.alloc zq.size _) (fun zq => ?_)
    clear hK K
    try simp only [Act.put, pz, py, px]
    refine rdH 12 (fun K hK => ?_)
    have hzD := hH11.size
    go_simp
    refine hK.out _ _ (hH11.alloc hH11.size _) (fun zq => ?_)
    clear hK K
    try simp only [Act.put, pz, py, px]
    refine wpAnyH_done (by kernel_rfl) ?_ _
    refine NoPanic.normal ?_
    go_wp2_with fail
    go_meet
    have nb2 : Below u9.heap.size u9 (u9.alloc (.cells #[.int .i64 x.now, .int .i64 x.events, .int .i64 x.chain.epoch, .slice a3q x.chain.ids.length c3q, .slice none 0 0, .slice a5q x.msgs.length c5q, .slice none 0 0] 36)) := (Below.refl _ _).alloc (Nat.le_refl _) _
    have hss : (u9.alloc (.cells #[.int .i64 x.now, .int .i64 x.events, .int .i64 x.chain.epoch, .slice a3q x.chain.ids.length c3q, .slice none 0 0, .slice a5q x.msgs.length c5q, .slice none 0 0] 36)).heap.size = u9.heap.size + 1 := by simp
    have C3 := (clear_of (g := u9.heap.size) (O3.lies.later nb2) (by omega)).wide (lo' := W0.heap.size) (hi' := (u9.alloc (.cells #[.int .i64 x.now, .int .i64 x.events, .int .i64 x.chain.epoch, .slice a3q x.chain.ids.length c3q, .slice none 0 0, .slice a5q x.msgs.length c5q, .slice none 0 0] 36)).heap.size) (by omega) (by omega)
    have C5 := (clear_of (g := u9.heap.size) (O5.later nb2) (by omega)).wide (lo' := W0.heap.size) (hi' := (u9.alloc (.cells #[.int .i64 x.now, .int .i64 x.events, .int .i64 x.chain.epoch, .slice a3q x.chain.ids.length c3q, .slice none 0 0, .slice a5q x.msgs.length c5q, .slice none 0 0] 36)).heap.size) (by omega) (by omega)
    exact ⟨_, u9.heap.size, _, _, rfl, rfl, newBox (Nat.zero_le _), C3, C5, by omega, zq⟩
   case oe11_10 =>
    have HG : Hid (Box 0 #[.int .i64 0, .int .i64 0, .int .i64 0, .slice none 0 0, .slice none 0 0, .slice none 0 0, .slice none 0 0] 36 (u6.alloc (.cells #[.int .i64 0, .int .i64 0, .int .i64 0, .slice none 0 0, .slice none 0 0, .slice none 0 0, .slice none 0 0] 36)) u6.heap.size) := newBox (Nat.zero_le _)
    have hza : u6.heap.size < (u6.alloc (.cells #[.int .i64 0, .int .i64 0, .int .i64 0, .slice none 0 0, .slice none 0 0, .slice none 0 0, .slice none 0 0] 36)).heap.size := by simp
    have nba : Below u6.heap.size u6 (u6.alloc (.cells #[.int .i64 0, .int .i64 0, .int .i64 0, .slice none 0 0, .slice none 0 0, .slice none 0 0, .slice none 0 0] 36)) := (Below.refl _ _).alloc (Nat.le_refl _) _
    replace O3 := O3.later nba
    go_simp
    refine hK.out _ _ (zq.alloc zq.size _) (fun zq => ?_)
    clear hK K
    try simp only [Act.put, pz, py, px]
    refine rdH 9 (fun K hK => ?_)
    go_simp
    go_at_call 210
    refine (mcopyC _ x.msgs _ ((uh HRM).later zq) (uh HN5).1 (uh HN5).2).mono ?_
    rintro e u9 ⟨v5, rfl, ⟨rows, bls, G9, hs9⟩, hb9⟩
    have hz9 : (u6.alloc (.cells #[.int .i64 0, .int .i64 0, .int .i64 0, .slice none 0 0, .slice none 0 0, .slice none 0 0, .slice none 0 0] 36)).heap.size ≤ u9.heap.size := hb9.size
    obtain ⟨a5q, c5q, rfl⟩ := own_shape G9.own
    have O5 := G9.toLies (by have := (uh HN5).1; omega) hs9
    have HG9 := yh ((uh HG).keep hb9)
    clear HG
    have HG := HG9
    clear HG9
    replace O3 := O3.later hb9
    try go_wp2_with fail
    refine hK.out _ _ (zq.trans (hb9.mono zq.size)) (fun zq => ?_)
    clear hK K
    try simp only [Act.put, pz, py, px]
    refine tkH 10 zq ?_
    refine rdH 12 (fun K hK => ?_)
    have hzD := zq.size
    have r0 := Box.at (uh HG) 0 _ rfl
    have r1 := Box.at (uh HG) 1 _ rfl
    have r2 := Box.at (uh HG) 2 _ rfl
    have r3 := Box.at (uh HG) 3 _ rfl
    have r4 := Box.at (uh HG) 4 _ rfl
    have r5 := Box.at (uh HG) 5 _ rfl
    have r6 := Box.at (uh HG) 6 _ rfl
    simp only [ga, gb, gc] at r0 r1 r2 r3 r4 r5 r6
    have rf := Box.soft (uh HG)
    have rl := (uh HG).lt
    go_simp
    refine hK.out _ _ (Below.setCell (Below.setCell (Below.setCell (Below.setCell (Below.setCell (Below.setCell (Below.setCell zq (p := ⟨u6.heap.size, 0, none⟩) (by simp only []; omega) (.int .i64 x.now)) (p := ⟨u6.heap.size, 1, none⟩) (by simp only []; omega) (.int .i64 x.events)) (p := ⟨u6.heap.size, 2, none⟩) (by simp only []; omega) (.int .i64 x.chain.epoch)) (p := ⟨u6.heap.size, 3, none⟩) (by simp only []; omega) (.slice a3q x.chain.ids.length c3q)) (p := ⟨u6.heap.size, 4, none⟩) (by simp only []; omega) (.slice none 0 0)) (p := ⟨u6.heap.size, 5, none⟩) (by simp only []; omega) (.slice a5q x.msgs.length c5q)) (p := ⟨u6.heap.size, 6, none⟩) (by simp only []; omega) (.slice none 0 0)) (fun zq => ?_)
    clear hK K
    try simp only [Act.put, pz, py, px]
    refine wpAnyH_done (by kernel_rfl) ?_ _
    refine NoPanic.normal ?_
    go_wp2_with fail
    go_meet
    have hbx := box_set7Z (uh HG) (.int .i64 x.now) (.int .i64 x.events) (.int .i64 x.chain.epoch) (.slice a3q x.chain.ids.length c3q) (.slice none 0 0) (.slice a5q x.msgs.length c5q) (.slice none 0 0)
    have e1 : Ext (fun q => q = u6.heap.size) u9 (setAll u9 u6.heap.size 0 [.int .i64 x.now, .int .i64 x.events, .int .i64 x.chain.epoch, .slice a3q x.chain.ids.length c3q, .slice none 0 0, .slice a5q x.msgs.length c5q, .slice none 0 0]) := ext_setAll _ (Ext.refl _ _) _ _ _ rfl
    have hss : (setAll u9 u6.heap.size 0 [.int .i64 x.now, .int .i64 x.events, .int .i64 x.chain.epoch, .slice a3q x.chain.ids.length c3q, .slice none 0 0, .slice a5q x.msgs.length c5q, .slice none 0 0]).heap.size = u9.heap.size := size_setAll _ _ _ _
    have C3 := ((clear_of (g := u6.heap.size) O3.lies (by omega)).ext e1 (fun k h1 h2 h3 h4 => h3 h4)).wide (lo' := W0.heap.size) (hi' := (setAll u9 u6.heap.size 0 [.int .i64 x.now, .int .i64 x.events, .int .i64 x.chain.epoch, .slice a3q x.chain.ids.length c3q, .slice none 0 0, .slice a5q x.msgs.length c5q, .slice none 0 0]).heap.size) (by omega) (by omega)
    have C5 := ((clear_of (g := u6.heap.size) O5 (by omega)).ext e1 (fun k h1 h2 h3 h4 => h3 h4)).wide (lo' := W0.heap.size) (hi' := (setAll u9 u6.heap.size 0 [.int .i64 x.now, .int .i64 x.events, .int .i64 x.chain.epoch, .slice a3q x.chain.ids.length c3q, .slice none 0 0, .slice a5q x.msgs.length c5q, .slice none 0 0]).heap.size) (by omega) (by omega)
    exact ⟨_, u6.heap.size, _, _, rfl, rfl, hbx, C3, C5, by omega, zq⟩
  case oe11_9 =>
   have HG : Hid (Box 0 #[.int .i64 0, .int .i64 0, .int .i64 0, .slice none 0 0, .slice none 0 0, .slice none 0 0, .slice none 0 0] 36 (wD.alloc (.cells #[.int .i64 0, .int .i64 0, .int .i64 0, .slice none 0 0, .slice none 0 0, .slice none 0 0, .slice none 0 0] 36)) wD.heap.size) := newBox (Nat.zero_le _)
   have hza : wD.heap.size < (wD.alloc (.cells #[.int .i64 0, .int .i64 0, .int .i64 0, .slice none 0 0, .slice none 0 0, .slice none 0 0, .slice none 0 0] 36)).heap.size := by simp
   have nba : Below wD.heap.size wD (wD.alloc (.cells #[.int .i64 0, .int .i64 0, .int .i64 0, .slice none 0 0, .slice none 0 0, .slice none 0 0, .slice none 0 0] 36)) := (Below.refl _ _).alloc (Nat.le_refl _) _
   go_simp
   refine hK.out _ _ (zq.alloc zq.size _) (fun zq => ?_)
   clear hK K
   try simp only [Act.put, pz, py, px]
   refine rdH 6 (fun K hK => ?_)
   go_simp
   go_at_call 222
   refine (l10CopyC _ x.chain _ ((uh HRC).later zq) (uh HN3)).mono ?_
   rintro e u6 ⟨a3q, c3q, rfl, O3, hb6⟩
   have hz6 : (wD.alloc (.cells #[.int .i64 0, .int .i64 0, .int .i64 0, .slice none 0 0, .slice none 0 0, .slice none 0 0, .slice none 0 0] 36)).heap.size ≤ u6.heap.size := hb6.size
   have HG6 := yh ((uh HG).keep hb6)
   clear HG
   have HG := HG6
   clear HG6
   try go_wp2_with fail
   refine hK.out _ _ (zq.trans (hb6.mono zq.size)) (fun zq => ?_)
   clear hK K
   try simp only [Act.put, pz, py, px]
   refine rdH 9 (fun K hK => ?_)
   go_simp
   go_at_call 210
   refine (mcopyC _ x.msgs _ ((uh HRM).later zq) (uh HN5).1 (uh HN5).2).mono ?_
   rintro e u9 ⟨v5, rfl, ⟨rows, bls, G9, hs9⟩, hb9⟩
   have hz9 : u6.heap.size ≤ u9.heap.size := hb9.size
   obtain ⟨a5q, c5q, rfl⟩ := own_shape G9.own
   have O5 := G9.toLies (by have := (uh HN5).1; omega) hs9
   have HG9 := yh ((uh HG).keep hb9)
   clear HG
   have HG := HG9
   clear HG9
   replace O3 := O3.later hb9
   try go_wp2_with fail
   refine hK.out _ _ (zq.trans (hb9.mono zq.size)) (fun zq => ?_)
   clear hK K
   try simp only [Act.put, pz, py, px]
   refine tkH 10 zq ?_
   refine rdH 12 (fun K hK => ?_)
   have hzD := zq.size
   have r0 := Box.at (uh HG) 0 _ rfl
   have r1 := Box.at (uh HG) 1 _ rfl
   have r2 := Box.at (uh HG) 2 _ rfl
   have r3 := Box.at (uh HG) 3 _ rfl
   have r4 := Box.at (uh HG) 4 _ rfl
   have r5 := Box.at (uh HG) 5 _ rfl
   have r6 := Box.at (uh HG) 6 _ rfl
   simp only [ga, gb, gc] at r0 r1 r2 r3 r4 r5 r6
   have rf := Box.soft (uh HG)
   have rl := (uh HG).lt
   go_simp
   refine hK.out _ _ (Below.setCell (Below.setCell (Below.setCell (Below.setCell (Below.setCell (Below.setCell (Below.setCell zq (p := ⟨wD.heap.size, 0, none⟩) (by simp only []; omega) (.int .i64 x.now)) (p := ⟨wD.heap.size, 1, none⟩) (by simp only []; omega) (.int .i64 x.events)) (p := ⟨wD.heap.size, 2, none⟩) (by simp only []; omega) (.int .i64 x.chain.epoch)) (p := ⟨wD.heap.size, 3, none⟩) (by simp only []; omega) (.slice a3q x.chain.ids.length c3q)) (p := ⟨wD.heap.size, 4, none⟩) (by simp only []; omega) (.slice none 0 0)) (p := ⟨wD.heap.size, 5, none⟩) (by simp only []; omega) (.slice a5q x.msgs.length c5q)) (p := ⟨wD.heap.size, 6, none⟩) (by simp only []; omega) (.slice none 0 0)) (fun zq => ?_)
   clear hK K
   try simp only [Act.put, pz, py, px]
   refine wpAnyH_done (by kernel_rfl) ?_ _
   refine NoPanic.normal ?_
   go_wp2_with fail
   go_meet
   have hbx := box_set7Z (uh HG) (.int .i64 x.now) (.int .i64 x.events) (.int .i64 x.chain.epoch) (.slice a3q x.chain.ids.length c3q) (.slice none 0 0) (.slice a5q x.msgs.length c5q) (.slice none 0 0)
   have e1 : Ext (fun q => q = wD.heap.size) u9 (setAll u9 wD.heap.size 0 [.int .i64 x.now, .int .i64 x.events, .int .i64 x.chain.epoch, .slice a3q x.chain.ids.length c3q, .slice none 0 0, .slice a5q x.msgs.length c5q, .slice none 0 0]) := ext_setAll _ (Ext.refl _ _) _ _ _ rfl
   have hss : (setAll u9 wD.heap.size 0 [.int .i64 x.now, .int .i64 x.events, .int .i64 x.chain.epoch, .slice a3q x.chain.ids.length c3q, .slice none 0 0, .slice a5q x.msgs.length c5q, .slice none 0 0]).heap.size = u9.heap.size := size_setAll _ _ _ _
   have C3 := ((clear_of (g := wD.heap.size) O3.lies (by omega)).ext e1 (fun k h1 h2 h3 h4 => h3 h4)).wide (lo' := W0.heap.size) (hi' := (setAll u9 wD.heap.size 0 [.int .i64 x.now, .int .i64 x.events, .int .i64 x.chain.epoch, .slice a3q x.chain.ids.length c3q, .slice none 0 0, .slice a5q x.msgs.length c5q, .slice none 0 0]).heap.size) (by omega) (by omega)
   have C5 := ((clear_of (g := wD.heap.size) O5 (by omega)).ext e1 (fun k h1 h2 h3 h4 => h3 h4)).wide (lo' := W0.heap.size) (hi' := (setAll u9 wD.heap.size 0 [.int .i64 x.now, .int .i64 x.events, .int .i64 x.chain.epoch, .slice a3q x.chain.ids.length c3q, .slice none 0 0, .slice a5q x.msgs.length c5q, .slice none 0 0]).heap.size) (by omega) (by omega)
   exact ⟨_, wD.heap.size, _, _, rfl, rfl, hbx, C3, C5, by omega, zq⟩
 case rest =>
  obtain ⟨W1, g, v3, v5, hW, rfl, hg, hC3, hC5, hgl, hB1⟩ := hcut
  subst hW
  obtain ⟨a3q, c3q, rfl⟩ := open_sl hC3.reads
  obtain ⟨a5q, c5q, rfl⟩ := open_sl hC5.reads
  have HC3 := yh hC3
  have HC5 := yh hC5
  have HG1 := yh hg
  have HB1 := yh hB1
  have hgB := hg.lt
  have hz1 := hB1.size
  clear hC3 hC5 hg hB1 HRC HRM HN3 HN5
  go_wp2_with fail
  go_loopw [4] (fun i wr => ∃ (k : Nat) (an : Option Addr) (mn cn : Nat) (rows : List (List Value)) (bls : List (List Nat)), k ≤ x.nodes.length ∧ i = .int .i64 (k : Int) ∧ Box 0 #[.int .i64 x.now, .int .i64 x.events, .int .i64 x.chain.epoch, .slice a3q x.chain.ids.length c3q, .slice an mn cn, .slice a5q x.msgs.length c5q, .slice none 0 0] 36 wr g ∧ Grow Lay.tNode wr W1.heap.size 84 (.slice an mn cn) rows (x.nodes.take k) bls ∧ (∀ c ∈ bls.flatten, W1.heap.size ≤ c) ∧ Ext (fun q => q = g ∨ W1.heap.size ≤ q) W1 wr) (fun i _ => x.nodes.length - (intOf i).toNat)
  case atStart => exact ⟨0, none, 0, 0, [], [], Nat.zero_le _, rfl, uh HG1, Grow.nil (World.ownsRow_nil _ _ _ _), by simp, Ext.refl _ _⟩
  case round =>
   obtain ⟨k, an, mn, cn, rows, bls, hk, rfl, hN, hG, hS, hE⟩ := hrel
   have hBr : Below W0.heap.size W0 wr := (uh HB1).trans (hE.below hz1 (fun k hk q => by rcases q with q | q <;> omega))
   have hx := box_lowW (uh HX) hBr (by omega)
   have z4 := Box.at (uh HX) 4 _ rfl
   have y4 := Box.at hx 4 _ rfl
   have y5 := Box.at hx 5 _ rfl
   simp only [ga, gb, gc] at z4 y4 y5
   have hxl := (uh HX).lt
   have hxr := hx.lt
   have hnb := (uh HRN).big
   by_cases hlt : k < x.nodes.length
   ·
    obtain ⟨row, hcl, hr⟩ := Lay.row_at (uh HRN) hlt
    have hn := nodeFault_zero ((uh HOK).nodes k hlt).1
    have HL : Hid (∀ V, Below W0.heap.size W0 V → Calls Tryz.prog 223 #[.agg row.toArray] V fun e w' => ∃ a6 d6 rows bls, e = .returned (.agg #[.int .i64 x.nodes[k].id, .bool x.nodes[k].up, .int .i64 x.nodes[k].epoch, .int .i64 x.nodes[k].lease, .slice a6 x.nodes[k].writes.length d6, .int .i64 x.nodes[k].sure, .int .i64 x.nodes[k].clean]) ∧ Grow Lay.tWrite w' V.heap.size 87 (.slice a6 x.nodes[k].writes.length d6) rows x.nodes[k].writes bls ∧ (∀ c ∈ bls.flatten, V.heap.size ≤ c) ∧ Below V.heap.size V w') := fun V hV => ncopyG _ x.nodes[k] V (hr.later hV) (by have := hn.len; omega) (node_vecs9 hn)
    have HW6 : Hid (x.nodes[k].writes.length ≤ 40 ∧ wfM x.nodes[k]) := by
     obtain ⟨_, hq⟩ := hr
     obtain ⟨_, _, _, -, -, q0, q1, q2, -, q3, q4⟩ := lies_Node.1 hq
     exact ⟨hn.len, q0, q1, q2, q3, q4⟩
    obtain ⟨aw, dw, rfl, -⟩ := open_Node hr
    have x0 : W0.cell? ⟨b, off + k * 7, none⟩ = some (.int .i64 (x.nodes[k]).id) := hcl 0 (by decide)
    have x1 : W0.cell? ⟨b, off + k * 7 + 1, none⟩ = some (.bool (x.nodes[k]).up) := hcl 1 (by decide)
    have x2 : W0.cell? ⟨b, off + k * 7 + 2, none⟩ = some (.int .i64 (x.nodes[k]).epoch) := hcl 2 (by decide)
    have x3 : W0.cell? ⟨b, off + k * 7 + 3, none⟩ = some (.int .i64 (x.nodes[k]).lease) := hcl 3 (by decide)
    have x4 : W0.cell? ⟨b, off + k * 7 + 4, none⟩ = some (.slice aw (x.nodes[k]).writes.length dw) := hcl 4 (by decide)
    have x5 : W0.cell? ⟨b, off + k * 7 + 5, none⟩ = some (.int .i64 (x.nodes[k]).sure) := hcl 5 (by decide)
    have x6 : W0.cell? ⟨b, off + k * 7 + 6, none⟩ = some (.int .i64 (x.nodes[k]).clean) := hcl 6 (by decide)
    have HT : Hid (x.nodes.take (k + 1) = x.nodes.take k ++ [x.nodes[k]]) := List.take_succ_eq_append_getElem hlt
    have HLn : Hid ((x.nodes.take k).length = k) := by show (x.nodes.take k).length = k; rw [List.length_take]; omega
    have hki : (k : Int) < (x.nodes.length : Int) := by omega
    have hdl : decide ((k : Int) < (x.nodes.length : Int)) = true := by simpa using hki
    have HBr := yh hBr
    have HS := yh hS
    have hND := hN.drew
    have hGD : Grow Lay.tNode wr.drew W1.heap.size 84 (.slice an mn cn) rows (x.nodes.take k) bls := hG.later (below_drawn (Below.refl _ _) 1)
    have hED : Ext (fun q => q = g ∨ W1.heap.size ≤ q) W1 wr.drew := hE.drew 1
    have hzD : W1.heap.size ≤ wr.drew.heap.size := hE.size
    clear hcl hr hn hx y5 hBr hS hN hG hE HG1 HC3 HC5 HX HY HRE HF HB
    generalize hnn : x.nodes[k] = n at *
    clear hnn
    generalize hxs : x.nodes.take k = xs at *
    clear hxs
    go_upto_region 5 with fail
    clear y4
    refine wp_region_noPanic ?_
    refine wp_region_held_drew (S := fun w' => Below W0.heap.size W0 w') (by kernel_rfl) ((uh HBr).drew) (fun zq => ?_)
    generalize wr.drew = wD at zq hND hGD hED hzD ⊢
    refine tkH 0 zq ?_
    refine tkH 2 zq ?_
    refine tkJ 3 (v := ?vn3_3) ?hn3_3 zq ?rn3_3
    case hn3_3 =>
     intro wS hSw
     have q4 := (hSw.cell (p := ⟨w.heap.size, 4, none⟩) hxl).trans z4
     clear hSw
     (try dsimp only at hSw)
     go_simp
     try with_reducible rfl
    refine tkH 4 zq ?_
    refine tkH 5 zq ?_
    refine tkJ 6 (v := ?vn6_6) ?hn6_6 zq ?rn6_6
    case hn6_6 =>
     intro wS hSw
     have q0 := (hSw.cell (p := ⟨b, off + k * 7, none⟩) hbl0).trans x0
     have q1 := (hSw.cell (p := ⟨b, off + k * 7 + 1, none⟩) hbl0).trans x1
     have q2 := (hSw.cell (p := ⟨b, off + k * 7 + 2, none⟩) hbl0).trans x2
     have q3 := (hSw.cell (p := ⟨b, off + k * 7 + 3, none⟩) hbl0).trans x3
     have q4 := (hSw.cell (p := ⟨b, off + k * 7 + 4, none⟩) hbl0).trans x4
     have q5 := (hSw.cell (p := ⟨b, off + k * 7 + 5, none⟩) hbl0).trans x5
     have q6 := (hSw.cell (p := ⟨b, off + k * 7 + 6, none⟩) hbl0).trans x6
     clear hSw
     (try dsimp only at hSw)
     go_simp
     try with_reducible rfl
    refine wpAnyH_ready (rs := [1, 7]) (by kernel_rfl) (by simp) ?_
    refine AllReadyH.cons (o := o137x2) rfl (fun K hK => ?on1_7) (AllReadyH.cons (o := ⟨some 32, .call { callee := .value (.func 223), args := #[.tmp 31], argTypes := #[84] }, 84, "l12_world.go:83", #[⟨6, .data⟩], none⟩) rfl (fun K hK => ?on7_7) (AllReadyH.nil))
    case on1_7 =>
     have u4 := Box.at hND 4 _ rfl
     simp only [ga, gb, gc] at u4
     go_simp
     try go_wp2_with fail
     refine hK.out _ _ zq (fun zq => ?_)
     clear hK K
     try simp only [Act.put, pz, py, px]
     refine rdH 7 (fun K hK => ?_)
     go_simp
     go_at_call 223
     refine (uh HL _ zq).mono ?_
     rintro e u7 ⟨aq, dq, rws, bw, rfl, Gw, hsw, hb7⟩
     have hN7 := hND.keep hb7
     have hG7 := hGD.later hb7
     have hE7 := hED.trans (ext_of_below hb7 _)
     have hz7 := hb7.size
     have hH7 := zq.trans (hb7.mono zq.size)
     obtain ⟨blw, hlw, hbw⟩ := Gw.toLies (by have := (uh HW6).1; omega) hsw
     have hoff : ∀ c ∈ blw, (Value.slice an mn cn).ownBlock ≠ some c := fun c hc e => by
      have h1 := (hbw c hc).1
      have h2 := (hGD.own.lt c e).2
      omega
     clear Gw hsw
     try go_wp2_with fail
     refine hK.out _ _ hH7 (fun zq => ?_)
     clear hK K
     try simp only [Act.put, pz, py, px]
     refine rdH 8 (fun K hK => ?_)
     have nb8 : Below u7.heap.size u7 (u7.alloc (.cells #[.int .i64 n.id, .bool n.up, .int .i64 n.epoch, .int .i64 n.lease, .slice aq n.writes.length dq, .int .i64 n.sure, .int .i64 n.clean] 84)) := (Below.refl _ _).alloc (Nat.le_refl _) _
     have hN8 := hN7.keep nb8
     go_simp
     try go_wp2_with fail
     refine hK.out _ _ (zq.alloc zq.size _) (fun zq => ?_)
     clear hK K
     try simp only [Act.put, pz, py, px]
     refine rdH 9 (fun K hK => ?_)
     refine step_append_Node hG7 (lies_Node.2 ⟨aq, dq, blw, rfl, rfl, (uh HW6).2.1, (uh HW6).2.2.1, (uh HW6).2.2.2.1, hlw, (uh HW6).2.2.2.2.1, (uh HW6).2.2.2.2.2⟩) hoff rfl _ _ rfl rfl rfl (by have := uh HLn; have := (uh HOK).some; omega) (by omega) ?_
     intro gq cap u9 hG9 hb9 hE9 hg9 hz9 hor9
     have hN9 := hN7.ext hE9 (fun e => by have := (hG7.own.lt g e).1; omega)
     have u9c := Box.at hN9 4 _ rfl
     simp only [ga, gb, gc] at u9c
     have uf := Box.soft hN9
     have ul := Box.lt hN9
     refine hK.out _ _ (hH7.trans (hb9.mono (by omega))) (fun zq => ?_)
     clear hK K
     try simp only [Act.put, pz, py, px]
     refine tkH 10 zq ?_
     refine rdH 11 (fun K hK => ?_)
     go_simp
     try go_wp2_with fail
     refine hK.out _ _ (Below.setCell zq (p := ⟨g, 4, none⟩) (by simp only []; omega) _) (fun zq => ?_)
     clear hK K
     try simp only [Act.put, pz, py, px]
     refine wpAnyH_done (by kernel_rfl) ?_ _
     refine NoPanic.normal ?_
     have e10 : Ext (fun q => q = g) u9 (u9.setCell ⟨g, 4, none⟩ (.slice (some ⟨gq, 0, none⟩) (xs.length + 1) cap)) := (Ext.refl (fun q => q = g) _).setCell ⟨g, 4, none⟩ _ rfl
     have hlow : ∀ c ∈ (bls ++ [blw]).flatten, W1.heap.size ≤ c := by
      intro c hc
      rw [List.flatten_append] at hc
      rcases List.mem_append.1 hc with hc | hc
      ·
       exact uh HS c hc
      have := (hbw c (by simpa using hc)).1; omega
     have hN10 := Box.set hN9 4 (.slice (some ⟨gq, 0, none⟩) (xs.length + 1) cap)
     simp only [List.setIfInBounds_toArray, List.set_cons_zero, List.set_cons_succ] at hN10
     have hown9 : ∀ q, (Value.slice (some ⟨gq, 0, none⟩) (xs.length + 1) cap).ownBlock = some q → ¬ q = g := fun q hq e => by
      have := (hG9.own.lt q hq).1
      omega
     have hG10 := grow_keepW hG9 e10 (fun c hc e => by have := hlow c hc; omega) hown9
     have hE10 := (hE7.trans (hE9.mono fun k _ h => Or.inr (by have := (hG7.own.lt k h).1; omega))).trans (e10.mono fun k _ h => Or.inl h)
     have HN10 := yh hN10
     have HG10 := yh hG10
     have HE10 := yh hE10
     have HLOW := yh hlow
     clear zq hND hGD hED hN7 hN8 hG7 hE7 hH7 hoff hlw hbw hG9 hb9 hE9 hN9 e10 hlow hN10 hown9 hG10 hE10 hor9 u4 u9c uf ul nb8 hb7
     go_wp2_with fail
     go_roundw
     case rel => exact ⟨k + 1, _, _, _, _, _, by omega, by go_num, uh HN10, by rw [uh HT]; exact uh HG10, uh HLOW, uh HE10⟩
     case measure => simp [intOf]; omega
    case on7_7 =>
     go_simp
     go_at_call 223
     refine (uh HL _ zq).mono ?_
     rintro e u7 ⟨aq, dq, rws, bw, rfl, Gw, hsw, hb7⟩
     have hN7 := hND.keep hb7
     have hG7 := hGD.later hb7
     have hE7 := hED.trans (ext_of_below hb7 _)
     have hz7 := hb7.size
     have hH7 := zq.trans (hb7.mono zq.size)
     obtain ⟨blw, hlw, hbw⟩ := Gw.toLies (by have := (uh HW6).1; omega) hsw
     have hoff : ∀ c ∈ blw, (Value.slice an mn cn).ownBlock ≠ some c := fun c hc e => by
      have h1 := (hbw c hc).1
      have h2 := (hGD.own.lt c e).2
      omega
     clear Gw hsw
     try go_wp2_with fail
     refine hK.out _ _ hH7 (fun zq => ?_)
     clear hK K
     try simp only [Act.put, pz, py, px]
     refine wpAnyH_ready (rs := [1, 8]) (by kernel_rfl) (by simp) ?_
     refine AllReadyH.cons (o := o137x2) rfl (fun K hK => ?on1_9) (AllReadyH.cons (o := ⟨some 33, .buildSlice 32 1 #[(0, .tmp 32)], 32, "l12_world.go:83", #[⟨7, .data⟩], none⟩) rfl (fun K hK => ?on8_9) (AllReadyH.nil))
     case on1_9 =>
      have u4 := Box.at hN7 4 _ rfl
      simp only [ga, gb, gc] at u4
      go_simp
      try go_wp2_with fail
      refine hK.out _ _ zq (fun zq => ?_)
      clear hK K
      try simp only [Act.put, pz, py, px]
      refine rdH 8 (fun K hK => ?_)
      have nb8 : Below u7.heap.size u7 (u7.alloc (.cells #[.int .i64 n.id, .bool n.up, .int .i64 n.epoch, .int .i64 n.lease, .slice aq n.writes.length dq, .int .i64 n.sure, .int .i64 n.clean] 84)) := (Below.refl _ _).alloc (Nat.le_refl _) _
      have hN8 := hN7.keep nb8
      go_simp
      try go_wp2_with fail
      refine hK.out _ _ (zq.alloc zq.size _) (fun zq => ?_)
      clear hK K
      try simp only [Act.put, pz, py, px]
      refine rdH 9 (fun K hK => ?_)
      refine step_append_Node hG7 (lies_Node.2 ⟨aq, dq, blw, rfl, rfl, (uh HW6).2.1, (uh HW6).2.2.1, (uh HW6).2.2.2.1, hlw, (uh HW6).2.2.2.2.1, (uh HW6).2.2.2.2.2⟩) hoff rfl _ _ rfl rfl rfl (by have := uh HLn; have := (uh HOK).some; omega) (by omega) ?_
      intro gq cap u9 hG9 hb9 hE9 hg9 hz9 hor9
      have hN9 := hN7.ext hE9 (fun e => by have := (hG7.own.lt g e).1; omega)
      have u9c := Box.at hN9 4 _ rfl
      simp only [ga, gb, gc] at u9c
      have uf := Box.soft hN9
      have ul := Box.lt hN9
      refine hK.out _ _ (hH7.trans (hb9.mono (by omega))) (fun zq => ?_)
      clear hK K
      try simp only [Act.put, pz, py, px]
      refine tkH 10 zq ?_
      refine rdH 11 (fun K hK => ?_)
      go_simp
      try go_wp2_with fail
      refine hK.out _ _ (Below.setCell zq (p := ⟨g, 4, none⟩) (by simp only []; omega) _) (fun zq => ?_)
      clear hK K
      try simp only [Act.put, pz, py, px]
      refine wpAnyH_done (by kernel_rfl) ?_ _
      refine NoPanic.normal ?_
      have e10 : Ext (fun q => q = g) u9 (u9.setCell ⟨g, 4, none⟩ (.slice (some ⟨gq, 0, none⟩) (xs.length + 1) cap)) := (Ext.refl (fun q => q = g) _).setCell ⟨g, 4, none⟩ _ rfl
      have hlow : ∀ c ∈ (bls ++ [blw]).flatten, W1.heap.size ≤ c := by
       intro c hc
       rw [List.flatten_append] at hc
       rcases List.mem_append.1 hc with hc | hc
       ·
        exact uh HS c hc
       have := (hbw c (by simpa using hc)).1; omega
      have hN10 := Box.set hN9 4 (.slice (some ⟨gq, 0, none⟩) (xs.length + 1) cap)
      simp only [List.setIfInBounds_toArray, List.set_cons_zero, List.set_cons_succ] at hN10
      have hown9 : ∀ q, (Value.slice (some ⟨gq, 0, none⟩) (xs.length + 1) cap).ownBlock = some q → ¬ q = g := fun q hq e => by
       have := (hG9.own.lt q hq).1
       omega
      have hG10 := grow_keepW hG9 e10 (fun c hc e => by have := hlow c hc; omega) hown9
      have hE10 := (hE7.trans (hE9.mono fun k _ h => Or.inr (by have := (hG7.own.lt k h).1; omega))).trans (e10.mono fun k _ h => Or.inl h)
      have HN10 := yh hN10
      have HG10 := yh hG10
      have HE10 := yh hE10
      have HLOW := yh hlow
      clear zq hND hGD hED hN7 hN8 hG7 hE7 hH7 hoff hlw hbw hG9 hb9 hE9 hN9 e10 hlow hN10 hown9 hG10 hE10 hor9 u4 u9c uf ul nb8 hb7
      go_wp2_with fail
      go_roundw
      case rel => exact ⟨k + 1, _, _, _, _, _, by omega, by go_num, uh HN10, by rw [uh HT]; exact uh HG10, uh HLOW, uh HE10⟩
      case measure => simp [intOf]; omega
     case on8_9 =>
      have nb8 : Below u7.heap.size u7 (u7.alloc (.cells #[.int .i64 n.id, .bool n.up, .int .i64 n.epoch, .int .i64 n.lease, .slice aq n.writes.length dq, .int .i64 n.sure, .int .i64 n.clean] 84)) := (Below.refl _ _).alloc (Nat.le_refl _) _
      have hN8 := hN7.keep nb8
      go_simp
      try go_wp2_with fail
      refine hK.out _ _ (zq.alloc zq.size _) (fun zq => ?_)
      clear hK K
      try simp only [Act.put, pz, py, px]
      refine rdH 1 (fun K hK => ?_)
      have u4 := Box.at hN8 4 _ rfl
      simp only [ga, gb, gc] at u4
      go_simp
      try go_wp2_with fail
      refine hK.out _ _ zq (fun zq => ?_)
      clear hK K
      try simp only [Act.put, pz, py, px]
      refine rdH 9 (fun K hK => ?_)
      refine step_append_Node hG7 (lies_Node.2 ⟨aq, dq, blw, rfl, rfl, (uh HW6).2.1, (uh HW6).2.2.1, (uh HW6).2.2.2.1, hlw, (uh HW6).2.2.2.2.1, (uh HW6).2.2.2.2.2⟩) hoff rfl _ _ rfl rfl rfl (by have := uh HLn; have := (uh HOK).some; omega) (by omega) ?_
      intro gq cap u9 hG9 hb9 hE9 hg9 hz9 hor9
      have hN9 := hN7.ext hE9 (fun e => by have := (hG7.own.lt g e).1; omega)
      have u9c := Box.at hN9 4 _ rfl
      simp only [ga, gb, gc] at u9c
      have uf := Box.soft hN9
      have ul := Box.lt hN9
      refine hK.out _ _ (hH7.trans (hb9.mono (by omega))) (fun zq => ?_)
      clear hK K
      try simp only [Act.put, pz, py, px]
      refine tkH 10 zq ?_
      refine rdH 11 (fun K hK => ?_)
      go_simp
      try go_wp2_with fail
      refine hK.out _ _ (Below.setCell zq (p := ⟨g, 4, none⟩) (by simp only []; omega) _) (fun zq => ?_)
      clear hK K
      try simp only [Act.put, pz, py, px]
      refine wpAnyH_done (by kernel_rfl) ?_ _
      refine NoPanic.normal ?_
      have e10 : Ext (fun q => q = g) u9 (u9.setCell ⟨g, 4, none⟩ (.slice (some ⟨gq, 0, none⟩) (xs.length + 1) cap)) := (Ext.refl (fun q => q = g) _).setCell ⟨g, 4, none⟩ _ rfl
      have hlow : ∀ c ∈ (bls ++ [blw]).flatten, W1.heap.size ≤ c := by
       intro c hc
       rw [List.flatten_append] at hc
       rcases List.mem_append.1 hc with hc | hc
       ·
        exact uh HS c hc
       have := (hbw c (by simpa using hc)).1; omega
      have hN10 := Box.set hN9 4 (.slice (some ⟨gq, 0, none⟩) (xs.length + 1) cap)
      simp only [List.setIfInBounds_toArray, List.set_cons_zero, List.set_cons_succ] at hN10
      have hown9 : ∀ q, (Value.slice (some ⟨gq, 0, none⟩) (xs.length + 1) cap).ownBlock = some q → ¬ q = g := fun q hq e => by
       have := (hG9.own.lt q hq).1
       omega
      have hG10 := grow_keepW hG9 e10 (fun c hc e => by have := hlow c hc; omega) hown9
      have hE10 := (hE7.trans (hE9.mono fun k _ h => Or.inr (by have := (hG7.own.lt k h).1; omega))).trans (e10.mono fun k _ h => Or.inl h)
      have HN10 := yh hN10
      have HG10 := yh hG10
      have HE10 := yh hE10
      have HLOW := yh hlow
      clear zq hND hGD hED hN7 hN8 hG7 hE7 hH7 hoff hlw hbw hG9 hb9 hE9 hN9 e10 hlow hN10 hown9 hG10 hE10 hor9 u4 u9c uf ul nb8 hb7
      go_wp2_with fail
      go_roundw
      case rel => exact ⟨k + 1, _, _, _, _, _, by omega, by go_num, uh HN10, by rw [uh HT]; exact uh HG10, uh HLOW, uh HE10⟩
      case measure => simp [intOf]; omega
   obtain rfl : k = x.nodes.length := by omega
   have hdl : decide ((x.nodes.length : Int) < (x.nodes.length : Int)) = false := by simp
   rw [List.take_length] at hG
   have hnp := (uh HOK).some
   rcases hG.form with ⟨-, h0⟩ | ⟨g4, c4, hv, hg4, hg4l, hcap4⟩
   ·
    exact absurd h0 (by intro q; rw [q] at hnp; simp at hnp)
   simp only [Value.slice.injEq] at hv
   obtain ⟨rfl, rfl, rfl⟩ := hv
   have hA : Lay.tNode.Apart wr (.slice (some ⟨g4, 0, none⟩) x.nodes.length cn) x.nodes g4 bls.flatten := by
    rcases hG.reads (by omega) with q | ⟨q, -⟩
    ·
     have q2 : (Lay.sl Lay.tNode).lies wr [.slice (some ⟨g4, 0, none⟩) x.nodes.length cn] x.nodes (if x.nodes = [] then [] else g4 :: bls.flatten) := q
     rw [if_neg (by intro q; rw [q] at hnp; simp at hnp)] at q2
     exact ⟨q2, fun hm => hG.off g4 hm rfl, fun o => hG.own.frozenAt o⟩
    exact absurd q (by intro q; rw [q] at hnp; simp at hnp)
   have hlt4 := hG.sub_lt
   have HA := yh hA
   have HS4 : Hid (∀ c ∈ bls.flatten, W1.heap.size ≤ c ∧ c < wr.heap.size) := fun c hc => ⟨hS c hc, hlt4 c hc⟩
   have HE4 := yh hE
   have HN4 := yh hN
   have HBr := yh hBr
   rename World => W2
   clear hA hlt4 hG hS hE hN hBr hx z4 hcap4 HG1
   generalize hbf : bls.flatten = r4 at *
   clear hbf rows
   have hz2 := (uh HE4).size
   have hB2 := (uh HN4).lt
   go_wp2_with fail
   clear y4 y5 hdl
   go_loopw [5] (fun i wr => ∃ (k : Nat) (an : Option Addr) (mn cn6 : Nat) (rows : List (List Value)) (bls : List (List Nat)), k ≤ x.history.length ∧ i = .int .i64 (k : Int) ∧ Box 0 #[.int .i64 x.now, .int .i64 x.events, .int .i64 x.chain.epoch, .slice a3q x.chain.ids.length c3q, .slice (some ⟨g4, 0, none⟩) x.nodes.length cn, .slice a5q x.msgs.length c5q, .slice an mn cn6] 36 wr g ∧ Grow Lay.tEntry wr W2.heap.size 127 (.slice an mn cn6) rows (x.history.take k) bls ∧ (∀ c ∈ bls.flatten, W2.heap.size ≤ c) ∧ Ext (fun q => q = g ∨ W2.heap.size ≤ q) W2 wr) (fun i _ => x.history.length - (intOf i).toNat)
   case atStart => exact ⟨0, none, 0, 0, [], [], Nat.zero_le _, rfl, uh HN4, Grow.nil (World.ownsRow_nil _ _ _ _), by simp, Ext.refl _ _⟩
   case round =>
    obtain ⟨k, an, mn, cn6, rows, bls, hk, rfl, hN, hG, hS, hE⟩ := hrel
    have hBr2 : Below W0.heap.size W0 wr := (uh HBr).trans (hE.below (by omega) (fun k hk q => by rcases q with q | q <;> omega))
    have hx := box_lowW (uh HX) hBr2 (by omega)
    have y6 := Box.at hx 6 _ rfl
    simp only [ga, gb, gc] at y6
    have hxr := hx.lt
    have hhb := (uh HRE).big
    by_cases hlt : k < x.history.length
    ·
     obtain ⟨be, oe, rfl, hbe⟩ := Lay.sl_addr (uh HRE) (by omega)
     obtain ⟨row, hcl, hr⟩ := Lay.row_at ((uh HRE).later hBr2) hlt
     have HFE := yh (uh HF x.history[k] (List.getElem_mem hlt))
     have HWE : Hid (wfE x.history[k]) := by
      obtain ⟨_, hq⟩ := hr
      obtain ⟨_, _, _, _, _, _, _, _, _, -, -, q0, q1, q2, q3, -, q5, q6, q7, q8, -, -⟩ := lies_Entry.1 hq
      exact ⟨q0, q1, q2, q3, q5, q6, q7, q8⟩
     obtain ⟨aq, dq, av, dv, ah, dh, rfl, Rq, Rv, Rh⟩ := open_Entry hr
     have x0 : wr.cell? ⟨be, oe + k * 11, none⟩ = some (.int .i64 (x.history[k]).kind) := hcl 0 (by decide)
     have x1 : wr.cell? ⟨be, oe + k * 11 + 1, none⟩ = some (.int .i64 (x.history[k]).session) := hcl 1 (by decide)
     have x2 : wr.cell? ⟨be, oe + k * 11 + 2, none⟩ = some (.int .i64 (x.history[k]).seq) := hcl 2 (by decide)
     have x3 : wr.cell? ⟨be, oe + k * 11 + 3, none⟩ = some (.int .i64 (x.history[k]).id) := hcl 3 (by decide)
     have x4 : wr.cell? ⟨be, oe + k * 11 + 4, none⟩ = some (.slice aq (x.history[k]).query.length dq) := hcl 4 (by decide)
     have x5 : wr.cell? ⟨be, oe + k * 11 + 5, none⟩ = some (.int .i64 (x.history[k]).k) := hcl 5 (by decide)
     have x6 : wr.cell? ⟨be, oe + k * 11 + 6, none⟩ = some (.int .i64 (x.history[k]).start) := hcl 6 (by decide)
     have x7 : wr.cell? ⟨be, oe + k * 11 + 7, none⟩ = some (.int .i64 (x.history[k]).fin) := hcl 7 (by decide)
     have x8 : wr.cell? ⟨be, oe + k * 11 + 8, none⟩ = some (.int .i64 (x.history[k]).place) := hcl 8 (by decide)
     have x9 : wr.cell? ⟨be, oe + k * 11 + 9, none⟩ = some (.slice av (x.history[k]).vec.length dv) := hcl 9 (by decide)
     have x10 : wr.cell? ⟨be, oe + k * 11 + 10, none⟩ = some (.slice ah (x.history[k]).hits.length dh) := hcl 10 (by decide)
     have HT : Hid (x.history.take (k + 1) = x.history.take k ++ [x.history[k]]) := List.take_succ_eq_append_getElem hlt
     have HLn : Hid ((x.history.take k).length = k) := by show (x.history.take k).length = k; rw [List.length_take]; omega
     have hki : (k : Int) < (x.history.length : Int) := by omega
     have hdl : decide ((k : Int) < (x.history.length : Int)) = true := by simpa using hki
     have hbr : be < wr.heap.size := Nat.lt_of_lt_of_le hbe hBr2.size
     have HRQ := yh Rq
     have HRV := yh Rv
     have HRH := yh Rh
     have HS := yh hS
     have HN := yh hN
     have HG := yh hG
     have HE := yh hE
     have hzr := hE.size
     have HZ : Hid (W2.heap.size ≤ wr.heap.size ∧ g < W2.heap.size) := ⟨hE.size, hB2⟩
     clear hcl hr hx hBr2 hS hN hG hE HC3 HC5 HX HY HF HB HA HS4 HE4 HN4 HBr HB1 HRN Rq Rv Rh
     generalize hnn : x.history[k] = e at *
     clear hnn
     generalize hxs : x.history.take k = xs at *
     clear hxs
     have nb9 : Below wr.heap.size wr (wr.alloc (.cells #[.int .i64 e.kind, .int .i64 e.session, .int .i64 e.seq, .int .i64 e.id, .slice aq e.query.length dq, .int .i64 e.k, .int .i64 e.start, .int .i64 e.fin, .int .i64 e.place, .slice av e.vec.length dv, .slice ah e.hits.length dh] 127)) := (Below.refl _ _).alloc (Nat.le_refl _) _
     have hI9 : Box 0 #[.int .i64 e.kind, .int .i64 e.session, .int .i64 e.seq, .int .i64 e.id, .slice aq e.query.length dq, .int .i64 e.k, .int .i64 e.start, .int .i64 e.fin, .int .i64 e.place, .slice av e.vec.length dv, .slice ah e.hits.length dh] 127 (wr.alloc (.cells #[.int .i64 e.kind, .int .i64 e.session, .int .i64 e.seq, .int .i64 e.id, .slice aq e.query.length dq, .int .i64 e.k, .int .i64 e.start, .int .i64 e.fin, .int .i64 e.place, .slice av e.vec.length dv, .slice ah e.hits.length dh] 127)) wr.heap.size := newBox (Nat.zero_le _)
     have hz9 : (wr.alloc (.cells #[.int .i64 e.kind, .int .i64 e.session, .int .i64 e.seq, .int .i64 e.id, .slice aq e.query.length dq, .int .i64 e.k, .int .i64 e.start, .int .i64 e.fin, .int .i64 e.place, .slice av e.vec.length dv, .slice ah e.hits.length dh] 127)).heap.size = wr.heap.size + 1 := by simp
     have HI9 := yh hI9
     have HB9 := yh nb9
     clear nb9 hI9
     go_upto_region 10 with fail
     generalize wr.alloc (.cells #[.int .i64 e.kind, .int .i64 e.session, .int .i64 e.seq, .int .i64 e.id, .slice aq e.query.length dq, .int .i64 e.k, .int .i64 e.start, .int .i64 e.fin, .int .i64 e.place, .slice av e.vec.length dv, .slice ah e.hits.length dh] 127) = w9 at *
     clear x0 x1 x2 x3 x4 x5 x6 x7 x8 x9 x10 y6
     have HL := yh (l1Ints _ e.query w9 (Lay.ints_reads ((uh HRQ).later (uh HB9))) (by have := (uh HFE).1; omega))
     have HWQ := yh (Lay.ints_reads (uh HRQ)).wf
     have k4 := Box.at (uh HI9) 4 _ rfl
     simp only [ga, gb, gc] at k4
     have kl := (uh HI9).lt
     go_wp2_with fail
     refine (uh HL).mono ?_
     rintro ee w10 ⟨vq, rfl, Oq, hb10⟩
     obtain ⟨aq2, dq2, rfl⟩ := own_shape Oq
     have Iq := Lay.ownInts (uh HWQ) (by have := (uh HFE).1; omega) Oq
     have hI10 := (uh HI9).keep hb10
     clear k4
     have k4 := Box.at hI10 4 _ rfl
     have kf := Box.soft hI10
     simp only [ga, gb, gc] at k4
     have e10 : Ext (fun q => q = wr.heap.size) w10 (w10.setCell ⟨wr.heap.size, 4, none⟩ (.slice aq2 e.query.length dq2)) := (Ext.refl _ _).setCell _ _ rfl
     have hI10s := Box.set hI10 4 (.slice aq2 e.query.length dq2)
     simp only [List.setIfInBounds_toArray, List.set_cons_zero, List.set_cons_succ] at hI10s
     have hz10 := hb10.size
     have HIQ := yh ((Iq.lies.mono (show wr.heap.size + 1 ≤ w9.heap.size by omega) (Nat.le_refl _)).ext e10 (fun q h1 h2 h3 => by omega))
     have HI10 := yh hI10s
     have HB10 := yh ((Below.setCell ((uh HB9).trans (hb10.mono (uh HB9).size)) (p := ⟨wr.heap.size, 4, none⟩) (Nat.le_refl _) (.slice aq2 e.query.length dq2)))
     have hz10s : w10.heap.size = (w10.setCell ⟨wr.heap.size, 4, none⟩ (.slice aq2 e.query.length dq2)).heap.size := by simp
     have kl10 := hI10.lt
     clear hI10 hI10s e10 Oq Iq hb10 HL HI9 HB9 HWQ HRQ
     go_upto_region 11 with fail
     clear k4 kf kl
     generalize hw11 : w10.setCell ⟨wr.heap.size, 4, none⟩ (.slice aq2 e.query.length dq2) = w11 at *
     clear hw11
     have HL := yh (l1Ints _ e.vec w11 (Lay.ints_reads ((uh HRV).later (uh HB10))) (by have := (uh HFE).2.1; omega))
     have HWQ := yh (Lay.ints_reads (uh HRV)).wf
     have k4 := Box.at (uh HI10) 9 _ rfl
     simp only [ga, gb, gc] at k4
     have kl := (uh HI10).lt
     go_wp2_with fail
     refine (uh HL).mono ?_
     rintro ee w14 ⟨vq, rfl, Oq, hb14⟩
     obtain ⟨av2, dv2, rfl⟩ := own_shape Oq
     have Iq := Lay.ownInts (uh HWQ) (by have := (uh HFE).2.1; omega) Oq
     have hI14 := (uh HI10).keep hb14
     clear k4
     have k4 := Box.at hI14 9 _ rfl
     have kf := Box.soft hI14
     simp only [ga, gb, gc] at k4
     have e14 : Ext (fun q => q = wr.heap.size) w14 (w14.setCell ⟨wr.heap.size, 9, none⟩ (.slice av2 e.vec.length dv2)) := (Ext.refl _ _).setCell _ _ rfl
     have hI14s := Box.set hI14 9 (.slice av2 e.vec.length dv2)
     simp only [List.setIfInBounds_toArray, List.set_cons_zero, List.set_cons_succ] at hI14s
     have hz14 := hb14.size
     have HIV := yh ((Iq.lies.mono (show wr.heap.size + 1 ≤ w11.heap.size by omega) (Nat.le_refl _)).ext e14 (fun q h1 h2 h3 => by omega))
     have HIQ2 := yh (((uh HIQ).mono (Nat.le_refl _) (show w10.heap.size ≤ w11.heap.size by omega)).later hb14 |>.ext e14 (fun q h1 h2 h3 => by omega))
     have HI14 := yh hI14s
     have HB14 := yh ((Below.setCell ((uh HB10).trans (hb14.mono (uh HB10).size)) (p := ⟨wr.heap.size, 9, none⟩) (Nat.le_refl _) (.slice av2 e.vec.length dv2)))
     have hz14s : w14.heap.size = (w14.setCell ⟨wr.heap.size, 9, none⟩ (.slice av2 e.vec.length dv2)).heap.size := by simp
     clear hI14 hI14s e14 Oq Iq hb14 HL HI10 HB10 HWQ HRV HIQ
     go_upto_region 12 with fail
     clear k4 kf kl
     generalize hw15 : w14.setCell ⟨wr.heap.size, 9, none⟩ (.slice av2 e.vec.length dv2) = w15 at *
     clear hw15
     have nbh : Below w15.heap.size w15 (w15.alloc (.cells #[] 196)) := (Below.refl _ _).alloc (Nat.le_refl _) _
     have hGH : Grow Lay.tHit (w15.alloc (.cells #[] 196)) w15.heap.size 196 (.slice (some ⟨w15.heap.size, 0, none⟩) 0 0) [] [] [] := Grow.nil (World.ownsRow_lit w15 #[] 0 (Nat.le_refl _) (Nat.zero_le _) rfl)
     have hXH : (Lay.sl Lay.tHit).LiesIn (w15.alloc (.cells #[] 196)) [.slice ah e.hits.length dh] e.hits 0 w15.heap.size := (((uh HRH).liesIn.mono (Nat.le_refl _) (show wr.heap.size ≤ w15.heap.size by omega)).later (uh HB14)).later nbh
     have hI15 := (uh HI14).keep nbh
     have HI15 := yh hI15
     have k4 := Box.at hI15 10 _ rfl
     have k5 := Box.at (uh HI14) 10 _ rfl
     simp only [ga, gb, gc] at k4 k5
     have kl := hI15.lt
     have hzh : (w15.alloc (.cells #[] 196)).heap.size = w15.heap.size + 1 := by simp
     clear hI15
     go_wp2_with (at_builtin; refine wpList_append_hitsL hGH hXH rfl _ _ rfl rfl rfl ?hh1 ?hh2 ?_)
     case hh1 => have := (uh HFE).2.2; simp only [List.length_nil]; omega
     case hh2 => omega
     intro ah2 mh2 dh2 w16 rh bh hG16 hb16 hm16 hz16
     have hm16' : mh2 = e.hits.length := hm16.trans (by simp)
     subst hm16'
     clear hm16
     have hI16 := box_lowW (uh HI15) hb16 (by omega)
     clear k4 k5 kl
     have k4 := Box.at hI16 10 _ rfl
     have kf := Box.soft hI16
     have kl := hI16.lt
     simp only [ga, gb, gc] at k4
     have e16 : Ext (fun q => q = wr.heap.size) w16 (w16.setCell ⟨wr.heap.size, 10, none⟩ (.slice ah2 e.hits.length dh2)) := (Ext.refl _ _).setCell _ _ rfl
     have hI16s := Box.set hI16 10 (.slice ah2 e.hits.length dh2)
     simp only [List.setIfInBounds_toArray, List.set_cons_zero, List.set_cons_succ] at hI16s
     have hbt : bh.flatten = [] := by
      rw [List.flatten_eq_nil_iff]
      intro l hl
      obtain ⟨j, hj, rfl⟩ := List.getElem_of_mem hl
      have q1 := hG16.nbls
      have q2 := hG16.nrows
      exact (lies_Hit.1 (hG16.lies j (by omega) (by omega) hj)).2.1
     have HIH := yh ((((hG16.toLies (by have := (uh HFE).2.2; omega) (fun c hc => by rw [hbt] at hc; cases hc)).mono (show wr.heap.size + 1 ≤ w15.heap.size by omega) (Nat.le_refl _))).ext e16 (fun q h1 h2 h3 => by omega))
     have HIV3 := yh ((liesIn_below (((uh HIV).mono (Nat.le_refl _) (show w14.heap.size ≤ w15.heap.size by omega)).later nbh) hb16 (Nat.le_refl _)).ext e16 (fun q h1 h2 h3 => by omega))
     have HIQ3 := yh ((liesIn_below (((uh HIQ2).mono (Nat.le_refl _) (show w11.heap.size ≤ w15.heap.size by omega)).later nbh) hb16 (Nat.le_refl _)).ext e16 (fun q h1 h2 h3 => by omega))
     have HB16 := yh (Below.setCell (((uh HB14).trans (nbh.mono (by omega))).trans (hb16.mono (by omega))) (p := ⟨wr.heap.size, 10, none⟩) (Nat.le_refl _) (.slice ah2 e.hits.length dh2))
     have hz16s : w16.heap.size = (w16.setCell ⟨wr.heap.size, 10, none⟩ (.slice ah2 e.hits.length dh2)).heap.size := by simp
     have HI16 := yh hI16s
     clear hI16 hI16s e16 hbt hG16 hb16 hGH hXH nbh HI15 HI14 HB14 HIV HIQ2 HRH
     go_upto_region 13 with fail
     clear k4 kf kl
     generalize hw12 : w16.setCell ⟨wr.heap.size, 10, none⟩ (.slice ah2 e.hits.length dh2) = w12 at *
     clear hw12
     obtain ⟨lq, lq1, lq2⟩ := uh HIQ3
     obtain ⟨lv, lv1, lv2⟩ := uh HIV3
     obtain ⟨lh, lh1, lh2⟩ := uh HIH
     have hLE : Lay.tEntry.lies w12 [.int .i64 e.kind, .int .i64 e.session, .int .i64 e.seq, .int .i64 e.id, .slice aq2 e.query.length dq2, .int .i64 e.k, .int .i64 e.start, .int .i64 e.fin, .int .i64 e.place, .slice av2 e.vec.length dv2, .slice ah2 e.hits.length dh2] e (lq ++ (lv ++ lh)) := by
      obtain ⟨q0, q1, q2, q3, q5, q6, q7, q8⟩ := uh HWE
      exact lies_Entry.2 ⟨aq2, dq2, lq, av2, dv2, lv, ah2, dh2, lh, rfl, rfl, q0, q1, q2, q3, lq1, q5, q6, q7, q8, lv1, lh1⟩
     have HBL0 : Hid (∀ c ∈ lq ++ (lv ++ lh), wr.heap.size ≤ c) := fun c hc => by
      simp only [List.mem_append] at hc
      rcases hc with hc | hc | hc
      ·
       have := lq2 c hc; omega
      ·
       have := lv2 c hc; omega
      have := lh2 c hc; omega
     clear lq1 lq2 lv1 lv2 lh1 lh2 HIQ3 HIV3 HIH
     generalize lq ++ (lv ++ lh) = ble at *
     have HBL : Hid (∀ c ∈ ble, W2.heap.size ≤ c) := fun c hc => Nat.le_trans (uh HZ).1 (uh HBL0 c hc)
     have hoff : ∀ c ∈ ble, (Value.slice an mn cn6).ownBlock ≠ some c := fun c hc q => by
      have h1 := uh HBL0 c hc
      have h2 := ((uh HG).own.lt c q).2
      omega
     have HLE := yh hLE
     have hND : Box 0 #[.int .i64 x.now, .int .i64 x.events, .int .i64 x.chain.epoch, .slice a3q x.chain.ids.length c3q, .slice (some ⟨g4, 0, none⟩) x.nodes.length cn, .slice a5q x.msgs.length c5q, .slice an mn cn6] 36 w12 g := (uh HN).keep (uh HB16)
     have hGD : Grow Lay.tEntry w12 W2.heap.size 127 (.slice an mn cn6) rows xs bls := (uh HG).later (uh HB16)
     have hED : Ext (fun q => q = g ∨ W2.heap.size ≤ q) W2 w12 := (uh HE).trans (ext_of_below (uh HB16) _)
     have hzD : w16.heap.size ≤ w12.heap.size := by omega
     have HGE : Hid (g < wr.heap.size ∧ (∀ k, (Value.slice an mn cn6).ownBlock = some k → k < wr.heap.size) ∧ g < W2.heap.size) := ⟨by omega, fun k hk => ((uh HG).own.lt k hk).2, hB2⟩
     have y0 := Box.at (uh HI16) 0 _ rfl
     have y1 := Box.at (uh HI16) 1 _ rfl
     have y2 := Box.at (uh HI16) 2 _ rfl
     have y3 := Box.at (uh HI16) 3 _ rfl
     have y4 := Box.at (uh HI16) 4 _ rfl
     have y5 := Box.at (uh HI16) 5 _ rfl
     have y6 := Box.at (uh HI16) 6 _ rfl
     have y7 := Box.at (uh HI16) 7 _ rfl
     have y8 := Box.at (uh HI16) 8 _ rfl
     have y9 := Box.at (uh HI16) 9 _ rfl
     have y10 := Box.at (uh HI16) 10 _ rfl
     simp only [ga, gb, gc] at y0 y1 y2 y3 y4 y5 y6 y7 y8 y9 y10
     have hel : wr.heap.size < w12.heap.size := (uh HI16).lt
     clear hLE HI16 HN HG HE HB16 HFE HWE
     have u4 := Box.at hND 6 _ rfl
     simp only [ga, gb, gc] at u4
     have ul0 := Box.lt hND
     go_wp2_with (at_builtin; refine wpList_append_Entry hGD (uh HLE) hoff rfl _ _ rfl rfl rfl ?hq3 ?hq4 ?_)
     case hq3 => have := uh HLn; have := (uh HOK).few; omega
     case hq4 => omega
     intro gq cap u9 hG9 hb9 hE9 hg9 hz9 hor9
     have hN9 := hND.ext hE9 (fun e => by have := (hGD.own.lt g e).1; omega)
     have u9c := Box.at hN9 6 _ rfl
     simp only [ga, gb, gc] at u9c
     have uf := Box.soft hN9
     have ul := Box.lt hN9
     have e10 : Ext (fun q => q = g) u9 (u9.setCell ⟨g, 6, none⟩ (.slice (some ⟨gq, 0, none⟩) (xs.length + 1) cap)) := (Ext.refl (fun q => q = g) _).setCell ⟨g, 6, none⟩ _ rfl
     have hlow : ∀ c ∈ (bls ++ [ble]).flatten, W2.heap.size ≤ c := by
      intro c hc
      rw [List.flatten_append] at hc
      rcases List.mem_append.1 hc with hc | hc
      ·
       exact uh HS c hc
      exact uh HBL c (by simpa using hc)
     have hN10 := Box.set hN9 6 (.slice (some ⟨gq, 0, none⟩) (xs.length + 1) cap)
     simp only [List.setIfInBounds_toArray, List.set_cons_zero, List.set_cons_succ] at hN10
     have hown9 : ∀ q, (Value.slice (some ⟨gq, 0, none⟩) (xs.length + 1) cap).ownBlock = some q → ¬ q = g := fun q hq e => by
      have := (hG9.own.lt q hq).1
      have := uh HGE
      omega
     have hG10 := grow_keepW hG9 e10 (fun c hc e => by have := hlow c hc; have := uh HGE; omega) hown9
     have hE10 := (hED.trans (hE9.mono fun k _ h => Or.inr (by have := (hGD.own.lt k h).1; omega))).trans (e10.mono fun k _ h => Or.inl h)
     have HN10 := yh hN10
     have HG10 := yh hG10
     have HE10 := yh hE10
     have HLOW := yh hlow
     clear hND hGD hED hoff hG9 hb9 hE9 hN9 e10 hlow hN10 hown9 hG10 hE10 hor9 u4
     go_wp2_with fail
     go_roundw
     case rel => exact ⟨k + 1, _, _, _, _, _, by omega, by go_num, uh HN10, by rw [uh HT]; exact uh HG10, uh HLOW, uh HE10⟩
     case measure => simp [intOf]; omega
    obtain rfl : k = x.history.length := by omega
    have hdl : decide ((x.history.length : Int) < (x.history.length : Int)) = false := by simp
    rw [List.take_length] at hG
    have hy := ((box_lowW ((box_lowW ((box_lowW (uh HY) (uh HB1) (by omega))) ((uh HE4).below (B := W0.heap.size) hz1 (fun k hk q => by rcases q with q | q <;> omega)) (by omega))) (hE.below (B := W0.heap.size) (by omega) (fun k hk q => by rcases q with q | q <;> omega)) (by omega)))
    obtain ⟨l3, i3, j3⟩ := (((uh HC3).ext (uh HE4) (fun k h1 h2 h3 q => by rcases q with q | q <;> omega)).wide (Nat.le_refl _) (show W1.heap.size ≤ W1.heap.size from Nat.le_refl _)).ext hE (fun k h1 h2 h3 q => by rcases q with q | q <;> omega)
    obtain ⟨l5, i5, j5⟩ := (((uh HC5).ext (uh HE4) (fun k h1 h2 h3 q => by rcases q with q | q <;> omega)).wide (Nat.le_refl _) (show W1.heap.size ≤ W1.heap.size from Nat.le_refl _)).ext hE (fun k h1 h2 h3 q => by rcases q with q | q <;> omega)
    obtain ⟨l6, i6, j6⟩ := hG.toLies (by omega) hS
    have hm6 : mn = x.history.length := by
     obtain ⟨_, _, q, -⟩ := i6
     simp only [List.cons.injEq, Value.slice.injEq, and_true] at q
     exact q.2.1
    subst hm6
    have hA2 := (uh HA).ext hE (fun q => by rcases q with q | q <;> omega) (fun c hc q => by have := uh HS4 c hc; rcases q with q | q <;> omega)
    have hWL : WLie wr ⟨a3q, c3q, g4, 0, cn, a5q, c5q, an, cn6, l3, r4, l5, l6⟩ x := ⟨(uh HWF).1, (uh HWF).2.1, (uh HWF).2.2, i3, hA2, i5, i6, fun hc => by have := j3 g4 hc; omega, fun hc => by have := j5 g4 hc; omega, fun hc => by have := j6 g4 hc; omega⟩
    have hzr := hE.size
    have hlt6 := hG.sub_lt
    have hWN : WNewH wr W0.heap.size wr.heap.size [.int .i64 x.now, .int .i64 x.events, .int .i64 x.chain.epoch, .slice a3q x.chain.ids.length c3q, .slice (some ⟨g4, 0, none⟩) x.nodes.length cn, .slice a5q x.msgs.length c5q, .slice an x.history.length cn6] x := ⟨_, W2.heap.size, rows, bls, rfl, hWL, by simp only []; omega, fun c hc => by have := j3 c hc; omega, fun c hc => by have := uh HS4 c hc; omega, fun c hc => by have := j5 c hc; omega, fun c hc => by have := j6 c hc; omega, by omega, hG, fun c hc => ⟨hS c hc, hlt6 c hc⟩, fun g' hg' => hG.own.lt g' hg'⟩
    have e9 : Ext (fun q => q = w.heap.size + 1) wr (setAll wr (w.heap.size + 1) 0 [.int .i64 x.now, .int .i64 x.events, .int .i64 x.chain.epoch, .slice a3q x.chain.ids.length c3q, .slice (some ⟨g4, 0, none⟩) x.nodes.length cn, .slice a5q x.msgs.length c5q, .slice an x.history.length cn6]) := ext_setAll _ (Ext.refl _ _) _ _ _ rfl
    have HWN := yh ((hWN.ext e9 (fun k h1 h2 h3 => by omega)).mono (show w.heap.size ≤ W0.heap.size by omega) (Nat.le_of_eq (size_setAll wr (w.heap.size + 1) 0 [.int .i64 x.now, .int .i64 x.events, .int .i64 x.chain.epoch, .slice a3q x.chain.ids.length c3q, .slice (some ⟨g4, 0, none⟩) x.nodes.length cn, .slice a5q x.msgs.length c5q, .slice an x.history.length cn6]).symm))
    have HB9 := yh (below_setAll ((uh HB).trans (hBr2.mono (uh HB).size)) (w.heap.size + 1) 0 [.int .i64 x.now, .int .i64 x.events, .int .i64 x.chain.epoch, .slice a3q x.chain.ids.length c3q, .slice (some ⟨g4, 0, none⟩) x.nodes.length cn, .slice a5q x.msgs.length c5q, .slice an x.history.length cn6] (by omega))
    have o0 := Box.at hN 0 _ rfl
    have p0 := Box.at hy 0 _ rfl
    have o1 := Box.at hN 1 _ rfl
    have p1 := Box.at hy 1 _ rfl
    have o2 := Box.at hN 2 _ rfl
    have p2 := Box.at hy 2 _ rfl
    have o3 := Box.at hN 3 _ rfl
    have p3 := Box.at hy 3 _ rfl
    have o4 := Box.at hN 4 _ rfl
    have p4 := Box.at hy 4 _ rfl
    have o5 := Box.at hN 5 _ rfl
    have p5 := Box.at hy 5 _ rfl
    have o6 := Box.at hN 6 _ rfl
    have p6 := Box.at hy 6 _ rfl
    simp only [ga, gb, gc] at o0 p0 o1 p1 o2 p2 o3 p3 o4 p4 o5 p5 o6 p6
    have hol := hN.lt
    have hyl := hy.lt
    have hyf := Box.soft hy
    clear hlt6 hWN hWL hA2 i3 i5 i6 j3 j5 j6 hG hS hE hN hx hBr2 hy e9 HC3 HC5 HA HS4 HE4 HN4 HBr HB1 HX HY HB HRN HRE HF
    go_wp2_with fail
    refine bodyPost_ret (v := .agg #[.int .i64 x.now, .int .i64 x.events, .int .i64 x.chain.epoch, .slice a3q x.chain.ids.length c3q, .slice (some ⟨g4, 0, none⟩) x.nodes.length cn, .slice a5q x.msgs.length c5q, .slice an x.history.length cn6]) (by simp [results, Tryz.results154, go_sem, p0, p1, p2, p3, p4, p5, p6]) rfl ?_
    exact ⟨_, rfl, uh HWN, uh HB9⟩
theorem l12NodeC (a3 : Option Addr) (d3 : Nat) (a4 : Option Addr) (d4 : Nat) (a5 : Option Addr) (d5 : Nat) (a6 : Option Addr) (d6 : Nat) (x : DWorld) (id : Int) (xb : Nat) (w : World) (hX : Box 0 #[.int .i64 x.now, .int .i64 x.events, .int .i64 x.chain.epoch, .slice a3 x.chain.ids.length d3, .slice a4 x.nodes.length d4, .slice a5 x.msgs.length d5, .slice a6 x.history.length d6] 36 w xb) :
  Calls Tryz.prog 130 #[.pointer (some ⟨xb, 0, none⟩), .int .i64 id] w fun e w' => e = .returned (.bool (nodeIn x id)) ∧ w' = w := by
 have HL := yh (inC id 1 (x.nodes.length : Int) w)
 have z3 := Box.at hX 4 _ rfl
 simp only [ga, gb, gc] at z3
 have xl := hX.lt
 clear hX
 go_enter Tryz.func130, Tryz.ntmps130
 go_wp2_with fail
 refine (uh HL).mono ?_
 rintro e w1 ⟨rfl, h1⟩
 subst w1
 clear HL
 go_wp2_with fail
 go_ret
 exact ⟨rfl, rfl⟩
theorem l12EntryC (a3 : Option Addr) (d3 : Nat) (a4 : Option Addr) (d4 : Nat) (a5 : Option Addr) (d5 : Nat) (a6 : Option Addr) (d6 : Nat) (aq : Option Addr) (dq : Nat) (av : Option Addr) (dv : Nat) (ah : Option Addr) (dh : Nat) (x : DWorld) (e : DEntry) (xb b o : Nat) (w : World) (hX : Box 0 #[.int .i64 x.now, .int .i64 x.events, .int .i64 x.chain.epoch, .slice a3 x.chain.ids.length d3, .slice a4 x.nodes.length d4, .slice a5 x.msgs.length d5, .slice a6 x.history.length d6] 36 w xb) (hE : RowIn #[.int .i64 e.kind, .int .i64 e.session, .int .i64 e.seq, .int .i64 e.id, .slice aq e.query.length dq, .int .i64 e.k, .int .i64 e.start, .int .i64 e.fin, .int .i64 e.place, .slice av e.vec.length dv, .slice ah e.hits.length dh] w b o) :
  Calls Tryz.prog 181 #[.pointer (some ⟨xb, 0, none⟩), .pointer (some ⟨b, o, none⟩)] w fun r w' => r = .returned (.bool (entryB x e)) ∧ Below w.heap.size w w' := by
 have L1 : Hid (∀ W, Calls Tryz.prog 64 #[.int .i64 e.kind, .int .i64 1, .int .i64 3] W fun r w' => r = .returned (.bool (decide (1 ≤ e.kind) && decide (e.kind ≤ 3))) ∧ w' = W) := fun W => inC _ _ _ W
 have L2 : Hid (∀ W, Calls Tryz.prog 64 #[.int .i64 e.start, .int .i64 1, .int .i64 x.events] W fun r w' => r = .returned (.bool (decide (1 ≤ e.start) && decide (e.start ≤ x.events))) ∧ w' = W) := fun W => inC _ _ _ W
 have L3 : Hid (∀ W, Calls Tryz.prog 64 #[.int .i64 e.fin, .int .i64 e.start, .int .i64 x.events] W fun r w' => r = .returned (.bool (decide (e.start ≤ e.fin) && decide (e.fin ≤ x.events))) ∧ w' = W) := fun W => inC _ _ _ W
 have L4 : Hid (∀ W, Calls Tryz.prog 64 #[.int .i64 e.place, .int .i64 0, .int .i64 40] W fun r w' => r = .returned (.bool (decide (0 ≤ e.place) && decide (e.place ≤ 40))) ∧ w' = W) := fun W => inC _ _ _ W
 have HP : Hid (entryB x e = ((decide (1 ≤ e.kind) && decide (e.kind ≤ 3)) && ((decide (1 ≤ e.start) && decide (e.start ≤ x.events)) && ((e.fin == 0 || (decide (e.start ≤ e.fin) && decide (e.fin ≤ x.events))) && (decide (0 ≤ e.place) && decide (e.place ≤ 40)))))) := rfl
 generalize entryB x e = r at *
 have HBD : Hid (Below w.heap.size w w.drew) := (Below.refl _ _).drew
 have y1 := Box.at hX.drew 1 _ rfl
 have z0 := hE.drew.at 0 _ rfl
 have z6 := hE.drew.at 6 _ rfl
 have z7 := hE.drew.at 7 _ rfl
 have z8 := hE.drew.at 8 _ rfl
 simp only [List.getElem_toArray, List.getElem_cons_zero, List.getElem_cons_succ, Nat.add_zero] at y1 z0 z6 z7 z8
 clear hX hE
 generalize (decide (1 ≤ e.kind) && decide (e.kind ≤ 3)) = A at *
 generalize (decide (1 ≤ e.start) && decide (e.start ≤ x.events)) = B at *
 generalize (decide (e.start ≤ e.fin) && decide (e.fin ≤ x.events)) = C at *
 generalize (decide (0 ≤ e.place) && decide (e.place ≤ 40)) = D at *
 generalize hz : (e.fin == 0) = Z at *
 go_enter Tryz.func181, Tryz.ntmps181
 cases A
 ·
  go_wp2_with fail
  refine wp_region_noPanic ?_
  refine wp_region_held_drew (S := fun w' => w' = w.drew) (by kernel_rfl) rfl (fun zq => ?_)
  generalize w.drew = wD at zq y1 z0 z6 z7 z8 HBD ⊢
  refine tkJ 0 (v := ?vp1_0) ?hp1_0 zq ?rp1_0
  case hp1_0 =>
   intro wS hSw
   subst hSw
   (try dsimp only at hSw)
   go_simp
   try with_reducible rfl
  refine tkJ 1 (v := ?vp1_1) ?hp1_1 zq ?rp1_1
  case hp1_1 =>
   intro wS hSw
   subst hSw
   (try dsimp only at hSw)
   go_simp
   try with_reducible rfl
  refine tkJ 2 (v := ?vp1_2) ?hp1_2 zq ?rp1_2
  case hp1_2 =>
   intro wS hSw
   subst hSw
   (try dsimp only at hSw)
   go_simp
   try with_reducible rfl
  refine tkJ 3 (v := ?vp1_3) ?hp1_3 zq ?rp1_3
  case hp1_3 =>
   intro wS hSw
   subst hSw
   (try dsimp only at hSw)
   go_simp
   try with_reducible rfl
  refine rdH 4 (fun K hK => ?_)
  go_simp
  go_at_call 64
  refine (uh L1 wD).mono ?_
  rintro e u1 ⟨rfl, h1⟩
  subst u1
  try go_wp2_with fail
  refine hK.out _ _ rfl (fun zq => ?_)
  clear hK K
  try simp only [Act.put, pz, py, px]
  refine tkJ 5 (v := ?vp1_5) ?hp1_5 zq ?rp1_5
  case hp1_5 =>
   intro wS hSw
   subst hSw
   (try dsimp only at hSw)
   go_simp
   try with_reducible rfl
  refine skH 6 zq ?_
  refine skH 7 zq ?_
  refine skH 8 zq ?_
  refine skH 9 zq ?_
  refine skH 10 zq ?_
  refine skH 11 zq ?_
  refine skH 12 zq ?_
  refine skH 13 zq ?_
  refine skH 14 zq ?_
  refine tkJ 15 (v := ?vp1_15) ?hp1_15 zq ?rp1_15
  case hp1_15 =>
   intro wS hSw
   subst hSw
   (try dsimp only at hSw)
   go_simp
   try with_reducible rfl
  refine tkJ 16 (v := ?vp1_16) ?hp1_16 zq ?rp1_16
  case hp1_16 =>
   intro wS hSw
   subst hSw
   (try dsimp only at hSw)
   go_simp
   try with_reducible rfl
  refine skH 17 zq ?_
  refine skH 18 zq ?_
  refine skH 19 zq ?_
  refine skH 20 zq ?_
  refine skH 21 zq ?_
  refine skH 22 zq ?_
  refine skH 23 zq ?_
  refine skH 24 zq ?_
  refine skH 25 zq ?_
  refine skH 26 zq ?_
  refine skH 27 zq ?_
  refine skH 28 zq ?_
  refine skH 29 zq ?_
  refine skH 30 zq ?_
  refine skH 31 zq ?_
  refine skH 32 zq ?_
  refine skH 33 zq ?_
  refine skH 34 zq ?_
  refine skH 35 zq ?_
  refine skH 36 zq ?_
  refine tkJ 37 (v := ?vp1_37) ?hp1_37 zq ?rp1_37
  case hp1_37 =>
   intro wS hSw
   subst hSw
   (try dsimp only at hSw)
   go_simp
   try with_reducible rfl
  refine tkJ 38 (v := ?vp1_38) ?hp1_38 zq ?rp1_38
  case hp1_38 =>
   intro wS hSw
   subst hSw
   (try dsimp only at hSw)
   go_simp
   try with_reducible rfl
  refine skH 39 zq ?_
  refine skH 40 zq ?_
  refine skH 41 zq ?_
  refine skH 42 zq ?_
  refine skH 43 zq ?_
  refine tkJ 44 (v := ?vp1_44) ?hp1_44 zq ?rp1_44
  case hp1_44 =>
   intro wS hSw
   subst hSw
   (try dsimp only at hSw)
   go_simp
   try with_reducible rfl
  refine tkJ 45 (v := ?vp1_45) ?hp1_45 zq ?rp1_45
  case hp1_45 =>
   intro wS hSw
   subst hSw
   (try dsimp only at hSw)
   go_simp
   try with_reducible rfl
  refine wpAnyH_done (by kernel_rfl) ?_ _
  refine NoPanic.normal ?_
  clear zq
  go_wp2_with fail
  go_ret
  exact ⟨by rw [uh HP]; simp, uh HBD⟩
 cases B
 ·
  go_wp2_with fail
  refine wp_region_noPanic ?_
  refine wp_region_held_drew (S := fun w' => w' = w.drew) (by kernel_rfl) rfl (fun zq => ?_)
  generalize w.drew = wD at zq y1 z0 z6 z7 z8 HBD ⊢
  refine tkJ 0 (v := ?vp2_0) ?hp2_0 zq ?rp2_0
  case hp2_0 =>
   intro wS hSw
   subst hSw
   (try dsimp only at hSw)
   go_simp
   try with_reducible rfl
  refine tkJ 1 (v := ?vp2_1) ?hp2_1 zq ?rp2_1
  case hp2_1 =>
   intro wS hSw
   subst hSw
   (try dsimp only at hSw)
   go_simp
   try with_reducible rfl
  refine tkJ 2 (v := ?vp2_2) ?hp2_2 zq ?rp2_2
  case hp2_2 =>
   intro wS hSw
   subst hSw
   (try dsimp only at hSw)
   go_simp
   try with_reducible rfl
  refine tkJ 3 (v := ?vp2_3) ?hp2_3 zq ?rp2_3
  case hp2_3 =>
   intro wS hSw
   subst hSw
   (try dsimp only at hSw)
   go_simp
   try with_reducible rfl
  refine rdH 4 (fun K hK => ?_)
  go_simp
  go_at_call 64
  refine (uh L1 wD).mono ?_
  rintro e u1 ⟨rfl, h1⟩
  subst u1
  try go_wp2_with fail
  refine hK.out _ _ rfl (fun zq => ?_)
  clear hK K
  try simp only [Act.put, pz, py, px]
  refine tkJ 5 (v := ?vp2_5) ?hp2_5 zq ?rp2_5
  case hp2_5 =>
   intro wS hSw
   subst hSw
   (try dsimp only at hSw)
   go_simp
   try with_reducible rfl
  refine tkJ 6 (v := ?vp2_6) ?hp2_6 zq ?rp2_6
  case hp2_6 =>
   intro wS hSw
   subst hSw
   (try dsimp only at hSw)
   go_simp
   try with_reducible rfl
  refine tkJ 7 (v := ?vp2_7) ?hp2_7 zq ?rp2_7
  case hp2_7 =>
   intro wS hSw
   subst hSw
   (try dsimp only at hSw)
   go_simp
   try with_reducible rfl
  refine tkJ 8 (v := ?vp2_8) ?hp2_8 zq ?rp2_8
  case hp2_8 =>
   intro wS hSw
   subst hSw
   (try dsimp only at hSw)
   go_simp
   try with_reducible rfl
  refine tkJ 9 (v := ?vp2_9) ?hp2_9 zq ?rp2_9
  case hp2_9 =>
   intro wS hSw
   subst hSw
   (try dsimp only at hSw)
   go_simp
   try with_reducible rfl
  refine tkJ 10 (v := ?vp2_10) ?hp2_10 zq ?rp2_10
  case hp2_10 =>
   intro wS hSw
   subst hSw
   (try dsimp only at hSw)
   go_simp
   try with_reducible rfl
  refine tkJ 11 (v := ?vp2_11) ?hp2_11 zq ?rp2_11
  case hp2_11 =>
   intro wS hSw
   subst hSw
   (try dsimp only at hSw)
   go_simp
   try with_reducible rfl
  refine tkJ 12 (v := ?vp2_12) ?hp2_12 zq ?rp2_12
  case hp2_12 =>
   intro wS hSw
   subst hSw
   (try dsimp only at hSw)
   go_simp
   try with_reducible rfl
  refine tkJ 13 (v := ?vp2_13) ?hp2_13 zq ?rp2_13
  case hp2_13 =>
   intro wS hSw
   subst hSw
   (try dsimp only at hSw)
   go_simp
   try with_reducible rfl
  refine rdH 14 (fun K hK => ?_)
  go_simp
  go_at_call 64
  refine (uh L2 wD).mono ?_
  rintro e u1 ⟨rfl, h1⟩
  subst u1
  try go_wp2_with fail
  refine hK.out _ _ rfl (fun zq => ?_)
  clear hK K
  try simp only [Act.put, pz, py, px]
  refine tkJ 15 (v := ?vp2_15) ?hp2_15 zq ?rp2_15
  case hp2_15 =>
   intro wS hSw
   subst hSw
   (try dsimp only at hSw)
   go_simp
   try with_reducible rfl
  refine tkJ 16 (v := ?vp2_16) ?hp2_16 zq ?rp2_16
  case hp2_16 =>
   intro wS hSw
   subst hSw
   (try dsimp only at hSw)
   go_simp
   try with_reducible rfl
  refine skH 17 zq ?_
  refine skH 18 zq ?_
  refine skH 19 zq ?_
  refine skH 20 zq ?_
  refine skH 21 zq ?_
  refine skH 22 zq ?_
  refine skH 23 zq ?_
  refine skH 24 zq ?_
  refine skH 25 zq ?_
  refine skH 26 zq ?_
  refine skH 27 zq ?_
  refine skH 28 zq ?_
  refine skH 29 zq ?_
  refine skH 30 zq ?_
  refine skH 31 zq ?_
  refine skH 32 zq ?_
  refine skH 33 zq ?_
  refine skH 34 zq ?_
  refine skH 35 zq ?_
  refine skH 36 zq ?_
  refine tkJ 37 (v := ?vp2_37) ?hp2_37 zq ?rp2_37
  case hp2_37 =>
   intro wS hSw
   subst hSw
   (try dsimp only at hSw)
   go_simp
   try with_reducible rfl
  refine tkJ 38 (v := ?vp2_38) ?hp2_38 zq ?rp2_38
  case hp2_38 =>
   intro wS hSw
   subst hSw
   (try dsimp only at hSw)
   go_simp
   try with_reducible rfl
  refine skH 39 zq ?_
  refine skH 40 zq ?_
  refine skH 41 zq ?_
  refine skH 42 zq ?_
  refine skH 43 zq ?_
  refine tkJ 44 (v := ?vp2_44) ?hp2_44 zq ?rp2_44
  case hp2_44 =>
   intro wS hSw
   subst hSw
   (try dsimp only at hSw)
   go_simp
   try with_reducible rfl
  refine tkJ 45 (v := ?vp2_45) ?hp2_45 zq ?rp2_45
  case hp2_45 =>
   intro wS hSw
   subst hSw
   (try dsimp only at hSw)
   go_simp
   try with_reducible rfl
  refine wpAnyH_done (by kernel_rfl) ?_ _
  refine NoPanic.normal ?_
  clear zq
  go_wp2_with fail
  go_ret
  exact ⟨by rw [uh HP]; simp, uh HBD⟩
 cases Z
 ·
  cases C
  ·
   go_wp2_with fail
   refine wp_region_noPanic ?_
   refine wp_region_held_drew (S := fun w' => w' = w.drew) (by kernel_rfl) rfl (fun zq => ?_)
   generalize w.drew = wD at zq y1 z0 z6 z7 z8 HBD ⊢
   refine tkJ 0 (v := ?vp3_0) ?hp3_0 zq ?rp3_0
   case hp3_0 =>
    intro wS hSw
    subst hSw
    (try dsimp only at hSw)
    go_simp
    try with_reducible rfl
   refine tkJ 1 (v := ?vp3_1) ?hp3_1 zq ?rp3_1
   case hp3_1 =>
    intro wS hSw
    subst hSw
    (try dsimp only at hSw)
    go_simp
    try with_reducible rfl
   refine tkJ 2 (v := ?vp3_2) ?hp3_2 zq ?rp3_2
   case hp3_2 =>
    intro wS hSw
    subst hSw
    (try dsimp only at hSw)
    go_simp
    try with_reducible rfl
   refine tkJ 3 (v := ?vp3_3) ?hp3_3 zq ?rp3_3
   case hp3_3 =>
    intro wS hSw
    subst hSw
    (try dsimp only at hSw)
    go_simp
    try with_reducible rfl
   refine rdH 4 (fun K hK => ?_)
   go_simp
   go_at_call 64
   refine (uh L1 wD).mono ?_
   rintro e u1 ⟨rfl, h1⟩
   subst u1
   try go_wp2_with fail
   refine hK.out _ _ rfl (fun zq => ?_)
   clear hK K
   try simp only [Act.put, pz, py, px]
   refine tkJ 5 (v := ?vp3_5) ?hp3_5 zq ?rp3_5
   case hp3_5 =>
    intro wS hSw
    subst hSw
    (try dsimp only at hSw)
    go_simp
    try with_reducible rfl
   refine tkJ 6 (v := ?vp3_6) ?hp3_6 zq ?rp3_6
   case hp3_6 =>
    intro wS hSw
    subst hSw
    (try dsimp only at hSw)
    go_simp
    try with_reducible rfl
   refine tkJ 7 (v := ?vp3_7) ?hp3_7 zq ?rp3_7
   case hp3_7 =>
    intro wS hSw
    subst hSw
    (try dsimp only at hSw)
    go_simp
    try with_reducible rfl
   refine tkJ 8 (v := ?vp3_8) ?hp3_8 zq ?rp3_8
   case hp3_8 =>
    intro wS hSw
    subst hSw
    (try dsimp only at hSw)
    go_simp
    try with_reducible rfl
   refine tkJ 9 (v := ?vp3_9) ?hp3_9 zq ?rp3_9
   case hp3_9 =>
    intro wS hSw
    subst hSw
    (try dsimp only at hSw)
    go_simp
    try with_reducible rfl
   refine tkJ 10 (v := ?vp3_10) ?hp3_10 zq ?rp3_10
   case hp3_10 =>
    intro wS hSw
    subst hSw
    (try dsimp only at hSw)
    go_simp
    try with_reducible rfl
   refine tkJ 11 (v := ?vp3_11) ?hp3_11 zq ?rp3_11
   case hp3_11 =>
    intro wS hSw
    subst hSw
    (try dsimp only at hSw)
    go_simp
    try with_reducible rfl
   refine tkJ 12 (v := ?vp3_12) ?hp3_12 zq ?rp3_12
   case hp3_12 =>
    intro wS hSw
    subst hSw
    (try dsimp only at hSw)
    go_simp
    try with_reducible rfl
   refine tkJ 13 (v := ?vp3_13) ?hp3_13 zq ?rp3_13
   case hp3_13 =>
    intro wS hSw
    subst hSw
    (try dsimp only at hSw)
    go_simp
    try with_reducible rfl
   refine rdH 14 (fun K hK => ?_)
   go_simp
   go_at_call 64
   refine (uh L2 wD).mono ?_
   rintro e u1 ⟨rfl, h1⟩
   subst u1
   try go_wp2_with fail
   refine hK.out _ _ rfl (fun zq => ?_)
   clear hK K
   try simp only [Act.put, pz, py, px]
   refine tkJ 15 (v := ?vp3_15) ?hp3_15 zq ?rp3_15
   case hp3_15 =>
    intro wS hSw
    subst hSw
    (try dsimp only at hSw)
    go_simp
    try with_reducible rfl
   refine tkJ 16 (v := ?vp3_16) ?hp3_16 zq ?rp3_16
   case hp3_16 =>
    intro wS hSw
    subst hSw
    (try dsimp only at hSw)
    go_simp
    try with_reducible rfl
   refine tkJ 17 (v := ?vp3_17) ?hp3_17 zq ?rp3_17
   case hp3_17 =>
    intro wS hSw
    subst hSw
    (try dsimp only at hSw)
    go_simp
    try with_reducible rfl
   refine tkJ 18 (v := ?vp3_18) ?hp3_18 zq ?rp3_18
   case hp3_18 =>
    intro wS hSw
    subst hSw
    (try dsimp only at hSw)
    go_simp
    try with_reducible rfl
   refine tkJ 19 (v := ?vp3_19) ?hp3_19 zq ?rp3_19
   case hp3_19 =>
    intro wS hSw
    subst hSw
    (try dsimp only at hSw)
    go_simp
    try with_reducible rfl
   refine tkJ 20 (v := ?vp3_20) ?hp3_20 zq ?rp3_20
   case hp3_20 =>
    intro wS hSw
    subst hSw
    (try dsimp only at hSw)
    go_simp
    try with_reducible rfl
   refine tkJ 21 (v := ?vp3_21) ?hp3_21 zq ?rp3_21
   case hp3_21 =>
    intro wS hSw
    subst hSw
    (try dsimp only at hSw)
    go_simp
    try with_reducible rfl
   refine tkJ 22 (v := ?vp3_22) ?hp3_22 zq ?rp3_22
   case hp3_22 =>
    intro wS hSw
    subst hSw
    (try dsimp only at hSw)
    go_simp
    try with_reducible rfl
   refine tkJ 23 (v := ?vp3_23) ?hp3_23 zq ?rp3_23
   case hp3_23 =>
    intro wS hSw
    subst hSw
    (try dsimp only at hSw)
    go_simp
    try with_reducible rfl
   refine tkJ 24 (v := ?vp3_24) ?hp3_24 zq ?rp3_24
   case hp3_24 =>
    intro wS hSw
    subst hSw
    (try dsimp only at hSw)
    go_simp
    try with_reducible rfl
   refine tkJ 25 (v := ?vp3_25) ?hp3_25 zq ?rp3_25
   case hp3_25 =>
    intro wS hSw
    subst hSw
    (try dsimp only at hSw)
    go_simp
    try with_reducible rfl
   refine tkJ 26 (v := ?vp3_26) ?hp3_26 zq ?rp3_26
   case hp3_26 =>
    intro wS hSw
    subst hSw
    (try dsimp only at hSw)
    go_simp
    try with_reducible rfl
   refine tkJ 27 (v := ?vp3_27) ?hp3_27 zq ?rp3_27
   case hp3_27 =>
    intro wS hSw
    subst hSw
    (try dsimp only at hSw)
    go_simp
    try with_reducible rfl
   refine tkJ 28 (v := ?vp3_28) ?hp3_28 zq ?rp3_28
   case hp3_28 =>
    intro wS hSw
    subst hSw
    (try dsimp only at hSw)
    go_simp
    try with_reducible rfl
   refine tkJ 29 (v := ?vp3_29) ?hp3_29 zq ?rp3_29
   case hp3_29 =>
    intro wS hSw
    subst hSw
    (try dsimp only at hSw)
    go_simp
    try with_reducible rfl
   refine tkJ 30 (v := ?vp3_30) ?hp3_30 zq ?rp3_30
   case hp3_30 =>
    intro wS hSw
    subst hSw
    (try dsimp only at hSw)
    go_simp
    try with_reducible rfl
   refine tkJ 31 (v := ?vp3_31) ?hp3_31 zq ?rp3_31
   case hp3_31 =>
    intro wS hSw
    subst hSw
    (try dsimp only at hSw)
    go_simp
    try with_reducible rfl
   refine tkJ 32 (v := ?vp3_32) ?hp3_32 zq ?rp3_32
   case hp3_32 =>
    intro wS hSw
    subst hSw
    (try dsimp only at hSw)
    go_simp
    try with_reducible rfl
   refine tkJ 33 (v := ?vp3_33) ?hp3_33 zq ?rp3_33
   case hp3_33 =>
    intro wS hSw
    subst hSw
    (try dsimp only at hSw)
    go_simp
    try with_reducible rfl
   refine tkJ 34 (v := ?vp3_34) ?hp3_34 zq ?rp3_34
   case hp3_34 =>
    intro wS hSw
    subst hSw
    (try dsimp only at hSw)
    go_simp
    try with_reducible rfl
   refine rdH 35 (fun K hK => ?_)
   go_simp
   go_at_call 64
   refine (uh L3 wD).mono ?_
   rintro e u1 ⟨rfl, h1⟩
   subst u1
   try go_wp2_with fail
   refine hK.out _ _ rfl (fun zq => ?_)
   clear hK K
   try simp only [Act.put, pz, py, px]
   refine tkJ 36 (v := ?vp3_36) ?hp3_36 zq ?rp3_36
   case hp3_36 =>
    intro wS hSw
    subst hSw
    (try dsimp only at hSw)
    go_simp
    try with_reducible rfl
   refine tkJ 37 (v := ?vp3_37) ?hp3_37 zq ?rp3_37
   case hp3_37 =>
    intro wS hSw
    subst hSw
    (try dsimp only at hSw)
    go_simp
    try with_reducible rfl
   refine tkJ 38 (v := ?vp3_38) ?hp3_38 zq ?rp3_38
   case hp3_38 =>
    intro wS hSw
    subst hSw
    (try dsimp only at hSw)
    go_simp
    try with_reducible rfl
   refine skH 39 zq ?_
   refine skH 40 zq ?_
   refine skH 41 zq ?_
   refine skH 42 zq ?_
   refine skH 43 zq ?_
   refine tkJ 44 (v := ?vp3_44) ?hp3_44 zq ?rp3_44
   case hp3_44 =>
    intro wS hSw
    subst hSw
    (try dsimp only at hSw)
    go_simp
    try with_reducible rfl
   refine tkJ 45 (v := ?vp3_45) ?hp3_45 zq ?rp3_45
   case hp3_45 =>
    intro wS hSw
    subst hSw
    (try dsimp only at hSw)
    go_simp
    try with_reducible rfl
   refine wpAnyH_done (by kernel_rfl) ?_ _
   refine NoPanic.normal ?_
   clear zq
   go_wp2_with fail
   go_ret
   exact ⟨by rw [uh HP]; simp, uh HBD⟩
  go_wp2_with fail
  refine wp_region_noPanic ?_
  refine wp_region_held_drew (S := fun w' => w' = w.drew) (by kernel_rfl) rfl (fun zq => ?_)
  generalize w.drew = wD at zq y1 z0 z6 z7 z8 HBD ⊢
  refine tkJ 0 (v := ?vp4_0) ?hp4_0 zq ?rp4_0
  case hp4_0 =>
   intro wS hSw
   subst hSw
   (try dsimp only at hSw)
   go_simp
   try with_reducible rfl
  refine tkJ 1 (v := ?vp4_1) ?hp4_1 zq ?rp4_1
  case hp4_1 =>
   intro wS hSw
   subst hSw
   (try dsimp only at hSw)
   go_simp
   try with_reducible rfl
  refine tkJ 2 (v := ?vp4_2) ?hp4_2 zq ?rp4_2
  case hp4_2 =>
   intro wS hSw
   subst hSw
   (try dsimp only at hSw)
   go_simp
   try with_reducible rfl
  refine tkJ 3 (v := ?vp4_3) ?hp4_3 zq ?rp4_3
  case hp4_3 =>
   intro wS hSw
   subst hSw
   (try dsimp only at hSw)
   go_simp
   try with_reducible rfl
  refine rdH 4 (fun K hK => ?_)
  go_simp
  go_at_call 64
  refine (uh L1 wD).mono ?_
  rintro e u1 ⟨rfl, h1⟩
  subst u1
  try go_wp2_with fail
  refine hK.out _ _ rfl (fun zq => ?_)
  clear hK K
  try simp only [Act.put, pz, py, px]
  refine tkJ 5 (v := ?vp4_5) ?hp4_5 zq ?rp4_5
  case hp4_5 =>
   intro wS hSw
   subst hSw
   (try dsimp only at hSw)
   go_simp
   try with_reducible rfl
  refine tkJ 6 (v := ?vp4_6) ?hp4_6 zq ?rp4_6
  case hp4_6 =>
   intro wS hSw
   subst hSw
   (try dsimp only at hSw)
   go_simp
   try with_reducible rfl
  refine tkJ 7 (v := ?vp4_7) ?hp4_7 zq ?rp4_7
  case hp4_7 =>
   intro wS hSw
   subst hSw
   (try dsimp only at hSw)
   go_simp
   try with_reducible rfl
  refine tkJ 8 (v := ?vp4_8) ?hp4_8 zq ?rp4_8
  case hp4_8 =>
   intro wS hSw
   subst hSw
   (try dsimp only at hSw)
   go_simp
   try with_reducible rfl
  refine tkJ 9 (v := ?vp4_9) ?hp4_9 zq ?rp4_9
  case hp4_9 =>
   intro wS hSw
   subst hSw
   (try dsimp only at hSw)
   go_simp
   try with_reducible rfl
  refine tkJ 10 (v := ?vp4_10) ?hp4_10 zq ?rp4_10
  case hp4_10 =>
   intro wS hSw
   subst hSw
   (try dsimp only at hSw)
   go_simp
   try with_reducible rfl
  refine tkJ 11 (v := ?vp4_11) ?hp4_11 zq ?rp4_11
  case hp4_11 =>
   intro wS hSw
   subst hSw
   (try dsimp only at hSw)
   go_simp
   try with_reducible rfl
  refine tkJ 12 (v := ?vp4_12) ?hp4_12 zq ?rp4_12
  case hp4_12 =>
   intro wS hSw
   subst hSw
   (try dsimp only at hSw)
   go_simp
   try with_reducible rfl
  refine tkJ 13 (v := ?vp4_13) ?hp4_13 zq ?rp4_13
  case hp4_13 =>
   intro wS hSw
   subst hSw
   (try dsimp only at hSw)
   go_simp
   try with_reducible rfl
  refine rdH 14 (fun K hK => ?_)
  go_simp
  go_at_call 64
  refine (uh L2 wD).mono ?_
  rintro e u1 ⟨rfl, h1⟩
  subst u1
  try go_wp2_with fail
  refine hK.out _ _ rfl (fun zq => ?_)
  clear hK K
  try simp only [Act.put, pz, py, px]
  refine tkJ 15 (v := ?vp4_15) ?hp4_15 zq ?rp4_15
  case hp4_15 =>
   intro wS hSw
   subst hSw
   (try dsimp only at hSw)
   go_simp
   try with_reducible rfl
  refine tkJ 16 (v := ?vp4_16) ?hp4_16 zq ?rp4_16
  case hp4_16 =>
   intro wS hSw
   subst hSw
   (try dsimp only at hSw)
   go_simp
   try with_reducible rfl
  refine tkJ 17 (v := ?vp4_17) ?hp4_17 zq ?rp4_17
  case hp4_17 =>
   intro wS hSw
   subst hSw
   (try dsimp only at hSw)
   go_simp
   try with_reducible rfl
  refine tkJ 18 (v := ?vp4_18) ?hp4_18 zq ?rp4_18
  case hp4_18 =>
   intro wS hSw
   subst hSw
   (try dsimp only at hSw)
   go_simp
   try with_reducible rfl
  refine tkJ 19 (v := ?vp4_19) ?hp4_19 zq ?rp4_19
  case hp4_19 =>
   intro wS hSw
   subst hSw
   (try dsimp only at hSw)
   go_simp
   try with_reducible rfl
  refine tkJ 20 (v := ?vp4_20) ?hp4_20 zq ?rp4_20
  case hp4_20 =>
   intro wS hSw
   subst hSw
   (try dsimp only at hSw)
   go_simp
   try with_reducible rfl
  refine tkJ 21 (v := ?vp4_21) ?hp4_21 zq ?rp4_21
  case hp4_21 =>
   intro wS hSw
   subst hSw
   (try dsimp only at hSw)
   go_simp
   try with_reducible rfl
  refine tkJ 22 (v := ?vp4_22) ?hp4_22 zq ?rp4_22
  case hp4_22 =>
   intro wS hSw
   subst hSw
   (try dsimp only at hSw)
   go_simp
   try with_reducible rfl
  refine tkJ 23 (v := ?vp4_23) ?hp4_23 zq ?rp4_23
  case hp4_23 =>
   intro wS hSw
   subst hSw
   (try dsimp only at hSw)
   go_simp
   try with_reducible rfl
  refine tkJ 24 (v := ?vp4_24) ?hp4_24 zq ?rp4_24
  case hp4_24 =>
   intro wS hSw
   subst hSw
   (try dsimp only at hSw)
   go_simp
   try with_reducible rfl
  refine tkJ 25 (v := ?vp4_25) ?hp4_25 zq ?rp4_25
  case hp4_25 =>
   intro wS hSw
   subst hSw
   (try dsimp only at hSw)
   go_simp
   try with_reducible rfl
  refine tkJ 26 (v := ?vp4_26) ?hp4_26 zq ?rp4_26
  case hp4_26 =>
   intro wS hSw
   subst hSw
   (try dsimp only at hSw)
   go_simp
   try with_reducible rfl
  refine tkJ 27 (v := ?vp4_27) ?hp4_27 zq ?rp4_27
  case hp4_27 =>
   intro wS hSw
   subst hSw
   (try dsimp only at hSw)
   go_simp
   try with_reducible rfl
  refine tkJ 28 (v := ?vp4_28) ?hp4_28 zq ?rp4_28
  case hp4_28 =>
   intro wS hSw
   subst hSw
   (try dsimp only at hSw)
   go_simp
   try with_reducible rfl
  refine tkJ 29 (v := ?vp4_29) ?hp4_29 zq ?rp4_29
  case hp4_29 =>
   intro wS hSw
   subst hSw
   (try dsimp only at hSw)
   go_simp
   try with_reducible rfl
  refine tkJ 30 (v := ?vp4_30) ?hp4_30 zq ?rp4_30
  case hp4_30 =>
   intro wS hSw
   subst hSw
   (try dsimp only at hSw)
   go_simp
   try with_reducible rfl
  refine tkJ 31 (v := ?vp4_31) ?hp4_31 zq ?rp4_31
  case hp4_31 =>
   intro wS hSw
   subst hSw
   (try dsimp only at hSw)
   go_simp
   try with_reducible rfl
  refine tkJ 32 (v := ?vp4_32) ?hp4_32 zq ?rp4_32
  case hp4_32 =>
   intro wS hSw
   subst hSw
   (try dsimp only at hSw)
   go_simp
   try with_reducible rfl
  refine tkJ 33 (v := ?vp4_33) ?hp4_33 zq ?rp4_33
  case hp4_33 =>
   intro wS hSw
   subst hSw
   (try dsimp only at hSw)
   go_simp
   try with_reducible rfl
  refine tkJ 34 (v := ?vp4_34) ?hp4_34 zq ?rp4_34
  case hp4_34 =>
   intro wS hSw
   subst hSw
   (try dsimp only at hSw)
   go_simp
   try with_reducible rfl
  refine rdH 35 (fun K hK => ?_)
  go_simp
  go_at_call 64
  refine (uh L3 wD).mono ?_
  rintro e u1 ⟨rfl, h1⟩
  subst u1
  try go_wp2_with fail
  refine hK.out _ _ rfl (fun zq => ?_)
  clear hK K
  try simp only [Act.put, pz, py, px]
  refine tkJ 36 (v := ?vp4_36) ?hp4_36 zq ?rp4_36
  case hp4_36 =>
   intro wS hSw
   subst hSw
   (try dsimp only at hSw)
   go_simp
   try with_reducible rfl
  refine tkJ 37 (v := ?vp4_37) ?hp4_37 zq ?rp4_37
  case hp4_37 =>
   intro wS hSw
   subst hSw
   (try dsimp only at hSw)
   go_simp
   try with_reducible rfl
  refine tkJ 38 (v := ?vp4_38) ?hp4_38 zq ?rp4_38
  case hp4_38 =>
   intro wS hSw
   subst hSw
   (try dsimp only at hSw)
   go_simp
   try with_reducible rfl
  refine tkJ 39 (v := ?vp4_39) ?hp4_39 zq ?rp4_39
  case hp4_39 =>
   intro wS hSw
   subst hSw
   (try dsimp only at hSw)
   go_simp
   try with_reducible rfl
  refine tkJ 40 (v := ?vp4_40) ?hp4_40 zq ?rp4_40
  case hp4_40 =>
   intro wS hSw
   subst hSw
   (try dsimp only at hSw)
   go_simp
   try with_reducible rfl
  refine tkJ 41 (v := ?vp4_41) ?hp4_41 zq ?rp4_41
  case hp4_41 =>
   intro wS hSw
   subst hSw
   (try dsimp only at hSw)
   go_simp
   try with_reducible rfl
  refine tkJ 42 (v := ?vp4_42) ?hp4_42 zq ?rp4_42
  case hp4_42 =>
   intro wS hSw
   subst hSw
   (try dsimp only at hSw)
   go_simp
   try with_reducible rfl
  refine rdH 43 (fun K hK => ?_)
  go_simp
  go_at_call 64
  refine (uh L4 wD).mono ?_
  rintro e u1 ⟨rfl, h1⟩
  subst u1
  try go_wp2_with fail
  refine hK.out _ _ rfl (fun zq => ?_)
  clear hK K
  try simp only [Act.put, pz, py, px]
  refine tkJ 44 (v := ?vp4_44) ?hp4_44 zq ?rp4_44
  case hp4_44 =>
   intro wS hSw
   subst hSw
   (try dsimp only at hSw)
   go_simp
   try with_reducible rfl
  refine tkJ 45 (v := ?vp4_45) ?hp4_45 zq ?rp4_45
  case hp4_45 =>
   intro wS hSw
   subst hSw
   (try dsimp only at hSw)
   go_simp
   try with_reducible rfl
  refine wpAnyH_done (by kernel_rfl) ?_ _
  refine NoPanic.normal ?_
  clear zq
  go_wp2_with fail
  go_ret
  exact ⟨by rw [uh HP]; simp, uh HBD⟩
 go_wp2_with fail
 refine wp_region_noPanic ?_
 refine wp_region_held_drew (S := fun w' => w' = w.drew) (by kernel_rfl) rfl (fun zq => ?_)
 generalize w.drew = wD at zq y1 z0 z6 z7 z8 HBD ⊢
 refine tkJ 0 (v := ?vp5_0) ?hp5_0 zq ?rp5_0
 case hp5_0 =>
  intro wS hSw
  subst hSw
  (try dsimp only at hSw)
  go_simp
  try with_reducible rfl
 refine tkJ 1 (v := ?vp5_1) ?hp5_1 zq ?rp5_1
 case hp5_1 =>
  intro wS hSw
  subst hSw
  (try dsimp only at hSw)
  go_simp
  try with_reducible rfl
 refine tkJ 2 (v := ?vp5_2) ?hp5_2 zq ?rp5_2
 case hp5_2 =>
  intro wS hSw
  subst hSw
  (try dsimp only at hSw)
  go_simp
  try with_reducible rfl
 refine tkJ 3 (v := ?vp5_3) ?hp5_3 zq ?rp5_3
 case hp5_3 =>
  intro wS hSw
  subst hSw
  (try dsimp only at hSw)
  go_simp
  try with_reducible rfl
 refine rdH 4 (fun K hK => ?_)
 go_simp
 go_at_call 64
 refine (uh L1 wD).mono ?_
 rintro e u1 ⟨rfl, h1⟩
 subst u1
 try go_wp2_with fail
 refine hK.out _ _ rfl (fun zq => ?_)
 clear hK K
 try simp only [Act.put, pz, py, px]
 refine tkJ 5 (v := ?vp5_5) ?hp5_5 zq ?rp5_5
 case hp5_5 =>
  intro wS hSw
  subst hSw
  (try dsimp only at hSw)
  go_simp
  try with_reducible rfl
 refine tkJ 6 (v := ?vp5_6) ?hp5_6 zq ?rp5_6
 case hp5_6 =>
  intro wS hSw
  subst hSw
  (try dsimp only at hSw)
  go_simp
  try with_reducible rfl
 refine tkJ 7 (v := ?vp5_7) ?hp5_7 zq ?rp5_7
 case hp5_7 =>
  intro wS hSw
  subst hSw
  (try dsimp only at hSw)
  go_simp
  try with_reducible rfl
 refine tkJ 8 (v := ?vp5_8) ?hp5_8 zq ?rp5_8
 case hp5_8 =>
  intro wS hSw
  subst hSw
  (try dsimp only at hSw)
  go_simp
  try with_reducible rfl
 refine tkJ 9 (v := ?vp5_9) ?hp5_9 zq ?rp5_9
 case hp5_9 =>
  intro wS hSw
  subst hSw
  (try dsimp only at hSw)
  go_simp
  try with_reducible rfl
 refine tkJ 10 (v := ?vp5_10) ?hp5_10 zq ?rp5_10
 case hp5_10 =>
  intro wS hSw
  subst hSw
  (try dsimp only at hSw)
  go_simp
  try with_reducible rfl
 refine tkJ 11 (v := ?vp5_11) ?hp5_11 zq ?rp5_11
 case hp5_11 =>
  intro wS hSw
  subst hSw
  (try dsimp only at hSw)
  go_simp
  try with_reducible rfl
 refine tkJ 12 (v := ?vp5_12) ?hp5_12 zq ?rp5_12
 case hp5_12 =>
  intro wS hSw
  subst hSw
  (try dsimp only at hSw)
  go_simp
  try with_reducible rfl
 refine tkJ 13 (v := ?vp5_13) ?hp5_13 zq ?rp5_13
 case hp5_13 =>
  intro wS hSw
  subst hSw
  (try dsimp only at hSw)
  go_simp
  try with_reducible rfl
 refine rdH 14 (fun K hK => ?_)
 go_simp
 go_at_call 64
 refine (uh L2 wD).mono ?_
 rintro e u1 ⟨rfl, h1⟩
 subst u1
 try go_wp2_with fail
 refine hK.out _ _ rfl (fun zq => ?_)
 clear hK K
 try simp only [Act.put, pz, py, px]
 refine tkJ 15 (v := ?vp5_15) ?hp5_15 zq ?rp5_15
 case hp5_15 =>
  intro wS hSw
  subst hSw
  (try dsimp only at hSw)
  go_simp
  try with_reducible rfl
 refine tkJ 16 (v := ?vp5_16) ?hp5_16 zq ?rp5_16
 case hp5_16 =>
  intro wS hSw
  subst hSw
  (try dsimp only at hSw)
  go_simp
  try with_reducible rfl
 refine tkJ 17 (v := ?vp5_17) ?hp5_17 zq ?rp5_17
 case hp5_17 =>
  intro wS hSw
  subst hSw
  (try dsimp only at hSw)
  go_simp
  try with_reducible rfl
 refine tkJ 18 (v := ?vp5_18) ?hp5_18 zq ?rp5_18
 case hp5_18 =>
  intro wS hSw
  subst hSw
  (try dsimp only at hSw)
  go_simp
  try with_reducible rfl
 refine tkJ 19 (v := ?vp5_19) ?hp5_19 zq ?rp5_19
 case hp5_19 =>
  intro wS hSw
  subst hSw
  (try dsimp only at hSw)
  go_simp
  try with_reducible rfl
 refine tkJ 20 (v := ?vp5_20) ?hp5_20 zq ?rp5_20
 case hp5_20 =>
  intro wS hSw
  subst hSw
  (try dsimp only at hSw)
  go_simp
  try with_reducible rfl
 refine tkJ 21 (v := ?vp5_21) ?hp5_21 zq ?rp5_21
 case hp5_21 =>
  intro wS hSw
  subst hSw
  (try dsimp only at hSw)
  go_simp
  try with_reducible rfl
 refine tkJ 22 (v := ?vp5_22) ?hp5_22 zq ?rp5_22
 case hp5_22 =>
  intro wS hSw
  subst hSw
  (try dsimp only at hSw)
  go_simp
  try with_reducible rfl
 refine skH 23 zq ?_
 refine skH 24 zq ?_
 refine skH 25 zq ?_
 refine skH 26 zq ?_
 refine skH 27 zq ?_
 refine skH 28 zq ?_
 refine skH 29 zq ?_
 refine skH 30 zq ?_
 refine skH 31 zq ?_
 refine skH 32 zq ?_
 refine skH 33 zq ?_
 refine skH 34 zq ?_
 refine skH 35 zq ?_
 refine tkJ 36 (v := ?vp5_36) ?hp5_36 zq ?rp5_36
 case hp5_36 =>
  intro wS hSw
  subst hSw
  (try dsimp only at hSw)
  go_simp
  try with_reducible rfl
 refine tkJ 37 (v := ?vp5_37) ?hp5_37 zq ?rp5_37
 case hp5_37 =>
  intro wS hSw
  subst hSw
  (try dsimp only at hSw)
  go_simp
  try with_reducible rfl
 refine tkJ 38 (v := ?vp5_38) ?hp5_38 zq ?rp5_38
 case hp5_38 =>
  intro wS hSw
  subst hSw
  (try dsimp only at hSw)
  go_simp
  try with_reducible rfl
 refine tkJ 39 (v := ?vp5_39) ?hp5_39 zq ?rp5_39
 case hp5_39 =>
  intro wS hSw
  subst hSw
  (try dsimp only at hSw)
  go_simp
  try with_reducible rfl
 refine tkJ 40 (v := ?vp5_40) ?hp5_40 zq ?rp5_40
 case hp5_40 =>
  intro wS hSw
  subst hSw
  (try dsimp only at hSw)
  go_simp
  try with_reducible rfl
 refine tkJ 41 (v := ?vp5_41) ?hp5_41 zq ?rp5_41
 case hp5_41 =>
  intro wS hSw
  subst hSw
  (try dsimp only at hSw)
  go_simp
  try with_reducible rfl
 refine tkJ 42 (v := ?vp5_42) ?hp5_42 zq ?rp5_42
 case hp5_42 =>
  intro wS hSw
  subst hSw
  (try dsimp only at hSw)
  go_simp
  try with_reducible rfl
 refine rdH 43 (fun K hK => ?_)
 go_simp
 go_at_call 64
 refine (uh L4 wD).mono ?_
 rintro e u1 ⟨rfl, h1⟩
 subst u1
 try go_wp2_with fail
 refine hK.out _ _ rfl (fun zq => ?_)
 clear hK K
 try simp only [Act.put, pz, py, px]
 refine tkJ 44 (v := ?vp5_44) ?hp5_44 zq ?rp5_44
 case hp5_44 =>
  intro wS hSw
  subst hSw
  (try dsimp only at hSw)
  go_simp
  try with_reducible rfl
 refine tkJ 45 (v := ?vp5_45) ?hp5_45 zq ?rp5_45
 case hp5_45 =>
  intro wS hSw
  subst hSw
  (try dsimp only at hSw)
  go_simp
  try with_reducible rfl
 refine wpAnyH_done (by kernel_rfl) ?_ _
 refine NoPanic.normal ?_
 clear zq
 go_wp2_with fail
 go_ret
 exact ⟨by rw [uh HP]; simp, uh HBD⟩
theorem cf_epoch {x : DChain} (h : (decide (1 ≤ x.epoch) && decide (x.epoch ≤ 999)) = false) : chainFault x = 3 := by
 rw [chainFault, if_neg]
 simpa using h
theorem cf_len {x : DChain} (h : (decide (1 ≤ x.epoch) && decide (x.epoch ≤ 999)) = true) (hn : x.ids.length < 1 ∨ 5 < x.ids.length) : chainFault x = 2 := by
 rw [chainFault, if_pos (by simpa using h), if_neg (by omega)]
theorem cf_ids {x : DChain} (h : (decide (1 ≤ x.epoch) && decide (x.epoch ≤ 999)) = true) (hn : ¬ x.ids.length < 1) (hm : ¬ 5 < x.ids.length) : chainFault x = idsF (x.ids.take 0) (x.ids.drop 0) := by
 rw [chainFault, if_pos (by simpa using h), if_pos (by omega)]
 simp
def ChainAtO (w : World) (b o : Nat) (v : Value) (x : DChain) : Prop := w.cell? ⟨b, o, none⟩ = some (.int .i64 x.epoch) ∧ w.cell? ⟨b, o + 1, none⟩ = some v
theorem l10AtO (b o : Nat) (a : Option Addr) (d : Nat) (x : DChain) (id : Int) (w : World) (hX : ChainAtO w b o (.slice a x.ids.length d) x) (R : (Lay.sl Lay.int).Reads w [.slice a x.ids.length d] x.ids) :
  Calls Tryz.prog 131 #[.pointer (some ⟨b, o, none⟩), .int .i64 id] w fun e w' => e = .returned (.int .i64 (placeC x.ids id)) ∧ w' = w := by
 have x1 := hX.2
 have xl : b < w.heap.size := World.block_lt_of_cell? _ _ x1
 have hbig := R.big
 have H := yh R
 clear hX R
 generalize x.ids = ids at *
 go_enter Tryz.func131, Tryz.ntmps131
 go_wp2_with fail
 go_loop [5] (fun i => ∃ k : Nat, k ≤ ids.length ∧ i = .int .i64 k ∧ (∀ j (hj : j < ids.length), j < k → ids[j] ≠ id)) (fun i => ids.length - (intOf i).toNat)
 case atStart => exact ⟨0, Nat.zero_le _, rfl, fun j _ h => by omega⟩
 case round =>
  obtain ⟨k, hk, rfl, hz⟩ := hrel
  by_cases hlt : k < ids.length
  ·
   obtain ⟨b2, off, rfl, -⟩ := Lay.sl_addr (uh H) (by omega)
   have c1 := int_cell (uh H) hlt
   cases hq : (ids[k] == id)
   ·
    have HZ : Hid (∀ j (hj : j < ids.length), j < k + 1 → ids[j] ≠ id) := fun j hj hjk => by
     by_cases h2 : j < k
     ·
      exact hz j hj h2
     obtain rfl : j = k := by omega
     simpa using hq
    clear hz
    generalize ids[k] = z at *
    go_wp2_with fail
    go_round
    case rel => exact ⟨k + 1, by omega, by go_num, uh HZ⟩
    case measure => simp [intOf]; omega
   have HP := yh (placeC_at hlt (by simpa using hq) (fun j hj => hz j (by omega) hj))
   clear hz
   generalize ids[k] = z at *
   go_wp2_with fail
   go_ret
   exact ⟨by rw [uh HP]; rfl, rfl⟩
  obtain rfl : k = ids.length := by omega
  have HP := yh (placeC_none (id := id) (fun j hj => hz j hj hj))
  clear hz
  go_wp2_with fail
  go_ret
  exact ⟨by rw [uh HP]; rfl, rfl⟩
theorem l10FaultO (b o : Nat) (a : Option Addr) (d : Nat) (x : DChain) (w : World) (hX : ChainAtO w b o (.slice a x.ids.length d) x) (R : (Lay.sl Lay.int).Reads w [.slice a x.ids.length d] x.ids) :
  Calls Tryz.prog 168 #[.pointer (some ⟨b, o, none⟩)] w fun e w' => e = .returned (.int .i64 (chainFault x)) ∧ w' = w := by
 have x0 := hX.1
 have x1 := hX.2
 have xl : b < w.heap.size := World.block_lt_of_cell? _ _ x1
 have hbig := R.big
 have HX := yh hX
 have H := yh R
 clear hX R
 go_enter Tryz.func168, Tryz.ntmps168
 go_wp2_with fail
 refine (inC x.epoch 1 999 w).mono ?_
 rintro e w1 ⟨rfl, h1⟩
 subst w1
 cases d1 : (decide (1 ≤ x.epoch) && decide (x.epoch ≤ 999))
 ·
  have HF := yh (cf_epoch d1)
  clear d1
  go_wp2_with fail
  go_ret
  exact ⟨by rw [uh HF]; rfl, rfl⟩
 by_cases hn : x.ids.length < 1
 ·
  have HF := yh (cf_len d1 (Or.inl hn))
  have hd : decide ((x.ids.length : Int) < 1) = true := by simp; omega
  clear d1
  go_wp2_with fail
  go_ret
  exact ⟨by rw [uh HF]; rfl, rfl⟩
 have hd : decide ((x.ids.length : Int) < 1) = false := by simp; omega
 by_cases hm : 5 < x.ids.length
 ·
  have HF := yh (cf_len d1 (Or.inr hm))
  have hd2 : decide ((5 : Int) < (x.ids.length : Int)) = true := by simp; omega
  clear d1
  go_wp2_with fail
  go_ret
  exact ⟨by rw [uh HF]; rfl, rfl⟩
 have HF := yh (cf_ids d1 hn hm)
 have hd2 : decide ((5 : Int) < (x.ids.length : Int)) = false := by simp; omega
 clear d1
 go_wp2_with fail
 clear hd hd2
 go_loop [3] (fun i => ∃ k : Nat, k ≤ x.ids.length ∧ i = .int .i64 k ∧ chainFault x = idsF (x.ids.take k) (x.ids.drop k)) (fun i => x.ids.length - (intOf i).toNat)
 case atStart => exact ⟨0, Nat.zero_le _, rfl, uh HF⟩
 case round =>
  obtain ⟨k, hk, rfl, hz⟩ := hrel
  clear HF
  by_cases hlt : k < x.ids.length
  ·
   rw [idsF_step x.ids k hlt] at hz
   have hself := placeC_self hlt
   obtain ⟨b2, off, rfl, -⟩ := Lay.sl_addr (uh H) (by omega)
   have c1 := int_cell (uh H) hlt
   have HP := yh (l10AtO b o (some ⟨b2, off, none⟩) d x x.ids[k] w (uh HX) (uh H))
   have hdl : decide ((k : Int) < (x.ids.length : Int)) = true := by simp; omega
   have HZ := yh hz
   have HS := yh hself
   clear hz hself
   generalize x.ids[k] = z at *
   go_wp2_with fail
   refine (node10C z w).mono ?_
   rintro e w1 ⟨rfl, h1⟩
   subst w1
   cases d2 : (decide (1 ≤ z) && decide (z ≤ 5))
   ·
    have hz := uh HZ
    rw [if_neg (by simpa using d2)] at hz
    have HF := yh hz
    clear d2 HZ HS hz
    go_wp2_with fail
    go_ret
    exact ⟨by rw [uh HF]; rfl, rfl⟩
   have hz := uh HZ
   rw [if_pos (by simpa using d2)] at hz
   have HZ2 := yh hz
   clear d2 HZ hz
   go_wp2_with fail
   refine (uh HP).mono ?_
   rintro e w1 ⟨rfl, h1⟩
   subst w1
   clear HP
   by_cases hq : placeC x.ids z = (k : Int)
   ·
    have hz := uh HZ2
    rw [if_neg ((uh HS).1 hq)] at hz
    have HF := yh hz
    have hb : (placeC x.ids z != (k : Int)) = false := by rw [hq]; simp
    clear HZ2 HS hz hq
    generalize placeC x.ids z = p at *
    go_wp2_with fail
    go_round
    case rel => exact ⟨k + 1, by omega, by go_num, uh HF⟩
    case measure => simp [intOf]; omega
   have hz := uh HZ2
   rw [if_pos (Classical.not_not.1 fun hc => hq ((uh HS).2 hc))] at hz
   have HF := yh hz
   have hb : (placeC x.ids z != (k : Int)) = true := by rw [bne_iff_ne]; exact hq
   clear HZ2 HS hz hq
   generalize placeC x.ids z = p at *
   go_wp2_with fail
   go_ret
   exact ⟨by rw [uh HF]; rfl, rfl⟩
  obtain rfl : k = x.ids.length := by omega
  rw [idsF_end] at hz
  have hdl : decide ((x.ids.length : Int) < (x.ids.length : Int)) = false := by simp
  have HF := yh hz
  clear hz
  go_wp2_with fail
  go_ret
  exact ⟨by rw [uh HF]; rfl, rfl⟩
end Go.Proofs.YtoanimpijfijgaaGreat
