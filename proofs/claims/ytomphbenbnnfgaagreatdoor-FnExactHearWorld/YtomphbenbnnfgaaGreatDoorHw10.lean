/-
  Texts of this proof in one: SpecWC, SpecNodeO, SpecWN, SpecNetF, SpecWF, SpecWA, SpecWNext, SpecWPut.
  Their conditions stand in their theorems.
-/
import Derived.Test.YtomphbenbnnfgaaGreatDoorHw08
import Derived.Test.YtomphbenbnnfgaaGreatDoorHw09
import Derived.Test.YtomphbenbnnfgaaGreatDoorHw07
import Derived.Deep.RegionHeld3
import Derived.Deep.CutRange
import Derived.Test.YtomphbenbnnfgaaGreatDoorHw00
import Derived.Test.YtomphbenbnnfgaaGreatDoorHw05
import Derived.Test.YtomphbenbnnfgaaGreatDoorHw01
set_option maxRecDepth 100000
set_option maxHeartbeats 4000000
namespace Go.Proofs.YtomphbenbnnfgaaGreatDoor
open Go.RowKit
abbrev sT : Oper := ⟨some 3, .alloc 39, 0, "l12_world.go:81", #[], none⟩
abbrev tG : Oper := ⟨some 26, .load 35 (.tmp 25), 35, "l12_world.go:83", #[⟨0, .data⟩], none⟩
theorem mj {lo : Nat} {T : TypeId} {W : World} {s : Nat} {c0 c1 c2 c3 c4 c5 c6 : Value} (h : ag lo #[c0, c1, c2, c3, c4, c5, c6] T W s) (v0 v1 v2 v3 v4 v5 v6 : Value) : ag lo #[v0, v1, v2, v3, v4, v5, v6] T (aU W s 0 [v0, v1, v2, v3, v4, v5, v6]) s := by
 have q := (ag.set (ag.set (ag.set (ag.set (ag.set (ag.set (ag.set h 0 v0) 1 v1) 2 v2) 3 v3) 4 v4) 5 v5) 6 v6)
 simp only [List.setIfInBounds_toArray, List.set_cons_zero, List.set_cons_succ] at q
 exact q
theorem fN {lo : Nat} {cs : Array Value} {T : TypeId} {W w' : World} {s B : Nat} (h : ag lo cs T W s) (hb : Below B W w') (hs : s < B) : ag lo cs T w' s := ⟨h.1, (hb.block s hs).trans h.2⟩
theorem fc {α : Type} {A : ab α} {S : Nat → Prop} {w w' : World} {base T : Nat} {v : Value} {rows : List (List Value)} {xs : List α} {bls : List (List Nat)} (h : ck A w base T v rows xs bls) (e : Ext S w w') (h1 : ∀ c ∈ bls.flatten, ¬ S c) (h2 : ∀ g, v.ownBlock = some g → ¬ S g) : ck A w' base T v rows xs bls := by
 refine h.kept ?_ (fun c hc => e.block c (h.sub_lt c hc) (h1 c hc))
 obtain ⟨q1, q2⟩ := h.own
 refine ⟨q1, ?_⟩
 rcases q2 with q2 | ⟨g, cap, cu, hv, hg, hh, r⟩
 ·
  exact Or.inl q2
 exact Or.inr ⟨g, cap, cu, hv, hg, (e.block g (lt_of_block hh) (h2 g (by rw [hv]; rfl))).trans hh, r⟩
theorem iJ {α : Type} {A : ab α} {w w' : World} {cs : List Value} {x : α} {lo hi B : Nat} (h : A.cK w cs x lo hi) (hb : Below B w w') (hh : hi ≤ B) : A.cK w' cs x lo hi := by
 obtain ⟨bl, l, hl⟩ := h
 exact ⟨bl, A.aj l fun b hm => hb.block b (by have := hl b hm; omega), hl⟩
def wfE (e : cj) : Prop := (Lit.int .i64 e.kind).wf = true ∧ (Lit.int .i64 e.aa).wf = true ∧ (Lit.int .i64 e.seq).wf = true ∧ (Lit.int .i64 e.id).wf = true ∧ (Lit.int .i64 e.k).wf = true ∧ (Lit.int .i64 e.start).wf = true ∧ (Lit.int .i64 e.fin).wf = true ∧ (Lit.int .i64 e.place).wf = true
def eo (W : World) (lo hi : Nat) (cells : List Value) (x : ay) : Prop := ∃ (q : tu) (H : Nat) (rows : List (List Value)) (bls : List (List Nat)), cells = q.cells x ∧ nq W q x ∧ (lo ≤ q.b ∧ q.b < H) ∧ (∀ c ∈ q.l3, lo ≤ c ∧ c < H) ∧ (∀ c ∈ q.r, lo ≤ c ∧ c < H) ∧ (∀ c ∈ q.l5, lo ≤ c ∧ c < H) ∧ (∀ c ∈ q.l6, H ≤ c ∧ c < hi) ∧ (lo ≤ H ∧ H ≤ hi) ∧ ck ab.az W H 89 (.slice q.a6 x.af.length q.d6) rows x.af bls ∧ (∀ c ∈ bls.flatten, H ≤ c ∧ c < hi) ∧ (∀ g, (Value.slice q.a6 x.af.length q.d6).ownBlock = some g → H ≤ g ∧ g < hi)
theorem eo.vD {W : World} {lo hi : Nat} {cells : List Value} {x : ay} (h : eo W lo hi cells x) : mP W lo hi cells x := by
 obtain ⟨q, H, rows, bls, e, hl, hb, h3, hr, h5, h6, hH, -, -, -⟩ := h
 exact ⟨q, e, hl, by omega, fun c hc => by have := h3 c hc; omega, fun c hc => by have := hr c hc; omega, fun c hc => by have := h5 c hc; omega, fun c hc => by have := h6 c hc; omega⟩
theorem eo.ext {S : Nat → Prop} {W W' : World} {lo hi : Nat} {cells : List Value} {x : ay} (h : eo W lo hi cells x) (e : Ext S W W') (hs : ∀ k, lo ≤ k → k < hi → ¬ S k) : eo W' lo hi cells x := by
 obtain ⟨q, H, rows, bls, rfl, hl, hb, h3, hr, h5, h6, hH, hG, hB, hO⟩ := h
 refine ⟨q, H, rows, bls, rfl, hl.ext e (fun c hc hm => ?_), hb, h3, hr, h5, h6, hH, fc hG e (fun c hc => hs c (by have := hB c hc; omega) (hB c hc).2) (fun g hg => hs g (by have := hO g hg; omega) (hO g hg).2), hB, hO⟩
 rcases hm with rfl | hm | hm | hm | hm
 ·
  exact hs _ hb.1 (by omega)
 ·
  exact hs c (h3 c hm).1 (by have := h3 c hm; omega)
 ·
  exact hs c (hr c hm).1 (by have := hr c hm; omega)
 ·
  exact hs c (h5 c hm).1 (by have := h5 c hm; omega)
 exact hs c (by have := h6 c hm; omega) (h6 c hm).2
theorem eo.later {W W' : World} {lo hi : Nat} {cells : List Value} {x : ay} (h : eo W lo hi cells x) (hb : Below W.heap.size W W') : eo W' lo hi cells x := h.ext (ak hb dk) fun _ _ _ q => q
theorem eo.mono {W : World} {lo hi lo' hi' : Nat} {cells : List Value} {x : ay} (h : eo W lo hi cells x) (h1 : lo' ≤ lo) (h2 : hi ≤ hi') : eo W lo' hi' cells x := by
 obtain ⟨q, H, rows, bls, rfl, hl, hb, h3, hr, h5, h6, hH, hG, hB, hO⟩ := h
 exact ⟨q, H, rows, bls, rfl, hl, by omega, fun c hc => by have := h3 c hc; omega, fun c hc => by have := hr c hc; omega, fun c hc => by have := h5 c hc; omega, fun c hc => by have := h6 c hc; omega, by omega, hG, fun c hc => by have := hB c hc; omega, fun g hg => by have := hO g hg; omega⟩
theorem eo.reads {W : World} {lo hi : Nat} {cells : List Value} {x : ay} (h : eo W lo hi cells x) : ab.aH.Reads W cells x := h.vD.reads
theorem eo.count {W : World} {lo hi : Nat} {v3 v4 v5 v6 : Value} {x : ay} (h : eo W lo hi [.int .i64 x.now, .int .i64 x.events, .int .i64 x.chain.ae, v3, v4, v5, v6] x) (n e : Int) (hn : (Lit.int .i64 n).wf = true) (he : (Lit.int .i64 e).wf = true) : eo W lo hi [.int .i64 n, .int .i64 e, .int .i64 x.chain.ae, v3, v4, v5, v6] { x with now := n, events := e } := by
 obtain ⟨q, H, rows, bls, hq, hl, r⟩ := h
 simp only [tu.cells, List.cons.injEq, and_true, true_and] at hq
 obtain ⟨rfl, rfl, rfl, rfl⟩ := hq
 exact ⟨q, H, rows, bls, rfl, ⟨hn, he, hl.w2, hl.i3, hl.i4, hl.i5, hl.i6, hl.n3, hl.n5, hl.n6⟩, r⟩
theorem sW (cs : List Value) (x : ay) (w : World) (h : ab.aH.Reads w cs x) (hok : eE x) (hf : Fits x) :
  Calls Tryz.prog 93 #[.agg cs.toArray] w fun e w' => ∃ cs', e = .returned (.agg cs'.toArray) ∧ eo w' w.heap.size w'.heap.size cs' x ∧ Below w.heap.size w w' := by
 obtain ⟨a3, d3, a4, d4, a5, d5, a6, d6, rfl, RC, RN, RM, RE⟩ := aN h
 have nb : Below w.heap.size w ((w.alloc (.cells #[.int .i64 x.now, .int .i64 x.events, .int .i64 x.chain.ae, .slice a3 x.chain.ids.length d3, .slice a4 x.nodes.length d4, .slice a5 x.msgs.length d5, .slice a6 x.af.length d6] 39)).alloc (.cells #[.int .i64 0, .int .i64 0, .int .i64 0, .slice none 0 0, .slice none 0 0, .slice none 0 0, .slice none 0 0] 39)) := ((Below.refl _ _).alloc (Nat.le_refl _) _).alloc (by simp) _
 have hz0 : ((w.alloc (.cells #[.int .i64 x.now, .int .i64 x.events, .int .i64 x.chain.ae, .slice a3 x.chain.ids.length d3, .slice a4 x.nodes.length d4, .slice a5 x.msgs.length d5, .slice a6 x.af.length d6] 39)).alloc (.cells #[.int .i64 0, .int .i64 0, .int .i64 0, .slice none 0 0, .slice none 0 0, .slice none 0 0, .slice none 0 0] 39)).heap.size = w.heap.size + 2 := by simp
 obtain ⟨b, off, rfl, hbl⟩ := ab.aR RN (by have := hok.some; omega)
 have HX : Hid (ag 0 #[.int .i64 x.now, .int .i64 x.events, .int .i64 x.chain.ae, .slice a3 x.chain.ids.length d3, .slice (some ⟨b, off, none⟩) x.nodes.length d4, .slice a5 x.msgs.length d5, .slice a6 x.af.length d6] 39 ((w.alloc (.cells #[.int .i64 x.now, .int .i64 x.events, .int .i64 x.chain.ae, .slice a3 x.chain.ids.length d3, .slice (some ⟨b, off, none⟩) x.nodes.length d4, .slice a5 x.msgs.length d5, .slice a6 x.af.length d6] 39)).alloc (.cells #[.int .i64 0, .int .i64 0, .int .i64 0, .slice none 0 0, .slice none 0 0, .slice none 0 0, .slice none 0 0] 39)) w.heap.size) := (aC (Nat.zero_le _)).grow _
 have HY : Hid (ag 0 #[.int .i64 0, .int .i64 0, .int .i64 0, .slice none 0 0, .slice none 0 0, .slice none 0 0, .slice none 0 0] 39 ((w.alloc (.cells #[.int .i64 x.now, .int .i64 x.events, .int .i64 x.chain.ae, .slice a3 x.chain.ids.length d3, .slice (some ⟨b, off, none⟩) x.nodes.length d4, .slice a5 x.msgs.length d5, .slice a6 x.af.length d6] 39)).alloc (.cells #[.int .i64 0, .int .i64 0, .int .i64 0, .slice none 0 0, .slice none 0 0, .slice none 0 0, .slice none 0 0] 39)) (w.heap.size + 1)) := bb (Nat.zero_le _) (by simp)
 have HRC := yh (RC.later nb)
 have HRM := yh (RM.later nb)
 have HRN := yh (RN.later nb)
 have HRE := yh (RE.later nb)
 have HWF := yh (kG h)
 have HOK := yh hok
 have HN3 : Hid (x.chain.ids.length ≤ 100000000) := by have := (de hok.chain).len; show x.chain.ids.length ≤ 100000000; omega
 have HN5 : Hid (x.msgs.length ≤ 10000000 ∧ ∀ m ∈ x.msgs, m.write.vec.length ≤ 100000000) := ⟨by have := (cJ hok.uv).1; omega, sP hok.uv⟩
 have HF := yh hf
 have HB := yh nb
 have hbl0 : b < ((w.alloc (.cells #[.int .i64 x.now, .int .i64 x.events, .int .i64 x.chain.ae, .slice a3 x.chain.ids.length d3, .slice (some ⟨b, off, none⟩) x.nodes.length d4, .slice a5 x.msgs.length d5, .slice a6 x.af.length d6] 39)).alloc (.cells #[.int .i64 0, .int .i64 0, .int .i64 0, .slice none 0 0, .slice none 0 0, .slice none 0 0, .slice none 0 0] 39)).heap.size := Nat.lt_of_lt_of_le hbl nb.size
 clear nb h RC RN RM RE hok hf hbl
 go_enter Tryz.func93, Tryz.ntmps93
 go_upto_region 1 with fail
 generalize (w.alloc (.cells #[.int .i64 x.now, .int .i64 x.events, .int .i64 x.chain.ae, .slice a3 x.chain.ids.length d3, .slice (some ⟨b, off, none⟩) x.nodes.length d4, .slice a5 x.msgs.length d5, .slice a6 x.af.length d6] 39)).alloc (.cells #[.int .i64 0, .int .i64 0, .int .i64 0, .slice none 0 0, .slice none 0 0, .slice none 0 0, .slice none 0 0] 39) = W0 at *
 go_cut [3] from 7 to 17 (fun s3 wx => ∃ (wz : World) (g : Nat) (v3 v5 : Value), wz = wx ∧ s3 = .pointer (some ⟨g, 0, none⟩) ∧ ag 0 #[.int .i64 x.now, .int .i64 x.events, .int .i64 x.chain.ae, v3, .slice none 0 0, v5, .slice none 0 0] 39 wz g ∧ Clear ab.int wz v3 x.chain.ids W0.heap.size wz.heap.size g ∧ Clear ab.aP wz v5 x.msgs W0.heap.size wz.heap.size g ∧ W0.heap.size ≤ g ∧ Below W0.heap.size W0 wz)
 case first =>
  have z0 := ag.at (uh HX) 0 _ rfl
  have z1 := ag.at (uh HX) 1 _ rfl
  have z2 := ag.at (uh HX) 2 _ rfl
  have z3 := ag.at (uh HX) 3 _ rfl
  have z5 := ag.at (uh HX) 5 _ rfl
  simp only [ga, gb, gc] at z0 z1 z2 z3 z5
  have hxl := (uh HX).lt
  have HDS : W0.heap.size ≤ W0.drew.heap.size := Nat.le_refl _
  clear HX HY HRN HRE HOK HF HB
  refine wZz (fun w' => Below W0.heap.size W0 w') ((Below.refl _ _).drew) (fun zq => ?_)
  generalize W0.drew = wD at zq HDS ⊢
  refine tkH 0 zq ?_
  refine tkJ 1 (v := ?ve1_2) ?he1_2 zq ?re1_2
  case he1_2 =>
   intro wS hSw
   have q0 := cZ hSw hxl z0
   clear hSw
   exact fZ
  refine tkH 2 zq ?_
  refine tkJ 3 (v := ?ve3_4) ?he3_4 zq ?re3_4
  case he3_4 =>
   intro wS hSw
   have q1 := cZ hSw hxl z1
   clear hSw
   exact fZ
  refine tkH 4 zq ?_
  refine tkJ 5 (v := ?ve5_6) ?he5_6 zq ?re5_6
  case he5_6 =>
   intro wS hSw
   have q2 := cZ hSw hxl z2
   have q3 := cZ hSw hxl z3
   clear hSw
   exact fZ
  refine tkH 7 zq ?_
  refine tkJ 8 (v := ?ve8_8) ?he8_8 zq ?re8_8
  case he8_8 =>
   intro wS hSw
   have q5 := cZ hSw hxl z5
   clear hSw
   exact fZ
  refine wpAnyH_ready (rs := [6, 11]) (by kernel_rfl) (by simp) ?_
  refine AllReadyH.cons (o := ⟨some 13, .call { callee := .value (.func 149), args := #[.tmp 12], argTypes := #[34] }, 34, "l12_world.go:81", #[⟨5, .data⟩], none⟩) rfl (fun K hK => ?oe6_9) (AllReadyH.cons (o := sT) rfl (fun K hK => ?oe11_9) (AllReadyH.nil))
  case oe6_9 =>
   go_simp
   go_at_call 149
   refine (ox _ x.chain _ ((uh HRC).later zq) (uh HN3)).mono ?_
   rintro e u6 ⟨a3q, c3q, rfl, O3, hb6⟩
   have hz6 : wD.heap.size ≤ u6.heap.size := hb6.size
   try go_wp2_with fail
   refine hK.out _ _ (zq.trans (hb6.mono zq.size)) (fun zq => ?_)
   clear hK K
   try simp only [Act.put, pz, py, px]
   refine wpAnyH_ready (rs := [9, 11]) (by kernel_rfl) (by simp) ?_
   refine AllReadyH.cons (o := ⟨some 16, .call { callee := .value (.func 150), args := #[.tmp 15], argTypes := #[36] }, 36, "l12_world.go:81", #[⟨8, .data⟩, ⟨6, .chain⟩], none⟩) rfl (fun K hK => ?oe9_10) (AllReadyH.cons (o := sT) rfl (fun K hK => ?oe11_10) (AllReadyH.nil))
   case oe9_10 =>
    go_simp
    go_at_call 150
    refine (pI _ x.msgs _ ((uh HRM).later zq) (uh HN5).1 (uh HN5).2).mono ?_
    rintro e u9 ⟨v5, rfl, ⟨rows, bls, G9, hs9⟩, hb9⟩
    have hz9 : u6.heap.size ≤ u9.heap.size := hb9.size
    obtain ⟨a5q, c5q, rfl⟩ := eW G9.own
    have O5 := G9.ft (by have := (uh HN5).1; omega) hs9
    replace O3 := O3.later hb9
    try go_wp2_with fail
    refine hK.out _ _ (zq.trans (hb9.mono zq.size)) (fun zq => ?_)
    clear hK K
    try simp only [Act.put, pz, py, px]
    refine tkH 10 zq ?_
    refine rdH 11 (fun K hK => ?_)
    have HG : Hid (ag 0 #[.int .i64 0, .int .i64 0, .int .i64 0, .slice none 0 0, .slice none 0 0, .slice none 0 0, .slice none 0 0] 39 (u9.alloc (.cells #[.int .i64 0, .int .i64 0, .int .i64 0, .slice none 0 0, .slice none 0 0, .slice none 0 0, .slice none 0 0] 39)) u9.heap.size) := aC (Nat.zero_le _)
    have hH11 := zq
    go_simp
    refine hK.out _ _ (zq.alloc zq.size _) (fun zq => ?_)
    clear hK K
    try simp only [Act.put, pz, py, px]
    refine rdH 12 (fun K hK => ?_)
    have hzD := hH11.size
    go_simp
    refine hK.out _ _ (hH11.alloc hH11.size _) (fun zq => ?_)
    clear hK K
    try simp only [Act.put, pz, py, px]
    refine dZ ?_
    go_wp2_with fail
    go_meet
    have nb2 : Below u9.heap.size u9 (u9.alloc (.cells #[.int .i64 x.now, .int .i64 x.events, .int .i64 x.chain.ae, .slice a3q x.chain.ids.length c3q, .slice none 0 0, .slice a5q x.msgs.length c5q, .slice none 0 0] 39)) := (Below.refl _ _).alloc (Nat.le_refl _) _
    have hss : (u9.alloc (.cells #[.int .i64 x.now, .int .i64 x.events, .int .i64 x.chain.ae, .slice a3q x.chain.ids.length c3q, .slice none 0 0, .slice a5q x.msgs.length c5q, .slice none 0 0] 39)).heap.size = u9.heap.size + 1 := by simp
    have C3 := (fP (g := u9.heap.size) (O3.bD.later nb2) (by omega)).wide (lo' := W0.heap.size) (hi' := (u9.alloc (.cells #[.int .i64 x.now, .int .i64 x.events, .int .i64 x.chain.ae, .slice a3q x.chain.ids.length c3q, .slice none 0 0, .slice a5q x.msgs.length c5q, .slice none 0 0] 39)).heap.size) (by omega) (by omega)
    have C5 := (fP (g := u9.heap.size) (O5.later nb2) (by omega)).wide (lo' := W0.heap.size) (hi' := (u9.alloc (.cells #[.int .i64 x.now, .int .i64 x.events, .int .i64 x.chain.ae, .slice a3q x.chain.ids.length c3q, .slice none 0 0, .slice a5q x.msgs.length c5q, .slice none 0 0] 39)).heap.size) (by omega) (by omega)
    exact ⟨_, u9.heap.size, _, _, rfl, rfl, aC (Nat.zero_le _), C3, C5, by omega, zq⟩
   case oe11_10 =>
    have HG : Hid (ag 0 #[.int .i64 0, .int .i64 0, .int .i64 0, .slice none 0 0, .slice none 0 0, .slice none 0 0, .slice none 0 0] 39 (u6.alloc (.cells #[.int .i64 0, .int .i64 0, .int .i64 0, .slice none 0 0, .slice none 0 0, .slice none 0 0, .slice none 0 0] 39)) u6.heap.size) := aC (Nat.zero_le _)
    have hza : u6.heap.size < (u6.alloc (.cells #[.int .i64 0, .int .i64 0, .int .i64 0, .slice none 0 0, .slice none 0 0, .slice none 0 0, .slice none 0 0] 39)).heap.size := by simp
    have nba : Below u6.heap.size u6 (u6.alloc (.cells #[.int .i64 0, .int .i64 0, .int .i64 0, .slice none 0 0, .slice none 0 0, .slice none 0 0, .slice none 0 0] 39)) := (Below.refl _ _).alloc (Nat.le_refl _) _
    replace O3 := O3.later nba
    go_simp
    refine hK.out _ _ (zq.alloc zq.size _) (fun zq => ?_)
    clear hK K
    try simp only [Act.put, pz, py, px]
    refine rdH 9 (fun K hK => ?_)
    go_simp
    go_at_call 150
    refine (pI _ x.msgs _ ((uh HRM).later zq) (uh HN5).1 (uh HN5).2).mono ?_
    rintro e u9 ⟨v5, rfl, ⟨rows, bls, G9, hs9⟩, hb9⟩
    have hz9 : (u6.alloc (.cells #[.int .i64 0, .int .i64 0, .int .i64 0, .slice none 0 0, .slice none 0 0, .slice none 0 0, .slice none 0 0] 39)).heap.size ≤ u9.heap.size := hb9.size
    obtain ⟨a5q, c5q, rfl⟩ := eW G9.own
    have O5 := G9.ft (by have := (uh HN5).1; omega) hs9
    have HG9 := yh ((uh HG).aj hb9)
    clear HG
    have HG := HG9
    clear HG9
    replace O3 := O3.later hb9
    try go_wp2_with fail
    refine hK.out _ _ (zq.trans (hb9.mono zq.size)) (fun zq => ?_)
    clear hK K
    try simp only [Act.put, pz, py, px]
    refine tkH 10 zq ?_
    refine rdH 12 (fun K hK => ?_)
    have hzD := zq.size
    have r0 := ag.at (uh HG) 0 _ rfl
    have r1 := ag.at (uh HG) 1 _ rfl
    have r2 := ag.at (uh HG) 2 _ rfl
    have r3 := ag.at (uh HG) 3 _ rfl
    have r4 := ag.at (uh HG) 4 _ rfl
    have r5 := ag.at (uh HG) 5 _ rfl
    have r6 := ag.at (uh HG) 6 _ rfl
    simp only [ga, gb, gc] at r0 r1 r2 r3 r4 r5 r6
    have rf := ag.soft (uh HG)
    have rl := (uh HG).lt
    go_simp
    refine hK.out _ _ (Below.setCell (Below.setCell (Below.setCell (Below.setCell (Below.setCell (Below.setCell (Below.setCell zq (p := ⟨u6.heap.size, 0, none⟩) (by simp only []; omega) (.int .i64 x.now)) (p := ⟨u6.heap.size, 1, none⟩) (by simp only []; omega) (.int .i64 x.events)) (p := ⟨u6.heap.size, 2, none⟩) (by simp only []; omega) (.int .i64 x.chain.ae)) (p := ⟨u6.heap.size, 3, none⟩) (by simp only []; omega) (.slice a3q x.chain.ids.length c3q)) (p := ⟨u6.heap.size, 4, none⟩) (by simp only []; omega) (.slice none 0 0)) (p := ⟨u6.heap.size, 5, none⟩) (by simp only []; omega) (.slice a5q x.msgs.length c5q)) (p := ⟨u6.heap.size, 6, none⟩) (by simp only []; omega) (.slice none 0 0)) (fun zq => ?_)
    clear hK K
    try simp only [Act.put, pz, py, px]
    refine dZ ?_
    go_wp2_with fail
    go_meet
    have hbx := mj (uh HG) (.int .i64 x.now) (.int .i64 x.events) (.int .i64 x.chain.ae) (.slice a3q x.chain.ids.length c3q) (.slice none 0 0) (.slice a5q x.msgs.length c5q) (.slice none 0 0)
    have e1 : Ext (fun q => q = u6.heap.size) u9 (aU u9 u6.heap.size 0 [.int .i64 x.now, .int .i64 x.events, .int .i64 x.chain.ae, .slice a3q x.chain.ids.length c3q, .slice none 0 0, .slice a5q x.msgs.length c5q, .slice none 0 0]) := cb _ (Ext.refl _ _) _ _ _ rfl
    have hss : (aU u9 u6.heap.size 0 [.int .i64 x.now, .int .i64 x.events, .int .i64 x.chain.ae, .slice a3q x.chain.ids.length c3q, .slice none 0 0, .slice a5q x.msgs.length c5q, .slice none 0 0]).heap.size = u9.heap.size := bJ _ _ _ _
    have C3 := ((fP (g := u6.heap.size) O3.bD (by omega)).ext e1 (fun k h1 h2 h3 h4 => h3 h4)).wide (lo' := W0.heap.size) (hi' := (aU u9 u6.heap.size 0 [.int .i64 x.now, .int .i64 x.events, .int .i64 x.chain.ae, .slice a3q x.chain.ids.length c3q, .slice none 0 0, .slice a5q x.msgs.length c5q, .slice none 0 0]).heap.size) (by omega) (by omega)
    have C5 := ((fP (g := u6.heap.size) O5 (by omega)).ext e1 (fun k h1 h2 h3 h4 => h3 h4)).wide (lo' := W0.heap.size) (hi' := (aU u9 u6.heap.size 0 [.int .i64 x.now, .int .i64 x.events, .int .i64 x.chain.ae, .slice a3q x.chain.ids.length c3q, .slice none 0 0, .slice a5q x.msgs.length c5q, .slice none 0 0]).heap.size) (by omega) (by omega)
    exact ⟨_, u6.heap.size, _, _, rfl, rfl, hbx, C3, C5, by omega, zq⟩
  case oe11_9 =>
   have HG : Hid (ag 0 #[.int .i64 0, .int .i64 0, .int .i64 0, .slice none 0 0, .slice none 0 0, .slice none 0 0, .slice none 0 0] 39 (wD.alloc (.cells #[.int .i64 0, .int .i64 0, .int .i64 0, .slice none 0 0, .slice none 0 0, .slice none 0 0, .slice none 0 0] 39)) wD.heap.size) := aC (Nat.zero_le _)
   have hza : wD.heap.size < (wD.alloc (.cells #[.int .i64 0, .int .i64 0, .int .i64 0, .slice none 0 0, .slice none 0 0, .slice none 0 0, .slice none 0 0] 39)).heap.size := by simp
   have nba : Below wD.heap.size wD (wD.alloc (.cells #[.int .i64 0, .int .i64 0, .int .i64 0, .slice none 0 0, .slice none 0 0, .slice none 0 0, .slice none 0 0] 39)) := (Below.refl _ _).alloc (Nat.le_refl _) _
   go_simp
   refine hK.out _ _ (zq.alloc zq.size _) (fun zq => ?_)
   clear hK K
   try simp only [Act.put, pz, py, px]
   refine rdH 6 (fun K hK => ?_)
   go_simp
   go_at_call 149
   refine (ox _ x.chain _ ((uh HRC).later zq) (uh HN3)).mono ?_
   rintro e u6 ⟨a3q, c3q, rfl, O3, hb6⟩
   have hz6 : (wD.alloc (.cells #[.int .i64 0, .int .i64 0, .int .i64 0, .slice none 0 0, .slice none 0 0, .slice none 0 0, .slice none 0 0] 39)).heap.size ≤ u6.heap.size := hb6.size
   have HG6 := yh ((uh HG).aj hb6)
   clear HG
   have HG := HG6
   clear HG6
   try go_wp2_with fail
   refine hK.out _ _ (zq.trans (hb6.mono zq.size)) (fun zq => ?_)
   clear hK K
   try simp only [Act.put, pz, py, px]
   refine rdH 9 (fun K hK => ?_)
   go_simp
   go_at_call 150
   refine (pI _ x.msgs _ ((uh HRM).later zq) (uh HN5).1 (uh HN5).2).mono ?_
   rintro e u9 ⟨v5, rfl, ⟨rows, bls, G9, hs9⟩, hb9⟩
   have hz9 : u6.heap.size ≤ u9.heap.size := hb9.size
   obtain ⟨a5q, c5q, rfl⟩ := eW G9.own
   have O5 := G9.ft (by have := (uh HN5).1; omega) hs9
   have HG9 := yh ((uh HG).aj hb9)
   clear HG
   have HG := HG9
   clear HG9
   replace O3 := O3.later hb9
   try go_wp2_with fail
   refine hK.out _ _ (zq.trans (hb9.mono zq.size)) (fun zq => ?_)
   clear hK K
   try simp only [Act.put, pz, py, px]
   refine tkH 10 zq ?_
   refine rdH 12 (fun K hK => ?_)
   have hzD := zq.size
   have r0 := ag.at (uh HG) 0 _ rfl
   have r1 := ag.at (uh HG) 1 _ rfl
   have r2 := ag.at (uh HG) 2 _ rfl
   have r3 := ag.at (uh HG) 3 _ rfl
   have r4 := ag.at (uh HG) 4 _ rfl
   have r5 := ag.at (uh HG) 5 _ rfl
   have r6 := ag.at (uh HG) 6 _ rfl
   simp only [ga, gb, gc] at r0 r1 r2 r3 r4 r5 r6
   have rf := ag.soft (uh HG)
   have rl := (uh HG).lt
   go_simp
   refine hK.out _ _ (Below.setCell (Below.setCell (Below.setCell (Below.setCell (Below.setCell (Below.setCell (Below.setCell zq (p := ⟨wD.heap.size, 0, none⟩) (by simp only []; omega) (.int .i64 x.now)) (p := ⟨wD.heap.size, 1, none⟩) (by simp only []; omega) (.int .i64 x.events)) (p := ⟨wD.heap.size, 2, none⟩) (by simp only []; omega) (.int .i64 x.chain.ae)) (p := ⟨wD.heap.size, 3, none⟩) (by simp only []; omega) (.slice a3q x.chain.ids.length c3q)) (p := ⟨wD.heap.size, 4, none⟩) (by simp only []; omega) (.slice none 0 0)) (p := ⟨wD.heap.size, 5, none⟩) (by simp only []; omega) (.slice a5q x.msgs.length c5q)) (p := ⟨wD.heap.size, 6, none⟩) (by simp only []; omega) (.slice none 0 0)) (fun zq => ?_)
   clear hK K
   try simp only [Act.put, pz, py, px]
   refine dZ ?_
   go_wp2_with fail
   go_meet
   have hbx := mj (uh HG) (.int .i64 x.now) (.int .i64 x.events) (.int .i64 x.chain.ae) (.slice a3q x.chain.ids.length c3q) (.slice none 0 0) (.slice a5q x.msgs.length c5q) (.slice none 0 0)
   have e1 : Ext (fun q => q = wD.heap.size) u9 (aU u9 wD.heap.size 0 [.int .i64 x.now, .int .i64 x.events, .int .i64 x.chain.ae, .slice a3q x.chain.ids.length c3q, .slice none 0 0, .slice a5q x.msgs.length c5q, .slice none 0 0]) := cb _ (Ext.refl _ _) _ _ _ rfl
   have hss : (aU u9 wD.heap.size 0 [.int .i64 x.now, .int .i64 x.events, .int .i64 x.chain.ae, .slice a3q x.chain.ids.length c3q, .slice none 0 0, .slice a5q x.msgs.length c5q, .slice none 0 0]).heap.size = u9.heap.size := bJ _ _ _ _
   have C3 := ((fP (g := wD.heap.size) O3.bD (by omega)).ext e1 (fun k h1 h2 h3 h4 => h3 h4)).wide (lo' := W0.heap.size) (hi' := (aU u9 wD.heap.size 0 [.int .i64 x.now, .int .i64 x.events, .int .i64 x.chain.ae, .slice a3q x.chain.ids.length c3q, .slice none 0 0, .slice a5q x.msgs.length c5q, .slice none 0 0]).heap.size) (by omega) (by omega)
   have C5 := ((fP (g := wD.heap.size) O5 (by omega)).ext e1 (fun k h1 h2 h3 h4 => h3 h4)).wide (lo' := W0.heap.size) (hi' := (aU u9 wD.heap.size 0 [.int .i64 x.now, .int .i64 x.events, .int .i64 x.chain.ae, .slice a3q x.chain.ids.length c3q, .slice none 0 0, .slice a5q x.msgs.length c5q, .slice none 0 0]).heap.size) (by omega) (by omega)
   exact ⟨_, wD.heap.size, _, _, rfl, rfl, hbx, C3, C5, by omega, zq⟩
 case rest =>
  obtain ⟨W1, g, v3, v5, hW, rfl, hg, hC3, hC5, hgl, hB1⟩ := hcut
  subst hW
  obtain ⟨a3q, c3q, rfl⟩ := aI hC3.reads
  obtain ⟨a5q, c5q, rfl⟩ := aI hC5.reads
  have HC3 := yh hC3
  have HC5 := yh hC5
  have HG1 := yh hg
  have HB1 := yh hB1
  have hgB := hg.lt
  have hz1 := hB1.size
  clear hC3 hC5 hg hB1 HRC HRM HN3 HN5
  go_wp2_with fail
  go_loopw [4] (fun i wr => ∃ (k : Nat) (an : Option Addr) (mn cn : Nat) (rows : List (List Value)) (bls : List (List Nat)), k ≤ x.nodes.length ∧ i = .int .i64 (k : Int) ∧ ag 0 #[.int .i64 x.now, .int .i64 x.events, .int .i64 x.chain.ae, .slice a3q x.chain.ids.length c3q, .slice an mn cn, .slice a5q x.msgs.length c5q, .slice none 0 0] 39 wr g ∧ ck ab.aA wr W1.heap.size 63 (.slice an mn cn) rows (x.nodes.take k) bls ∧ (∀ c ∈ bls.flatten, W1.heap.size ≤ c) ∧ Ext (fun q => q = g ∨ W1.heap.size ≤ q) W1 wr) (fun i _ => x.nodes.length - (intOf i).toNat)
  case atStart => exact ⟨0, none, 0, 0, [], [], Nat.zero_le _, rfl, uh HG1, ck.nil (World.ownsRow_nil _ _ _ _), by simp, Ext.refl _ _⟩
  case round =>
   obtain ⟨k, an, mn, cn, rows, bls, hk, rfl, hN, hG, hS, hE⟩ := hrel
   have hBr : Below W0.heap.size W0 wr := (uh HB1).trans (hE.below hz1 (fun k hk q => by rcases q with q | q <;> omega))
   have hx := fN (uh HX) hBr (by omega)
   have z4 := ag.at (uh HX) 4 _ rfl
   have y4 := ag.at hx 4 _ rfl
   have y5 := ag.at hx 5 _ rfl
   simp only [ga, gb, gc] at z4 y4 y5
   have hxl := (uh HX).lt
   have hxr := hx.lt
   have hnb := (uh HRN).ez
   by_cases hlt : k < x.nodes.length
   ·
    obtain ⟨row, hcl, hr⟩ := ab.bF (uh HRN) hlt
    have hn := cq ((uh HOK).nodes k hlt).1
    have HL : Hid (∀ V, Below W0.heap.size W0 V → Calls Tryz.prog 151 #[.agg row.toArray] V fun e w' => ∃ a6 d6 rows bls, e = .returned (.agg #[.int .i64 x.nodes[k].id, .bool x.nodes[k].up, .int .i64 x.nodes[k].ae, .int .i64 x.nodes[k].ar, .slice a6 x.nodes[k].writes.length d6, .int .i64 x.nodes[k].sure, .int .i64 x.nodes[k].clean]) ∧ ck ab.ai w' V.heap.size 44 (.slice a6 x.nodes[k].writes.length d6) rows x.nodes[k].writes bls ∧ (∀ c ∈ bls.flatten, V.heap.size ≤ c) ∧ Below V.heap.size V w') := fun V hV => wm _ x.nodes[k] V (hr.later hV) (by have := hn.len; omega) (pZ hn)
    have HW6 : Hid (x.nodes[k].writes.length ≤ 40 ∧ wfM x.nodes[k]) := by
     obtain ⟨_, hq⟩ := hr
     obtain ⟨_, _, _, -, -, q0, q1, q2, -, q3, q4⟩ := cC.1 hq
     exact ⟨hn.len, q0, q1, q2, q3, q4⟩
    obtain ⟨aw, dw, rfl, -⟩ := bt hr
    have x0 : W0.cell? ⟨b, off + k * 7, none⟩ = some (.int .i64 (x.nodes[k]).id) := hcl 0 (by decide)
    have x1 : W0.cell? ⟨b, off + k * 7 + 1, none⟩ = some (.bool (x.nodes[k]).up) := hcl 1 (by decide)
    have x2 : W0.cell? ⟨b, off + k * 7 + 2, none⟩ = some (.int .i64 (x.nodes[k]).ae) := hcl 2 (by decide)
    have x3 : W0.cell? ⟨b, off + k * 7 + 3, none⟩ = some (.int .i64 (x.nodes[k]).ar) := hcl 3 (by decide)
    have x4 : W0.cell? ⟨b, off + k * 7 + 4, none⟩ = some (.slice aw (x.nodes[k]).writes.length dw) := hcl 4 (by decide)
    have x5 : W0.cell? ⟨b, off + k * 7 + 5, none⟩ = some (.int .i64 (x.nodes[k]).sure) := hcl 5 (by decide)
    have x6 : W0.cell? ⟨b, off + k * 7 + 6, none⟩ = some (.int .i64 (x.nodes[k]).clean) := hcl 6 (by decide)
    have HT : Hid (x.nodes.take (k + 1) = x.nodes.take k ++ [x.nodes[k]]) := List.take_succ_eq_append_getElem hlt
    have HLn : Hid ((x.nodes.take k).length = k) := by show (x.nodes.take k).length = k; rw [List.length_take]; omega
    have hki : (k : Int) < (x.nodes.length : Int) := by omega
    have hdl : decide ((k : Int) < (x.nodes.length : Int)) = true := by simpa using hki
    have HBr := yh hBr
    have HS := yh hS
    have hND := hN.drew
    have hGD : ck ab.aA wr.drew W1.heap.size 63 (.slice an mn cn) rows (x.nodes.take k) bls := hG.later (dt (Below.refl _ _) 1)
    have hED : Ext (fun q => q = g ∨ W1.heap.size ≤ q) W1 wr.drew := hE.drew 1
    have hzD : W1.heap.size ≤ wr.drew.heap.size := hE.size
    clear hcl hr hn hx y5 hBr hS hN hG hE HG1 HC3 HC5 HX HY HRE HF HB
    generalize hnn : x.nodes[k] = n at *
    clear hnn
    generalize hxs : x.nodes.take k = xs at *
    clear hxs
    go_upto_region 5 with fail
    clear y4
    refine wZz (fun w' => Below W0.heap.size W0 w') ((uh HBr).drew) (fun zq => ?_)
    generalize wr.drew = wD at zq hND hGD hED hzD ⊢
    refine tkH 0 zq ?_
    refine tkH 2 zq ?_
    refine tkJ 3 (v := ?vn3_3) ?hn3_3 zq ?rn3_3
    case hn3_3 =>
     intro wS hSw
     have q4 := cZ hSw hxl z4
     clear hSw
     exact fZ
    refine tkH 4 zq ?_
    refine tkH 5 zq ?_
    refine tkJ 6 (v := ?vn6_6) ?hn6_6 zq ?rn6_6
    case hn6_6 =>
     intro wS hSw
     have q0 := cZ hSw hbl0 x0
     have q1 := cZ hSw hbl0 x1
     have q2 := cZ hSw hbl0 x2
     have q3 := cZ hSw hbl0 x3
     have q4 := cZ hSw hbl0 x4
     have q5 := cZ hSw hbl0 x5
     have q6 := cZ hSw hbl0 x6
     clear hSw
     exact fZ
    refine wpAnyH_ready (rs := [1, 7]) (by kernel_rfl) (by simp) ?_
    refine AllReadyH.cons (o := tG) rfl (fun K hK => ?on1_7) (AllReadyH.cons (o := ⟨some 32, .call { callee := .value (.func 151), args := #[.tmp 31], argTypes := #[63] }, 63, "l12_world.go:83", #[⟨6, .data⟩], none⟩) rfl (fun K hK => ?on7_7) (AllReadyH.nil))
    case on1_7 =>
     have u4 := ag.at hND 4 _ rfl
     simp only [ga, gb, gc] at u4
     go_simp
     try go_wp2_with fail
     refine hK.out _ _ zq (fun zq => ?_)
     clear hK K
     try simp only [Act.put, pz, py, px]
     refine rdH 7 (fun K hK => ?_)
     go_simp
     go_at_call 151
     refine (uh HL _ zq).mono ?_
     rintro e u7 ⟨aq, dq, rws, bw, rfl, Gw, hsw, hb7⟩
     have hN7 := hND.aj hb7
     have hG7 := hGD.later hb7
     have hE7 := hED.trans (ak hb7 _)
     have hz7 := hb7.size
     have hH7 := zq.trans (hb7.mono zq.size)
     obtain ⟨blw, hlw, hbw⟩ := Gw.ft (by have := (uh HW6).1; omega) hsw
     have hoff : ∀ c ∈ blw, (Value.slice an mn cn).ownBlock ≠ some c := fun c hc e => by
      have h1 := (hbw c hc).1
      have h2 := (hGD.own.lt c e).2
      omega
     clear Gw hsw
     try go_wp2_with fail
     refine hK.out _ _ hH7 (fun zq => ?_)
     clear hK K
     try simp only [Act.put, pz, py, px]
     refine rdH 8 (fun K hK => ?_)
     have nb8 : Below u7.heap.size u7 (u7.alloc (.cells #[.int .i64 n.id, .bool n.up, .int .i64 n.ae, .int .i64 n.ar, .slice aq n.writes.length dq, .int .i64 n.sure, .int .i64 n.clean] 63)) := (Below.refl _ _).alloc (Nat.le_refl _) _
     have hN8 := hN7.aj nb8
     go_simp
     try go_wp2_with fail
     refine hK.out _ _ (zq.alloc zq.size _) (fun zq => ?_)
     clear hK K
     try simp only [Act.put, pz, py, px]
     refine rdH 9 (fun K hK => ?_)
     refine eB hG7 (cC.2 ⟨aq, dq, blw, rfl, rfl, (uh HW6).2.1, (uh HW6).2.2.1, (uh HW6).2.2.2.1, hlw, (uh HW6).2.2.2.2.1, (uh HW6).2.2.2.2.2⟩) hoff rfl _ _ rfl rfl rfl (by have := uh HLn; have := (uh HOK).some; omega) (by omega) ?_
     intro gq cap u9 hG9 hb9 hE9 hg9 hz9 hor9
     have hN9 := hN7.ext hE9 (fun e => by have := (hG7.own.lt g e).1; omega)
     have u9c := ag.at hN9 4 _ rfl
     simp only [ga, gb, gc] at u9c
     have uf := ag.soft hN9
     have ul := ag.lt hN9
     refine hK.out _ _ (hH7.trans (hb9.mono (by omega))) (fun zq => ?_)
     clear hK K
     try simp only [Act.put, pz, py, px]
     refine tkH 10 zq ?_
     refine rdH 11 (fun K hK => ?_)
     go_simp
     try go_wp2_with fail
     refine hK.out _ _ (Below.setCell zq (p := ⟨g, 4, none⟩) (by simp only []; omega) _) (fun zq => ?_)
     clear hK K
     try simp only [Act.put, pz, py, px]
     refine dZ ?_
     have e10 : Ext (fun q => q = g) u9 (u9.setCell ⟨g, 4, none⟩ (.slice (some ⟨gq, 0, none⟩) (xs.length + 1) cap)) := (Ext.refl (fun q => q = g) _).setCell ⟨g, 4, none⟩ _ rfl
     have hlow : ∀ c ∈ (bls ++ [blw]).flatten, W1.heap.size ≤ c := by
      intro c hc
      rw [List.flatten_append] at hc
      rcases List.mem_append.1 hc with hc | hc
      ·
       exact uh HS c hc
      have := (hbw c (by simpa using hc)).1; omega
     have hN10 := ag.set hN9 4 (.slice (some ⟨gq, 0, none⟩) (xs.length + 1) cap)
     simp only [List.setIfInBounds_toArray, List.set_cons_zero, List.set_cons_succ] at hN10
     have hown9 : ∀ q, (Value.slice (some ⟨gq, 0, none⟩) (xs.length + 1) cap).ownBlock = some q → ¬ q = g := fun q hq e => by
      have := (hG9.own.lt q hq).1
      omega
     have hG10 := fc hG9 e10 (fun c hc e => by have := hlow c hc; omega) hown9
     have hE10 := (hE7.trans (hE9.mono fun k _ h => Or.inr (by have := (hG7.own.lt k h).1; omega))).trans (e10.mono fun k _ h => Or.inl h)
     have HN10 := yh hN10
     have HG10 := yh hG10
     have HE10 := yh hE10
     have HLOW := yh hlow
     clear zq hND hGD hED hN7 hN8 hG7 hE7 hH7 hoff hlw hbw hG9 hb9 hE9 hN9 e10 hlow hN10 hown9 hG10 hE10 hor9 u4 u9c uf ul nb8 hb7
     go_wp2_with fail
     go_roundw
     case rel => exact ⟨k + 1, _, _, _, _, _, by omega, by go_num, uh HN10, by rw [uh HT]; exact uh HG10, uh HLOW, uh HE10⟩
     case measure => simp [intOf]; omega
    case on7_7 =>
     go_simp
     go_at_call 151
     refine (uh HL _ zq).mono ?_
     rintro e u7 ⟨aq, dq, rws, bw, rfl, Gw, hsw, hb7⟩
     have hN7 := hND.aj hb7
     have hG7 := hGD.later hb7
     have hE7 := hED.trans (ak hb7 _)
     have hz7 := hb7.size
     have hH7 := zq.trans (hb7.mono zq.size)
     obtain ⟨blw, hlw, hbw⟩ := Gw.ft (by have := (uh HW6).1; omega) hsw
     have hoff : ∀ c ∈ blw, (Value.slice an mn cn).ownBlock ≠ some c := fun c hc e => by
      have h1 := (hbw c hc).1
      have h2 := (hGD.own.lt c e).2
      omega
     clear Gw hsw
     try go_wp2_with fail
     refine hK.out _ _ hH7 (fun zq => ?_)
     clear hK K
     try simp only [Act.put, pz, py, px]
     refine wpAnyH_ready (rs := [1, 8]) (by kernel_rfl) (by simp) ?_
     refine AllReadyH.cons (o := tG) rfl (fun K hK => ?on1_9) (AllReadyH.cons (o := ⟨some 33, .buildSlice 35 1 #[(0, .tmp 32)], 35, "l12_world.go:83", #[⟨7, .data⟩], none⟩) rfl (fun K hK => ?on8_9) (AllReadyH.nil))
     case on1_9 =>
      have u4 := ag.at hN7 4 _ rfl
      simp only [ga, gb, gc] at u4
      go_simp
      try go_wp2_with fail
      refine hK.out _ _ zq (fun zq => ?_)
      clear hK K
      try simp only [Act.put, pz, py, px]
      refine rdH 8 (fun K hK => ?_)
      have nb8 : Below u7.heap.size u7 (u7.alloc (.cells #[.int .i64 n.id, .bool n.up, .int .i64 n.ae, .int .i64 n.ar, .slice aq n.writes.length dq, .int .i64 n.sure, .int .i64 n.clean] 63)) := (Below.refl _ _).alloc (Nat.le_refl _) _
      have hN8 := hN7.aj nb8
      go_simp
      try go_wp2_with fail
      refine hK.out _ _ (zq.alloc zq.size _) (fun zq => ?_)
      clear hK K
      try simp only [Act.put, pz, py, px]
      refine rdH 9 (fun K hK => ?_)
      refine eB hG7 (cC.2 ⟨aq, dq, blw, rfl, rfl, (uh HW6).2.1, (uh HW6).2.2.1, (uh HW6).2.2.2.1, hlw, (uh HW6).2.2.2.2.1, (uh HW6).2.2.2.2.2⟩) hoff rfl _ _ rfl rfl rfl (by have := uh HLn; have := (uh HOK).some; omega) (by omega) ?_
      intro gq cap u9 hG9 hb9 hE9 hg9 hz9 hor9
      have hN9 := hN7.ext hE9 (fun e => by have := (hG7.own.lt g e).1; omega)
      have u9c := ag.at hN9 4 _ rfl
      simp only [ga, gb, gc] at u9c
      have uf := ag.soft hN9
      have ul := ag.lt hN9
      refine hK.out _ _ (hH7.trans (hb9.mono (by omega))) (fun zq => ?_)
      clear hK K
      try simp only [Act.put, pz, py, px]
      refine tkH 10 zq ?_
      refine rdH 11 (fun K hK => ?_)
      go_simp
      try go_wp2_with fail
      refine hK.out _ _ (Below.setCell zq (p := ⟨g, 4, none⟩) (by simp only []; omega) _) (fun zq => ?_)
      clear hK K
      try simp only [Act.put, pz, py, px]
      refine dZ ?_
      have e10 : Ext (fun q => q = g) u9 (u9.setCell ⟨g, 4, none⟩ (.slice (some ⟨gq, 0, none⟩) (xs.length + 1) cap)) := (Ext.refl (fun q => q = g) _).setCell ⟨g, 4, none⟩ _ rfl
      have hlow : ∀ c ∈ (bls ++ [blw]).flatten, W1.heap.size ≤ c := by
       intro c hc
       rw [List.flatten_append] at hc
       rcases List.mem_append.1 hc with hc | hc
       ·
        exact uh HS c hc
       have := (hbw c (by simpa using hc)).1; omega
      have hN10 := ag.set hN9 4 (.slice (some ⟨gq, 0, none⟩) (xs.length + 1) cap)
      simp only [List.setIfInBounds_toArray, List.set_cons_zero, List.set_cons_succ] at hN10
      have hown9 : ∀ q, (Value.slice (some ⟨gq, 0, none⟩) (xs.length + 1) cap).ownBlock = some q → ¬ q = g := fun q hq e => by
       have := (hG9.own.lt q hq).1
       omega
      have hG10 := fc hG9 e10 (fun c hc e => by have := hlow c hc; omega) hown9
      have hE10 := (hE7.trans (hE9.mono fun k _ h => Or.inr (by have := (hG7.own.lt k h).1; omega))).trans (e10.mono fun k _ h => Or.inl h)
      have HN10 := yh hN10
      have HG10 := yh hG10
      have HE10 := yh hE10
      have HLOW := yh hlow
      clear zq hND hGD hED hN7 hN8 hG7 hE7 hH7 hoff hlw hbw hG9 hb9 hE9 hN9 e10 hlow hN10 hown9 hG10 hE10 hor9 u4 u9c uf ul nb8 hb7
      go_wp2_with fail
      go_roundw
      case rel => exact ⟨k + 1, _, _, _, _, _, by omega, by go_num, uh HN10, by rw [uh HT]; exact uh HG10, uh HLOW, uh HE10⟩
      case measure => simp [intOf]; omega
     case on8_9 =>
      have nb8 : Below u7.heap.size u7 (u7.alloc (.cells #[.int .i64 n.id, .bool n.up, .int .i64 n.ae, .int .i64 n.ar, .slice aq n.writes.length dq, .int .i64 n.sure, .int .i64 n.clean] 63)) := (Below.refl _ _).alloc (Nat.le_refl _) _
      have hN8 := hN7.aj nb8
      go_simp
      try go_wp2_with fail
      refine hK.out _ _ (zq.alloc zq.size _) (fun zq => ?_)
      clear hK K
      try simp only [Act.put, pz, py, px]
      refine rdH 1 (fun K hK => ?_)
      have u4 := ag.at hN8 4 _ rfl
      simp only [ga, gb, gc] at u4
      go_simp
      try go_wp2_with fail
      refine hK.out _ _ zq (fun zq => ?_)
      clear hK K
      try simp only [Act.put, pz, py, px]
      refine rdH 9 (fun K hK => ?_)
      refine eB hG7 (cC.2 ⟨aq, dq, blw, rfl, rfl, (uh HW6).2.1, (uh HW6).2.2.1, (uh HW6).2.2.2.1, hlw, (uh HW6).2.2.2.2.1, (uh HW6).2.2.2.2.2⟩) hoff rfl _ _ rfl rfl rfl (by have := uh HLn; have := (uh HOK).some; omega) (by omega) ?_
      intro gq cap u9 hG9 hb9 hE9 hg9 hz9 hor9
      have hN9 := hN7.ext hE9 (fun e => by have := (hG7.own.lt g e).1; omega)
      have u9c := ag.at hN9 4 _ rfl
      simp only [ga, gb, gc] at u9c
      have uf := ag.soft hN9
      have ul := ag.lt hN9
      refine hK.out _ _ (hH7.trans (hb9.mono (by omega))) (fun zq => ?_)
      clear hK K
      try simp only [Act.put, pz, py, px]
      refine tkH 10 zq ?_
      refine rdH 11 (fun K hK => ?_)
      go_simp
      try go_wp2_with fail
      refine hK.out _ _ (Below.setCell zq (p := ⟨g, 4, none⟩) (by simp only []; omega) _) (fun zq => ?_)
      clear hK K
      try simp only [Act.put, pz, py, px]
      refine dZ ?_
      have e10 : Ext (fun q => q = g) u9 (u9.setCell ⟨g, 4, none⟩ (.slice (some ⟨gq, 0, none⟩) (xs.length + 1) cap)) := (Ext.refl (fun q => q = g) _).setCell ⟨g, 4, none⟩ _ rfl
      have hlow : ∀ c ∈ (bls ++ [blw]).flatten, W1.heap.size ≤ c := by
       intro c hc
       rw [List.flatten_append] at hc
       rcases List.mem_append.1 hc with hc | hc
       ·
        exact uh HS c hc
       have := (hbw c (by simpa using hc)).1; omega
      have hN10 := ag.set hN9 4 (.slice (some ⟨gq, 0, none⟩) (xs.length + 1) cap)
      simp only [List.setIfInBounds_toArray, List.set_cons_zero, List.set_cons_succ] at hN10
      have hown9 : ∀ q, (Value.slice (some ⟨gq, 0, none⟩) (xs.length + 1) cap).ownBlock = some q → ¬ q = g := fun q hq e => by
       have := (hG9.own.lt q hq).1
       omega
      have hG10 := fc hG9 e10 (fun c hc e => by have := hlow c hc; omega) hown9
      have hE10 := (hE7.trans (hE9.mono fun k _ h => Or.inr (by have := (hG7.own.lt k h).1; omega))).trans (e10.mono fun k _ h => Or.inl h)
      have HN10 := yh hN10
      have HG10 := yh hG10
      have HE10 := yh hE10
      have HLOW := yh hlow
      clear zq hND hGD hED hN7 hN8 hG7 hE7 hH7 hoff hlw hbw hG9 hb9 hE9 hN9 e10 hlow hN10 hown9 hG10 hE10 hor9 u4 u9c uf ul nb8 hb7
      go_wp2_with fail
      go_roundw
      case rel => exact ⟨k + 1, _, _, _, _, _, by omega, by go_num, uh HN10, by rw [uh HT]; exact uh HG10, uh HLOW, uh HE10⟩
      case measure => simp [intOf]; omega
   obtain rfl : k = x.nodes.length := by omega
   have hdl : decide ((x.nodes.length : Int) < (x.nodes.length : Int)) = false := by simp
   rw [List.take_length] at hG
   have hnp := (uh HOK).some
   rcases hG.form with ⟨-, h0⟩ | ⟨g4, c4, hv, hg4, hg4l, hcap4⟩
   ·
    exact absurd h0 (by intro q; rw [q] at hnp; simp at hnp)
   simp only [Value.slice.injEq] at hv
   obtain ⟨rfl, rfl, rfl⟩ := hv
   have hA : ab.aA.gP wr (.slice (some ⟨g4, 0, none⟩) x.nodes.length cn) x.nodes g4 bls.flatten := by
    rcases hG.reads (by omega) with q | ⟨q, -⟩
    ·
     have q2 : (ab.sl ab.aA).bD wr [.slice (some ⟨g4, 0, none⟩) x.nodes.length cn] x.nodes (if x.nodes = [] then [] else g4 :: bls.flatten) := q
     rw [if_neg (by intro q; rw [q] at hnp; simp at hnp)] at q2
     exact ⟨q2, fun hm => hG.off g4 hm rfl, fun o => hG.own.frozenAt o⟩
    exact absurd q (by intro q; rw [q] at hnp; simp at hnp)
   have hlt4 := hG.sub_lt
   have HA := yh hA
   have HS4 : Hid (∀ c ∈ bls.flatten, W1.heap.size ≤ c ∧ c < wr.heap.size) := fun c hc => ⟨hS c hc, hlt4 c hc⟩
   have HE4 := yh hE
   have HN4 := yh hN
   have HBr := yh hBr
   rename World => W2
   clear hA hlt4 hG hS hE hN hBr hx z4 hcap4 HG1
   generalize hbf : bls.flatten = r4 at *
   clear hbf rows
   have hz2 := (uh HE4).size
   have hB2 := (uh HN4).lt
   go_wp2_with fail
   clear y4 y5 hdl
   go_loopw [5] (fun i wr => ∃ (k : Nat) (an : Option Addr) (mn cn6 : Nat) (rows : List (List Value)) (bls : List (List Nat)), k ≤ x.af.length ∧ i = .int .i64 (k : Int) ∧ ag 0 #[.int .i64 x.now, .int .i64 x.events, .int .i64 x.chain.ae, .slice a3q x.chain.ids.length c3q, .slice (some ⟨g4, 0, none⟩) x.nodes.length cn, .slice a5q x.msgs.length c5q, .slice an mn cn6] 39 wr g ∧ ck ab.az wr W2.heap.size 89 (.slice an mn cn6) rows (x.af.take k) bls ∧ (∀ c ∈ bls.flatten, W2.heap.size ≤ c) ∧ Ext (fun q => q = g ∨ W2.heap.size ≤ q) W2 wr) (fun i _ => x.af.length - (intOf i).toNat)
   case atStart => exact ⟨0, none, 0, 0, [], [], Nat.zero_le _, rfl, uh HN4, ck.nil (World.ownsRow_nil _ _ _ _), by simp, Ext.refl _ _⟩
   case round =>
    obtain ⟨k, an, mn, cn6, rows, bls, hk, rfl, hN, hG, hS, hE⟩ := hrel
    have hBr2 : Below W0.heap.size W0 wr := (uh HBr).trans (hE.below (by omega) (fun k hk q => by rcases q with q | q <;> omega))
    have hx := fN (uh HX) hBr2 (by omega)
    have y6 := ag.at hx 6 _ rfl
    simp only [ga, gb, gc] at y6
    have hxr := hx.lt
    have hhb := (uh HRE).ez
    by_cases hlt : k < x.af.length
    ·
     obtain ⟨be, oe, rfl, hbe⟩ := ab.aR (uh HRE) (by omega)
     obtain ⟨row, hcl, hr⟩ := ab.bF ((uh HRE).later hBr2) hlt
     have HFE := yh (uh HF x.af[k] (List.getElem_mem hlt))
     have HWE : Hid (wfE x.af[k]) := by
      obtain ⟨_, hq⟩ := hr
      obtain ⟨_, _, _, _, _, _, _, _, _, -, -, q0, q1, q2, q3, -, q5, q6, q7, q8, -, -⟩ := dX.1 hq
      exact ⟨q0, q1, q2, q3, q5, q6, q7, q8⟩
     obtain ⟨aq, dq, av, dv, ah, dh, rfl, Rq, Rv, Rh⟩ := cA hr
     have x0 : wr.cell? ⟨be, oe + k * 11, none⟩ = some (.int .i64 (x.af[k]).kind) := hcl 0 (by decide)
     have x1 : wr.cell? ⟨be, oe + k * 11 + 1, none⟩ = some (.int .i64 (x.af[k]).aa) := hcl 1 (by decide)
     have x2 : wr.cell? ⟨be, oe + k * 11 + 2, none⟩ = some (.int .i64 (x.af[k]).seq) := hcl 2 (by decide)
     have x3 : wr.cell? ⟨be, oe + k * 11 + 3, none⟩ = some (.int .i64 (x.af[k]).id) := hcl 3 (by decide)
     have x4 : wr.cell? ⟨be, oe + k * 11 + 4, none⟩ = some (.slice aq (x.af[k]).query.length dq) := hcl 4 (by decide)
     have x5 : wr.cell? ⟨be, oe + k * 11 + 5, none⟩ = some (.int .i64 (x.af[k]).k) := hcl 5 (by decide)
     have x6 : wr.cell? ⟨be, oe + k * 11 + 6, none⟩ = some (.int .i64 (x.af[k]).start) := hcl 6 (by decide)
     have x7 : wr.cell? ⟨be, oe + k * 11 + 7, none⟩ = some (.int .i64 (x.af[k]).fin) := hcl 7 (by decide)
     have x8 : wr.cell? ⟨be, oe + k * 11 + 8, none⟩ = some (.int .i64 (x.af[k]).place) := hcl 8 (by decide)
     have x9 : wr.cell? ⟨be, oe + k * 11 + 9, none⟩ = some (.slice av (x.af[k]).vec.length dv) := hcl 9 (by decide)
     have x10 : wr.cell? ⟨be, oe + k * 11 + 10, none⟩ = some (.slice ah (x.af[k]).aW.length dh) := hcl 10 (by decide)
     have HT : Hid (x.af.take (k + 1) = x.af.take k ++ [x.af[k]]) := List.take_succ_eq_append_getElem hlt
     have HLn : Hid ((x.af.take k).length = k) := by show (x.af.take k).length = k; rw [List.length_take]; omega
     have hki : (k : Int) < (x.af.length : Int) := by omega
     have hdl : decide ((k : Int) < (x.af.length : Int)) = true := by simpa using hki
     have hbr : be < wr.heap.size := Nat.lt_of_lt_of_le hbe hBr2.size
     have HRQ := yh Rq
     have HRV := yh Rv
     have HRH := yh Rh
     have HS := yh hS
     have HN := yh hN
     have HG := yh hG
     have HE := yh hE
     have hzr := hE.size
     have HZ : Hid (W2.heap.size ≤ wr.heap.size ∧ g < W2.heap.size) := ⟨hE.size, hB2⟩
     clear hcl hr hx hBr2 hS hN hG hE HC3 HC5 HX HY HF HB HA HS4 HE4 HN4 HBr HB1 HRN Rq Rv Rh
     generalize hnn : x.af[k] = e at *
     clear hnn
     generalize hxs : x.af.take k = xs at *
     clear hxs
     have nb9 : Below wr.heap.size wr (wr.alloc (.cells #[.int .i64 e.kind, .int .i64 e.aa, .int .i64 e.seq, .int .i64 e.id, .slice aq e.query.length dq, .int .i64 e.k, .int .i64 e.start, .int .i64 e.fin, .int .i64 e.place, .slice av e.vec.length dv, .slice ah e.aW.length dh] 89)) := (Below.refl _ _).alloc (Nat.le_refl _) _
     have hI9 : ag 0 #[.int .i64 e.kind, .int .i64 e.aa, .int .i64 e.seq, .int .i64 e.id, .slice aq e.query.length dq, .int .i64 e.k, .int .i64 e.start, .int .i64 e.fin, .int .i64 e.place, .slice av e.vec.length dv, .slice ah e.aW.length dh] 89 (wr.alloc (.cells #[.int .i64 e.kind, .int .i64 e.aa, .int .i64 e.seq, .int .i64 e.id, .slice aq e.query.length dq, .int .i64 e.k, .int .i64 e.start, .int .i64 e.fin, .int .i64 e.place, .slice av e.vec.length dv, .slice ah e.aW.length dh] 89)) wr.heap.size := aC (Nat.zero_le _)
     have hz9 : (wr.alloc (.cells #[.int .i64 e.kind, .int .i64 e.aa, .int .i64 e.seq, .int .i64 e.id, .slice aq e.query.length dq, .int .i64 e.k, .int .i64 e.start, .int .i64 e.fin, .int .i64 e.place, .slice av e.vec.length dv, .slice ah e.aW.length dh] 89)).heap.size = wr.heap.size + 1 := by simp
     have HI9 := yh hI9
     have HB9 := yh nb9
     clear nb9 hI9
     go_upto_region 10 with fail
     generalize wr.alloc (.cells #[.int .i64 e.kind, .int .i64 e.aa, .int .i64 e.seq, .int .i64 e.id, .slice aq e.query.length dq, .int .i64 e.k, .int .i64 e.start, .int .i64 e.fin, .int .i64 e.place, .slice av e.vec.length dv, .slice ah e.aW.length dh] 89) = w9 at *
     clear x0 x1 x2 x3 x4 x5 x6 x7 x8 x9 x10 y6
     have HL := yh (iX _ e.query w9 (ab.bf ((uh HRQ).later (uh HB9))) (by have := (uh HFE).1; omega))
     have HWQ := yh (ab.bf (uh HRQ)).wf
     have k4 := ag.at (uh HI9) 4 _ rfl
     simp only [ga, gb, gc] at k4
     have kl := (uh HI9).lt
     go_wp2_with fail
     refine (uh HL).mono ?_
     rintro ee w10 ⟨vq, rfl, Oq, hb10⟩
     obtain ⟨aq2, dq2, rfl⟩ := eW Oq
     have Iq := ab.eV (uh HWQ) (by have := (uh HFE).1; omega) Oq
     have hI10 := (uh HI9).aj hb10
     clear k4
     have k4 := ag.at hI10 4 _ rfl
     have kf := ag.soft hI10
     simp only [ga, gb, gc] at k4
     have e10 : Ext (fun q => q = wr.heap.size) w10 (w10.setCell ⟨wr.heap.size, 4, none⟩ (.slice aq2 e.query.length dq2)) := (Ext.refl _ _).setCell _ _ rfl
     have hI10s := ag.set hI10 4 (.slice aq2 e.query.length dq2)
     simp only [List.setIfInBounds_toArray, List.set_cons_zero, List.set_cons_succ] at hI10s
     have hz10 := hb10.size
     have HIQ := yh ((Iq.bD.mono (show wr.heap.size + 1 ≤ w9.heap.size by omega) (Nat.le_refl _)).ext e10 (fun q h1 h2 h3 => by omega))
     have HI10 := yh hI10s
     have HB10 := yh ((Below.setCell ((uh HB9).trans (hb10.mono (uh HB9).size)) (p := ⟨wr.heap.size, 4, none⟩) (Nat.le_refl _) (.slice aq2 e.query.length dq2)))
     have hz10s : w10.heap.size = (w10.setCell ⟨wr.heap.size, 4, none⟩ (.slice aq2 e.query.length dq2)).heap.size := by simp
     have kl10 := hI10.lt
     clear hI10 hI10s e10 Oq Iq hb10 HL HI9 HB9 HWQ HRQ
     go_upto_region 11 with fail
     clear k4 kf kl
     generalize hw11 : w10.setCell ⟨wr.heap.size, 4, none⟩ (.slice aq2 e.query.length dq2) = w11 at *
     clear hw11
     have HL := yh (iX _ e.vec w11 (ab.bf ((uh HRV).later (uh HB10))) (by have := (uh HFE).2.1; omega))
     have HWQ := yh (ab.bf (uh HRV)).wf
     have k4 := ag.at (uh HI10) 9 _ rfl
     simp only [ga, gb, gc] at k4
     have kl := (uh HI10).lt
     go_wp2_with fail
     refine (uh HL).mono ?_
     rintro ee w14 ⟨vq, rfl, Oq, hb14⟩
     obtain ⟨av2, dv2, rfl⟩ := eW Oq
     have Iq := ab.eV (uh HWQ) (by have := (uh HFE).2.1; omega) Oq
     have hI14 := (uh HI10).aj hb14
     clear k4
     have k4 := ag.at hI14 9 _ rfl
     have kf := ag.soft hI14
     simp only [ga, gb, gc] at k4
     have e14 : Ext (fun q => q = wr.heap.size) w14 (w14.setCell ⟨wr.heap.size, 9, none⟩ (.slice av2 e.vec.length dv2)) := (Ext.refl _ _).setCell _ _ rfl
     have hI14s := ag.set hI14 9 (.slice av2 e.vec.length dv2)
     simp only [List.setIfInBounds_toArray, List.set_cons_zero, List.set_cons_succ] at hI14s
     have hz14 := hb14.size
     have HIV := yh ((Iq.bD.mono (show wr.heap.size + 1 ≤ w11.heap.size by omega) (Nat.le_refl _)).ext e14 (fun q h1 h2 h3 => by omega))
     have HIQ2 := yh (((uh HIQ).mono (Nat.le_refl _) (show w10.heap.size ≤ w11.heap.size by omega)).later hb14 |>.ext e14 (fun q h1 h2 h3 => by omega))
     have HI14 := yh hI14s
     have HB14 := yh ((Below.setCell ((uh HB10).trans (hb14.mono (uh HB10).size)) (p := ⟨wr.heap.size, 9, none⟩) (Nat.le_refl _) (.slice av2 e.vec.length dv2)))
     have hz14s : w14.heap.size = (w14.setCell ⟨wr.heap.size, 9, none⟩ (.slice av2 e.vec.length dv2)).heap.size := by simp
     clear hI14 hI14s e14 Oq Iq hb14 HL HI10 HB10 HWQ HRV HIQ
     go_upto_region 12 with fail
     clear k4 kf kl
     generalize hw15 : w14.setCell ⟨wr.heap.size, 9, none⟩ (.slice av2 e.vec.length dv2) = w15 at *
     clear hw15
     have nbh : Below w15.heap.size w15 (w15.alloc (.cells #[] 224)) := (Below.refl _ _).alloc (Nat.le_refl _) _
     have hGH : ck ab.bk (w15.alloc (.cells #[] 224)) w15.heap.size 224 (.slice (some ⟨w15.heap.size, 0, none⟩) 0 0) [] [] [] := ck.nil (World.ownsRow_lit w15 #[] 0 (Nat.le_refl _) (Nat.zero_le _) rfl)
     have hXH : (ab.sl ab.bk).cK (w15.alloc (.cells #[] 224)) [.slice ah e.aW.length dh] e.aW 0 w15.heap.size := (((uh HRH).dY.mono (Nat.le_refl _) (show wr.heap.size ≤ w15.heap.size by omega)).later (uh HB14)).later nbh
     have hI15 := (uh HI14).aj nbh
     have HI15 := yh hI15
     have k4 := ag.at hI15 10 _ rfl
     have k5 := ag.at (uh HI14) 10 _ rfl
     simp only [ga, gb, gc] at k4 k5
     have kl := hI15.lt
     have hzh : (w15.alloc (.cells #[] 224)).heap.size = w15.heap.size + 1 := by simp
     clear hI15
     go_wp2_with (at_builtin; refine eR hGH hXH rfl _ _ rfl rfl rfl ?hh1 ?hh2 ?_)
     case hh1 => have := (uh HFE).2.2; simp only [List.length_nil]; omega
     case hh2 => omega
     intro ah2 mh2 dh2 w16 rh bh hG16 hb16 hm16 hz16
     have hm16' : mh2 = e.aW.length := hm16.trans (by simp)
     subst hm16'
     clear hm16
     have hI16 := fN (uh HI15) hb16 (by omega)
     clear k4 k5 kl
     have k4 := ag.at hI16 10 _ rfl
     have kf := ag.soft hI16
     have kl := hI16.lt
     simp only [ga, gb, gc] at k4
     have e16 : Ext (fun q => q = wr.heap.size) w16 (w16.setCell ⟨wr.heap.size, 10, none⟩ (.slice ah2 e.aW.length dh2)) := (Ext.refl _ _).setCell _ _ rfl
     have hI16s := ag.set hI16 10 (.slice ah2 e.aW.length dh2)
     simp only [List.setIfInBounds_toArray, List.set_cons_zero, List.set_cons_succ] at hI16s
     have hbt : bh.flatten = [] := by
      rw [List.flatten_eq_nil_iff]
      intro l hl
      obtain ⟨j, hj, rfl⟩ := List.getElem_of_mem hl
      have q1 := hG16.gC
      have q2 := hG16.eG
      exact (db.1 (hG16.bD j (by omega) (by omega) hj)).2.1
     have HIH := yh ((((hG16.ft (by have := (uh HFE).2.2; omega) (fun c hc => by rw [hbt] at hc; cases hc)).mono (show wr.heap.size + 1 ≤ w15.heap.size by omega) (Nat.le_refl _))).ext e16 (fun q h1 h2 h3 => by omega))
     have HIV3 := yh ((iJ (((uh HIV).mono (Nat.le_refl _) (show w14.heap.size ≤ w15.heap.size by omega)).later nbh) hb16 (Nat.le_refl _)).ext e16 (fun q h1 h2 h3 => by omega))
     have HIQ3 := yh ((iJ (((uh HIQ2).mono (Nat.le_refl _) (show w11.heap.size ≤ w15.heap.size by omega)).later nbh) hb16 (Nat.le_refl _)).ext e16 (fun q h1 h2 h3 => by omega))
     have HB16 := yh (Below.setCell (((uh HB14).trans (nbh.mono (by omega))).trans (hb16.mono (by omega))) (p := ⟨wr.heap.size, 10, none⟩) (Nat.le_refl _) (.slice ah2 e.aW.length dh2))
     have hz16s : w16.heap.size = (w16.setCell ⟨wr.heap.size, 10, none⟩ (.slice ah2 e.aW.length dh2)).heap.size := by simp
     have HI16 := yh hI16s
     clear hI16 hI16s e16 hbt hG16 hb16 hGH hXH nbh HI15 HI14 HB14 HIV HIQ2 HRH
     go_upto_region 13 with fail
     clear k4 kf kl
     generalize hw12 : w16.setCell ⟨wr.heap.size, 10, none⟩ (.slice ah2 e.aW.length dh2) = w12 at *
     clear hw12
     obtain ⟨lq, lq1, lq2⟩ := uh HIQ3
     obtain ⟨lv, lv1, lv2⟩ := uh HIV3
     obtain ⟨lh, lh1, lh2⟩ := uh HIH
     have hLE : ab.az.bD w12 [.int .i64 e.kind, .int .i64 e.aa, .int .i64 e.seq, .int .i64 e.id, .slice aq2 e.query.length dq2, .int .i64 e.k, .int .i64 e.start, .int .i64 e.fin, .int .i64 e.place, .slice av2 e.vec.length dv2, .slice ah2 e.aW.length dh2] e (lq ++ (lv ++ lh)) := by
      obtain ⟨q0, q1, q2, q3, q5, q6, q7, q8⟩ := uh HWE
      exact dX.2 ⟨aq2, dq2, lq, av2, dv2, lv, ah2, dh2, lh, rfl, rfl, q0, q1, q2, q3, lq1, q5, q6, q7, q8, lv1, lh1⟩
     have HBL0 : Hid (∀ c ∈ lq ++ (lv ++ lh), wr.heap.size ≤ c) := fun c hc => by
      simp only [List.mem_append] at hc
      rcases hc with hc | hc | hc
      ·
       have := lq2 c hc; omega
      ·
       have := lv2 c hc; omega
      have := lh2 c hc; omega
     clear lq1 lq2 lv1 lv2 lh1 lh2 HIQ3 HIV3 HIH
     generalize lq ++ (lv ++ lh) = ble at *
     have HBL : Hid (∀ c ∈ ble, W2.heap.size ≤ c) := fun c hc => Nat.le_trans (uh HZ).1 (uh HBL0 c hc)
     have hoff : ∀ c ∈ ble, (Value.slice an mn cn6).ownBlock ≠ some c := fun c hc q => by
      have h1 := uh HBL0 c hc
      have h2 := ((uh HG).own.lt c q).2
      omega
     have HLE := yh hLE
     have hND : ag 0 #[.int .i64 x.now, .int .i64 x.events, .int .i64 x.chain.ae, .slice a3q x.chain.ids.length c3q, .slice (some ⟨g4, 0, none⟩) x.nodes.length cn, .slice a5q x.msgs.length c5q, .slice an mn cn6] 39 w12 g := (uh HN).aj (uh HB16)
     have hGD : ck ab.az w12 W2.heap.size 89 (.slice an mn cn6) rows xs bls := (uh HG).later (uh HB16)
     have hED : Ext (fun q => q = g ∨ W2.heap.size ≤ q) W2 w12 := (uh HE).trans (ak (uh HB16) _)
     have hzD : w16.heap.size ≤ w12.heap.size := by omega
     have HGE : Hid (g < wr.heap.size ∧ (∀ k, (Value.slice an mn cn6).ownBlock = some k → k < wr.heap.size) ∧ g < W2.heap.size) := ⟨by omega, fun k hk => ((uh HG).own.lt k hk).2, hB2⟩
     have y0 := ag.at (uh HI16) 0 _ rfl
     have y1 := ag.at (uh HI16) 1 _ rfl
     have y2 := ag.at (uh HI16) 2 _ rfl
     have y3 := ag.at (uh HI16) 3 _ rfl
     have y4 := ag.at (uh HI16) 4 _ rfl
     have y5 := ag.at (uh HI16) 5 _ rfl
     have y6 := ag.at (uh HI16) 6 _ rfl
     have y7 := ag.at (uh HI16) 7 _ rfl
     have y8 := ag.at (uh HI16) 8 _ rfl
     have y9 := ag.at (uh HI16) 9 _ rfl
     have y10 := ag.at (uh HI16) 10 _ rfl
     simp only [ga, gb, gc] at y0 y1 y2 y3 y4 y5 y6 y7 y8 y9 y10
     have hel : wr.heap.size < w12.heap.size := (uh HI16).lt
     clear hLE HI16 HN HG HE HB16 HFE HWE
     have u4 := ag.at hND 6 _ rfl
     simp only [ga, gb, gc] at u4
     have ul0 := ag.lt hND
     go_wp2_with (at_builtin; refine hU hGD (uh HLE) hoff rfl _ _ rfl rfl rfl ?hq3 ?hq4 ?_)
     case hq3 => have := uh HLn; have := (uh HOK).few; omega
     case hq4 => omega
     intro gq cap u9 hG9 hb9 hE9 hg9 hz9 hor9
     have hN9 := hND.ext hE9 (fun e => by have := (hGD.own.lt g e).1; omega)
     have u9c := ag.at hN9 6 _ rfl
     simp only [ga, gb, gc] at u9c
     have uf := ag.soft hN9
     have ul := ag.lt hN9
     have e10 : Ext (fun q => q = g) u9 (u9.setCell ⟨g, 6, none⟩ (.slice (some ⟨gq, 0, none⟩) (xs.length + 1) cap)) := (Ext.refl (fun q => q = g) _).setCell ⟨g, 6, none⟩ _ rfl
     have hlow : ∀ c ∈ (bls ++ [ble]).flatten, W2.heap.size ≤ c := by
      intro c hc
      rw [List.flatten_append] at hc
      rcases List.mem_append.1 hc with hc | hc
      ·
       exact uh HS c hc
      exact uh HBL c (by simpa using hc)
     have hN10 := ag.set hN9 6 (.slice (some ⟨gq, 0, none⟩) (xs.length + 1) cap)
     simp only [List.setIfInBounds_toArray, List.set_cons_zero, List.set_cons_succ] at hN10
     have hown9 : ∀ q, (Value.slice (some ⟨gq, 0, none⟩) (xs.length + 1) cap).ownBlock = some q → ¬ q = g := fun q hq e => by
      have := (hG9.own.lt q hq).1
      have := uh HGE
      omega
     have hG10 := fc hG9 e10 (fun c hc e => by have := hlow c hc; have := uh HGE; omega) hown9
     have hE10 := (hED.trans (hE9.mono fun k _ h => Or.inr (by have := (hGD.own.lt k h).1; omega))).trans (e10.mono fun k _ h => Or.inl h)
     have HN10 := yh hN10
     have HG10 := yh hG10
     have HE10 := yh hE10
     have HLOW := yh hlow
     clear hND hGD hED hoff hG9 hb9 hE9 hN9 e10 hlow hN10 hown9 hG10 hE10 hor9 u4
     go_wp2_with fail
     go_roundw
     case rel => exact ⟨k + 1, _, _, _, _, _, by omega, by go_num, uh HN10, by rw [uh HT]; exact uh HG10, uh HLOW, uh HE10⟩
     case measure => simp [intOf]; omega
    obtain rfl : k = x.af.length := by omega
    have hdl : decide ((x.af.length : Int) < (x.af.length : Int)) = false := by simp
    rw [List.take_length] at hG
    have hy := ((fN ((fN ((fN (uh HY) (uh HB1) (by omega))) ((uh HE4).below (B := W0.heap.size) hz1 (fun k hk q => by rcases q with q | q <;> omega)) (by omega))) (hE.below (B := W0.heap.size) (by omega) (fun k hk q => by rcases q with q | q <;> omega)) (by omega)))
    obtain ⟨l3, i3, j3⟩ := (((uh HC3).ext (uh HE4) (fun k h1 h2 h3 q => by rcases q with q | q <;> omega)).wide (Nat.le_refl _) (show W1.heap.size ≤ W1.heap.size from Nat.le_refl _)).ext hE (fun k h1 h2 h3 q => by rcases q with q | q <;> omega)
    obtain ⟨l5, i5, j5⟩ := (((uh HC5).ext (uh HE4) (fun k h1 h2 h3 q => by rcases q with q | q <;> omega)).wide (Nat.le_refl _) (show W1.heap.size ≤ W1.heap.size from Nat.le_refl _)).ext hE (fun k h1 h2 h3 q => by rcases q with q | q <;> omega)
    obtain ⟨l6, i6, j6⟩ := hG.ft (by omega) hS
    have hm6 : mn = x.af.length := by
     obtain ⟨_, _, q, -⟩ := i6
     simp only [List.cons.injEq, Value.slice.injEq, and_true] at q
     exact q.2.1
    subst hm6
    have hA2 := (uh HA).ext hE (fun q => by rcases q with q | q <;> omega) (fun c hc q => by have := uh HS4 c hc; rcases q with q | q <;> omega)
    have hWL : nq wr ⟨a3q, c3q, g4, 0, cn, a5q, c5q, an, cn6, l3, r4, l5, l6⟩ x := ⟨(uh HWF).1, (uh HWF).2.1, (uh HWF).2.2, i3, hA2, i5, i6, fun hc => by have := j3 g4 hc; omega, fun hc => by have := j5 g4 hc; omega, fun hc => by have := j6 g4 hc; omega⟩
    have hzr := hE.size
    have hlt6 := hG.sub_lt
    have hWN : eo wr W0.heap.size wr.heap.size [.int .i64 x.now, .int .i64 x.events, .int .i64 x.chain.ae, .slice a3q x.chain.ids.length c3q, .slice (some ⟨g4, 0, none⟩) x.nodes.length cn, .slice a5q x.msgs.length c5q, .slice an x.af.length cn6] x := ⟨_, W2.heap.size, rows, bls, rfl, hWL, by simp only []; omega, fun c hc => by have := j3 c hc; omega, fun c hc => by have := uh HS4 c hc; omega, fun c hc => by have := j5 c hc; omega, fun c hc => by have := j6 c hc; omega, by omega, hG, fun c hc => ⟨hS c hc, hlt6 c hc⟩, fun g' hg' => hG.own.lt g' hg'⟩
    have e9 : Ext (fun q => q = w.heap.size + 1) wr (aU wr (w.heap.size + 1) 0 [.int .i64 x.now, .int .i64 x.events, .int .i64 x.chain.ae, .slice a3q x.chain.ids.length c3q, .slice (some ⟨g4, 0, none⟩) x.nodes.length cn, .slice a5q x.msgs.length c5q, .slice an x.af.length cn6]) := cb _ (Ext.refl _ _) _ _ _ rfl
    have HWN := yh ((hWN.ext e9 (fun k h1 h2 h3 => by omega)).mono (show w.heap.size ≤ W0.heap.size by omega) (Nat.le_of_eq (bJ wr (w.heap.size + 1) 0 [.int .i64 x.now, .int .i64 x.events, .int .i64 x.chain.ae, .slice a3q x.chain.ids.length c3q, .slice (some ⟨g4, 0, none⟩) x.nodes.length cn, .slice a5q x.msgs.length c5q, .slice an x.af.length cn6]).symm))
    have HB9 := yh (aE ((uh HB).trans (hBr2.mono (uh HB).size)) (w.heap.size + 1) 0 [.int .i64 x.now, .int .i64 x.events, .int .i64 x.chain.ae, .slice a3q x.chain.ids.length c3q, .slice (some ⟨g4, 0, none⟩) x.nodes.length cn, .slice a5q x.msgs.length c5q, .slice an x.af.length cn6] (by omega))
    have o0 := ag.at hN 0 _ rfl
    have p0 := ag.at hy 0 _ rfl
    have o1 := ag.at hN 1 _ rfl
    have p1 := ag.at hy 1 _ rfl
    have o2 := ag.at hN 2 _ rfl
    have p2 := ag.at hy 2 _ rfl
    have o3 := ag.at hN 3 _ rfl
    have p3 := ag.at hy 3 _ rfl
    have o4 := ag.at hN 4 _ rfl
    have p4 := ag.at hy 4 _ rfl
    have o5 := ag.at hN 5 _ rfl
    have p5 := ag.at hy 5 _ rfl
    have o6 := ag.at hN 6 _ rfl
    have p6 := ag.at hy 6 _ rfl
    simp only [ga, gb, gc] at o0 p0 o1 p1 o2 p2 o3 p3 o4 p4 o5 p5 o6 p6
    have hol := hN.lt
    have hyl := hy.lt
    have hyf := ag.soft hy
    clear hlt6 hWN hWL hA2 i3 i5 i6 j3 j5 j6 hG hS hE hN hx hBr2 hy e9 HC3 HC5 HA HS4 HE4 HN4 HBr HB1 HX HY HB HRN HRE HF
    go_wp2_with fail
    refine bodyPost_ret (v := .agg #[.int .i64 x.now, .int .i64 x.events, .int .i64 x.chain.ae, .slice a3q x.chain.ids.length c3q, .slice (some ⟨g4, 0, none⟩) x.nodes.length cn, .slice a5q x.msgs.length c5q, .slice an x.af.length cn6]) (by simp [results, Tryz.results93, go_sem, p0, p1, p2, p3, p4, p5, p6]) rfl ?_
    exact ⟨_, rfl, uh HWN, uh HB9⟩
theorem mR (c : bx) {xs : List aS} {k : Nat} (hk : k < xs.length) : cN c k (xs.drop k) = if aG xs[k] ≠ 0 then aG xs[k] else if (xs[k].id != (k : Int) + 1) = true then 1 else if (decide (c.ae < xs[k].ae) || ((xs[k].up && decide (0 ≤ aY c.ids xs[k].id)) && (xs[k].ae != c.ae))) = true then 7 else cN c (k + 1) (xs.drop (k + 1)) := by
 rw [List.drop_eq_getElem_cons hk, cN]
 by_cases h1 : aG xs[k] ≠ 0
 ·
  rw [if_pos h1, if_pos h1]
 rw [if_neg h1, if_neg h1]
 by_cases h2 : xs[k].id ≠ (k : Int) + 1
 ·
  have b2 : (xs[k].id != (k : Int) + 1) = true := by simpa using h2
  rw [if_pos h2, b2, if_pos rfl]
 have b2 : (xs[k].id != (k : Int) + 1) = false := by simpa using h2
 rw [if_neg h2, b2, if_neg (show ¬ (false = true) by simp)]
 by_cases h3 : c.ae < xs[k].ae ∨ (xs[k].up = true ∧ 0 ≤ aY c.ids xs[k].id ∧ xs[k].ae ≠ c.ae)
 ·
  have b3 : (decide (c.ae < xs[k].ae) || ((xs[k].up && decide (0 ≤ aY c.ids xs[k].id)) && (xs[k].ae != c.ae))) = true := by
   rcases h3 with h3 | ⟨h4, h5, h6⟩
   ·
    simp [h3]
   simp [h4, h5, h6]
  rw [if_pos h3, b3, if_pos rfl]
 rw [if_neg h3, if_neg]
 intro q
 apply h3
 simp only [Bool.or_eq_true, Bool.and_eq_true, decide_eq_true_eq, bne_iff_ne] at q
 rcases q with q | ⟨⟨q1, q2⟩, q3⟩
 ·
  exact Or.inl q
 exact Or.inr ⟨q1, q2, q3⟩
theorem sm (a3 : Option Addr) (d3 : Nat) (a4 : Option Addr) (d4 : Nat) (a5 : Option Addr) (d5 : Nat) (a6 : Option Addr) (d6 : Nat) (x : ay) (xb : Nat) (w : World) (hX : ag 0 #[.int .i64 x.now, .int .i64 x.events, .int .i64 x.chain.ae, .slice a3 x.chain.ids.length d3, .slice a4 x.nodes.length d4, .slice a5 x.msgs.length d5, .slice a6 x.af.length d6] 39 w xb) (h : ab.aH.Reads w [.int .i64 x.now, .int .i64 x.events, .int .i64 x.chain.ae, .slice a3 x.chain.ids.length d3, .slice a4 x.nodes.length d4, .slice a5 x.msgs.length d5, .slice a6 x.af.length d6] x) :
  Calls Tryz.prog 86 #[.pointer (some ⟨xb, 0, none⟩)] w fun e w' => e = .returned (.int .i64 (cd x)) ∧ Below w.heap.size w w' := by
 obtain ⟨_, _, _, _, _, _, _, _, hq, RC, RN, -, -⟩ := aN h
 simp only [List.cons.injEq, Value.slice.injEq, and_true, true_and] at hq
 obtain ⟨⟨rfl, rfl⟩, ⟨rfl, rfl⟩, ⟨rfl, rfl⟩, rfl, rfl⟩ := hq
 obtain ⟨_, _, hq, RI⟩ := cl RC
 simp only [List.cons.injEq, Value.slice.injEq, and_true, true_and] at hq
 obtain ⟨rfl, rfl⟩ := hq
 have hbig := RI.ez
 have hbn := RN.ez
 have HI := yh RI
 have HN := yh RN
 have HX := yh hX
 have HQ : Hid (cd x = if cN x.chain 0 (x.nodes.drop 0) ≠ 0 then cN x.chain 0 (x.nodes.drop 0) else if (x.chain.ids.drop 0).all (ch x) = true then 0 else 4) := by
  show cd x = _
  unfold cd
  rfl
 have HV : Hid (∀ n, cN x.chain 0 (x.nodes.drop 0) = n → n ≠ 0 → cd x = n) := fun n h1 h2 => by rw [uh HQ, h1, if_pos h2]
 have HV0 : Hid (cN x.chain 0 (x.nodes.drop 0) = 0 → cd x = if (x.chain.ids.drop 0).all (ch x) = true then 0 else 4) := fun h1 => by rw [uh HQ, h1]; rfl
 clear RC RN RI h hX HQ
 generalize cd x = r at *
 generalize hF0 : cN x.chain 0 (x.nodes.drop 0) = f0 at *
 replace hF0 := hF0.symm
 go_enter Tryz.func86, Tryz.ntmps86
 go_wp2_with fail
 go_loopw [3] (fun i wr => ∃ k : Nat, k ≤ x.nodes.length ∧ i = .int .i64 k ∧ f0 = cN x.chain k (x.nodes.drop k) ∧ Below w.heap.size w wr) (fun i _ => x.nodes.length - (intOf i).toNat)
 case atStart => exact ⟨0, Nat.zero_le _, rfl, hF0, Below.refl _ _⟩
 case round =>
  obtain ⟨k, hk, rfl, hF, hB⟩ := hrel
  clear hF0
  have hX1 := (uh HX).aj hB
  have v2 := ag.at hX1 2 _ rfl
  have v3 := ag.at hX1 4 _ rfl
  have w3 := ag.at hX1 3 _ rfl
  simp only [ga, gb, gc] at v2 v3 w3
  have xl := hX1.lt
  have HX1 := yh hX1
  clear hX1 w3
  by_cases hlt : k < x.nodes.length
  ·
   obtain ⟨b, off, rfl, hbl⟩ := ab.aR (uh HN) (by omega)
   obtain ⟨row, hcl, hr⟩ := ab.bF (uh HN) hlt
   replace hr := hr.later hB
   rw [mR x.chain hlt] at hF
   have hdl : decide ((k : Int) < (x.nodes.length : Int)) = true := by simp; omega
   have hrl := hr.len
   obtain ⟨a4n, d4n, rfl, RW⟩ := bt hr
   have hRI : cT #[.int .i64 (x.nodes[k]).id, .bool (x.nodes[k]).up, .int .i64 (x.nodes[k]).ae, .int .i64 (x.nodes[k]).ar, .slice a4n (x.nodes[k]).writes.length d4n, .int .i64 (x.nodes[k]).sure, .int .i64 (x.nodes[k]).clean] wr b (off + k * 7) := cT.ofRow (A := ab.aA) (k := k) (fun m hm => (hB.cell (p := ⟨b, off + k * 7 + m, none⟩) hbl).trans (hcl m hm)) hrl (Nat.lt_of_lt_of_le hbl hB.size)
   have hI := (uh HI).later hB
   have HL := yh (tA b (off + k * 7) a4n d4n _ wr hRI RW)
   have HRI := yh hRI
   have HB := yh hB
   have HF := yh hF
   have HI1 := yh hI
   clear hF hB hr hrl hcl hRI hI RW
   generalize hx : x.nodes[k] = n at *
   clear hx
   go_wp2_with fail
   refine (uh HL).mono ?_
   rintro e w5 ⟨rfl, hb⟩
   replace HX1 := yh ((uh HX1).aj hb)
   replace HRI := yh ((uh HRI).aj hb)
   replace HI1 := yh ((uh HI1).later hb)
   replace HB := bZ HB hb
   clear hb HL v2 v3
   by_cases e1 : aG n ≠ 0
   ·
    have hd : (aG n != 0) = true := by simpa using e1
    have HE := yh (uh HV _ ((uh HF).trans (if_pos e1)) e1)
    clear e1
    generalize aG n = c at *
    go_wp2_with fail
    go_ret
    exact ⟨by rw [uh HE]; rfl, uh HB⟩
   replace HF := yh ((uh HF).trans (if_neg e1))
   have hd : aG n = 0 := by simpa using e1
   clear e1
   rw [hd]
   clear hd
   have HB0 := HB
   replace HB := yh (uh HB).drew
   have z0' := (uh HRI).at 0 _ rfl
   have z0 := (uh HRI).drew.at 0 _ rfl
   have z1 := (uh HRI).drew.at 1 _ rfl
   have z2 := (uh HRI).drew.at 2 _ rfl
   have y2 := ag.at (uh HX1).drew 2 _ rfl
   simp only [List.getElem_toArray, List.getElem_cons_zero, List.getElem_cons_succ, Nat.add_zero] at z0' z0 z1 z2 y2
   have xl5 := (uh HX1).lt
   have rl5 := (uh HRI).lt
   have LA : Hid (Calls Tryz.prog 92 #[.pointer (some ⟨xb, 2, none⟩), .int .i64 n.id] w5.drew fun e w' => e = .returned (.int .i64 (aY x.chain.ids n.id)) ∧ w' = w5.drew) := nj xb 2 _ _ x.chain n.id w5.drew ⟨(uh HX1).drew.at 2 _ rfl, (uh HX1).drew.at 3 _ rfl⟩ ((uh HI1).drew 1)
   generalize hid : n.id = id at *
   cases e2 : (id != (k : Int) + 1)
   ·
    replace HF := yh ((uh HF).trans (if_neg (by rw [e2]; simp)))
    clear hid
    generalize hup : n.up = up at *
    generalize hep : n.ae = ep at *
    generalize hce : x.chain.ae = ce at *
    generalize aY x.chain.ids id = p at *
    clear hup hep hce
    cases e3 : decide (ce < ep)
    ·
     cases up
     ·
      replace HF := yh ((uh HF).trans (if_neg (by rw [e3]; simp)))
      go_wp2_with fail
      refine wZz (fun w' => w' = w5.drew) rfl (fun zq => ?_)
      generalize w5.drew = wD at zq z0 z1 z2 y2 HB LA ⊢
      refine tkJ 0 (v := ?vq1_0) ?hq1_0 zq ?rq1_0
      case hq1_0 =>
       intro wS hSw
       subst hSw
       exact fZ
      refine tkJ 1 (v := ?vq1_1) ?hq1_1 zq ?rq1_1
      case hq1_1 =>
       intro wS hSw
       subst hSw
       exact fZ
      refine tkJ 2 (v := ?vq1_2) ?hq1_2 zq ?rq1_2
      case hq1_2 =>
       intro wS hSw
       subst hSw
       exact fZ
      refine tkJ 3 (v := ?vq1_3) ?hq1_3 zq ?rq1_3
      case hq1_3 =>
       intro wS hSw
       subst hSw
       exact fZ
      refine tkJ 4 (v := ?vq1_4) ?hq1_4 zq ?rq1_4
      case hq1_4 =>
       intro wS hSw
       subst hSw
       exact fZ
      refine tkJ 5 (v := ?vq1_5) ?hq1_5 zq ?rq1_5
      case hq1_5 =>
       intro wS hSw
       subst hSw
       exact fZ
      refine tkJ 6 (v := ?vq1_6) ?hq1_6 zq ?rq1_6
      case hq1_6 =>
       intro wS hSw
       subst hSw
       exact fZ
      refine tkJ 7 (v := ?vq1_7) ?hq1_7 zq ?rq1_7
      case hq1_7 =>
       intro wS hSw
       subst hSw
       exact fZ
      refine tkJ 8 (v := ?vq1_8) ?hq1_8 zq ?rq1_8
      case hq1_8 =>
       intro wS hSw
       subst hSw
       exact fZ
      refine tkJ 9 (v := ?vq1_9) ?hq1_9 zq ?rq1_9
      case hq1_9 =>
       intro wS hSw
       subst hSw
       exact fZ
      refine tkJ 10 (v := ?vq1_10) ?hq1_10 zq ?rq1_10
      case hq1_10 =>
       intro wS hSw
       subst hSw
       exact fZ
      refine tkJ 11 (v := ?vq1_11) ?hq1_11 zq ?rq1_11
      case hq1_11 =>
       intro wS hSw
       subst hSw
       exact fZ
      refine tkJ 12 (v := ?vq1_12) ?hq1_12 zq ?rq1_12
      case hq1_12 =>
       intro wS hSw
       subst hSw
       exact fZ
      refine tkJ 13 (v := ?vq1_13) ?hq1_13 zq ?rq1_13
      case hq1_13 =>
       intro wS hSw
       subst hSw
       exact fZ
      refine tkJ 14 (v := ?vq1_14) ?hq1_14 zq ?rq1_14
      case hq1_14 =>
       intro wS hSw
       subst hSw
       exact fZ
      refine tkJ 15 (v := ?vq1_15) ?hq1_15 zq ?rq1_15
      case hq1_15 =>
       intro wS hSw
       subst hSw
       exact fZ
      refine skH 16 zq ?_
      refine skH 17 zq ?_
      refine skH 18 zq ?_
      refine skH 19 zq ?_
      refine skH 20 zq ?_
      refine skH 21 zq ?_
      refine skH 22 zq ?_
      refine skH 23 zq ?_
      refine skH 24 zq ?_
      refine tkJ 25 (v := ?vq1_25) ?hq1_25 zq ?rq1_25
      case hq1_25 =>
       intro wS hSw
       subst hSw
       exact fZ
      refine tkJ 26 (v := ?vq1_26) ?hq1_26 zq ?rq1_26
      case hq1_26 =>
       intro wS hSw
       subst hSw
       exact fZ
      refine skH 27 zq ?_
      refine skH 28 zq ?_
      refine skH 29 zq ?_
      refine skH 30 zq ?_
      refine skH 31 zq ?_
      refine skH 32 zq ?_
      refine skH 33 zq ?_
      refine skH 34 zq ?_
      refine skH 35 zq ?_
      refine skH 36 zq ?_
      refine tkJ 37 (v := ?vq1_37) ?hq1_37 zq ?rq1_37
      case hq1_37 =>
       intro wS hSw
       subst hSw
       exact fZ
      refine tkJ 38 (v := ?vq1_38) ?hq1_38 zq ?rq1_38
      case hq1_38 =>
       intro wS hSw
       subst hSw
       exact fZ
      refine dZ ?_
      clear zq
      go_wp2_with fail
      go_roundw
      case rel => exact ⟨k + 1, by omega, by go_num, uh HF, uh HB⟩
      case measure => simp [intOf]; omega
     cases e4 : decide (0 ≤ p)
     ·
      replace HF := yh ((uh HF).trans (if_neg (by rw [e3, e4]; simp)))
      go_wp2_with fail
      refine wZz (fun w' => w' = w5.drew) rfl (fun zq => ?_)
      generalize w5.drew = wD at zq z0 z1 z2 y2 HB LA ⊢
      refine tkJ 0 (v := ?vq2_0) ?hq2_0 zq ?rq2_0
      case hq2_0 =>
       intro wS hSw
       subst hSw
       exact fZ
      refine tkJ 1 (v := ?vq2_1) ?hq2_1 zq ?rq2_1
      case hq2_1 =>
       intro wS hSw
       subst hSw
       exact fZ
      refine tkJ 2 (v := ?vq2_2) ?hq2_2 zq ?rq2_2
      case hq2_2 =>
       intro wS hSw
       subst hSw
       exact fZ
      refine tkJ 3 (v := ?vq2_3) ?hq2_3 zq ?rq2_3
      case hq2_3 =>
       intro wS hSw
       subst hSw
       exact fZ
      refine tkJ 4 (v := ?vq2_4) ?hq2_4 zq ?rq2_4
      case hq2_4 =>
       intro wS hSw
       subst hSw
       exact fZ
      refine tkJ 5 (v := ?vq2_5) ?hq2_5 zq ?rq2_5
      case hq2_5 =>
       intro wS hSw
       subst hSw
       exact fZ
      refine tkJ 6 (v := ?vq2_6) ?hq2_6 zq ?rq2_6
      case hq2_6 =>
       intro wS hSw
       subst hSw
       exact fZ
      refine tkJ 7 (v := ?vq2_7) ?hq2_7 zq ?rq2_7
      case hq2_7 =>
       intro wS hSw
       subst hSw
       exact fZ
      refine tkJ 8 (v := ?vq2_8) ?hq2_8 zq ?rq2_8
      case hq2_8 =>
       intro wS hSw
       subst hSw
       exact fZ
      refine tkJ 9 (v := ?vq2_9) ?hq2_9 zq ?rq2_9
      case hq2_9 =>
       intro wS hSw
       subst hSw
       exact fZ
      refine tkJ 10 (v := ?vq2_10) ?hq2_10 zq ?rq2_10
      case hq2_10 =>
       intro wS hSw
       subst hSw
       exact fZ
      refine tkJ 11 (v := ?vq2_11) ?hq2_11 zq ?rq2_11
      case hq2_11 =>
       intro wS hSw
       subst hSw
       exact fZ
      refine tkJ 12 (v := ?vq2_12) ?hq2_12 zq ?rq2_12
      case hq2_12 =>
       intro wS hSw
       subst hSw
       exact fZ
      refine tkJ 13 (v := ?vq2_13) ?hq2_13 zq ?rq2_13
      case hq2_13 =>
       intro wS hSw
       subst hSw
       exact fZ
      refine tkJ 14 (v := ?vq2_14) ?hq2_14 zq ?rq2_14
      case hq2_14 =>
       intro wS hSw
       subst hSw
       exact fZ
      refine tkJ 15 (v := ?vq2_15) ?hq2_15 zq ?rq2_15
      case hq2_15 =>
       intro wS hSw
       subst hSw
       exact fZ
      refine tkJ 16 (v := ?vq2_16) ?hq2_16 zq ?rq2_16
      case hq2_16 =>
       intro wS hSw
       subst hSw
       exact fZ
      refine tkJ 17 (v := ?vq2_17) ?hq2_17 zq ?rq2_17
      case hq2_17 =>
       intro wS hSw
       subst hSw
       exact fZ
      refine tkJ 18 (v := ?vq2_18) ?hq2_18 zq ?rq2_18
      case hq2_18 =>
       intro wS hSw
       subst hSw
       exact fZ
      refine tkJ 19 (v := ?vq2_19) ?hq2_19 zq ?rq2_19
      case hq2_19 =>
       intro wS hSw
       subst hSw
       exact fZ
      refine tkJ 20 (v := ?vq2_20) ?hq2_20 zq ?rq2_20
      case hq2_20 =>
       intro wS hSw
       subst hSw
       exact fZ
      refine tkJ 21 (v := ?vq2_21) ?hq2_21 zq ?rq2_21
      case hq2_21 =>
       intro wS hSw
       subst hSw
       exact fZ
      refine tkJ 22 (v := ?vq2_22) ?hq2_22 zq ?rq2_22
      case hq2_22 =>
       intro wS hSw
       subst hSw
       exact fZ
      refine rdH 23 (fun K hK => ?_)
      go_simp
      go_at_call 92
      refine (uh LA).mono ?_
      rintro e u1 ⟨rfl, h1⟩
      subst u1
      try go_wp2_with fail
      refine hK.out _ _ rfl (fun zq => ?_)
      clear hK K
      try simp only [Act.put, pz, py, px]
      refine tkJ 24 (v := ?vq2_24) ?hq2_24 zq ?rq2_24
      case hq2_24 =>
       intro wS hSw
       subst hSw
       exact fZ
      refine tkJ 25 (v := ?vq2_25) ?hq2_25 zq ?rq2_25
      case hq2_25 =>
       intro wS hSw
       subst hSw
       exact fZ
      refine tkJ 26 (v := ?vq2_26) ?hq2_26 zq ?rq2_26
      case hq2_26 =>
       intro wS hSw
       subst hSw
       exact fZ
      refine skH 27 zq ?_
      refine skH 28 zq ?_
      refine skH 29 zq ?_
      refine skH 30 zq ?_
      refine skH 31 zq ?_
      refine skH 32 zq ?_
      refine skH 33 zq ?_
      refine skH 34 zq ?_
      refine skH 35 zq ?_
      refine skH 36 zq ?_
      refine tkJ 37 (v := ?vq2_37) ?hq2_37 zq ?rq2_37
      case hq2_37 =>
       intro wS hSw
       subst hSw
       exact fZ
      refine tkJ 38 (v := ?vq2_38) ?hq2_38 zq ?rq2_38
      case hq2_38 =>
       intro wS hSw
       subst hSw
       exact fZ
      refine dZ ?_
      clear zq
      go_wp2_with fail
      go_roundw
      case rel => exact ⟨k + 1, by omega, by go_num, uh HF, uh HB⟩
      case measure => simp [intOf]; omega
     cases e5 : (ep != ce)
     ·
      replace HF := yh ((uh HF).trans (if_neg (by rw [e3, e4, e5]; simp)))
      go_wp2_with fail
      refine wZz (fun w' => w' = w5.drew) rfl (fun zq => ?_)
      generalize w5.drew = wD at zq z0 z1 z2 y2 HB LA ⊢
      refine tkJ 0 (v := ?vq3_0) ?hq3_0 zq ?rq3_0
      case hq3_0 =>
       intro wS hSw
       subst hSw
       exact fZ
      refine tkJ 1 (v := ?vq3_1) ?hq3_1 zq ?rq3_1
      case hq3_1 =>
       intro wS hSw
       subst hSw
       exact fZ
      refine tkJ 2 (v := ?vq3_2) ?hq3_2 zq ?rq3_2
      case hq3_2 =>
       intro wS hSw
       subst hSw
       exact fZ
      refine tkJ 3 (v := ?vq3_3) ?hq3_3 zq ?rq3_3
      case hq3_3 =>
       intro wS hSw
       subst hSw
       exact fZ
      refine tkJ 4 (v := ?vq3_4) ?hq3_4 zq ?rq3_4
      case hq3_4 =>
       intro wS hSw
       subst hSw
       exact fZ
      refine tkJ 5 (v := ?vq3_5) ?hq3_5 zq ?rq3_5
      case hq3_5 =>
       intro wS hSw
       subst hSw
       exact fZ
      refine tkJ 6 (v := ?vq3_6) ?hq3_6 zq ?rq3_6
      case hq3_6 =>
       intro wS hSw
       subst hSw
       exact fZ
      refine tkJ 7 (v := ?vq3_7) ?hq3_7 zq ?rq3_7
      case hq3_7 =>
       intro wS hSw
       subst hSw
       exact fZ
      refine tkJ 8 (v := ?vq3_8) ?hq3_8 zq ?rq3_8
      case hq3_8 =>
       intro wS hSw
       subst hSw
       exact fZ
      refine tkJ 9 (v := ?vq3_9) ?hq3_9 zq ?rq3_9
      case hq3_9 =>
       intro wS hSw
       subst hSw
       exact fZ
      refine tkJ 10 (v := ?vq3_10) ?hq3_10 zq ?rq3_10
      case hq3_10 =>
       intro wS hSw
       subst hSw
       exact fZ
      refine tkJ 11 (v := ?vq3_11) ?hq3_11 zq ?rq3_11
      case hq3_11 =>
       intro wS hSw
       subst hSw
       exact fZ
      refine tkJ 12 (v := ?vq3_12) ?hq3_12 zq ?rq3_12
      case hq3_12 =>
       intro wS hSw
       subst hSw
       exact fZ
      refine tkJ 13 (v := ?vq3_13) ?hq3_13 zq ?rq3_13
      case hq3_13 =>
       intro wS hSw
       subst hSw
       exact fZ
      refine tkJ 14 (v := ?vq3_14) ?hq3_14 zq ?rq3_14
      case hq3_14 =>
       intro wS hSw
       subst hSw
       exact fZ
      refine tkJ 15 (v := ?vq3_15) ?hq3_15 zq ?rq3_15
      case hq3_15 =>
       intro wS hSw
       subst hSw
       exact fZ
      refine tkJ 16 (v := ?vq3_16) ?hq3_16 zq ?rq3_16
      case hq3_16 =>
       intro wS hSw
       subst hSw
       exact fZ
      refine tkJ 17 (v := ?vq3_17) ?hq3_17 zq ?rq3_17
      case hq3_17 =>
       intro wS hSw
       subst hSw
       exact fZ
      refine tkJ 18 (v := ?vq3_18) ?hq3_18 zq ?rq3_18
      case hq3_18 =>
       intro wS hSw
       subst hSw
       exact fZ
      refine tkJ 19 (v := ?vq3_19) ?hq3_19 zq ?rq3_19
      case hq3_19 =>
       intro wS hSw
       subst hSw
       exact fZ
      refine tkJ 20 (v := ?vq3_20) ?hq3_20 zq ?rq3_20
      case hq3_20 =>
       intro wS hSw
       subst hSw
       exact fZ
      refine tkJ 21 (v := ?vq3_21) ?hq3_21 zq ?rq3_21
      case hq3_21 =>
       intro wS hSw
       subst hSw
       exact fZ
      refine tkJ 22 (v := ?vq3_22) ?hq3_22 zq ?rq3_22
      case hq3_22 =>
       intro wS hSw
       subst hSw
       exact fZ
      refine rdH 23 (fun K hK => ?_)
      go_simp
      go_at_call 92
      refine (uh LA).mono ?_
      rintro e u1 ⟨rfl, h1⟩
      subst u1
      try go_wp2_with fail
      refine hK.out _ _ rfl (fun zq => ?_)
      clear hK K
      try simp only [Act.put, pz, py, px]
      refine tkJ 24 (v := ?vq3_24) ?hq3_24 zq ?rq3_24
      case hq3_24 =>
       intro wS hSw
       subst hSw
       exact fZ
      refine tkJ 25 (v := ?vq3_25) ?hq3_25 zq ?rq3_25
      case hq3_25 =>
       intro wS hSw
       subst hSw
       exact fZ
      refine tkJ 26 (v := ?vq3_26) ?hq3_26 zq ?rq3_26
      case hq3_26 =>
       intro wS hSw
       subst hSw
       exact fZ
      refine tkJ 27 (v := ?vq3_27) ?hq3_27 zq ?rq3_27
      case hq3_27 =>
       intro wS hSw
       subst hSw
       exact fZ
      refine tkJ 28 (v := ?vq3_28) ?hq3_28 zq ?rq3_28
      case hq3_28 =>
       intro wS hSw
       subst hSw
       exact fZ
      refine tkJ 29 (v := ?vq3_29) ?hq3_29 zq ?rq3_29
      case hq3_29 =>
       intro wS hSw
       subst hSw
       exact fZ
      refine tkJ 30 (v := ?vq3_30) ?hq3_30 zq ?rq3_30
      case hq3_30 =>
       intro wS hSw
       subst hSw
       exact fZ
      refine tkJ 31 (v := ?vq3_31) ?hq3_31 zq ?rq3_31
      case hq3_31 =>
       intro wS hSw
       subst hSw
       exact fZ
      refine tkJ 32 (v := ?vq3_32) ?hq3_32 zq ?rq3_32
      case hq3_32 =>
       intro wS hSw
       subst hSw
       exact fZ
      refine tkJ 33 (v := ?vq3_33) ?hq3_33 zq ?rq3_33
      case hq3_33 =>
       intro wS hSw
       subst hSw
       exact fZ
      refine tkJ 34 (v := ?vq3_34) ?hq3_34 zq ?rq3_34
      case hq3_34 =>
       intro wS hSw
       subst hSw
       exact fZ
      refine tkJ 35 (v := ?vq3_35) ?hq3_35 zq ?rq3_35
      case hq3_35 =>
       intro wS hSw
       subst hSw
       exact fZ
      refine tkJ 36 (v := ?vq3_36) ?hq3_36 zq ?rq3_36
      case hq3_36 =>
       intro wS hSw
       subst hSw
       exact fZ
      refine tkJ 37 (v := ?vq3_37) ?hq3_37 zq ?rq3_37
      case hq3_37 =>
       intro wS hSw
       subst hSw
       exact fZ
      refine tkJ 38 (v := ?vq3_38) ?hq3_38 zq ?rq3_38
      case hq3_38 =>
       intro wS hSw
       subst hSw
       exact fZ
      refine dZ ?_
      clear zq
      go_wp2_with fail
      go_roundw
      case rel => exact ⟨k + 1, by omega, by go_num, uh HF, uh HB⟩
      case measure => simp [intOf]; omega
     have HE := yh (uh HV _ ((uh HF).trans (if_pos (by rw [e3, e4, e5]; simp))) (by decide))
     go_wp2_with fail
     refine wZz (fun w' => w' = w5.drew) rfl (fun zq => ?_)
     generalize w5.drew = wD at zq z0 z1 z2 y2 HB LA ⊢
     refine tkJ 0 (v := ?vq4_0) ?hq4_0 zq ?rq4_0
     case hq4_0 =>
      intro wS hSw
      subst hSw
      exact fZ
     refine tkJ 1 (v := ?vq4_1) ?hq4_1 zq ?rq4_1
     case hq4_1 =>
      intro wS hSw
      subst hSw
      exact fZ
     refine tkJ 2 (v := ?vq4_2) ?hq4_2 zq ?rq4_2
     case hq4_2 =>
      intro wS hSw
      subst hSw
      exact fZ
     refine tkJ 3 (v := ?vq4_3) ?hq4_3 zq ?rq4_3
     case hq4_3 =>
      intro wS hSw
      subst hSw
      exact fZ
     refine tkJ 4 (v := ?vq4_4) ?hq4_4 zq ?rq4_4
     case hq4_4 =>
      intro wS hSw
      subst hSw
      exact fZ
     refine tkJ 5 (v := ?vq4_5) ?hq4_5 zq ?rq4_5
     case hq4_5 =>
      intro wS hSw
      subst hSw
      exact fZ
     refine tkJ 6 (v := ?vq4_6) ?hq4_6 zq ?rq4_6
     case hq4_6 =>
      intro wS hSw
      subst hSw
      exact fZ
     refine tkJ 7 (v := ?vq4_7) ?hq4_7 zq ?rq4_7
     case hq4_7 =>
      intro wS hSw
      subst hSw
      exact fZ
     refine tkJ 8 (v := ?vq4_8) ?hq4_8 zq ?rq4_8
     case hq4_8 =>
      intro wS hSw
      subst hSw
      exact fZ
     refine tkJ 9 (v := ?vq4_9) ?hq4_9 zq ?rq4_9
     case hq4_9 =>
      intro wS hSw
      subst hSw
      exact fZ
     refine tkJ 10 (v := ?vq4_10) ?hq4_10 zq ?rq4_10
     case hq4_10 =>
      intro wS hSw
      subst hSw
      exact fZ
     refine tkJ 11 (v := ?vq4_11) ?hq4_11 zq ?rq4_11
     case hq4_11 =>
      intro wS hSw
      subst hSw
      exact fZ
     refine tkJ 12 (v := ?vq4_12) ?hq4_12 zq ?rq4_12
     case hq4_12 =>
      intro wS hSw
      subst hSw
      exact fZ
     refine tkJ 13 (v := ?vq4_13) ?hq4_13 zq ?rq4_13
     case hq4_13 =>
      intro wS hSw
      subst hSw
      exact fZ
     refine tkJ 14 (v := ?vq4_14) ?hq4_14 zq ?rq4_14
     case hq4_14 =>
      intro wS hSw
      subst hSw
      exact fZ
     refine tkJ 15 (v := ?vq4_15) ?hq4_15 zq ?rq4_15
     case hq4_15 =>
      intro wS hSw
      subst hSw
      exact fZ
     refine tkJ 16 (v := ?vq4_16) ?hq4_16 zq ?rq4_16
     case hq4_16 =>
      intro wS hSw
      subst hSw
      exact fZ
     refine tkJ 17 (v := ?vq4_17) ?hq4_17 zq ?rq4_17
     case hq4_17 =>
      intro wS hSw
      subst hSw
      exact fZ
     refine tkJ 18 (v := ?vq4_18) ?hq4_18 zq ?rq4_18
     case hq4_18 =>
      intro wS hSw
      subst hSw
      exact fZ
     refine tkJ 19 (v := ?vq4_19) ?hq4_19 zq ?rq4_19
     case hq4_19 =>
      intro wS hSw
      subst hSw
      exact fZ
     refine tkJ 20 (v := ?vq4_20) ?hq4_20 zq ?rq4_20
     case hq4_20 =>
      intro wS hSw
      subst hSw
      exact fZ
     refine tkJ 21 (v := ?vq4_21) ?hq4_21 zq ?rq4_21
     case hq4_21 =>
      intro wS hSw
      subst hSw
      exact fZ
     refine tkJ 22 (v := ?vq4_22) ?hq4_22 zq ?rq4_22
     case hq4_22 =>
      intro wS hSw
      subst hSw
      exact fZ
     refine rdH 23 (fun K hK => ?_)
     go_simp
     go_at_call 92
     refine (uh LA).mono ?_
     rintro e u1 ⟨rfl, h1⟩
     subst u1
     try go_wp2_with fail
     refine hK.out _ _ rfl (fun zq => ?_)
     clear hK K
     try simp only [Act.put, pz, py, px]
     refine tkJ 24 (v := ?vq4_24) ?hq4_24 zq ?rq4_24
     case hq4_24 =>
      intro wS hSw
      subst hSw
      exact fZ
     refine tkJ 25 (v := ?vq4_25) ?hq4_25 zq ?rq4_25
     case hq4_25 =>
      intro wS hSw
      subst hSw
      exact fZ
     refine tkJ 26 (v := ?vq4_26) ?hq4_26 zq ?rq4_26
     case hq4_26 =>
      intro wS hSw
      subst hSw
      exact fZ
     refine tkJ 27 (v := ?vq4_27) ?hq4_27 zq ?rq4_27
     case hq4_27 =>
      intro wS hSw
      subst hSw
      exact fZ
     refine tkJ 28 (v := ?vq4_28) ?hq4_28 zq ?rq4_28
     case hq4_28 =>
      intro wS hSw
      subst hSw
      exact fZ
     refine tkJ 29 (v := ?vq4_29) ?hq4_29 zq ?rq4_29
     case hq4_29 =>
      intro wS hSw
      subst hSw
      exact fZ
     refine tkJ 30 (v := ?vq4_30) ?hq4_30 zq ?rq4_30
     case hq4_30 =>
      intro wS hSw
      subst hSw
      exact fZ
     refine tkJ 31 (v := ?vq4_31) ?hq4_31 zq ?rq4_31
     case hq4_31 =>
      intro wS hSw
      subst hSw
      exact fZ
     refine tkJ 32 (v := ?vq4_32) ?hq4_32 zq ?rq4_32
     case hq4_32 =>
      intro wS hSw
      subst hSw
      exact fZ
     refine tkJ 33 (v := ?vq4_33) ?hq4_33 zq ?rq4_33
     case hq4_33 =>
      intro wS hSw
      subst hSw
      exact fZ
     refine tkJ 34 (v := ?vq4_34) ?hq4_34 zq ?rq4_34
     case hq4_34 =>
      intro wS hSw
      subst hSw
      exact fZ
     refine tkJ 35 (v := ?vq4_35) ?hq4_35 zq ?rq4_35
     case hq4_35 =>
      intro wS hSw
      subst hSw
      exact fZ
     refine tkJ 36 (v := ?vq4_36) ?hq4_36 zq ?rq4_36
     case hq4_36 =>
      intro wS hSw
      subst hSw
      exact fZ
     refine tkJ 37 (v := ?vq4_37) ?hq4_37 zq ?rq4_37
     case hq4_37 =>
      intro wS hSw
      subst hSw
      exact fZ
     refine tkJ 38 (v := ?vq4_38) ?hq4_38 zq ?rq4_38
     case hq4_38 =>
      intro wS hSw
      subst hSw
      exact fZ
     refine dZ ?_
     clear zq
     go_wp2_with fail
     go_ret
     exact ⟨by rw [uh HE]; rfl, uh HB⟩
    have HE := yh (uh HV _ ((uh HF).trans (if_pos (by rw [e3]; simp))) (by decide))
    go_wp2_with fail
    refine wZz (fun w' => w' = w5.drew) rfl (fun zq => ?_)
    generalize w5.drew = wD at zq z0 z1 z2 y2 HB LA ⊢
    refine tkJ 0 (v := ?vq5_0) ?hq5_0 zq ?rq5_0
    case hq5_0 =>
     intro wS hSw
     subst hSw
     exact fZ
    refine tkJ 1 (v := ?vq5_1) ?hq5_1 zq ?rq5_1
    case hq5_1 =>
     intro wS hSw
     subst hSw
     exact fZ
    refine tkJ 2 (v := ?vq5_2) ?hq5_2 zq ?rq5_2
    case hq5_2 =>
     intro wS hSw
     subst hSw
     exact fZ
    refine tkJ 3 (v := ?vq5_3) ?hq5_3 zq ?rq5_3
    case hq5_3 =>
     intro wS hSw
     subst hSw
     exact fZ
    refine tkJ 4 (v := ?vq5_4) ?hq5_4 zq ?rq5_4
    case hq5_4 =>
     intro wS hSw
     subst hSw
     exact fZ
    refine tkJ 5 (v := ?vq5_5) ?hq5_5 zq ?rq5_5
    case hq5_5 =>
     intro wS hSw
     subst hSw
     exact fZ
    refine tkJ 6 (v := ?vq5_6) ?hq5_6 zq ?rq5_6
    case hq5_6 =>
     intro wS hSw
     subst hSw
     exact fZ
    refine tkJ 7 (v := ?vq5_7) ?hq5_7 zq ?rq5_7
    case hq5_7 =>
     intro wS hSw
     subst hSw
     exact fZ
    refine tkJ 8 (v := ?vq5_8) ?hq5_8 zq ?rq5_8
    case hq5_8 =>
     intro wS hSw
     subst hSw
     exact fZ
    refine tkJ 9 (v := ?vq5_9) ?hq5_9 zq ?rq5_9
    case hq5_9 =>
     intro wS hSw
     subst hSw
     exact fZ
    refine tkJ 10 (v := ?vq5_10) ?hq5_10 zq ?rq5_10
    case hq5_10 =>
     intro wS hSw
     subst hSw
     exact fZ
    refine skH 11 zq ?_
    refine skH 12 zq ?_
    refine skH 13 zq ?_
    refine skH 14 zq ?_
    refine skH 15 zq ?_
    refine skH 16 zq ?_
    refine skH 17 zq ?_
    refine skH 18 zq ?_
    refine skH 19 zq ?_
    refine skH 20 zq ?_
    refine skH 21 zq ?_
    refine skH 22 zq ?_
    refine skH 23 zq ?_
    refine skH 24 zq ?_
    refine skH 25 zq ?_
    refine skH 26 zq ?_
    refine skH 27 zq ?_
    refine skH 28 zq ?_
    refine skH 29 zq ?_
    refine skH 30 zq ?_
    refine skH 31 zq ?_
    refine skH 32 zq ?_
    refine skH 33 zq ?_
    refine skH 34 zq ?_
    refine skH 35 zq ?_
    refine skH 36 zq ?_
    refine skH 37 zq ?_
    refine tkJ 38 (v := ?vq5_38) ?hq5_38 zq ?rq5_38
    case hq5_38 =>
     intro wS hSw
     subst hSw
     exact fZ
    refine dZ ?_
    clear zq
    go_wp2_with fail
    go_ret
    exact ⟨by rw [uh HE]; rfl, uh HB⟩
   have HE := yh (uh HV _ ((uh HF).trans (if_pos e2)) (by decide))
   go_wp2_with fail
   go_ret
   exact ⟨by rw [uh HE]; rfl, uh HB0⟩
  obtain rfl : k = x.nodes.length := by omega
  rw [List.drop_length] at hF
  have hdl : decide ((x.nodes.length : Int) < (x.nodes.length : Int)) = false := by simp
  have HZ := yh (uh HV0 hF)
  have HB1 := yh hB
  clear hF hB HV HV0
  go_wp2_with fail
  clear hdl v2 v3
  go_loopw [6] (fun i wq => ∃ k : Nat, k ≤ x.chain.ids.length ∧ i = .int .i64 k ∧ r = (if (x.chain.ids.drop k).all (ch x) = true then 0 else 4) ∧ Below wr.heap.size wr wq) (fun i _ => x.chain.ids.length - (intOf i).toNat)
  case atStart => exact ⟨0, Nat.zero_le _, rfl, uh HZ, Below.refl _ _⟩
  case round =>
   obtain ⟨k, hk, rfl, hF, hB⟩ := hrel
   clear HZ
   have hX2 := (uh HX1).aj hB
   have y3 := ag.at hX2 3 _ rfl
   simp only [ga, gb, gc] at y3
   have xl2 := hX2.lt
   have HB := yh ((uh HB1).trans (hB.mono (uh HB1).size))
   by_cases hlt : k < x.chain.ids.length
   ·
    obtain ⟨b, off, rfl, hbl⟩ := ab.aR (uh HI) (by omega)
    have c1 := ((uh HB).cell (p := ⟨b, off + k, none⟩) hbl).trans (eH (uh HI) hlt)
    have hdl : decide ((k : Int) < (x.chain.ids.length : Int)) = true := by simp; omega
    rw [List.drop_eq_getElem_cons hlt, List.all_cons] at hF
    have HL := yh (gN _ _ _ _ _ _ _ _ x x.chain.ids[k] xb wr hX2)
    have HF := yh hF
    have HBQ := yh hB
    clear hF hX2 hB
    generalize x.chain.ids[k] = z at *
    go_wp2_with fail
    refine (uh HL).mono ?_
    rintro e w5 ⟨rfl, h5⟩
    subst w5
    clear HL
    generalize ch x z = q at *
    cases q
    ·
     replace HF := yh ((uh HF).trans (if_neg (by simp)))
     go_wp2_with fail
     go_ret
     exact ⟨by rw [uh HF]; rfl, uh HB⟩
    rw [Bool.true_and] at HF
    go_wp2_with fail
    go_roundw
    case rel => exact ⟨k + 1, by omega, by go_num, uh HF, uh HBQ⟩
    case measure => simp [intOf]; omega
   obtain rfl : k = x.chain.ids.length := by omega
   rw [List.drop_length, List.all_nil, if_pos rfl] at hF
   have hdl : decide ((x.chain.ids.length : Int) < (x.chain.ids.length : Int)) = false := by simp
   have HF := yh hF
   clear hF hB hX2
   go_wp2_with fail
   go_ret
   exact ⟨by rw [uh HF]; rfl, uh HB⟩
theorem vi {w : World} {b off cap : Nat} {xs : List bu} (h : (ab.sl ab.aP).Reads w [.slice (some ⟨b, off, none⟩) xs.length cap] xs) {k : Nat} (hk : k < xs.length) : ∃ a d, vH w b (off + k * 10) xs[k] (.slice a xs[k].write.vec.length d) ∧ (ab.sl ab.int).Reads w [.slice a xs[k].write.vec.length d] xs[k].write.vec := by
 obtain ⟨row, hc, hr⟩ := ab.bF h hk
 obtain ⟨a, d, rfl, R⟩ := cE hr
 exact ⟨a, d, ⟨hc 0 (by decide), hc 1 (by decide), hc 2 (by decide), hc 3 (by decide), hc 4 (by decide), hc 5 (by decide), hc 6 (by decide), hc 7 (by decide), hc 8 (by decide), hc 9 (by decide)⟩, mi R⟩
theorem uQ {xs : List bu} (h : 40 < xs.length) : bc xs = 2 := by rw [bc, if_pos h]
theorem vJ {xs : List bu} (h : ¬ 40 < xs.length) : bc xs = cD xs := by rw [bc, if_neg h]
theorem rJ (v : Value) (xs : List bu) (w : World) (h : (ab.sl ab.aP).Reads w [v] xs) :
  Calls Tryz.prog 87 #[v] w fun e w' => e = .returned (.int .i64 (bc xs)) ∧ Below w.heap.size w w' := by
 obtain ⟨ao, cap, rfl⟩ := aI h
 have hbig := h.ez
 have H := yh h
 clear h
 by_cases h40 : 40 < xs.length
 ·
  have HF := yh (uQ h40)
  have hd : decide ((40 : Int) < (xs.length : Int)) = true := by simp; omega
  go_enter Tryz.func87, Tryz.ntmps87
  go_wp2_with fail
  go_ret
  exact ⟨by rw [uh HF]; rfl, Below.refl _ _⟩
 have HF := yh (vJ h40)
 have hd : decide ((40 : Int) < (xs.length : Int)) = false := by simp; omega
 go_enter Tryz.func87, Tryz.ntmps87
 go_wp2_with fail
 clear hd
 go_loopw [3] (fun i wr => ∃ k : Nat, k ≤ xs.length ∧ i = .int .i64 k ∧ (∀ j (hj : j < xs.length), j < k → aJ xs[j] = 0) ∧ Below w.heap.size w wr) (fun i _ => xs.length - (intOf i).toNat)
 case atStart => exact ⟨0, Nat.zero_le _, rfl, fun j _ hj => by omega, Below.refl _ _⟩
 case round =>
  obtain ⟨k, hk, rfl, hz, hB⟩ := hrel
  by_cases hlt : k < xs.length
  ·
   obtain ⟨b, off, rfl, hbl⟩ := ab.aR (uh H) (by omega)
   obtain ⟨a, d, hM, R⟩ := vi ((uh H).later hB) hlt
   have HL := yh (uO b (off + k * 10) a d xs[k] wr hM R)
   have hbr : b < wr.heap.size := Nat.lt_of_lt_of_le hbl hB.size
   have hdl : decide ((k : Int) < (xs.length : Int)) = true := by simp; omega
   have HB := yh hB
   have HAT : Hid (aJ xs[k] ≠ 0 → cD xs = aJ xs[k]) := fun q => jw hlt (fun j hj => hz j (by omega) hj) q
   have HZ2 : Hid (aJ xs[k] = 0 → ∀ j (hj : j < xs.length), j < k + 1 → aJ xs[j] = 0) := by
    intro h0 j hj hjk
    by_cases hjk2 : j < k
    ·
     exact hz j hj hjk2
    obtain rfl : j = k := by omega
    exact h0
   clear hz hM R hB
   generalize aJ xs[k] = f at *
   go_wp2_with fail
   refine (uh HL).mono ?_
   rintro e w2 ⟨rfl, hb⟩
   have HB2 := yh ((uh HB).trans (hb.mono (uh HB).size))
   clear hb HL HB
   by_cases hf : f = 0
   ·
    have HZ3 := yh (uh HZ2 hf)
    subst hf
    clear HZ2 HAT
    go_wp2_with fail
    go_roundw
    case rel => exact ⟨k + 1, by omega, by go_num, uh HZ3, uh HB2⟩
    case measure => simp [intOf]; omega
   have HA := yh ((uh HF).trans (uh HAT hf))
   have hd : (f != 0) = true := by simpa using hf
   clear HZ2 HAT hf
   go_wp2_with fail
   go_ret
   exact ⟨by rw [uh HA]; rfl, uh HB2⟩
  obtain rfl : k = xs.length := by omega
  have hdl : decide ((xs.length : Int) < (xs.length : Int)) = false := by simp
  have HA := yh ((uh HF).trans (iF fun x hx => by obtain ⟨j, hj, rfl⟩ := List.getElem_of_mem hx; exact hz j hj hj))
  have HB := yh hB
  clear hB hz
  go_wp2_with fail
  go_ret
  exact ⟨by rw [uh HA]; rfl, uh HB⟩
theorem sf (a3 : Option Addr) (d3 : Nat) (a4 : Option Addr) (d4 : Nat) (a5 : Option Addr) (d5 : Nat) (a6 : Option Addr) (d6 : Nat) (x : ay) (xb : Nat) (w : World) (hX : ag 0 #[.int .i64 x.now, .int .i64 x.events, .int .i64 x.chain.ae, .slice a3 x.chain.ids.length d3, .slice a4 x.nodes.length d4, .slice a5 x.msgs.length d5, .slice a6 x.af.length d6] 39 w xb) (h : ab.aH.Reads w [.int .i64 x.now, .int .i64 x.events, .int .i64 x.chain.ae, .slice a3 x.chain.ids.length d3, .slice a4 x.nodes.length d4, .slice a5 x.msgs.length d5, .slice a6 x.af.length d6] x) :
  Calls Tryz.prog 33 #[.pointer (some ⟨xb, 0, none⟩)] w fun e w' => e = .returned (.int .i64 (aX x)) ∧ Below w.heap.size w w' := by
 have HX := yh hX
 have HR := yh h
 have HB := yh (Below.refl w.heap.size w)
 have HP : Hid (aX x = if (decide (0 ≤ x.now) && decide (x.now ≤ 9000)) = false ∨ (decide (0 ≤ x.events) && decide (x.events ≤ 9999)) = false then 3 else if aB x.chain ≠ 0 then aB x.chain
  else if x.nodes.length < 1 ∨ 5 < x.nodes.length then 2 else if cd x ≠ 0 then cd x else if bc x.msgs ≠ 0 then bc x.msgs
  else if 60 < x.af.length then 2 else if (x.af.drop 0).all (gG x) = true then 0 else 3) := by
  have e1 : (¬ (0 ≤ x.now ∧ x.now ≤ 9000) ∨ ¬ (0 ≤ x.events ∧ x.events ≤ 9999)) ↔ ((decide (0 ≤ x.now) && decide (x.now ≤ 9000)) = false ∨ (decide (0 ≤ x.events) && decide (x.events ≤ 9999)) = false) := by
   simp only [Bool.and_eq_false_iff, decide_eq_false_iff_not]
   omega
  show aX x = _
  unfold aX
  by_cases h1 : (decide (0 ≤ x.now) && decide (x.now ≤ 9000)) = false ∨ (decide (0 ≤ x.events) && decide (x.events ≤ 9999)) = false
  ·
   rw [if_pos (e1.2 h1), if_pos h1]
  rw [if_neg (fun q => h1 (e1.1 q)), if_neg h1]
  rfl
 clear h hX
 generalize aX x = r at *
 have z0 := ag.at (uh HX) 0 _ rfl
 have z1 := ag.at (uh HX) 1 _ rfl
 have z2 := ag.at (uh HX) 2 _ rfl
 have z3 := ag.at (uh HX) 3 _ rfl
 have z4 := ag.at (uh HX) 4 _ rfl
 have z5 := ag.at (uh HX) 5 _ rfl
 have z6 := ag.at (uh HX) 6 _ rfl
 simp only [ga, gb, gc] at z0 z1 z2 z3 z4 z5 z6
 have xl := (uh HX).lt
 go_enter Tryz.func33, Tryz.ntmps33
 go_wp2_with fail
 refine (fB x.now 0 9000 w).mono ?_
 rintro e w2 ⟨rfl, h2⟩
 subst w2
 cases d1 : (decide (0 ≤ x.now) && decide (x.now ≤ 9000))
 ·
  replace HP := yh ((uh HP).trans (if_pos (Or.inl d1)))
  clear d1
  go_wp2_with fail
  go_ret
  exact ⟨by rw [uh HP]; rfl, uh HB⟩
 go_wp2_with fail
 refine (fB x.events 0 9999 w).mono ?_
 rintro e w2 ⟨rfl, h2⟩
 subst w2
 cases d2 : (decide (0 ≤ x.events) && decide (x.events ≤ 9999))
 ·
  replace HP := yh ((uh HP).trans (if_pos (Or.inr d2)))
  clear d1 d2
  go_wp2_with fail
  go_ret
  exact ⟨by rw [uh HP]; rfl, uh HB⟩
 replace HP := yh ((uh HP).trans (if_neg (by rw [d1, d2]; simp)))
 clear d1 d2
 go_wp2_with fail
 obtain ⟨_, _, _, _, _, _, _, _, hq, RC, -, -, -⟩ := aN (uh HR)
 simp only [List.cons.injEq, Value.slice.injEq, and_true, true_and] at hq
 obtain ⟨⟨rfl, rfl⟩, ⟨rfl, rfl⟩, ⟨rfl, rfl⟩, rfl, rfl⟩ := hq
 obtain ⟨_, _, hq, RI⟩ := cl RC
 simp only [List.cons.injEq, Value.slice.injEq, and_true, true_and] at hq
 obtain ⟨rfl, rfl⟩ := hq
 refine (sa xb 2 _ _ x.chain w ⟨(uh HX).at 2 _ rfl, (uh HX).at 3 _ rfl⟩ RI).mono ?_
 rintro e w2 ⟨rfl, h2⟩
 subst w2
 clear RC RI
 by_cases d3 : aB x.chain ≠ 0
 ·
  have hd : (aB x.chain != 0) = true := by simpa using d3
  replace HP := yh ((uh HP).trans (if_pos d3))
  clear d3
  generalize aB x.chain = c at *
  go_wp2_with fail
  go_ret
  exact ⟨by rw [uh HP]; rfl, uh HB⟩
 replace HP := yh ((uh HP).trans (if_neg d3))
 have hd : aB x.chain = 0 := by simpa using d3
 clear d3
 rw [hd]
 clear hd
 have hbn := (show x.nodes.length ≤ 9223372036854775807 from by
  obtain ⟨_, _, _, _, _, _, _, _, hq, -, RN, -, -⟩ := aN (uh HR)
  exact RN.ez)
 by_cases d4 : x.nodes.length < 1 ∨ 5 < x.nodes.length
 ·
  replace HP := yh ((uh HP).trans (if_pos d4))
  by_cases d5 : x.nodes.length < 1
  ·
   have hd : decide ((x.nodes.length : Int) < 1) = true := by simp; omega
   clear d4 d5
   go_wp2_with fail
   go_ret
   exact ⟨by rw [uh HP]; rfl, uh HB⟩
  have hd : decide ((x.nodes.length : Int) < 1) = false := by simp; omega
  have hd2 : decide ((5 : Int) < (x.nodes.length : Int)) = true := by simp; omega
  clear d4 d5
  go_wp2_with fail
  go_ret
  exact ⟨by rw [uh HP]; rfl, uh HB⟩
 replace HP := yh ((uh HP).trans (if_neg d4))
 have hd : decide ((x.nodes.length : Int) < 1) = false := by simp; omega
 have hd2 : decide ((5 : Int) < (x.nodes.length : Int)) = false := by simp; omega
 have hn5 : x.nodes.length ≤ 5 := by omega
 clear d4
 go_wp2_with fail
 refine (sm _ _ _ _ _ _ _ _ x xb w (uh HX) (uh HR)).mono ?_
 rintro e w4 ⟨rfl, hb⟩
 clear xl hn5 z0 z1 z2 z3 z4 z5 z6
 replace HX := yh ((uh HX).aj hb)
 replace HR := yh ((uh HR).later hb)
 replace HB := bZ HB hb
 clear hb
 have z0 := ag.at (uh HX) 0 _ rfl
 have z1 := ag.at (uh HX) 1 _ rfl
 have z2 := ag.at (uh HX) 2 _ rfl
 have z3 := ag.at (uh HX) 3 _ rfl
 have z4 := ag.at (uh HX) 4 _ rfl
 have z5 := ag.at (uh HX) 5 _ rfl
 have z6 := ag.at (uh HX) 6 _ rfl
 simp only [ga, gb, gc] at z0 z1 z2 z3 z4 z5 z6
 have xl := (uh HX).lt
 by_cases d3 : cd x ≠ 0
 ·
  have hd : (cd x != 0) = true := by simpa using d3
  replace HP := yh ((uh HP).trans (if_pos d3))
  clear d3
  generalize cd x = c at *
  go_wp2_with fail
  go_ret
  exact ⟨by rw [uh HP]; rfl, uh HB⟩
 replace HP := yh ((uh HP).trans (if_neg d3))
 have hd : cd x = 0 := by simpa using d3
 clear d3
 rw [hd]
 clear hd
 go_wp2_with fail
 obtain ⟨_, _, _, _, _, _, _, _, hq, -, -, RM, -⟩ := aN (uh HR)
 simp only [List.cons.injEq, Value.slice.injEq, and_true, true_and] at hq
 obtain ⟨⟨rfl, rfl⟩, ⟨rfl, rfl⟩, ⟨rfl, rfl⟩, rfl, rfl⟩ := hq
 refine (rJ _ x.msgs w4 RM).mono ?_
 rintro e w5 ⟨rfl, hb⟩
 clear RM xl z0 z1 z2 z3 z4 z5 z6
 replace HX := yh ((uh HX).aj hb)
 replace HR := yh ((uh HR).later hb)
 replace HB := bZ HB hb
 clear hb
 have z0 := ag.at (uh HX) 0 _ rfl
 have z1 := ag.at (uh HX) 1 _ rfl
 have z2 := ag.at (uh HX) 2 _ rfl
 have z3 := ag.at (uh HX) 3 _ rfl
 have z4 := ag.at (uh HX) 4 _ rfl
 have z5 := ag.at (uh HX) 5 _ rfl
 have z6 := ag.at (uh HX) 6 _ rfl
 simp only [ga, gb, gc] at z0 z1 z2 z3 z4 z5 z6
 have xl := (uh HX).lt
 by_cases d3 : bc x.msgs ≠ 0
 ·
  have hd : (bc x.msgs != 0) = true := by simpa using d3
  replace HP := yh ((uh HP).trans (if_pos d3))
  clear d3
  generalize bc x.msgs = c at *
  go_wp2_with fail
  go_ret
  exact ⟨by rw [uh HP]; rfl, uh HB⟩
 replace HP := yh ((uh HP).trans (if_neg d3))
 have hd : bc x.msgs = 0 := by simpa using d3
 clear d3
 rw [hd]
 clear hd
 obtain ⟨_, _, _, _, _, _, _, _, hq, -, -, -, RE⟩ := aN (uh HR)
 simp only [List.cons.injEq, Value.slice.injEq, and_true, true_and] at hq
 obtain ⟨⟨rfl, rfl⟩, ⟨rfl, rfl⟩, ⟨rfl, rfl⟩, rfl, rfl⟩ := hq
 have HE := yh RE
 have hbig := RE.ez
 clear RE
 by_cases d4 : 60 < x.af.length
 ·
  replace HP := yh ((uh HP).trans (if_pos d4))
  have hd : decide ((60 : Int) < (x.af.length : Int)) = true := by simp; omega
  clear d4
  go_wp2_with fail
  go_ret
  exact ⟨by rw [uh HP]; rfl, uh HB⟩
 replace HP := yh ((uh HP).trans (if_neg d4))
 have hd : decide ((60 : Int) < (x.af.length : Int)) = false := by simp; omega
 clear d4
 go_wp2_with fail
 clear z0 z1 z2 z3 z4 z5 z6 xl hd
 go_loopw [6] (fun i wr => ∃ k : Nat, k ≤ x.af.length ∧ i = .int .i64 k ∧ r = (if (x.af.drop k).all (gG x) = true then 0 else 3) ∧ Below w5.heap.size w5 wr) (fun i _ => x.af.length - (intOf i).toNat)
 case atStart => exact ⟨0, Nat.zero_le _, rfl, uh HP, Below.refl _ _⟩
 case round =>
  obtain ⟨k, hk, rfl, hF, hB⟩ := hrel
  clear HP
  have hX2 := (uh HX).aj hB
  have y6 := ag.at hX2 6 _ rfl
  simp only [ga, gb, gc] at y6
  have xl := hX2.lt
  have HB3 := yh ((uh HB).trans (hB.mono (uh HB).size))
  by_cases hlt : k < x.af.length
  ·
   obtain ⟨b, off, rfl, hbl⟩ := ab.aR (uh HE) (by omega)
   obtain ⟨row, hcl, hr⟩ := ab.bF (uh HE) hlt
   rw [List.drop_eq_getElem_cons hlt, List.all_cons] at hF
   have hdl : decide ((k : Int) < (x.af.length : Int)) = true := by simp; omega
   have hrl := hr.len
   obtain ⟨aq, dq, av, dv, ah, dh, rfl, -⟩ := cA hr
   have hE : cT #[.int .i64 (x.af[k]).kind, .int .i64 (x.af[k]).aa, .int .i64 (x.af[k]).seq, .int .i64 (x.af[k]).id, .slice aq (x.af[k]).query.length dq, .int .i64 (x.af[k]).k, .int .i64 (x.af[k]).start, .int .i64 (x.af[k]).fin, .int .i64 (x.af[k]).place, .slice av (x.af[k]).vec.length dv, .slice ah (x.af[k]).aW.length dh] wr b (off + k * 11) := cT.ofRow (A := ab.az) (k := k) (fun m hm => (hB.cell (p := ⟨b, off + k * 11 + m, none⟩) hbl).trans (hcl m hm)) hrl (Nat.lt_of_lt_of_le hbl hB.size)
   have HL := yh (sh _ _ _ _ _ _ _ _ _ _ _ _ _ _ x _ xb b (off + k * 11) wr hX2 hE)
   have HF := yh hF
   have HBQ := yh hB
   clear hF hX2 hB hr hrl hcl hE
   generalize x.af[k] = z at *
   go_wp2_with fail
   refine (uh HL).mono ?_
   rintro e w5 ⟨rfl, hb⟩
   replace HB3 := bZ HB3 hb
   replace HBQ := bZ HBQ hb
   clear HL hb y6
   generalize gG x z = q at *
   cases q
   ·
    replace HF := yh ((uh HF).trans (if_neg (by simp)))
    go_wp2_with fail
    go_ret
    exact ⟨by rw [uh HF]; rfl, uh HB3⟩
   rw [Bool.true_and] at HF
   go_wp2_with fail
   go_roundw
   case rel => exact ⟨k + 1, by omega, by go_num, uh HF, uh HBQ⟩
   case measure => simp [intOf]; omega
  obtain rfl : k = x.af.length := by omega
  rw [List.drop_length, List.all_nil, if_pos rfl] at hF
  have hdl : decide ((x.af.length : Int) < (x.af.length : Int)) = false := by simp
  have HF := yh hF
  clear hF hB hX2
  go_wp2_with fail
  go_ret
  exact ⟨by rw [uh HF]; rfl, uh HB3⟩
theorem kc (c : Int) (w : World) :
  Calls Tryz.prog 34 #[.int .i64 c] w fun e w' => e = .returned (.agg #[.int .i64 c, .bool false, .int .i64 0, .int .i64 0, .int .i64 0, .slice none 0 0, .slice none 0 0, .slice none 0 0, .slice none 0 0]) ∧ Below w.heap.size w w' := by
 have HB : Hid (∀ o, Below w.heap.size w (w.alloc o)) := fun o => (Below.refl _ _).alloc (Nat.le_refl _) o
 go_enter Tryz.func34, Tryz.ntmps34
 go_wp2_with fail
 refine bodyPost_ret (v := .agg #[.int .i64 c, .bool false, .int .i64 0, .int .i64 0, .int .i64 0, .slice none 0 0, .slice none 0 0, .slice none 0 0, .slice none 0 0]) (by simp [results, Tryz.results34, go_sem]) rfl ?_
 exact ⟨rfl, uh HB _⟩
theorem uj (cs : List Value) (x : ay) (w : World) (h : ab.aH.Reads w cs x) (hok : eE x) (hf : Fits x) :
  Calls Tryz.prog 37 #[.agg cs.toArray] w fun e w' => ∃ cs', e = .returned (.agg cs'.toArray) ∧ eo w' w.heap.size w'.heap.size cs' (dc x) ∧ Below w.heap.size w w' := by
 obtain ⟨a3, d3, a4, d4, a5, d5, a6, d6, rfl, -, -, -, -⟩ := aN h
 have nb : Below w.heap.size w ((w.alloc (.cells #[.int .i64 x.now, .int .i64 x.events, .int .i64 x.chain.ae, .slice a3 x.chain.ids.length d3, .slice a4 x.nodes.length d4, .slice a5 x.msgs.length d5, .slice a6 x.af.length d6] 39)).alloc (.cells #[.int .i64 0, .int .i64 0, .int .i64 0, .slice none 0 0, .slice none 0 0, .slice none 0 0, .slice none 0 0] 39)) := ((Below.refl _ _).alloc (Nat.le_refl _) _).alloc (by simp) _
 have HX : Hid (ag 0 #[.int .i64 x.now, .int .i64 x.events, .int .i64 x.chain.ae, .slice a3 x.chain.ids.length d3, .slice a4 x.nodes.length d4, .slice a5 x.msgs.length d5, .slice a6 x.af.length d6] 39 ((w.alloc (.cells #[.int .i64 x.now, .int .i64 x.events, .int .i64 x.chain.ae, .slice a3 x.chain.ids.length d3, .slice a4 x.nodes.length d4, .slice a5 x.msgs.length d5, .slice a6 x.af.length d6] 39)).alloc (.cells #[.int .i64 0, .int .i64 0, .int .i64 0, .slice none 0 0, .slice none 0 0, .slice none 0 0, .slice none 0 0] 39)) w.heap.size) := (aC (Nat.zero_le _)).grow _
 have HY : Hid (ag 0 #[.int .i64 0, .int .i64 0, .int .i64 0, .slice none 0 0, .slice none 0 0, .slice none 0 0, .slice none 0 0] 39 ((w.alloc (.cells #[.int .i64 x.now, .int .i64 x.events, .int .i64 x.chain.ae, .slice a3 x.chain.ids.length d3, .slice a4 x.nodes.length d4, .slice a5 x.msgs.length d5, .slice a6 x.af.length d6] 39)).alloc (.cells #[.int .i64 0, .int .i64 0, .int .i64 0, .slice none 0 0, .slice none 0 0, .slice none 0 0, .slice none 0 0] 39)) (w.heap.size + 1)) := bb (Nat.zero_le _) (by simp)
 have hz0 : ((w.alloc (.cells #[.int .i64 x.now, .int .i64 x.events, .int .i64 x.chain.ae, .slice a3 x.chain.ids.length d3, .slice a4 x.nodes.length d4, .slice a5 x.msgs.length d5, .slice a6 x.af.length d6] 39)).alloc (.cells #[.int .i64 0, .int .i64 0, .int .i64 0, .slice none 0 0, .slice none 0 0, .slice none 0 0, .slice none 0 0] 39)).heap.size = w.heap.size + 2 := by simp
 have HL := yh (sW _ x _ (h.later nb) hok hf)
 have HB := yh nb
 have HEV := yh hok.events
 clear nb h hok hf
 go_enter Tryz.func37, Tryz.ntmps37
 go_upto_region 1 with fail
 generalize ((w.alloc (.cells #[.int .i64 x.now, .int .i64 x.events, .int .i64 x.chain.ae, .slice a3 x.chain.ids.length d3, .slice a4 x.nodes.length d4, .slice a5 x.msgs.length d5, .slice a6 x.af.length d6] 39)).alloc (.cells #[.int .i64 0, .int .i64 0, .int .i64 0, .slice none 0 0, .slice none 0 0, .slice none 0 0, .slice none 0 0] 39)) = W0 at *
 have z0 := ag.at (uh HX) 0 _ rfl
 have z1 := ag.at (uh HX) 1 _ rfl
 have z2 := ag.at (uh HX) 2 _ rfl
 have z3 := ag.at (uh HX) 3 _ rfl
 have z4 := ag.at (uh HX) 4 _ rfl
 have z5 := ag.at (uh HX) 5 _ rfl
 have z6 := ag.at (uh HX) 6 _ rfl
 simp only [ga, gb, gc] at z0 z1 z2 z3 z4 z5 z6
 have zl := (uh HX).lt
 go_wp2_with fail
 refine (uh HL).mono ?_
 rintro e W1 ⟨cs', rfl, O, hb⟩
 obtain ⟨a3w, d3w, a4w, d4w, a5w, d5w, a6w, d6w, rfl, -⟩ := aN O.reads
 have hz1 : W0.heap.size ≤ W1.heap.size := hb.size
 have nb : Below W1.heap.size W1 (W1.alloc (.cells #[.int .i64 x.now, .int .i64 x.events, .int .i64 x.chain.ae, .slice a3w x.chain.ids.length d3w, .slice a4w x.nodes.length d4w, .slice a5w x.msgs.length d5w, .slice a6w x.af.length d6w] 39)) := (Below.refl _ _).alloc (Nat.le_refl _) _
 have HG : Hid (ag 0 #[.int .i64 x.now, .int .i64 x.events, .int .i64 x.chain.ae, .slice a3w x.chain.ids.length d3w, .slice a4w x.nodes.length d4w, .slice a5w x.msgs.length d5w, .slice a6w x.af.length d6w] 39 (W1.alloc (.cells #[.int .i64 x.now, .int .i64 x.events, .int .i64 x.chain.ae, .slice a3w x.chain.ids.length d3w, .slice a4w x.nodes.length d4w, .slice a5w x.msgs.length d5w, .slice a6w x.af.length d6w] 39)) W1.heap.size) := aC (Nat.zero_le _)
 have HO := yh (O.later nb)
 replace HY := yh (((uh HY).aj hb).aj nb)
 replace HX := yh (((uh HX).aj hb).aj nb)
 replace HB := yh ((uh HB).trans ((hb.trans (nb.mono hb.size)).mono (uh HB).size))
 have hz2 : W1.heap.size < (W1.alloc (.cells #[.int .i64 x.now, .int .i64 x.events, .int .i64 x.chain.ae, .slice a3w x.chain.ids.length d3w, .slice a4w x.nodes.length d4w, .slice a5w x.msgs.length d5w, .slice a6w x.af.length d6w] 39)).heap.size := by simp
 clear nb O hb HL z0 z1 z2 z3 z4 z5 z6 zl
 go_upto_region 2 with fail
 generalize W1.alloc (.cells #[.int .i64 x.now, .int .i64 x.events, .int .i64 x.chain.ae, .slice a3w x.chain.ids.length d3w, .slice a4w x.nodes.length d4w, .slice a5w x.msgs.length d5w, .slice a6w x.af.length d6w] 39) = W2 at *
 have hx := uh HX
 have hg := uh HG
 have z1 := ag.at hx 1 _ rfl
 have y1 := ag.at hg 1 _ rfl
 simp only [ga, gb, gc] at z1 y1
 have zl := hx.lt
 have yl := hg.lt
 have yf := ag.soft hg
 have hev := uh HEV
 have hg2 := ag.set hg 1 (.int .i64 (x.events + 1))
 simp only [List.setIfInBounds_toArray, List.set_cons_zero, List.set_cons_succ] at hg2
 have e1 : Ext (fun q => q = W1.heap.size) W2 (W2.setCell ⟨W1.heap.size, 1, none⟩ (.int .i64 (x.events + 1))) := (Ext.refl _ _).setCell _ _ rfl
 have hO2 := ((uh HO).ext e1 (fun k h1 h2 h3 => by omega)).count x.now (x.events + 1) (kG (uh HO).reads).1 (aK (by omega))
 replace HG := yh hg2
 replace HO := yh hO2
 replace HY := yh ((uh HY).ext e1 (by omega))
 replace HB := yh ((uh HB).setCell (p := ⟨W1.heap.size, 1, none⟩) (by simp; omega) (.int .i64 (x.events + 1)))
 have hz3 : W2.heap.size ≤ (W2.setCell ⟨W1.heap.size, 1, none⟩ (.int .i64 (x.events + 1))).heap.size := by simp
 clear hx hg hg2 e1 hO2 HX
 go_upto_region 3 with fail
 generalize hW : W2.setCell ⟨W1.heap.size, 1, none⟩ (.int .i64 (x.events + 1)) = W3 at *
 clear hW y1 yf yl z1 zl hev
 have y0 := ag.at (uh HG) 0 _ rfl
 have y1 := ag.at (uh HG) 1 _ rfl
 have y2 := ag.at (uh HG) 2 _ rfl
 have y3 := ag.at (uh HG) 3 _ rfl
 have y4 := ag.at (uh HG) 4 _ rfl
 have y5 := ag.at (uh HG) 5 _ rfl
 have y6 := ag.at (uh HG) 6 _ rfl
 simp only [ga, gb, gc] at y0 y1 y2 y3 y4 y5 y6
 have yl := (uh HG).lt
 have r0 := ag.at (uh HY) 0 _ rfl
 have r1 := ag.at (uh HY) 1 _ rfl
 have r2 := ag.at (uh HY) 2 _ rfl
 have r3 := ag.at (uh HY) 3 _ rfl
 have r4 := ag.at (uh HY) 4 _ rfl
 have r5 := ag.at (uh HY) 5 _ rfl
 have r6 := ag.at (uh HY) 6 _ rfl
 simp only [ga, gb, gc] at r0 r1 r2 r3 r4 r5 r6
 have rl := (uh HY).lt
 have rf := ag.soft (uh HY)
 have e9 : Ext (fun q => q = w.heap.size + 1) W3 (aU W3 (w.heap.size + 1) 0 [.int .i64 x.now, .int .i64 (x.events + 1), .int .i64 x.chain.ae, .slice a3w x.chain.ids.length d3w, .slice a4w x.nodes.length d4w, .slice a5w x.msgs.length d5w, .slice a6w x.af.length d6w]) := cb _ (Ext.refl _ _) _ _ _ rfl
 have HO9 := yh (((uh HO).ext e9 (fun k h1 h2 h3 => by omega)).mono (show w.heap.size ≤ W0.heap.size by omega) (show W1.heap.size ≤ (aU W3 (w.heap.size + 1) 0 [.int .i64 x.now, .int .i64 (x.events + 1), .int .i64 x.chain.ae, .slice a3w x.chain.ids.length d3w, .slice a4w x.nodes.length d4w, .slice a5w x.msgs.length d5w, .slice a6w x.af.length d6w]).heap.size by rw [bJ]; omega))
 have HB9 := yh (aE (uh HB) (w.heap.size + 1) 0 [.int .i64 x.now, .int .i64 (x.events + 1), .int .i64 x.chain.ae, .slice a3w x.chain.ids.length d3w, .slice a4w x.nodes.length d4w, .slice a5w x.msgs.length d5w, .slice a6w x.af.length d6w] (by omega))
 clear e9 HO HG HY HB HEV
 go_wp2_with fail
 refine bodyPost_ret (v := .agg #[.int .i64 x.now, .int .i64 (x.events + 1), .int .i64 x.chain.ae, .slice a3w x.chain.ids.length d3w, .slice a4w x.nodes.length d4w, .slice a5w x.msgs.length d5w, .slice a6w x.af.length d6w]) (by simp [results, Tryz.results37, go_sem, r0, r1, r2, r3, r4, r5, r6]) rfl ?_
 exact ⟨_, rfl, uh HO9, uh HB9⟩
theorem tW (cs : List Value) (x : ay) (w : World) (h : ab.aH.Reads w cs x) (hok : eE x) (hf : Fits x) :
  Calls Tryz.prog 37 #[.agg cs.toArray] w fun e w' => ∃ cs', e = .returned (.agg cs'.toArray) ∧ mP w' w.heap.size w'.heap.size cs' (dc x) ∧ Below w.heap.size w w' := by
 refine (uj cs x w h hok hf).mono ?_
 rintro e w' ⟨cs', rfl, O, hb⟩
 exact ⟨cs', rfl, O.vD, hb⟩
end Go.Proofs.YtomphbenbnnfgaaGreatDoor
