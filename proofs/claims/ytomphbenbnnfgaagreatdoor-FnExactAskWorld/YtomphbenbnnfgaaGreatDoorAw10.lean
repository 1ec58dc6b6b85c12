/-
  Texts of this proof in one: SpecWC, WorldPart, SpecSeen, AppWriteAt, SpecApp5, SpecApp5O, TakeCode, SpecTakeO, SpecChainF, SpecChainO, SpecMember.
  Their conditions stand in their theorems.
-/
import Derived.Test.YtomphbenbnnfgaaGreatDoorAw09
import Derived.Test.YtomphbenbnnfgaaGreatDoorAw05
import Derived.Test.YtomphbenbnnfgaaGreatDoorAw08
import Derived.Deep.RegionHeld3
import Derived.Deep.CutRange
import Derived.Test.YtomphbenbnnfgaaGreatDoorAw00
import Derived.Test.YtomphbenbnnfgaaGreatDoorAw06
import Derived.Test.YtomphbenbnnfgaaGreatDoorAw04
import Derived.Test.YtomphbenbnnfgaaGreatDoorChecked
set_option maxRecDepth 100000
set_option maxHeartbeats 4000000
namespace Go.Proofs.YtomphbenbnnfgaaGreatDoor
open Go.RowKit
abbrev sr : Oper := ⟨some 3, .alloc 39, 0, "l12_world.go:81", #[], none⟩
abbrev sO : Oper := ⟨some 26, .load 35 (.tmp 25), 35, "l12_world.go:83", #[⟨0, .data⟩], none⟩
theorem lJ {lo : Nat} {T : TypeId} {W : World} {s : Nat} {c0 c1 c2 c3 c4 c5 c6 : Value} (h : aA lo #[c0, c1, c2, c3, c4, c5, c6] T W s) (v0 v1 v2 v3 v4 v5 v6 : Value) : aA lo #[v0, v1, v2, v3, v4, v5, v6] T (aG W s 0 [v0, v1, v2, v3, v4, v5, v6]) s := by
 have q := (aA.set (aA.set (aA.set (aA.set (aA.set (aA.set (aA.set h 0 v0) 1 v1) 2 v2) 3 v3) 4 v4) 5 v5) 6 v6)
 simp only [List.setIfInBounds_toArray, List.set_cons_zero, List.set_cons_succ] at q
 exact q
theorem fD {lo : Nat} {cs : Array Value} {T : TypeId} {W w' : World} {s B : Nat} (h : aA lo cs T W s) (hb : Below B W w') (hs : s < B) : aA lo cs T w' s := ⟨h.1, (hb.block s hs).trans h.2⟩
theorem ey {α : Type} {A : ab α} {S : Nat → Prop} {w w' : World} {base T : Nat} {v : Value} {rows : List (List Value)} {xs : List α} {bls : List (List Nat)} (h : bU A w base T v rows xs bls) (e : Ext S w w') (h1 : ∀ c ∈ bls.flatten, ¬ S c) (h2 : ∀ g, v.ownBlock = some g → ¬ S g) : bU A w' base T v rows xs bls := by
 refine h.kept ?_ (fun c hc => e.block c (h.sub_lt c hc) (h1 c hc))
 obtain ⟨q1, q2⟩ := h.own
 refine ⟨q1, ?_⟩
 rcases q2 with q2 | ⟨g, cap, cu, hv, hg, hh, r⟩
 ·
  exact Or.inl q2
 exact Or.inr ⟨g, cap, cu, hv, hg, (e.block g (lt_of_block hh) (h2 g (by rw [hv]; rfl))).trans hh, r⟩
theorem gW {α : Type} {A : ab α} {w w' : World} {cs : List Value} {x : α} {lo hi B : Nat} (h : A.cr w cs x lo hi) (hb : Below B w w') (hh : hi ≤ B) : A.cr w' cs x lo hi := by
 obtain ⟨bl, l, hl⟩ := h
 exact ⟨bl, A.ai l fun b hm => hb.block b (by have := hl b hm; omega), hl⟩
def wfE (e : bj) : Prop := (Lit.int .i64 e.kind).wf = true ∧ (Lit.int .i64 e.aa).wf = true ∧ (Lit.int .i64 e.seq).wf = true ∧ (Lit.int .i64 e.id).wf = true ∧ (Lit.int .i64 e.k).wf = true ∧ (Lit.int .i64 e.start).wf = true ∧ (Lit.int .i64 e.fin).wf = true ∧ (Lit.int .i64 e.place).wf = true
def eb (W : World) (lo hi : Nat) (cells : List Value) (x : ay) : Prop := ∃ (q : pC) (H : Nat) (rows : List (List Value)) (bls : List (List Nat)), cells = q.cells x ∧ mN W q x ∧ (lo ≤ q.b ∧ q.b < H) ∧ (∀ c ∈ q.l3, lo ≤ c ∧ c < H) ∧ (∀ c ∈ q.r, lo ≤ c ∧ c < H) ∧ (∀ c ∈ q.l5, lo ≤ c ∧ c < H) ∧ (∀ c ∈ q.l6, H ≤ c ∧ c < hi) ∧ (lo ≤ H ∧ H ≤ hi) ∧ bU ab.ar W H 89 (.slice q.a6 x.af.length q.d6) rows x.af bls ∧ (∀ c ∈ bls.flatten, H ≤ c ∧ c < hi) ∧ (∀ g, (Value.slice q.a6 x.af.length q.d6).ownBlock = some g → H ≤ g ∧ g < hi)
theorem eb.vB {W : World} {lo hi : Nat} {cells : List Value} {x : ay} (h : eb W lo hi cells x) : uU W lo hi cells x := by
 obtain ⟨q, H, rows, bls, e, hl, hb, h3, hr, h5, h6, hH, -, -, -⟩ := h
 exact ⟨q, e, hl, by omega, fun c hc => by have := h3 c hc; omega, fun c hc => by have := hr c hc; omega, fun c hc => by have := h5 c hc; omega, fun c hc => by have := h6 c hc; omega⟩
theorem eb.ext {S : Nat → Prop} {W W' : World} {lo hi : Nat} {cells : List Value} {x : ay} (h : eb W lo hi cells x) (e : Ext S W W') (hs : ∀ k, lo ≤ k → k < hi → ¬ S k) : eb W' lo hi cells x := by
 obtain ⟨q, H, rows, bls, rfl, hl, hb, h3, hr, h5, h6, hH, hG, hB, hO⟩ := h
 refine ⟨q, H, rows, bls, rfl, hl.ext e (fun c hc hm => ?_), hb, h3, hr, h5, h6, hH, ey hG e (fun c hc => hs c (by have := hB c hc; omega) (hB c hc).2) (fun g hg => hs g (by have := hO g hg; omega) (hO g hg).2), hB, hO⟩
 rcases hm with rfl | hm | hm | hm | hm
 ·
  exact hs _ hb.1 (by omega)
 ·
  exact hs c (h3 c hm).1 (by have := h3 c hm; omega)
 ·
  exact hs c (hr c hm).1 (by have := hr c hm; omega)
 ·
  exact hs c (h5 c hm).1 (by have := h5 c hm; omega)
 exact hs c (by have := h6 c hm; omega) (h6 c hm).2
theorem eb.later {W W' : World} {lo hi : Nat} {cells : List Value} {x : ay} (h : eb W lo hi cells x) (hb : Below W.heap.size W W') : eb W' lo hi cells x := h.ext (az hb dz) fun _ _ _ q => q
theorem eb.mono {W : World} {lo hi lo' hi' : Nat} {cells : List Value} {x : ay} (h : eb W lo hi cells x) (h1 : lo' ≤ lo) (h2 : hi ≤ hi') : eb W lo' hi' cells x := by
 obtain ⟨q, H, rows, bls, rfl, hl, hb, h3, hr, h5, h6, hH, hG, hB, hO⟩ := h
 exact ⟨q, H, rows, bls, rfl, hl, by omega, fun c hc => by have := h3 c hc; omega, fun c hc => by have := hr c hc; omega, fun c hc => by have := h5 c hc; omega, fun c hc => by have := h6 c hc; omega, by omega, hG, fun c hc => by have := hB c hc; omega, fun g hg => by have := hO g hg; omega⟩
theorem eb.reads {W : World} {lo hi : Nat} {cells : List Value} {x : ay} (h : eb W lo hi cells x) : ab.aF.Reads W cells x := h.vB.reads
theorem eb.count {W : World} {lo hi : Nat} {v3 v4 v5 v6 : Value} {x : ay} (h : eb W lo hi [.int .i64 x.now, .int .i64 x.events, .int .i64 x.chain.ae, v3, v4, v5, v6] x) (n e : Int) (hn : (Lit.int .i64 n).wf = true) (he : (Lit.int .i64 e).wf = true) : eb W lo hi [.int .i64 n, .int .i64 e, .int .i64 x.chain.ae, v3, v4, v5, v6] { x with now := n, events := e } := by
 obtain ⟨q, H, rows, bls, hq, hl, r⟩ := h
 simp only [pC.cells, List.cons.injEq, and_true, true_and] at hq
 obtain ⟨rfl, rfl, rfl, rfl⟩ := hq
 exact ⟨q, H, rows, bls, rfl, ⟨hn, he, hl.w2, hl.i3, hl.i4, hl.i5, hl.i6, hl.n3, hl.n5, hl.n6⟩, r⟩
theorem rV (cs : List Value) (x : ay) (w : World) (h : ab.aF.Reads w cs x) (hok : ej x) (hf : Fits x) :
  Calls Tryz.prog 93 #[.agg cs.toArray] w fun e w' => ∃ cs', e = .returned (.agg cs'.toArray) ∧ eb w' w.heap.size w'.heap.size cs' x ∧ Below w.heap.size w w' := by
 obtain ⟨a3, d3, a4, d4, a5, d5, a6, d6, rfl, RC, RN, RM, RE⟩ := aK h
 have nb : Below w.heap.size w ((w.alloc (.cells #[.int .i64 x.now, .int .i64 x.events, .int .i64 x.chain.ae, .slice a3 x.chain.ids.length d3, .slice a4 x.nodes.length d4, .slice a5 x.msgs.length d5, .slice a6 x.af.length d6] 39)).alloc (.cells #[.int .i64 0, .int .i64 0, .int .i64 0, .slice none 0 0, .slice none 0 0, .slice none 0 0, .slice none 0 0] 39)) := ((Below.refl _ _).alloc (Nat.le_refl _) _).alloc (by simp) _
 have hz0 : ((w.alloc (.cells #[.int .i64 x.now, .int .i64 x.events, .int .i64 x.chain.ae, .slice a3 x.chain.ids.length d3, .slice a4 x.nodes.length d4, .slice a5 x.msgs.length d5, .slice a6 x.af.length d6] 39)).alloc (.cells #[.int .i64 0, .int .i64 0, .int .i64 0, .slice none 0 0, .slice none 0 0, .slice none 0 0, .slice none 0 0] 39)).heap.size = w.heap.size + 2 := by simp
 obtain ⟨b, off, rfl, hbl⟩ := ab.aS RN (by have := hok.some; omega)
 have HX : Hid (aA 0 #[.int .i64 x.now, .int .i64 x.events, .int .i64 x.chain.ae, .slice a3 x.chain.ids.length d3, .slice (some ⟨b, off, none⟩) x.nodes.length d4, .slice a5 x.msgs.length d5, .slice a6 x.af.length d6] 39 ((w.alloc (.cells #[.int .i64 x.now, .int .i64 x.events, .int .i64 x.chain.ae, .slice a3 x.chain.ids.length d3, .slice (some ⟨b, off, none⟩) x.nodes.length d4, .slice a5 x.msgs.length d5, .slice a6 x.af.length d6] 39)).alloc (.cells #[.int .i64 0, .int .i64 0, .int .i64 0, .slice none 0 0, .slice none 0 0, .slice none 0 0, .slice none 0 0] 39)) w.heap.size) := (aD (Nat.zero_le _)).grow _
 have HY : Hid (aA 0 #[.int .i64 0, .int .i64 0, .int .i64 0, .slice none 0 0, .slice none 0 0, .slice none 0 0, .slice none 0 0] 39 ((w.alloc (.cells #[.int .i64 x.now, .int .i64 x.events, .int .i64 x.chain.ae, .slice a3 x.chain.ids.length d3, .slice (some ⟨b, off, none⟩) x.nodes.length d4, .slice a5 x.msgs.length d5, .slice a6 x.af.length d6] 39)).alloc (.cells #[.int .i64 0, .int .i64 0, .int .i64 0, .slice none 0 0, .slice none 0 0, .slice none 0 0, .slice none 0 0] 39)) (w.heap.size + 1)) := bm (Nat.zero_le _) (by simp)
 have HRC := yh (RC.later nb)
 have HRM := yh (RM.later nb)
 have HRN := yh (RN.later nb)
 have HRE := yh (RE.later nb)
 have HWF := yh (jD h)
 have HOK := yh hok
 have HN3 : Hid (x.chain.ids.length ≤ 100000000) := by have := (cB hok.chain).len; show x.chain.ids.length ≤ 100000000; omega
 have HN5 : Hid (x.msgs.length ≤ 10000000 ∧ ∀ m ∈ x.msgs, m.write.vec.length ≤ 100000000) := ⟨by have := (dx hok.vz).1; omega, rZ hok.vz⟩
 have HF := yh hf
 have HB := yh nb
 have hbl0 : b < ((w.alloc (.cells #[.int .i64 x.now, .int .i64 x.events, .int .i64 x.chain.ae, .slice a3 x.chain.ids.length d3, .slice (some ⟨b, off, none⟩) x.nodes.length d4, .slice a5 x.msgs.length d5, .slice a6 x.af.length d6] 39)).alloc (.cells #[.int .i64 0, .int .i64 0, .int .i64 0, .slice none 0 0, .slice none 0 0, .slice none 0 0, .slice none 0 0] 39)).heap.size := Nat.lt_of_lt_of_le hbl nb.size
 clear nb h RC RN RM RE hok hf hbl
 go_enter Tryz.func93, Tryz.ntmps93
 go_upto_region 1 with fail
 generalize (w.alloc (.cells #[.int .i64 x.now, .int .i64 x.events, .int .i64 x.chain.ae, .slice a3 x.chain.ids.length d3, .slice (some ⟨b, off, none⟩) x.nodes.length d4, .slice a5 x.msgs.length d5, .slice a6 x.af.length d6] 39)).alloc (.cells #[.int .i64 0, .int .i64 0, .int .i64 0, .slice none 0 0, .slice none 0 0, .slice none 0 0, .slice none 0 0] 39) = W0 at *
 go_cut [3] from 7 to 17 (fun s3 wx => ∃ (wz : World) (g : Nat) (v3 v5 : Value), wz = wx ∧ s3 = .pointer (some ⟨g, 0, none⟩) ∧ aA 0 #[.int .i64 x.now, .int .i64 x.events, .int .i64 x.chain.ae, v3, .slice none 0 0, v5, .slice none 0 0] 39 wz g ∧ Clear ab.int wz v3 x.chain.ids W0.heap.size wz.heap.size g ∧ Clear ab.aQ wz v5 x.msgs W0.heap.size wz.heap.size g ∧ W0.heap.size ≤ g ∧ Below W0.heap.size W0 wz)
 case first =>
  have z0 := aA.at (uh HX) 0 _ rfl
  have z1 := aA.at (uh HX) 1 _ rfl
  have z2 := aA.at (uh HX) 2 _ rfl
  have z3 := aA.at (uh HX) 3 _ rfl
  have z5 := aA.at (uh HX) 5 _ rfl
  simp only [ga, gb, gc] at z0 z1 z2 z3 z5
  have hxl := (uh HX).lt
  have HDS : W0.heap.size ≤ W0.drew.heap.size := Nat.le_refl _
  clear HX HY HRN HRE HOK HF HB
  refine wZz (fun w' => Below W0.heap.size W0 w') ((Below.refl _ _).drew) (fun zq => ?_)
  generalize W0.drew = wD at zq HDS ⊢
  refine tkH 0 zq ?_
  refine tkJ 1 (v := ?ve1_2) ?he1_2 zq ?re1_2
  case he1_2 =>
   intro wS hSw
   have q0 := cZ hSw hxl z0
   clear hSw
   exact fZ
  refine tkH 2 zq ?_
  refine tkJ 3 (v := ?ve3_4) ?he3_4 zq ?re3_4
  case he3_4 =>
   intro wS hSw
   have q1 := cZ hSw hxl z1
   clear hSw
   exact fZ
  refine tkH 4 zq ?_
  refine tkJ 5 (v := ?ve5_6) ?he5_6 zq ?re5_6
  case he5_6 =>
   intro wS hSw
   have q2 := cZ hSw hxl z2
   have q3 := cZ hSw hxl z3
   clear hSw
   exact fZ
  refine tkH 7 zq ?_
  refine tkJ 8 (v := ?ve8_8) ?he8_8 zq ?re8_8
  case he8_8 =>
   intro wS hSw
   have q5 := cZ hSw hxl z5
   clear hSw
   exact fZ
  refine wpAnyH_ready (rs := [6, 11]) (by kernel_rfl) (by simp) ?_
  refine AllReadyH.cons (o := ⟨some 13, .call { callee := .value (.func 149), args := #[.tmp 12], argTypes := #[34] }, 34, "l12_world.go:81", #[⟨5, .data⟩], none⟩) rfl (fun K hK => ?oe6_9) (AllReadyH.cons (o := sr) rfl (fun K hK => ?oe11_9) (AllReadyH.nil))
  case oe6_9 =>
   go_simp
   go_at_call 149
   refine (mS _ x.chain _ ((uh HRC).later zq) (uh HN3)).mono ?_
   rintro e u6 ⟨a3q, c3q, rfl, O3, hb6⟩
   have hz6 : wD.heap.size ≤ u6.heap.size := hb6.size
   try go_wp2_with fail
   refine hK.out _ _ (zq.trans (hb6.mono zq.size)) (fun zq => ?_)
   clear hK K
   try simp only [Act.put, pz, py, px]
   refine wpAnyH_ready (rs := [9, 11]) (by kernel_rfl) (by simp) ?_
   refine AllReadyH.cons (o := ⟨some 16, .call { callee := .value (.func 150), args := #[.tmp 15], argTypes := #[36] }, 36, "l12_world.go:81", #[⟨8, .data⟩, ⟨6, .chain⟩], none⟩) rfl (fun K hK => ?oe9_10) (AllReadyH.cons (o := sr) rfl (fun K hK => ?oe11_10) (AllReadyH.nil))
   case oe9_10 =>
    go_simp
    go_at_call 150
    refine (oh _ x.msgs _ ((uh HRM).later zq) (uh HN5).1 (uh HN5).2).mono ?_
    rintro e u9 ⟨v5, rfl, ⟨rows, bls, G9, hs9⟩, hb9⟩
    have hz9 : u6.heap.size ≤ u9.heap.size := hb9.size
    obtain ⟨a5q, c5q, rfl⟩ := eR G9.own
    have O5 := G9.fa (by have := (uh HN5).1; omega) hs9
    replace O3 := O3.later hb9
    try go_wp2_with fail
    refine hK.out _ _ (zq.trans (hb9.mono zq.size)) (fun zq => ?_)
    clear hK K
    try simp only [Act.put, pz, py, px]
    refine tkH 10 zq ?_
    refine rdH 11 (fun K hK => ?_)
    have HG : Hid (aA 0 #[.int .i64 0, .int .i64 0, .int .i64 0, .slice none 0 0, .slice none 0 0, .slice none 0 0, .slice none 0 0] 39 (u9.alloc (.cells #[.int .i64 0, .int .i64 0, .int .i64 0, .slice none 0 0, .slice none 0 0, .slice none 0 0, .slice none 0 0] 39)) u9.heap.size) := aD (Nat.zero_le _)
    have hH11 := zq
    go_simp
    refine hK.out _ _ (zq.alloc zq.size _) (fun zq => ?_)
    clear hK K
    try simp only [Act.put, pz, py, px]
    refine rdH 12 (fun K hK => ?_)
    have hzD := hH11.size
    go_simp
    refine hK.out _ _ (hH11.alloc hH11.size _) (fun zq => ?_)
    clear hK K
    try simp only [Act.put, pz, py, px]
    refine dZ ?_
    go_wp2_with fail
    go_meet
    have nb2 : Below u9.heap.size u9 (u9.alloc (.cells #[.int .i64 x.now, .int .i64 x.events, .int .i64 x.chain.ae, .slice a3q x.chain.ids.length c3q, .slice none 0 0, .slice a5q x.msgs.length c5q, .slice none 0 0] 39)) := (Below.refl _ _).alloc (Nat.le_refl _) _
    have hss : (u9.alloc (.cells #[.int .i64 x.now, .int .i64 x.events, .int .i64 x.chain.ae, .slice a3q x.chain.ids.length c3q, .slice none 0 0, .slice a5q x.msgs.length c5q, .slice none 0 0] 39)).heap.size = u9.heap.size + 1 := by simp
    have C3 := (fF (g := u9.heap.size) (O3.bg.later nb2) (by omega)).wide (lo' := W0.heap.size) (hi' := (u9.alloc (.cells #[.int .i64 x.now, .int .i64 x.events, .int .i64 x.chain.ae, .slice a3q x.chain.ids.length c3q, .slice none 0 0, .slice a5q x.msgs.length c5q, .slice none 0 0] 39)).heap.size) (by omega) (by omega)
    have C5 := (fF (g := u9.heap.size) (O5.later nb2) (by omega)).wide (lo' := W0.heap.size) (hi' := (u9.alloc (.cells #[.int .i64 x.now, .int .i64 x.events, .int .i64 x.chain.ae, .slice a3q x.chain.ids.length c3q, .slice none 0 0, .slice a5q x.msgs.length c5q, .slice none 0 0] 39)).heap.size) (by omega) (by omega)
    exact ⟨_, u9.heap.size, _, _, rfl, rfl, aD (Nat.zero_le _), C3, C5, by omega, zq⟩
   case oe11_10 =>
    have HG : Hid (aA 0 #[.int .i64 0, .int .i64 0, .int .i64 0, .slice none 0 0, .slice none 0 0, .slice none 0 0, .slice none 0 0] 39 (u6.alloc (.cells #[.int .i64 0, .int .i64 0, .int .i64 0, .slice none 0 0, .slice none 0 0, .slice none 0 0, .slice none 0 0] 39)) u6.heap.size) := aD (Nat.zero_le _)
    have hza : u6.heap.size < (u6.alloc (.cells #[.int .i64 0, .int .i64 0, .int .i64 0, .slice none 0 0, .slice none 0 0, .slice none 0 0, .slice none 0 0] 39)).heap.size := by simp
    have nba : Below u6.heap.size u6 (u6.alloc (.cells #[.int .i64 0, .int .i64 0, .int .i64 0, .slice none 0 0, .slice none 0 0, .slice none 0 0, .slice none 0 0] 39)) := (Below.refl _ _).alloc (Nat.le_refl _) _
    replace O3 := O3.later nba
    go_simp
    refine hK.out _ _ (zq.alloc zq.size _) (fun zq => ?_)
    clear hK K
    try simp only [Act.put, pz, py, px]
    refine rdH 9 (fun K hK => ?_)
    go_simp
    go_at_call 150
    refine (oh _ x.msgs _ ((uh HRM).later zq) (uh HN5).1 (uh HN5).2).mono ?_
    rintro e u9 ⟨v5, rfl, ⟨rows, bls, G9, hs9⟩, hb9⟩
    have hz9 : (u6.alloc (.cells #[.int .i64 0, .int .i64 0, .int .i64 0, .slice none 0 0, .slice none 0 0, .slice none 0 0, .slice none 0 0] 39)).heap.size ≤ u9.heap.size := hb9.size
    obtain ⟨a5q, c5q, rfl⟩ := eR G9.own
    have O5 := G9.fa (by have := (uh HN5).1; omega) hs9
    have HG9 := yh ((uh HG).ai hb9)
    clear HG
    have HG := HG9
    clear HG9
    replace O3 := O3.later hb9
    try go_wp2_with fail
    refine hK.out _ _ (zq.trans (hb9.mono zq.size)) (fun zq => ?_)
    clear hK K
    try simp only [Act.put, pz, py, px]
    refine tkH 10 zq ?_
    refine rdH 12 (fun K hK => ?_)
    have hzD := zq.size
    obtain ⟨r0, r1, r2, r3, r4, r5, r6⟩ := aZ7 (uh HG)
    have rf := aA.soft (uh HG)
    have rl := (uh HG).lt
    go_simp
    refine hK.out _ _ (Below.setCell (Below.setCell (Below.setCell (Below.setCell (Below.setCell (Below.setCell (Below.setCell zq (p := ⟨u6.heap.size, 0, none⟩) (by simp only []; omega) (.int .i64 x.now)) (p := ⟨u6.heap.size, 1, none⟩) (by simp only []; omega) (.int .i64 x.events)) (p := ⟨u6.heap.size, 2, none⟩) (by simp only []; omega) (.int .i64 x.chain.ae)) (p := ⟨u6.heap.size, 3, none⟩) (by simp only []; omega) (.slice a3q x.chain.ids.length c3q)) (p := ⟨u6.heap.size, 4, none⟩) (by simp only []; omega) (.slice none 0 0)) (p := ⟨u6.heap.size, 5, none⟩) (by simp only []; omega) (.slice a5q x.msgs.length c5q)) (p := ⟨u6.heap.size, 6, none⟩) (by simp only []; omega) (.slice none 0 0)) (fun zq => ?_)
    clear hK K
    try simp only [Act.put, pz, py, px]
    refine dZ ?_
    go_wp2_with fail
    go_meet
    have hbx := lJ (uh HG) (.int .i64 x.now) (.int .i64 x.events) (.int .i64 x.chain.ae) (.slice a3q x.chain.ids.length c3q) (.slice none 0 0) (.slice a5q x.msgs.length c5q) (.slice none 0 0)
    have e1 : Ext (fun q => q = u6.heap.size) u9 (aG u9 u6.heap.size 0 [.int .i64 x.now, .int .i64 x.events, .int .i64 x.chain.ae, .slice a3q x.chain.ids.length c3q, .slice none 0 0, .slice a5q x.msgs.length c5q, .slice none 0 0]) := bb _ (Ext.refl _ _) _ _ _ rfl
    have hss : (aG u9 u6.heap.size 0 [.int .i64 x.now, .int .i64 x.events, .int .i64 x.chain.ae, .slice a3q x.chain.ids.length c3q, .slice none 0 0, .slice a5q x.msgs.length c5q, .slice none 0 0]).heap.size = u9.heap.size := bL _ _ _ _
    have C3 := ((fF (g := u6.heap.size) O3.bg (by omega)).ext e1 (fun k h1 h2 h3 h4 => h3 h4)).wide (lo' := W0.heap.size) (hi' := (aG u9 u6.heap.size 0 [.int .i64 x.now, .int .i64 x.events, .int .i64 x.chain.ae, .slice a3q x.chain.ids.length c3q, .slice none 0 0, .slice a5q x.msgs.length c5q, .slice none 0 0]).heap.size) (by omega) (by omega)
    have C5 := ((fF (g := u6.heap.size) O5 (by omega)).ext e1 (fun k h1 h2 h3 h4 => h3 h4)).wide (lo' := W0.heap.size) (hi' := (aG u9 u6.heap.size 0 [.int .i64 x.now, .int .i64 x.events, .int .i64 x.chain.ae, .slice a3q x.chain.ids.length c3q, .slice none 0 0, .slice a5q x.msgs.length c5q, .slice none 0 0]).heap.size) (by omega) (by omega)
    exact ⟨_, u6.heap.size, _, _, rfl, rfl, hbx, C3, C5, by omega, zq⟩
  case oe11_9 =>
   have HG : Hid (aA 0 #[.int .i64 0, .int .i64 0, .int .i64 0, .slice none 0 0, .slice none 0 0, .slice none 0 0, .slice none 0 0] 39 (wD.alloc (.cells #[.int .i64 0, .int .i64 0, .int .i64 0, .slice none 0 0, .slice none 0 0, .slice none 0 0, .slice none 0 0] 39)) wD.heap.size) := aD (Nat.zero_le _)
   have hza : wD.heap.size < (wD.alloc (.cells #[.int .i64 0, .int .i64 0, .int .i64 0, .slice none 0 0, .slice none 0 0, .slice none 0 0, .slice none 0 0] 39)).heap.size := by simp
   have nba : Below wD.heap.size wD (wD.alloc (.cells #[.int .i64 0, .int .i64 0, .int .i64 0, .slice none 0 0, .slice none 0 0, .slice none 0 0, .slice none 0 0] 39)) := (Below.refl _ _).alloc (Nat.le_refl _) _
   go_simp
   refine hK.out _ _ (zq.alloc zq.size _) (fun zq => ?_)
   clear hK K
   try simp only [Act.put, pz, py, px]
   refine rdH 6 (fun K hK => ?_)
   go_simp
   go_at_call 149
   refine (mS _ x.chain _ ((uh HRC).later zq) (uh HN3)).mono ?_
   rintro e u6 ⟨a3q, c3q, rfl, O3, hb6⟩
   have hz6 : (wD.alloc (.cells #[.int .i64 0, .int .i64 0, .int .i64 0, .slice none 0 0, .slice none 0 0, .slice none 0 0, .slice none 0 0] 39)).heap.size ≤ u6.heap.size := hb6.size
   have HG6 := yh ((uh HG).ai hb6)
   clear HG
   have HG := HG6
   clear HG6
   try go_wp2_with fail
   refine hK.out _ _ (zq.trans (hb6.mono zq.size)) (fun zq => ?_)
   clear hK K
   try simp only [Act.put, pz, py, px]
   refine rdH 9 (fun K hK => ?_)
   go_simp
   go_at_call 150
   refine (oh _ x.msgs _ ((uh HRM).later zq) (uh HN5).1 (uh HN5).2).mono ?_
   rintro e u9 ⟨v5, rfl, ⟨rows, bls, G9, hs9⟩, hb9⟩
   have hz9 : u6.heap.size ≤ u9.heap.size := hb9.size
   obtain ⟨a5q, c5q, rfl⟩ := eR G9.own
   have O5 := G9.fa (by have := (uh HN5).1; omega) hs9
   have HG9 := yh ((uh HG).ai hb9)
   clear HG
   have HG := HG9
   clear HG9
   replace O3 := O3.later hb9
   try go_wp2_with fail
   refine hK.out _ _ (zq.trans (hb9.mono zq.size)) (fun zq => ?_)
   clear hK K
   try simp only [Act.put, pz, py, px]
   refine tkH 10 zq ?_
   refine rdH 12 (fun K hK => ?_)
   have hzD := zq.size
   obtain ⟨r0, r1, r2, r3, r4, r5, r6⟩ := aZ7 (uh HG)
   have rf := aA.soft (uh HG)
   have rl := (uh HG).lt
   go_simp
   refine hK.out _ _ (Below.setCell (Below.setCell (Below.setCell (Below.setCell (Below.setCell (Below.setCell (Below.setCell zq (p := ⟨wD.heap.size, 0, none⟩) (by simp only []; omega) (.int .i64 x.now)) (p := ⟨wD.heap.size, 1, none⟩) (by simp only []; omega) (.int .i64 x.events)) (p := ⟨wD.heap.size, 2, none⟩) (by simp only []; omega) (.int .i64 x.chain.ae)) (p := ⟨wD.heap.size, 3, none⟩) (by simp only []; omega) (.slice a3q x.chain.ids.length c3q)) (p := ⟨wD.heap.size, 4, none⟩) (by simp only []; omega) (.slice none 0 0)) (p := ⟨wD.heap.size, 5, none⟩) (by simp only []; omega) (.slice a5q x.msgs.length c5q)) (p := ⟨wD.heap.size, 6, none⟩) (by simp only []; omega) (.slice none 0 0)) (fun zq => ?_)
   clear hK K
   try simp only [Act.put, pz, py, px]
   refine dZ ?_
   go_wp2_with fail
   go_meet
   have hbx := lJ (uh HG) (.int .i64 x.now) (.int .i64 x.events) (.int .i64 x.chain.ae) (.slice a3q x.chain.ids.length c3q) (.slice none 0 0) (.slice a5q x.msgs.length c5q) (.slice none 0 0)
   have e1 : Ext (fun q => q = wD.heap.size) u9 (aG u9 wD.heap.size 0 [.int .i64 x.now, .int .i64 x.events, .int .i64 x.chain.ae, .slice a3q x.chain.ids.length c3q, .slice none 0 0, .slice a5q x.msgs.length c5q, .slice none 0 0]) := bb _ (Ext.refl _ _) _ _ _ rfl
   have hss : (aG u9 wD.heap.size 0 [.int .i64 x.now, .int .i64 x.events, .int .i64 x.chain.ae, .slice a3q x.chain.ids.length c3q, .slice none 0 0, .slice a5q x.msgs.length c5q, .slice none 0 0]).heap.size = u9.heap.size := bL _ _ _ _
   have C3 := ((fF (g := wD.heap.size) O3.bg (by omega)).ext e1 (fun k h1 h2 h3 h4 => h3 h4)).wide (lo' := W0.heap.size) (hi' := (aG u9 wD.heap.size 0 [.int .i64 x.now, .int .i64 x.events, .int .i64 x.chain.ae, .slice a3q x.chain.ids.length c3q, .slice none 0 0, .slice a5q x.msgs.length c5q, .slice none 0 0]).heap.size) (by omega) (by omega)
   have C5 := ((fF (g := wD.heap.size) O5 (by omega)).ext e1 (fun k h1 h2 h3 h4 => h3 h4)).wide (lo' := W0.heap.size) (hi' := (aG u9 wD.heap.size 0 [.int .i64 x.now, .int .i64 x.events, .int .i64 x.chain.ae, .slice a3q x.chain.ids.length c3q, .slice none 0 0, .slice a5q x.msgs.length c5q, .slice none 0 0]).heap.size) (by omega) (by omega)
   exact ⟨_, wD.heap.size, _, _, rfl, rfl, hbx, C3, C5, by omega, zq⟩
 case rest =>
  obtain ⟨W1, g, v3, v5, hW, rfl, hg, hC3, hC5, hgl, hB1⟩ := hcut
  subst hW
  obtain ⟨a3q, c3q, rfl⟩ := aI hC3.reads
  obtain ⟨a5q, c5q, rfl⟩ := aI hC5.reads
  have HC3 := yh hC3
  have HC5 := yh hC5
  have HG1 := yh hg
  have HB1 := yh hB1
  have hgB := hg.lt
  have hz1 := hB1.size
  clear hC3 hC5 hg hB1 HRC HRM HN3 HN5
  go_wp2_with fail
  go_loopw [4] (fun i wr => ∃ (k : Nat) (an : Option Addr) (mn cn : Nat) (rows : List (List Value)) (bls : List (List Nat)), k ≤ x.nodes.length ∧ i = .int .i64 (k : Int) ∧ aA 0 #[.int .i64 x.now, .int .i64 x.events, .int .i64 x.chain.ae, .slice a3q x.chain.ids.length c3q, .slice an mn cn, .slice a5q x.msgs.length c5q, .slice none 0 0] 39 wr g ∧ bU ab.ax wr W1.heap.size 63 (.slice an mn cn) rows (x.nodes.take k) bls ∧ (∀ c ∈ bls.flatten, W1.heap.size ≤ c) ∧ Ext (fun q => q = g ∨ W1.heap.size ≤ q) W1 wr) (fun i _ => x.nodes.length - (intOf i).toNat)
  case atStart => exact ⟨0, none, 0, 0, [], [], Nat.zero_le _, rfl, uh HG1, bU.nil (World.ownsRow_nil _ _ _ _), by simp, Ext.refl _ _⟩
  case round =>
   obtain ⟨k, an, mn, cn, rows, bls, hk, rfl, hN, hG, hS, hE⟩ := hrel
   have hBr : Below W0.heap.size W0 wr := (uh HB1).trans (hE.below hz1 (fun k hk q => by rcases q with q | q <;> omega))
   have hx := fD (uh HX) hBr (by omega)
   have z4 := aA.at (uh HX) 4 _ rfl
   have y4 := aA.at hx 4 _ rfl
   have y5 := aA.at hx 5 _ rfl
   simp only [ga, gb, gc] at z4 y4 y5
   have hxl := (uh HX).lt
   have hxr := hx.lt
   have hnb := (uh HRN).et
   by_cases hlt : k < x.nodes.length
   ·
    obtain ⟨row, hcl, hr⟩ := ab.bE (uh HRN) hlt
    have hn := cR ((uh HOK).nodes k hlt).1
    have HL : Hid (∀ V, Below W0.heap.size W0 V → Calls Tryz.prog 151 #[.agg row.toArray] V fun e w' => ∃ a6 d6 rows bls, e = .returned (.agg #[.int .i64 x.nodes[k].id, .bool x.nodes[k].up, .int .i64 x.nodes[k].ae, .int .i64 x.nodes[k].au, .slice a6 x.nodes[k].writes.length d6, .int .i64 x.nodes[k].sure, .int .i64 x.nodes[k].clean]) ∧ bU ab.ag w' V.heap.size 44 (.slice a6 x.nodes[k].writes.length d6) rows x.nodes[k].writes bls ∧ (∀ c ∈ bls.flatten, V.heap.size ≤ c) ∧ Below V.heap.size V w') := fun V hV => uY _ x.nodes[k] V (hr.later hV) (by have := hn.len; omega) (oW hn)
    have HW6 : Hid (x.nodes[k].writes.length ≤ 40 ∧ wfM x.nodes[k]) := by
     obtain ⟨_, hq⟩ := hr
     obtain ⟨_, _, _, -, -, q0, q1, q2, -, q3, q4⟩ := cD.1 hq
     exact ⟨hn.len, q0, q1, q2, q3, q4⟩
    obtain ⟨aw, dw, rfl, -⟩ := bG hr
    have x0 : W0.cell? ⟨b, off + k * 7, none⟩ = some (.int .i64 (x.nodes[k]).id) := hcl 0 (by decide)
    have x1 : W0.cell? ⟨b, off + k * 7 + 1, none⟩ = some (.bool (x.nodes[k]).up) := hcl 1 (by decide)
    have x2 : W0.cell? ⟨b, off + k * 7 + 2, none⟩ = some (.int .i64 (x.nodes[k]).ae) := hcl 2 (by decide)
    have x3 : W0.cell? ⟨b, off + k * 7 + 3, none⟩ = some (.int .i64 (x.nodes[k]).au) := hcl 3 (by decide)
    have x4 : W0.cell? ⟨b, off + k * 7 + 4, none⟩ = some (.slice aw (x.nodes[k]).writes.length dw) := hcl 4 (by decide)
    have x5 : W0.cell? ⟨b, off + k * 7 + 5, none⟩ = some (.int .i64 (x.nodes[k]).sure) := hcl 5 (by decide)
    have x6 : W0.cell? ⟨b, off + k * 7 + 6, none⟩ = some (.int .i64 (x.nodes[k]).clean) := hcl 6 (by decide)
    have HT : Hid (x.nodes.take (k + 1) = x.nodes.take k ++ [x.nodes[k]]) := List.take_succ_eq_append_getElem hlt
    have HLn : Hid ((x.nodes.take k).length = k) := by show (x.nodes.take k).length = k; rw [List.length_take]; omega
    have hki : (k : Int) < (x.nodes.length : Int) := by omega
    have hdl : decide ((k : Int) < (x.nodes.length : Int)) = true := by simpa using hki
    have HBr := yh hBr
    have HS := yh hS
    have hND := hN.drew
    have hGD : bU ab.ax wr.drew W1.heap.size 63 (.slice an mn cn) rows (x.nodes.take k) bls := hG.later (dg (Below.refl _ _) 1)
    have hED : Ext (fun q => q = g ∨ W1.heap.size ≤ q) W1 wr.drew := hE.drew 1
    have hzD : W1.heap.size ≤ wr.drew.heap.size := hE.size
    clear hcl hr hn hx y5 hBr hS hN hG hE HG1 HC3 HC5 HX HY HRE HF HB
    generalize hnn : x.nodes[k] = n at *
    clear hnn
    generalize hxs : x.nodes.take k = xs at *
    clear hxs
    go_upto_region 5 with fail
    clear y4
    refine wZz (fun w' => Below W0.heap.size W0 w') ((uh HBr).drew) (fun zq => ?_)
    generalize wr.drew = wD at zq hND hGD hED hzD ⊢
    refine tkH 0 zq ?_
    refine tkH 2 zq ?_
    refine tkJ 3 (v := ?vn3_3) ?hn3_3 zq ?rn3_3
    case hn3_3 =>
     intro wS hSw
     have q4 := cZ hSw hxl z4
     clear hSw
     exact fZ
    refine tkH 4 zq ?_
    refine tkH 5 zq ?_
    refine tkJ 6 (v := ?vn6_6) ?hn6_6 zq ?rn6_6
    case hn6_6 =>
     intro wS hSw
     have q0 := cZ hSw hbl0 x0
     have q1 := cZ hSw hbl0 x1
     have q2 := cZ hSw hbl0 x2
     have q3 := cZ hSw hbl0 x3
     have q4 := cZ hSw hbl0 x4
     have q5 := cZ hSw hbl0 x5
     have q6 := cZ hSw hbl0 x6
     clear hSw
     exact fZ
    refine wpAnyH_ready (rs := [1, 7]) (by kernel_rfl) (by simp) ?_
    refine AllReadyH.cons (o := sO) rfl (fun K hK => ?on1_7) (AllReadyH.cons (o := ⟨some 32, .call { callee := .value (.func 151), args := #[.tmp 31], argTypes := #[63] }, 63, "l12_world.go:83", #[⟨6, .data⟩], none⟩) rfl (fun K hK => ?on7_7) (AllReadyH.nil))
    case on1_7 =>
     have u4 := aA.at hND 4 _ rfl
     simp only [ga, gb, gc] at u4
     go_simp
     try go_wp2_with fail
     refine hK.out _ _ zq (fun zq => ?_)
     clear hK K
     try simp only [Act.put, pz, py, px]
     refine rdH 7 (fun K hK => ?_)
     go_simp
     go_at_call 151
     refine (uh HL _ zq).mono ?_
     rintro e u7 ⟨aq, dq, rws, bw, rfl, Gw, hsw, hb7⟩
     have hN7 := hND.ai hb7
     have hG7 := hGD.later hb7
     have hE7 := hED.trans (az hb7 _)
     have hz7 := hb7.size
     have hH7 := zq.trans (hb7.mono zq.size)
     obtain ⟨blw, hlw, hbw⟩ := Gw.fa (by have := (uh HW6).1; omega) hsw
     have hoff : ∀ c ∈ blw, (Value.slice an mn cn).ownBlock ≠ some c := fun c hc e => by
      have h1 := (hbw c hc).1
      have h2 := (hGD.own.lt c e).2
      omega
     clear Gw hsw
     try go_wp2_with fail
     refine hK.out _ _ hH7 (fun zq => ?_)
     clear hK K
     try simp only [Act.put, pz, py, px]
     refine rdH 8 (fun K hK => ?_)
     have nb8 : Below u7.heap.size u7 (u7.alloc (.cells #[.int .i64 n.id, .bool n.up, .int .i64 n.ae, .int .i64 n.au, .slice aq n.writes.length dq, .int .i64 n.sure, .int .i64 n.clean] 63)) := (Below.refl _ _).alloc (Nat.le_refl _) _
     have hN8 := hN7.ai nb8
     go_simp
     try go_wp2_with fail
     refine hK.out _ _ (zq.alloc zq.size _) (fun zq => ?_)
     clear hK K
     try simp only [Act.put, pz, py, px]
     refine rdH 9 (fun K hK => ?_)
     refine ez hG7 (cD.2 ⟨aq, dq, blw, rfl, rfl, (uh HW6).2.1, (uh HW6).2.2.1, (uh HW6).2.2.2.1, hlw, (uh HW6).2.2.2.2.1, (uh HW6).2.2.2.2.2⟩) hoff rfl _ _ rfl rfl rfl (by have := uh HLn; have := (uh HOK).some; omega) (by omega) ?_
     intro gq cap u9 hG9 hb9 hE9 hg9 hz9 hor9
     have hN9 := hN7.ext hE9 (fun e => by have := (hG7.own.lt g e).1; omega)
     have u9c := aA.at hN9 4 _ rfl
     simp only [ga, gb, gc] at u9c
     have uf := aA.soft hN9
     have ul := aA.lt hN9
     refine hK.out _ _ (hH7.trans (hb9.mono (by omega))) (fun zq => ?_)
     clear hK K
     try simp only [Act.put, pz, py, px]
     refine tkH 10 zq ?_
     refine rdH 11 (fun K hK => ?_)
     go_simp
     try go_wp2_with fail
     refine hK.out _ _ (Below.setCell zq (p := ⟨g, 4, none⟩) (by simp only []; omega) _) (fun zq => ?_)
     clear hK K
     try simp only [Act.put, pz, py, px]
     refine dZ ?_
     have e10 : Ext (fun q => q = g) u9 (u9.setCell ⟨g, 4, none⟩ (.slice (some ⟨gq, 0, none⟩) (xs.length + 1) cap)) := (Ext.refl (fun q => q = g) _).setCell ⟨g, 4, none⟩ _ rfl
     have hlow : ∀ c ∈ (bls ++ [blw]).flatten, W1.heap.size ≤ c := by
      intro c hc
      rw [List.flatten_append] at hc
      rcases List.mem_append.1 hc with hc | hc
      ·
       exact uh HS c hc
      have := (hbw c (by simpa using hc)).1; omega
     have hN10 := aA.set hN9 4 (.slice (some ⟨gq, 0, none⟩) (xs.length + 1) cap)
     simp only [List.setIfInBounds_toArray, List.set_cons_zero, List.set_cons_succ] at hN10
     have hown9 : ∀ q, (Value.slice (some ⟨gq, 0, none⟩) (xs.length + 1) cap).ownBlock = some q → ¬ q = g := fun q hq e => by
      have := (hG9.own.lt q hq).1
      omega
     have hG10 := ey hG9 e10 (fun c hc e => by have := hlow c hc; omega) hown9
     have hE10 := (hE7.trans (hE9.mono fun k _ h => Or.inr (by have := (hG7.own.lt k h).1; omega))).trans (e10.mono fun k _ h => Or.inl h)
     have HN10 := yh hN10
     have HG10 := yh hG10
     have HE10 := yh hE10
     have HLOW := yh hlow
     clear zq hND hGD hED hN7 hN8 hG7 hE7 hH7 hoff hlw hbw hG9 hb9 hE9 hN9 e10 hlow hN10 hown9 hG10 hE10 hor9 u4 u9c uf ul nb8 hb7
     go_wp2_with fail
     go_roundw
     case rel => exact ⟨k + 1, _, _, _, _, _, by omega, by go_num, uh HN10, by rw [uh HT]; exact uh HG10, uh HLOW, uh HE10⟩
     case measure => simp [intOf]; omega
    case on7_7 =>
     go_simp
     go_at_call 151
     refine (uh HL _ zq).mono ?_
     rintro e u7 ⟨aq, dq, rws, bw, rfl, Gw, hsw, hb7⟩
     have hN7 := hND.ai hb7
     have hG7 := hGD.later hb7
     have hE7 := hED.trans (az hb7 _)
     have hz7 := hb7.size
     have hH7 := zq.trans (hb7.mono zq.size)
     obtain ⟨blw, hlw, hbw⟩ := Gw.fa (by have := (uh HW6).1; omega) hsw
     have hoff : ∀ c ∈ blw, (Value.slice an mn cn).ownBlock ≠ some c := fun c hc e => by
      have h1 := (hbw c hc).1
      have h2 := (hGD.own.lt c e).2
      omega
     clear Gw hsw
     try go_wp2_with fail
     refine hK.out _ _ hH7 (fun zq => ?_)
     clear hK K
     try simp only [Act.put, pz, py, px]
     refine wpAnyH_ready (rs := [1, 8]) (by kernel_rfl) (by simp) ?_
     refine AllReadyH.cons (o := sO) rfl (fun K hK => ?on1_9) (AllReadyH.cons (o := ⟨some 33, .buildSlice 35 1 #[(0, .tmp 32)], 35, "l12_world.go:83", #[⟨7, .data⟩], none⟩) rfl (fun K hK => ?on8_9) (AllReadyH.nil))
     case on1_9 =>
      have u4 := aA.at hN7 4 _ rfl
      simp only [ga, gb, gc] at u4
      go_simp
      try go_wp2_with fail
      refine hK.out _ _ zq (fun zq => ?_)
      clear hK K
      try simp only [Act.put, pz, py, px]
      refine rdH 8 (fun K hK => ?_)
      have nb8 : Below u7.heap.size u7 (u7.alloc (.cells #[.int .i64 n.id, .bool n.up, .int .i64 n.ae, .int .i64 n.au, .slice aq n.writes.length dq, .int .i64 n.sure, .int .i64 n.clean] 63)) := (Below.refl _ _).alloc (Nat.le_refl _) _
      have hN8 := hN7.ai nb8
      go_simp
      try go_wp2_with fail
      refine hK.out _ _ (zq.alloc zq.size _) (fun zq => ?_)
      clear hK K
      try simp only [Act.put, pz, py, px]
      refine rdH 9 (fun K hK => ?_)
      refine ez hG7 (cD.2 ⟨aq, dq, blw, rfl, rfl, (uh HW6).2.1, (uh HW6).2.2.1, (uh HW6).2.2.2.1, hlw, (uh HW6).2.2.2.2.1, (uh HW6).2.2.2.2.2⟩) hoff rfl _ _ rfl rfl rfl (by have := uh HLn; have := (uh HOK).some; omega) (by omega) ?_
      intro gq cap u9 hG9 hb9 hE9 hg9 hz9 hor9
      have hN9 := hN7.ext hE9 (fun e => by have := (hG7.own.lt g e).1; omega)
      have u9c := aA.at hN9 4 _ rfl
      simp only [ga, gb, gc] at u9c
      have uf := aA.soft hN9
      have ul := aA.lt hN9
      refine hK.out _ _ (hH7.trans (hb9.mono (by omega))) (fun zq => ?_)
      clear hK K
      try simp only [Act.put, pz, py, px]
      refine tkH 10 zq ?_
      refine rdH 11 (fun K hK => ?_)
      go_simp
      try go_wp2_with fail
      refine hK.out _ _ (Below.setCell zq (p := ⟨g, 4, none⟩) (by simp only []; omega) _) (fun zq => ?_)
      clear hK K
      try simp only [Act.put, pz, py, px]
      refine dZ ?_
      have e10 : Ext (fun q => q = g) u9 (u9.setCell ⟨g, 4, none⟩ (.slice (some ⟨gq, 0, none⟩) (xs.length + 1) cap)) := (Ext.refl (fun q => q = g) _).setCell ⟨g, 4, none⟩ _ rfl
      have hlow : ∀ c ∈ (bls ++ [blw]).flatten, W1.heap.size ≤ c := by
       intro c hc
       rw [List.flatten_append] at hc
       rcases List.mem_append.1 hc with hc | hc
       ·
        exact uh HS c hc
       have := (hbw c (by simpa using hc)).1; omega
      have hN10 := aA.set hN9 4 (.slice (some ⟨gq, 0, none⟩) (xs.length + 1) cap)
      simp only [List.setIfInBounds_toArray, List.set_cons_zero, List.set_cons_succ] at hN10
      have hown9 : ∀ q, (Value.slice (some ⟨gq, 0, none⟩) (xs.length + 1) cap).ownBlock = some q → ¬ q = g := fun q hq e => by
       have := (hG9.own.lt q hq).1
       omega
      have hG10 := ey hG9 e10 (fun c hc e => by have := hlow c hc; omega) hown9
      have hE10 := (hE7.trans (hE9.mono fun k _ h => Or.inr (by have := (hG7.own.lt k h).1; omega))).trans (e10.mono fun k _ h => Or.inl h)
      have HN10 := yh hN10
      have HG10 := yh hG10
      have HE10 := yh hE10
      have HLOW := yh hlow
      clear zq hND hGD hED hN7 hN8 hG7 hE7 hH7 hoff hlw hbw hG9 hb9 hE9 hN9 e10 hlow hN10 hown9 hG10 hE10 hor9 u4 u9c uf ul nb8 hb7
      go_wp2_with fail
      go_roundw
      case rel => exact ⟨k + 1, _, _, _, _, _, by omega, by go_num, uh HN10, by rw [uh HT]; exact uh HG10, uh HLOW, uh HE10⟩
      case measure => simp [intOf]; omega
     case on8_9 =>
      have nb8 : Below u7.heap.size u7 (u7.alloc (.cells #[.int .i64 n.id, .bool n.up, .int .i64 n.ae, .int .i64 n.au, .slice aq n.writes.length dq, .int .i64 n.sure, .int .i64 n.clean] 63)) := (Below.refl _ _).alloc (Nat.le_refl _) _
      have hN8 := hN7.ai nb8
      go_simp
      try go_wp2_with fail
      refine hK.out _ _ (zq.alloc zq.size _) (fun zq => ?_)
      clear hK K
      try simp only [Act.put, pz, py, px]
      refine rdH 1 (fun K hK => ?_)
      have u4 := aA.at hN8 4 _ rfl
      simp only [ga, gb, gc] at u4
      go_simp
      try go_wp2_with fail
      refine hK.out _ _ zq (fun zq => ?_)
      clear hK K
      try simp only [Act.put, pz, py, px]
      refine rdH 9 (fun K hK => ?_)
      refine ez hG7 (cD.2 ⟨aq, dq, blw, rfl, rfl, (uh HW6).2.1, (uh HW6).2.2.1, (uh HW6).2.2.2.1, hlw, (uh HW6).2.2.2.2.1, (uh HW6).2.2.2.2.2⟩) hoff rfl _ _ rfl rfl rfl (by have := uh HLn; have := (uh HOK).some; omega) (by omega) ?_
      intro gq cap u9 hG9 hb9 hE9 hg9 hz9 hor9
      have hN9 := hN7.ext hE9 (fun e => by have := (hG7.own.lt g e).1; omega)
      have u9c := aA.at hN9 4 _ rfl
      simp only [ga, gb, gc] at u9c
      have uf := aA.soft hN9
      have ul := aA.lt hN9
      refine hK.out _ _ (hH7.trans (hb9.mono (by omega))) (fun zq => ?_)
      clear hK K
      try simp only [Act.put, pz, py, px]
      refine tkH 10 zq ?_
      refine rdH 11 (fun K hK => ?_)
      go_simp
      try go_wp2_with fail
      refine hK.out _ _ (Below.setCell zq (p := ⟨g, 4, none⟩) (by simp only []; omega) _) (fun zq => ?_)
      clear hK K
      try simp only [Act.put, pz, py, px]
      refine dZ ?_
      have e10 : Ext (fun q => q = g) u9 (u9.setCell ⟨g, 4, none⟩ (.slice (some ⟨gq, 0, none⟩) (xs.length + 1) cap)) := (Ext.refl (fun q => q = g) _).setCell ⟨g, 4, none⟩ _ rfl
      have hlow : ∀ c ∈ (bls ++ [blw]).flatten, W1.heap.size ≤ c := by
       intro c hc
       rw [List.flatten_append] at hc
       rcases List.mem_append.1 hc with hc | hc
       ·
        exact uh HS c hc
       have := (hbw c (by simpa using hc)).1; omega
      have hN10 := aA.set hN9 4 (.slice (some ⟨gq, 0, none⟩) (xs.length + 1) cap)
      simp only [List.setIfInBounds_toArray, List.set_cons_zero, List.set_cons_succ] at hN10
      have hown9 : ∀ q, (Value.slice (some ⟨gq, 0, none⟩) (xs.length + 1) cap).ownBlock = some q → ¬ q = g := fun q hq e => by
       have := (hG9.own.lt q hq).1
       omega
      have hG10 := ey hG9 e10 (fun c hc e => by have := hlow c hc; omega) hown9
      have hE10 := (hE7.trans (hE9.mono fun k _ h => Or.inr (by have := (hG7.own.lt k h).1; omega))).trans (e10.mono fun k _ h => Or.inl h)
      have HN10 := yh hN10
      have HG10 := yh hG10
      have HE10 := yh hE10
      have HLOW := yh hlow
      clear zq hND hGD hED hN7 hN8 hG7 hE7 hH7 hoff hlw hbw hG9 hb9 hE9 hN9 e10 hlow hN10 hown9 hG10 hE10 hor9 u4 u9c uf ul nb8 hb7
      go_wp2_with fail
      go_roundw
      case rel => exact ⟨k + 1, _, _, _, _, _, by omega, by go_num, uh HN10, by rw [uh HT]; exact uh HG10, uh HLOW, uh HE10⟩
      case measure => simp [intOf]; omega
   obtain rfl : k = x.nodes.length := by omega
   have hdl : decide ((x.nodes.length : Int) < (x.nodes.length : Int)) = false := by simp
   rw [List.take_length] at hG
   have hnp := (uh HOK).some
   rcases hG.form with ⟨-, h0⟩ | ⟨g4, c4, hv, hg4, hg4l, hcap4⟩
   ·
    exact absurd h0 (by intro q; rw [q] at hnp; simp at hnp)
   simp only [Value.slice.injEq] at hv
   obtain ⟨rfl, rfl, rfl⟩ := hv
   have hA : ab.ax.gk wr (.slice (some ⟨g4, 0, none⟩) x.nodes.length cn) x.nodes g4 bls.flatten := by
    rcases hG.reads (by omega) with q | ⟨q, -⟩
    ·
     have q2 : (ab.sl ab.ax).bg wr [.slice (some ⟨g4, 0, none⟩) x.nodes.length cn] x.nodes (if x.nodes = [] then [] else g4 :: bls.flatten) := q
     rw [if_neg (by intro q; rw [q] at hnp; simp at hnp)] at q2
     exact ⟨q2, fun hm => hG.off g4 hm rfl, fun o => hG.own.frozenAt o⟩
    exact absurd q (by intro q; rw [q] at hnp; simp at hnp)
   have hlt4 := hG.sub_lt
   have HA := yh hA
   have HS4 : Hid (∀ c ∈ bls.flatten, W1.heap.size ≤ c ∧ c < wr.heap.size) := fun c hc => ⟨hS c hc, hlt4 c hc⟩
   have HE4 := yh hE
   have HN4 := yh hN
   have HBr := yh hBr
   rename World => W2
   clear hA hlt4 hG hS hE hN hBr hx z4 hcap4 HG1
   generalize hbf : bls.flatten = r4 at *
   clear hbf rows
   have hz2 := (uh HE4).size
   have hB2 := (uh HN4).lt
   go_wp2_with fail
   clear y4 y5 hdl
   go_loopw [5] (fun i wr => ∃ (k : Nat) (an : Option Addr) (mn cn6 : Nat) (rows : List (List Value)) (bls : List (List Nat)), k ≤ x.af.length ∧ i = .int .i64 (k : Int) ∧ aA 0 #[.int .i64 x.now, .int .i64 x.events, .int .i64 x.chain.ae, .slice a3q x.chain.ids.length c3q, .slice (some ⟨g4, 0, none⟩) x.nodes.length cn, .slice a5q x.msgs.length c5q, .slice an mn cn6] 39 wr g ∧ bU ab.ar wr W2.heap.size 89 (.slice an mn cn6) rows (x.af.take k) bls ∧ (∀ c ∈ bls.flatten, W2.heap.size ≤ c) ∧ Ext (fun q => q = g ∨ W2.heap.size ≤ q) W2 wr) (fun i _ => x.af.length - (intOf i).toNat)
   case atStart => exact ⟨0, none, 0, 0, [], [], Nat.zero_le _, rfl, uh HN4, bU.nil (World.ownsRow_nil _ _ _ _), by simp, Ext.refl _ _⟩
   case round =>
    obtain ⟨k, an, mn, cn6, rows, bls, hk, rfl, hN, hG, hS, hE⟩ := hrel
    have hBr2 : Below W0.heap.size W0 wr := (uh HBr).trans (hE.below (by omega) (fun k hk q => by rcases q with q | q <;> omega))
    have hx := fD (uh HX) hBr2 (by omega)
    have y6 := aA.at hx 6 _ rfl
    simp only [ga, gb, gc] at y6
    have hxr := hx.lt
    have hhb := (uh HRE).et
    by_cases hlt : k < x.af.length
    ·
     obtain ⟨be, oe, rfl, hbe⟩ := ab.aS (uh HRE) (by omega)
     obtain ⟨row, hcl, hr⟩ := ab.bE ((uh HRE).later hBr2) hlt
     have HFE := yh (uh HF x.af[k] (List.getElem_mem hlt))
     have HWE : Hid (wfE x.af[k]) := by
      obtain ⟨_, hq⟩ := hr
      obtain ⟨_, _, _, _, _, _, _, _, _, -, -, q0, q1, q2, q3, -, q5, q6, q7, q8, -, -⟩ := dj.1 hq
      exact ⟨q0, q1, q2, q3, q5, q6, q7, q8⟩
     obtain ⟨aq, dq, av, dv, ah, dh, rfl, Rq, Rv, Rh⟩ := cd hr
     have x0 : wr.cell? ⟨be, oe + k * 11, none⟩ = some (.int .i64 (x.af[k]).kind) := hcl 0 (by decide)
     have x1 : wr.cell? ⟨be, oe + k * 11 + 1, none⟩ = some (.int .i64 (x.af[k]).aa) := hcl 1 (by decide)
     have x2 : wr.cell? ⟨be, oe + k * 11 + 2, none⟩ = some (.int .i64 (x.af[k]).seq) := hcl 2 (by decide)
     have x3 : wr.cell? ⟨be, oe + k * 11 + 3, none⟩ = some (.int .i64 (x.af[k]).id) := hcl 3 (by decide)
     have x4 : wr.cell? ⟨be, oe + k * 11 + 4, none⟩ = some (.slice aq (x.af[k]).query.length dq) := hcl 4 (by decide)
     have x5 : wr.cell? ⟨be, oe + k * 11 + 5, none⟩ = some (.int .i64 (x.af[k]).k) := hcl 5 (by decide)
     have x6 : wr.cell? ⟨be, oe + k * 11 + 6, none⟩ = some (.int .i64 (x.af[k]).start) := hcl 6 (by decide)
     have x7 : wr.cell? ⟨be, oe + k * 11 + 7, none⟩ = some (.int .i64 (x.af[k]).fin) := hcl 7 (by decide)
     have x8 : wr.cell? ⟨be, oe + k * 11 + 8, none⟩ = some (.int .i64 (x.af[k]).place) := hcl 8 (by decide)
     have x9 : wr.cell? ⟨be, oe + k * 11 + 9, none⟩ = some (.slice av (x.af[k]).vec.length dv) := hcl 9 (by decide)
     have x10 : wr.cell? ⟨be, oe + k * 11 + 10, none⟩ = some (.slice ah (x.af[k]).aY.length dh) := hcl 10 (by decide)
     have HT : Hid (x.af.take (k + 1) = x.af.take k ++ [x.af[k]]) := List.take_succ_eq_append_getElem hlt
     have HLn : Hid ((x.af.take k).length = k) := by show (x.af.take k).length = k; rw [List.length_take]; omega
     have hki : (k : Int) < (x.af.length : Int) := by omega
     have hdl : decide ((k : Int) < (x.af.length : Int)) = true := by simpa using hki
     have hbr : be < wr.heap.size := Nat.lt_of_lt_of_le hbe hBr2.size
     have HRQ := yh Rq
     have HRV := yh Rv
     have HRH := yh Rh
     have HS := yh hS
     have HN := yh hN
     have HG := yh hG
     have HE := yh hE
     have hzr := hE.size
     have HZ : Hid (W2.heap.size ≤ wr.heap.size ∧ g < W2.heap.size) := ⟨hE.size, hB2⟩
     clear hcl hr hx hBr2 hS hN hG hE HC3 HC5 HX HY HF HB HA HS4 HE4 HN4 HBr HB1 HRN Rq Rv Rh
     generalize hnn : x.af[k] = e at *
     clear hnn
     generalize hxs : x.af.take k = xs at *
     clear hxs
     have nb9 : Below wr.heap.size wr (wr.alloc (.cells #[.int .i64 e.kind, .int .i64 e.aa, .int .i64 e.seq, .int .i64 e.id, .slice aq e.query.length dq, .int .i64 e.k, .int .i64 e.start, .int .i64 e.fin, .int .i64 e.place, .slice av e.vec.length dv, .slice ah e.aY.length dh] 89)) := (Below.refl _ _).alloc (Nat.le_refl _) _
     have hI9 : aA 0 #[.int .i64 e.kind, .int .i64 e.aa, .int .i64 e.seq, .int .i64 e.id, .slice aq e.query.length dq, .int .i64 e.k, .int .i64 e.start, .int .i64 e.fin, .int .i64 e.place, .slice av e.vec.length dv, .slice ah e.aY.length dh] 89 (wr.alloc (.cells #[.int .i64 e.kind, .int .i64 e.aa, .int .i64 e.seq, .int .i64 e.id, .slice aq e.query.length dq, .int .i64 e.k, .int .i64 e.start, .int .i64 e.fin, .int .i64 e.place, .slice av e.vec.length dv, .slice ah e.aY.length dh] 89)) wr.heap.size := aD (Nat.zero_le _)
     have hz9 : (wr.alloc (.cells #[.int .i64 e.kind, .int .i64 e.aa, .int .i64 e.seq, .int .i64 e.id, .slice aq e.query.length dq, .int .i64 e.k, .int .i64 e.start, .int .i64 e.fin, .int .i64 e.place, .slice av e.vec.length dv, .slice ah e.aY.length dh] 89)).heap.size = wr.heap.size + 1 := by simp
     have HI9 := yh hI9
     have HB9 := yh nb9
     clear nb9 hI9
     go_upto_region 10 with fail
     generalize wr.alloc (.cells #[.int .i64 e.kind, .int .i64 e.aa, .int .i64 e.seq, .int .i64 e.id, .slice aq e.query.length dq, .int .i64 e.k, .int .i64 e.start, .int .i64 e.fin, .int .i64 e.place, .slice av e.vec.length dv, .slice ah e.aY.length dh] 89) = w9 at *
     clear x0 x1 x2 x3 x4 x5 x6 x7 x8 x9 x10 y6
     have HL := yh (iF _ e.query w9 (ab.bc ((uh HRQ).later (uh HB9))) (by have := (uh HFE).1; omega))
     have HWQ := yh (ab.bc (uh HRQ)).wf
     have k4 := aA.at (uh HI9) 4 _ rfl
     simp only [ga, gb, gc] at k4
     have kl := (uh HI9).lt
     go_wp2_with fail
     refine (uh HL).mono ?_
     rintro ee w10 ⟨vq, rfl, Oq, hb10⟩
     obtain ⟨aq2, dq2, rfl⟩ := eR Oq
     have Iq := ab.eM (uh HWQ) (by have := (uh HFE).1; omega) Oq
     have hI10 := (uh HI9).ai hb10
     clear k4
     have k4 := aA.at hI10 4 _ rfl
     have kf := aA.soft hI10
     simp only [ga, gb, gc] at k4
     have e10 : Ext (fun q => q = wr.heap.size) w10 (w10.setCell ⟨wr.heap.size, 4, none⟩ (.slice aq2 e.query.length dq2)) := (Ext.refl _ _).setCell _ _ rfl
     have hI10s := aA.set hI10 4 (.slice aq2 e.query.length dq2)
     simp only [List.setIfInBounds_toArray, List.set_cons_zero, List.set_cons_succ] at hI10s
     have hz10 := hb10.size
     have HIQ := yh ((Iq.bg.mono (show wr.heap.size + 1 ≤ w9.heap.size by omega) (Nat.le_refl _)).ext e10 (fun q h1 h2 h3 => by omega))
     have HI10 := yh hI10s
     have HB10 := yh ((Below.setCell ((uh HB9).trans (hb10.mono (uh HB9).size)) (p := ⟨wr.heap.size, 4, none⟩) (Nat.le_refl _) (.slice aq2 e.query.length dq2)))
     have hz10s : w10.heap.size = (w10.setCell ⟨wr.heap.size, 4, none⟩ (.slice aq2 e.query.length dq2)).heap.size := by simp
     have kl10 := hI10.lt
     clear hI10 hI10s e10 Oq Iq hb10 HL HI9 HB9 HWQ HRQ
     go_upto_region 11 with fail
     clear k4 kf kl
     generalize hw11 : w10.setCell ⟨wr.heap.size, 4, none⟩ (.slice aq2 e.query.length dq2) = w11 at *
     clear hw11
     have HL := yh (iF _ e.vec w11 (ab.bc ((uh HRV).later (uh HB10))) (by have := (uh HFE).2.1; omega))
     have HWQ := yh (ab.bc (uh HRV)).wf
     have k4 := aA.at (uh HI10) 9 _ rfl
     simp only [ga, gb, gc] at k4
     have kl := (uh HI10).lt
     go_wp2_with fail
     refine (uh HL).mono ?_
     rintro ee w14 ⟨vq, rfl, Oq, hb14⟩
     obtain ⟨av2, dv2, rfl⟩ := eR Oq
     have Iq := ab.eM (uh HWQ) (by have := (uh HFE).2.1; omega) Oq
     have hI14 := (uh HI10).ai hb14
     clear k4
     have k4 := aA.at hI14 9 _ rfl
     have kf := aA.soft hI14
     simp only [ga, gb, gc] at k4
     have e14 : Ext (fun q => q = wr.heap.size) w14 (w14.setCell ⟨wr.heap.size, 9, none⟩ (.slice av2 e.vec.length dv2)) := (Ext.refl _ _).setCell _ _ rfl
     have hI14s := aA.set hI14 9 (.slice av2 e.vec.length dv2)
     simp only [List.setIfInBounds_toArray, List.set_cons_zero, List.set_cons_succ] at hI14s
     have hz14 := hb14.size
     have HIV := yh ((Iq.bg.mono (show wr.heap.size + 1 ≤ w11.heap.size by omega) (Nat.le_refl _)).ext e14 (fun q h1 h2 h3 => by omega))
     have HIQ2 := yh (((uh HIQ).mono (Nat.le_refl _) (show w10.heap.size ≤ w11.heap.size by omega)).later hb14 |>.ext e14 (fun q h1 h2 h3 => by omega))
     have HI14 := yh hI14s
     have HB14 := yh ((Below.setCell ((uh HB10).trans (hb14.mono (uh HB10).size)) (p := ⟨wr.heap.size, 9, none⟩) (Nat.le_refl _) (.slice av2 e.vec.length dv2)))
     have hz14s : w14.heap.size = (w14.setCell ⟨wr.heap.size, 9, none⟩ (.slice av2 e.vec.length dv2)).heap.size := by simp
     clear hI14 hI14s e14 Oq Iq hb14 HL HI10 HB10 HWQ HRV HIQ
     go_upto_region 12 with fail
     clear k4 kf kl
     generalize hw15 : w14.setCell ⟨wr.heap.size, 9, none⟩ (.slice av2 e.vec.length dv2) = w15 at *
     clear hw15
     have nbh : Below w15.heap.size w15 (w15.alloc (.cells #[] 224)) := (Below.refl _ _).alloc (Nat.le_refl _) _
     have hGH : bU ab.bq (w15.alloc (.cells #[] 224)) w15.heap.size 224 (.slice (some ⟨w15.heap.size, 0, none⟩) 0 0) [] [] [] := bU.nil (World.ownsRow_lit w15 #[] 0 (Nat.le_refl _) (Nat.zero_le _) rfl)
     have hXH : (ab.sl ab.bq).cr (w15.alloc (.cells #[] 224)) [.slice ah e.aY.length dh] e.aY 0 w15.heap.size := (((uh HRH).dd.mono (Nat.le_refl _) (show wr.heap.size ≤ w15.heap.size by omega)).later (uh HB14)).later nbh
     have hI15 := (uh HI14).ai nbh
     have HI15 := yh hI15
     have k4 := aA.at hI15 10 _ rfl
     have k5 := aA.at (uh HI14) 10 _ rfl
     simp only [ga, gb, gc] at k4 k5
     have kl := hI15.lt
     have hzh : (w15.alloc (.cells #[] 224)).heap.size = w15.heap.size + 1 := by simp
     clear hI15
     go_wp2_with (at_builtin; refine eK hGH hXH rfl _ _ rfl rfl rfl ?hh1 ?hh2 ?_)
     case hh1 => have := (uh HFE).2.2; simp only [List.length_nil]; omega
     case hh2 => omega
     intro ah2 mh2 dh2 w16 rh bh hG16 hb16 hm16 hz16
     have hm16' : mh2 = e.aY.length := hm16.trans (by simp)
     subst hm16'
     clear hm16
     have hI16 := fD (uh HI15) hb16 (by omega)
     clear k4 k5 kl
     have k4 := aA.at hI16 10 _ rfl
     have kf := aA.soft hI16
     have kl := hI16.lt
     simp only [ga, gb, gc] at k4
     have e16 : Ext (fun q => q = wr.heap.size) w16 (w16.setCell ⟨wr.heap.size, 10, none⟩ (.slice ah2 e.aY.length dh2)) := (Ext.refl _ _).setCell _ _ rfl
     have hI16s := aA.set hI16 10 (.slice ah2 e.aY.length dh2)
     simp only [List.setIfInBounds_toArray, List.set_cons_zero, List.set_cons_succ] at hI16s
     have hbt : bh.flatten = [] := by
      rw [List.flatten_eq_nil_iff]
      intro l hl
      obtain ⟨j, hj, rfl⟩ := List.getElem_of_mem hl
      have q1 := hG16.gp
      have q2 := hG16.eH
      exact (cS.1 (hG16.bg j (by omega) (by omega) hj)).2.1
     have HIH := yh ((((hG16.fa (by have := (uh HFE).2.2; omega) (fun c hc => by rw [hbt] at hc; cases hc)).mono (show wr.heap.size + 1 ≤ w15.heap.size by omega) (Nat.le_refl _))).ext e16 (fun q h1 h2 h3 => by omega))
     have HIV3 := yh ((gW (((uh HIV).mono (Nat.le_refl _) (show w14.heap.size ≤ w15.heap.size by omega)).later nbh) hb16 (Nat.le_refl _)).ext e16 (fun q h1 h2 h3 => by omega))
     have HIQ3 := yh ((gW (((uh HIQ2).mono (Nat.le_refl _) (show w11.heap.size ≤ w15.heap.size by omega)).later nbh) hb16 (Nat.le_refl _)).ext e16 (fun q h1 h2 h3 => by omega))
     have HB16 := yh (Below.setCell (((uh HB14).trans (nbh.mono (by omega))).trans (hb16.mono (by omega))) (p := ⟨wr.heap.size, 10, none⟩) (Nat.le_refl _) (.slice ah2 e.aY.length dh2))
     have hz16s : w16.heap.size = (w16.setCell ⟨wr.heap.size, 10, none⟩ (.slice ah2 e.aY.length dh2)).heap.size := by simp
     have HI16 := yh hI16s
     clear hI16 hI16s e16 hbt hG16 hb16 hGH hXH nbh HI15 HI14 HB14 HIV HIQ2 HRH
     go_upto_region 13 with fail
     clear k4 kf kl
     generalize hw12 : w16.setCell ⟨wr.heap.size, 10, none⟩ (.slice ah2 e.aY.length dh2) = w12 at *
     clear hw12
     obtain ⟨lq, lq1, lq2⟩ := uh HIQ3
     obtain ⟨lv, lv1, lv2⟩ := uh HIV3
     obtain ⟨lh, lh1, lh2⟩ := uh HIH
     have hLE : ab.ar.bg w12 [.int .i64 e.kind, .int .i64 e.aa, .int .i64 e.seq, .int .i64 e.id, .slice aq2 e.query.length dq2, .int .i64 e.k, .int .i64 e.start, .int .i64 e.fin, .int .i64 e.place, .slice av2 e.vec.length dv2, .slice ah2 e.aY.length dh2] e (lq ++ (lv ++ lh)) := by
      obtain ⟨q0, q1, q2, q3, q5, q6, q7, q8⟩ := uh HWE
      exact dj.2 ⟨aq2, dq2, lq, av2, dv2, lv, ah2, dh2, lh, rfl, rfl, q0, q1, q2, q3, lq1, q5, q6, q7, q8, lv1, lh1⟩
     have HBL0 : Hid (∀ c ∈ lq ++ (lv ++ lh), wr.heap.size ≤ c) := fun c hc => by
      simp only [List.mem_append] at hc
      rcases hc with hc | hc | hc
      ·
       have := lq2 c hc; omega
      ·
       have := lv2 c hc; omega
      have := lh2 c hc; omega
     clear lq1 lq2 lv1 lv2 lh1 lh2 HIQ3 HIV3 HIH
     generalize lq ++ (lv ++ lh) = ble at *
     have HBL : Hid (∀ c ∈ ble, W2.heap.size ≤ c) := fun c hc => Nat.le_trans (uh HZ).1 (uh HBL0 c hc)
     have hoff : ∀ c ∈ ble, (Value.slice an mn cn6).ownBlock ≠ some c := fun c hc q => by
      have h1 := uh HBL0 c hc
      have h2 := ((uh HG).own.lt c q).2
      omega
     have HLE := yh hLE
     have hND : aA 0 #[.int .i64 x.now, .int .i64 x.events, .int .i64 x.chain.ae, .slice a3q x.chain.ids.length c3q, .slice (some ⟨g4, 0, none⟩) x.nodes.length cn, .slice a5q x.msgs.length c5q, .slice an mn cn6] 39 w12 g := (uh HN).ai (uh HB16)
     have hGD : bU ab.ar w12 W2.heap.size 89 (.slice an mn cn6) rows xs bls := (uh HG).later (uh HB16)
     have hED : Ext (fun q => q = g ∨ W2.heap.size ≤ q) W2 w12 := (uh HE).trans (az (uh HB16) _)
     have hzD : w16.heap.size ≤ w12.heap.size := by omega
     have HGE : Hid (g < wr.heap.size ∧ (∀ k, (Value.slice an mn cn6).ownBlock = some k → k < wr.heap.size) ∧ g < W2.heap.size) := ⟨by omega, fun k hk => ((uh HG).own.lt k hk).2, hB2⟩
     obtain ⟨y0, y1, y2, y3, y4, y5, y6, y7, y8, y9, y10⟩ := aZ11 (uh HI16)
     have hel : wr.heap.size < w12.heap.size := (uh HI16).lt
     clear hLE HI16 HN HG HE HB16 HFE HWE
     have u4 := aA.at hND 6 _ rfl
     simp only [ga, gb, gc] at u4
     have ul0 := aA.lt hND
     go_wp2_with (at_builtin; refine eJ hGD (uh HLE) hoff rfl _ _ rfl rfl rfl ?hq3 ?hq4 ?_)
     case hq3 => have := uh HLn; have := (uh HOK).uQ; omega
     case hq4 => omega
     intro gq cap u9 hG9 hb9 hE9 hg9 hz9 hor9
     have hN9 := hND.ext hE9 (fun e => by have := (hGD.own.lt g e).1; omega)
     have u9c := aA.at hN9 6 _ rfl
     simp only [ga, gb, gc] at u9c
     have uf := aA.soft hN9
     have ul := aA.lt hN9
     have e10 : Ext (fun q => q = g) u9 (u9.setCell ⟨g, 6, none⟩ (.slice (some ⟨gq, 0, none⟩) (xs.length + 1) cap)) := (Ext.refl (fun q => q = g) _).setCell ⟨g, 6, none⟩ _ rfl
     have hlow : ∀ c ∈ (bls ++ [ble]).flatten, W2.heap.size ≤ c := by
      intro c hc
      rw [List.flatten_append] at hc
      rcases List.mem_append.1 hc with hc | hc
      ·
       exact uh HS c hc
      exact uh HBL c (by simpa using hc)
     have hN10 := aA.set hN9 6 (.slice (some ⟨gq, 0, none⟩) (xs.length + 1) cap)
     simp only [List.setIfInBounds_toArray, List.set_cons_zero, List.set_cons_succ] at hN10
     have hown9 : ∀ q, (Value.slice (some ⟨gq, 0, none⟩) (xs.length + 1) cap).ownBlock = some q → ¬ q = g := fun q hq e => by
      have := (hG9.own.lt q hq).1
      have := uh HGE
      omega
     have hG10 := ey hG9 e10 (fun c hc e => by have := hlow c hc; have := uh HGE; omega) hown9
     have hE10 := (hED.trans (hE9.mono fun k _ h => Or.inr (by have := (hGD.own.lt k h).1; omega))).trans (e10.mono fun k _ h => Or.inl h)
     have HN10 := yh hN10
     have HG10 := yh hG10
     have HE10 := yh hE10
     have HLOW := yh hlow
     clear hND hGD hED hoff hG9 hb9 hE9 hN9 e10 hlow hN10 hown9 hG10 hE10 hor9 u4
     go_wp2_with fail
     go_roundw
     case rel => exact ⟨k + 1, _, _, _, _, _, by omega, by go_num, uh HN10, by rw [uh HT]; exact uh HG10, uh HLOW, uh HE10⟩
     case measure => simp [intOf]; omega
    obtain rfl : k = x.af.length := by omega
    have hdl : decide ((x.af.length : Int) < (x.af.length : Int)) = false := by simp
    rw [List.take_length] at hG
    have hy := ((fD ((fD ((fD (uh HY) (uh HB1) (by omega))) ((uh HE4).below (B := W0.heap.size) hz1 (fun k hk q => by rcases q with q | q <;> omega)) (by omega))) (hE.below (B := W0.heap.size) (by omega) (fun k hk q => by rcases q with q | q <;> omega)) (by omega)))
    obtain ⟨l3, i3, j3⟩ := (((uh HC3).ext (uh HE4) (fun k h1 h2 h3 q => by rcases q with q | q <;> omega)).wide (Nat.le_refl _) (show W1.heap.size ≤ W1.heap.size from Nat.le_refl _)).ext hE (fun k h1 h2 h3 q => by rcases q with q | q <;> omega)
    obtain ⟨l5, i5, j5⟩ := (((uh HC5).ext (uh HE4) (fun k h1 h2 h3 q => by rcases q with q | q <;> omega)).wide (Nat.le_refl _) (show W1.heap.size ≤ W1.heap.size from Nat.le_refl _)).ext hE (fun k h1 h2 h3 q => by rcases q with q | q <;> omega)
    obtain ⟨l6, i6, j6⟩ := hG.fa (by omega) hS
    have hm6 : mn = x.af.length := by
     obtain ⟨_, _, q, -⟩ := i6
     simp only [List.cons.injEq, Value.slice.injEq, and_true] at q
     exact q.2.1
    subst hm6
    have hA2 := (uh HA).ext hE (fun q => by rcases q with q | q <;> omega) (fun c hc q => by have := uh HS4 c hc; rcases q with q | q <;> omega)
    have hWL : mN wr ⟨a3q, c3q, g4, 0, cn, a5q, c5q, an, cn6, l3, r4, l5, l6⟩ x := ⟨(uh HWF).1, (uh HWF).2.1, (uh HWF).2.2, i3, hA2, i5, i6, fun hc => by have := j3 g4 hc; omega, fun hc => by have := j5 g4 hc; omega, fun hc => by have := j6 g4 hc; omega⟩
    have hzr := hE.size
    have hlt6 := hG.sub_lt
    have hWN : eb wr W0.heap.size wr.heap.size [.int .i64 x.now, .int .i64 x.events, .int .i64 x.chain.ae, .slice a3q x.chain.ids.length c3q, .slice (some ⟨g4, 0, none⟩) x.nodes.length cn, .slice a5q x.msgs.length c5q, .slice an x.af.length cn6] x := ⟨_, W2.heap.size, rows, bls, rfl, hWL, by simp only []; omega, fun c hc => by have := j3 c hc; omega, fun c hc => by have := uh HS4 c hc; omega, fun c hc => by have := j5 c hc; omega, fun c hc => by have := j6 c hc; omega, by omega, hG, fun c hc => ⟨hS c hc, hlt6 c hc⟩, fun g' hg' => hG.own.lt g' hg'⟩
    have e9 : Ext (fun q => q = w.heap.size + 1) wr (aG wr (w.heap.size + 1) 0 [.int .i64 x.now, .int .i64 x.events, .int .i64 x.chain.ae, .slice a3q x.chain.ids.length c3q, .slice (some ⟨g4, 0, none⟩) x.nodes.length cn, .slice a5q x.msgs.length c5q, .slice an x.af.length cn6]) := bb _ (Ext.refl _ _) _ _ _ rfl
    have HWN := yh ((hWN.ext e9 (fun k h1 h2 h3 => by omega)).mono (show w.heap.size ≤ W0.heap.size by omega) (Nat.le_of_eq (bL wr (w.heap.size + 1) 0 [.int .i64 x.now, .int .i64 x.events, .int .i64 x.chain.ae, .slice a3q x.chain.ids.length c3q, .slice (some ⟨g4, 0, none⟩) x.nodes.length cn, .slice a5q x.msgs.length c5q, .slice an x.af.length cn6]).symm))
    have HB9 := yh (aB ((uh HB).trans (hBr2.mono (uh HB).size)) (w.heap.size + 1) 0 [.int .i64 x.now, .int .i64 x.events, .int .i64 x.chain.ae, .slice a3q x.chain.ids.length c3q, .slice (some ⟨g4, 0, none⟩) x.nodes.length cn, .slice a5q x.msgs.length c5q, .slice an x.af.length cn6] (by omega))
    have o0 := aA.at hN 0 _ rfl
    have p0 := aA.at hy 0 _ rfl
    have o1 := aA.at hN 1 _ rfl
    have p1 := aA.at hy 1 _ rfl
    have o2 := aA.at hN 2 _ rfl
    have p2 := aA.at hy 2 _ rfl
    have o3 := aA.at hN 3 _ rfl
    have p3 := aA.at hy 3 _ rfl
    have o4 := aA.at hN 4 _ rfl
    have p4 := aA.at hy 4 _ rfl
    have o5 := aA.at hN 5 _ rfl
    have p5 := aA.at hy 5 _ rfl
    have o6 := aA.at hN 6 _ rfl
    have p6 := aA.at hy 6 _ rfl
    simp only [ga, gb, gc] at o0 p0 o1 p1 o2 p2 o3 p3 o4 p4 o5 p5 o6 p6
    have hol := hN.lt
    have hyl := hy.lt
    have hyf := aA.soft hy
    clear hlt6 hWN hWL hA2 i3 i5 i6 j3 j5 j6 hG hS hE hN hx hBr2 hy e9 HC3 HC5 HA HS4 HE4 HN4 HBr HB1 HX HY HB HRN HRE HF
    go_wp2_with fail
    refine bodyPost_ret (v := .agg #[.int .i64 x.now, .int .i64 x.events, .int .i64 x.chain.ae, .slice a3q x.chain.ids.length c3q, .slice (some ⟨g4, 0, none⟩) x.nodes.length cn, .slice a5q x.msgs.length c5q, .slice an x.af.length cn6]) (by simp [results, Tryz.results93, go_sem, p0, p1, p2, p3, p4, p5, p6]) rfl ?_
    exact ⟨_, rfl, uh HWN, uh HB9⟩
def vk (x : ay) : ay := ⟨x.now, x.events, x.chain, x.nodes, x.msgs, []⟩
theorem og {W : World} {lo hi : Nat} {v3 v4 v5 v6 : Value} {x : ay} (h : eb W lo hi [.int .i64 x.now, .int .i64 x.events, .int .i64 x.chain.ae, v3, v4, v5, v6] x) :
  ∃ (H : Nat) (rows : List (List Value)) (bls : List (List Nat)) (b off d4 : Nat), lo ≤ H ∧ H ≤ hi ∧ kC W lo H (fun c => c < lo ∨ (H ≤ c ∧ c ≤ hi)) [.int .i64 x.now, .int .i64 x.events, .int .i64 x.chain.ae, v3, v4, v5, .slice none 0 0] (vk x) ∧ bU ab.ar W H 89 v6 rows x.af bls ∧ (∀ c ∈ bls.flatten, H ≤ c ∧ c < hi) ∧ (∀ g, v6.ownBlock = some g → H ≤ g ∧ g < hi) ∧ v4 = .slice (some ⟨b, off, none⟩) x.nodes.length d4 ∧ lo ≤ b ∧ b < H := by
 obtain ⟨q, H, rows, bls, hq, hl, hb, h3, hr, h5, h6, hH, hG, hB, hO⟩ := h
 simp only [pC.cells, List.cons.injEq, and_true, true_and] at hq
 obtain ⟨rfl, rfl, rfl, rfl⟩ := hq
 refine ⟨H, rows, bls, q.b, q.off, q.d4, hH.1, hH.2, ?_, hG, hB, hO, rfl, hb.1, hb.2⟩
 refine ⟨⟨q.a3, q.d3, q.b, q.off, q.d4, q.a5, q.d5, none, 0, q.l3, q.r, q.l5, []⟩, rfl, ⟨hl.w0, hl.w1, hl.w2, hl.i3, hl.i4, hl.i5, ⟨none, 0, rfl, ⟨by simp [vk], by simp [vk]⟩, Or.inl ⟨rfl, rfl⟩⟩, hl.n3, hl.n5, by simp⟩, ⟨hb.1, hb.2⟩, ?_, fun c hc => ?_, fun c hc => ?_, fun c hc => ?_, fun c hc => by cases hc⟩
 ·
  show ¬ (q.b < lo ∨ (H ≤ q.b ∧ q.b ≤ hi)); omega
 ·
  have := h3 c hc; show ¬ (c < lo ∨ (H ≤ c ∧ c ≤ hi)); omega
 ·
  have := hr c hc; show ¬ (c < lo ∨ (H ≤ c ∧ c ≤ hi)); omega
 have := h5 c hc; show ¬ (c < lo ∨ (H ≤ c ∧ c ≤ hi)); omega
theorem lM {W : World} {lo H hi : Nat} {v3 v4 v5 : Value} {a : Option Addr} {n d : Nat} {x : ay} {es : List bj} {rows : List (List Value)} {bls : List (List Nat)} (h : kC W lo H (fun c => c < lo ∨ (H ≤ c ∧ c ≤ hi)) [.int .i64 x.now, .int .i64 x.events, .int .i64 x.chain.ae, v3, v4, v5, .slice none 0 0] x) (hlo : lo ≤ H)
  (hHi : H ≤ hi) (hG : bU ab.ar W H 89 (.slice a n d) rows es bls) (hs : ∀ c ∈ bls.flatten, H ≤ c ∧ c ≠ hi) (ho : ∀ g, (Value.slice a n d).ownBlock = some g → g ≠ hi) (hn : es.length ≤ 9223372036854775807) : kC W lo H (fun c => c < lo ∨ c = hi) [.int .i64 x.now, .int .i64 x.events, .int .i64 x.chain.ae, v3, v4, v5, .slice a n d] ⟨x.now, x.events, x.chain, x.nodes, x.msgs, es⟩ := by
 have h0 := h.bar (G' := fun c => c < lo ∨ c = hi) (fun k _ hk => by
  rcases hk with q | q
  ·
   exact Or.inl q
  exact Or.inr (by omega))
 rcases hG.form with ⟨e, rfl⟩ | ⟨g, cap, e, hg, hgl, -⟩
 ·
  simp only [Value.slice.injEq] at e
  obtain ⟨rfl, rfl, rfl⟩ := e
  exact h0.oq (ms := []) (bl := []) ⟨none, 0, rfl, ⟨by simp, by simp⟩, Or.inl ⟨rfl, rfl⟩⟩ (fun c hc => by cases hc)
 simp only [Value.slice.injEq] at e
 obtain ⟨rfl, rfl, rfl⟩ := e
 rcases hG.reads hn with hr | ⟨rfl, hr⟩
 ·
  refine h0.oq hr (fun c hc => ?_)
  by_cases he : es = []
  ·
   simp only [if_pos he] at hc
   cases hc
  simp only [if_neg he] at hc
  have hc2 : H ≤ c ∧ c ≠ hi := by
   rcases List.mem_cons.1 hc with rfl | hc
   ·
    exact ⟨hg, ho _ rfl⟩
   exact hs c hc
  exact ⟨Or.inr hc2.1, by show ¬ (c < lo ∨ c = hi); omega⟩
 exact h0.oq hr (fun c hc => by cases hc)
theorem oG (b off cap : Nat) (ws : List aj) (s q : Int) (w : World) (h : (ab.sl ab.ag).Reads w [.slice (some ⟨b, off, none⟩) ws.length cap] ws)  (hn : ws.length ≤ 10000000) :
  Calls Tryz.prog 119 #[.slice (some ⟨b, off, none⟩) ws.length cap, .int .i64 s, .int .i64 q] w fun e w' => e = .returned (.int .i64 (ck ws s q)) ∧ w' = w := by
 have H := yh h
 clear h
 go_enter Tryz.func119, Tryz.ntmps119
 go_wp2_with fail
 go_loop [7] (fun i => ∃ k : Nat, k ≤ ws.length ∧ i = .int .i64 k ∧ (∀ j (hj : j < ws.length), j < k → ¬ (ws[j].aa = s ∧ ws[j].seq = q))) (fun i => ws.length - (intOf i).toNat)
 case atStart => exact ⟨0, Nat.zero_le _, rfl, fun j _ hj => by omega⟩
 case round =>
  obtain ⟨k, hk, rfl, hz⟩ := hrel
  by_cases hlt : k < ws.length
  ·
   obtain ⟨row, hc, hr⟩ := ab.bE (uh H) hlt
   obtain ⟨a2, d2, rfl, R2⟩ := aM hr
   have c3 : w.cell? ⟨b, off + k * 5 + 3, none⟩ = some (.int .i64 (ws[k]).aa) := hc 3 (by decide)
   have c4 : w.cell? ⟨b, off + k * 5 + 4, none⟩ = some (.int .i64 (ws[k]).seq) := hc 4 (by decide)
   have HAT : Hid (ws[k].aa = s ∧ ws[k].seq = q → ck ws s q = k + 1) := fun he => rQ hlt hz he
   have HZ2 : Hid (¬ (ws[k].aa = s ∧ ws[k].seq = q) → ∀ j (hj : j < ws.length), j < k + 1 → ¬ (ws[j].aa = s ∧ ws[j].seq = q)) := by
    intro h0 j hj hjk
    by_cases hjk2 : j < k
    ·
     exact hz j hj hjk2
    obtain rfl : j = k := by omega
    exact h0
   clear hc hr R2 hz
   generalize hx : ws[k] = x at *
   clear hx
   have hwr : IntKind.i64.wrap ((k : Int) + 1) = (k : Int) + 1 := by rw [IntKind.wrap_i64]; omega
   by_cases hs : x.aa = s
   ·
    have ds : (x.aa == s) = true := by simpa using hs
    by_cases hq : x.seq = q
    ·
     have dq : (x.seq == q) = true := by simpa using hq
     have HG := yh (uh HAT ⟨hs, hq⟩)
     clear HAT HZ2 hs hq
     go_wp2_with fail
     go_ret
     exact ⟨by rw [uh HG]; simp, rfl⟩
    have dq : (x.seq == q) = false := by simpa using hq
    have HZ := yh (uh HZ2 fun e => hq e.2)
    clear HAT HZ2 hs hq hwr
    go_wp2_with fail
    go_round
    case rel => exact ⟨k + 1, by omega, by go_num, uh HZ⟩
    case measure => simp [intOf]; omega
   have ds : (x.aa == s) = false := by simpa using hs
   have HZ := yh (uh HZ2 fun e => hs e.1)
   clear HAT HZ2 hs hwr
   go_wp2_with fail
   go_round
   case rel => exact ⟨k + 1, by omega, by go_num, uh HZ⟩
   case measure => simp [intOf]; omega
  obtain rfl : k = ws.length := by omega
  have HG : Hid (ck ws s q = 0) := ou fun j hj => hz j hj hj
  clear H hz
  go_wp2_with fail
  go_ret
  exact ⟨by rw [uh HG]; rfl, rfl⟩
theorem tW (v : Value) (ws : List aj) (s q : Int) (w : World) (h : (ab.sl ab.ag).Reads w [v] ws) (hn : ws.length ≤ 10000000) :
  Calls Tryz.prog 119 #[v, .int .i64 s, .int .i64 q] w fun e w' => e = .returned (.int .i64 (ck ws s q)) ∧ w' = w := by
 obtain ⟨ao, cap, rfl⟩ := aI h
 by_cases hp : 0 < ws.length
 ·
  obtain ⟨b, off, rfl, -⟩ := ab.aS h hp
  exact oG b off cap ws s q w h hn
 obtain rfl : ws = [] := List.eq_nil_of_length_eq_zero (by omega)
 clear h hn hp
 go_enter Tryz.func119, Tryz.ntmps119
 go_wp2_with fail
 refine wp_loop_rounds 1 ?_
 rw [rounds_succ]
 go_wp2_with fail
 go_ret
 exact ⟨rfl, rfl⟩
theorem gG {bR : Nat} {w1 : World} {base : Nat} {v : Value} {rows : List (List Value)} {xs : List aj} {bls : List (List Nat)} (hG : bU ab.ag w1 base 44 v rows xs bls) {row : List Value} {x : aj} {bl : List Nat} (hR : w1.heap[bR]? = some (.cells row.toArray 44 (0, 0))) (hl : ab.ag.bg w1 row x bl) (hbl : ∀ b ∈ bl, v.ownBlock ≠ some b) {ops : Array Oper} {o : Oper} {a : Act} {K : Act → World → Prop} {Q : Exit → Act → World → Prop} {E : Prop} (hgd : o.guard = none) (s y : Operand)
  (ho : o.op = .call { callee := .builtin .append, args := #[s, y], argTypes := #[61, 61] }) (hs : a.eval s = v) (hy : a.eval y = .slice (some ⟨bR, 0, none⟩) 1 1) (hn : xs.length + 1 ≤ 100000000) (hbase : base ≤ w1.heap.size)
  (h : ∀ g cap w', bU ab.ag w' base 44 (.slice (some ⟨g, 0, none⟩) (xs.length + 1) cap) (rows ++ [row]) (xs ++ [x]) (bls ++ [bl]) → Below base w1 w' → Ext (fun q => v.ownBlock = some q) w1 w' → g < w'.heap.size → w1.heap.size ≤ w'.heap.size → (v.ownBlock = some g ∨ w1.heap.size ≤ g) → K (a.put o.dst (.slice (some ⟨g, 0, none⟩) (xs.length + 1) cap)) w') :
  if Region.wanted o (yielded ops a.tmps) = true then Oper.wp Tryz.prog o a w1 K Q else E := by
 obtain ⟨i0, hi0, hz0, hz1, hz2⟩ := info_parts fQ
 obtain ⟨h1, hlen⟩ := iL hl
 refine step_append_lies _ hgd s y 61 ho base 44 i0 _ 5 56 Tryz.underlying61 hi0 hz0 hz1 hz2 rfl (by omega) v xs.length rows.flatten hs hG.own ⟨bR, 0, none⟩ 1 1 row hy hlen (World.news_of_block (cs := row.toArray) (t := 44) (fr := (0, 0)) hR) h1 (by omega) (by unfold maxLen; omega) (by omega) (by first | omega | (simp; omega)) w1.heap.size rfl ?_
 intro g cap w' h2 h3 h4 h5
 have hg := h3
 have hbw : Below base w1 w' := (Below.refl _ _).grown hg hbase (fun j hj => (hG.own.lt j hj).1)
 have hor : v.ownBlock = some g ∨ w1.heap.size ≤ g := by
  rcases h4 with h4 | h4
  ·
   exact Or.inl h4
  exact Or.inr (by rw [h4]; exact Nat.le_refl _)
 exact h g cap w' (hG.snoc hl hbl h2 hg hor) hbw ⟨hbw.os, hbw.tape, hbw.output, hbw.size, fun k hk hn => hg.block k hk (fun e => hn e.symm)⟩ h5 hbw.size hor
theorem jS {x : aj} (h : wF x = 0) : x.vec.length ≤ 3 := by
 obtain ⟨-, -, -, hk⟩ := bW h
 rcases hk with ⟨-, hv⟩ | ⟨-, hv⟩
 ·
  have := (cy hv).1; omega
 rw [hv]; simp
theorem me {x : aj} (h : wF x = 0) : (Lit.int .i64 x.kind).wf = true ∧ (Lit.int .i64 x.id).wf = true ∧ (Lit.int .i64 x.aa).wf = true ∧ (Lit.int .i64 x.seq).wf = true := by
 obtain ⟨hi, hs, hq, hk⟩ := bW h
 refine ⟨aP ?_, aP (by omega), aP (by omega), aP (by omega)⟩
 rcases hk with ⟨e, -⟩ | ⟨e, -⟩ <;> omega
theorem jC {w : World} {lo hi : Nat} : (ab.sl ab.ag).cr w [.slice none 0 0] [] lo hi := ⟨[], ⟨none, 0, rfl, by simp, Or.inl ⟨rfl, rfl⟩⟩, by simp⟩
theorem qN (v : Value) (ws : List aj) (b o : Nat) (a2 : Option Addr) (d2 : Nat) (x : aj) (w : World) (h : (ab.sl ab.ag).Reads w [v] ws) (hQ : dB #[.int .i64 x.kind, .int .i64 x.id, .slice a2 x.vec.length d2, .int .i64 x.aa, .int .i64 x.seq] w b o) (R2 : (ab.sl ab.int).Reads w [.slice a2 x.vec.length d2] x.vec) (hfw : aR ws = 0) (hf : wF x = 0) :
  Calls Tryz.prog 94 #[v, .pointer (some ⟨b, o, none⟩)] w fun e w' => ∃ (a : Option Addr) (n c : Nat), e = .returned (.tuple #[.slice a n c, .int .i64 (bF ws x).place, .int .i64 (bF ws x).code]) ∧ n = (bF ws x).writes.length ∧ (ab.sl ab.ag).cr w' [.slice a n c] (bF ws x).writes w.heap.size w'.heap.size ∧ Below w.heap.size w w' := by
 obtain ⟨hlen, hall⟩ := ei hfw
 have HVF : Hid (∀ y ∈ ws, y.vec.length ≤ 100000000) := fun y hy => Nat.le_trans (jS (hall y hy)) (by decide)
 have hd0 : Below w.heap.size w w.drew := (Below.refl _ _).drew
 have HS1 := yh (tW v ws x.aa x.seq w.drew (h.later hd0) (by omega))
 have HFW := yh hfw
 have HF := yh hf
 have HR := yh (h.later hd0)
 have HR2 := yh (R2.later hd0)
 have HB1 := yh hd0
 obtain ⟨ao, cap, rfl⟩ := aI h
 clear h R2 hfw hf hall hd0
 go_enter Tryz.func94, Tryz.ntmps94
 go_wp2_with fail
 refine wZz (fun w' => w' = w.drew) rfl (fun zq => ?_)
 refine tkH 0 zq ?_
 refine tkH 1 zq ?_
 refine tkH 2 zq ?_
 refine tkH 3 zq ?_
 refine tkJ 4 (v := ?va4) ?ha4 zq ?ra4
 case ha4 =>
  intro wS hSw
  have y3 : wS.cell? ⟨b, o + 3, none⟩ = some (.int .i64 x.aa) := by rw [hSw]; exact hQ.at 3 _ rfl
  have y4 : wS.cell? ⟨b, o + 4, none⟩ = some (.int .i64 x.seq) := by rw [hSw]; exact hQ.at 4 _ rfl
  clear hSw
  exact fZ
 refine tkH 5 zq ?_
 refine tkH 6 zq ?_
 refine tkH 7 zq ?_
 refine tkJ 8 (v := ?va8) ?ha8 zq ?ra8
 case ha8 =>
  intro wS hSw
  have y3 : wS.cell? ⟨b, o + 3, none⟩ = some (.int .i64 x.aa) := by rw [hSw]; exact hQ.at 3 _ rfl
  have y4 : wS.cell? ⟨b, o + 4, none⟩ = some (.int .i64 x.seq) := by rw [hSw]; exact hQ.at 4 _ rfl
  clear hSw
  exact fZ
 refine rdH 9 (fun K hK => ?_)
 go_simp
 go_at_call 119
 refine (uh HS1).mono ?_
 rintro e w3 ⟨rfl, rfl⟩
 try go_wp2_with fail
 refine hK.out _ _ rfl (fun zq => ?_)
 clear hK K
 try simp only [Act.put, pz, py, px]
 refine tkH 10 zq ?_
 refine dZ ?_
 clear zq HS1
 have hQ1 : dB #[.int .i64 x.kind, .int .i64 x.id, .slice a2 x.vec.length d2, .int .i64 x.aa, .int .i64 x.seq] w.drew b o := hQ.drew
 have HZ1 : Hid (w.heap.size ≤ w.drew.heap.size) := Nat.le_refl _
 clear hQ
 generalize w.drew = w1 at *
 by_cases hsn : ck ws x.aa x.seq = 0
 ·
  have hg : decide ((0 : Int) < (ck ws x.aa x.seq : Int)) = false := by simp [hsn]
  have HS2 := yh (pE _ ws x.aa w1.drew ((uh HR).later (Below.refl _ _).drew) (by omega))
  have HSN := yh hsn
  rw [hsn] at hg
  rw [hsn]
  clear hsn
  go_wp2_with fail
  refine wZz (fun w' => w' = w1.drew) rfl (fun zq => ?_)
  refine tkH 0 zq ?_
  refine tkH 1 zq ?_
  refine tkH 2 zq ?_
  refine tkJ 3 (v := ?vb3) ?hb3 zq ?rb3
  case hb3 =>
   intro wS hSw
   have y3 : wS.cell? ⟨b, o + 3, none⟩ = some (.int .i64 x.aa) := by rw [hSw]; exact hQ1.at 3 _ rfl
   have y4 : wS.cell? ⟨b, o + 4, none⟩ = some (.int .i64 x.seq) := by rw [hSw]; exact hQ1.at 4 _ rfl
   clear hSw
   exact fZ
  refine tkH 4 zq ?_
  refine tkH 5 zq ?_
  refine tkH 6 zq ?_
  refine tkH 7 zq ?_
  refine tkJ 8 (v := ?vb8) ?hb8 zq ?rb8
  case hb8 =>
   intro wS hSw
   have y3 : wS.cell? ⟨b, o + 3, none⟩ = some (.int .i64 x.aa) := by rw [hSw]; exact hQ1.at 3 _ rfl
   have y4 : wS.cell? ⟨b, o + 4, none⟩ = some (.int .i64 x.seq) := by rw [hSw]; exact hQ1.at 4 _ rfl
   clear hSw
   exact fZ
  refine rdH 9 (fun K hK => ?_)
  go_simp
  go_at_call 154
  refine (uh HS2).mono ?_
  rintro e w3 ⟨rfl, rfl⟩
  try go_wp2_with fail
  refine hK.out _ _ rfl (fun zq => ?_)
  clear hK K
  try simp only [Act.put, pz, py, px]
  refine tkH 10 zq ?_
  refine dZ ?_
  clear zq HS2
  have hQ2 : dB #[.int .i64 x.kind, .int .i64 x.id, .slice a2 x.vec.length d2, .int .i64 x.aa, .int .i64 x.seq] w1.drew b o := hQ1.drew
  have HB2 := yh (uh HB1).drew
  have HR3 := yh ((uh HR).later (Below.refl _ _).drew)
  have HR4 := yh ((uh HR2).later (Below.refl _ _).drew)
  have HZ2 : Hid (w.heap.size ≤ w1.drew.heap.size) := uh HZ1
  clear hQ1 HB1 HR HR2 HZ1
  generalize w1.drew = w2 at *
  by_cases c1 : x.seq < aT ws x.aa
  ·
   have hd : decide (x.seq < aT ws x.aa) = true := by simpa using c1
   have HG : Hid (bF ws x = ⟨7, false, 0, []⟩) := gi (uh HFW) (uh HF) (uh HSN) c1
   clear c1 HSN
   rw [hd]
   go_wp2_with fail
   refine bodyPost_ret (v := .tuple #[.slice none 0 0, .int .i64 0, .int .i64 7]) (by simp [results, Tryz.results94, go_sem]) rfl ?_
   rw [uh HG]
   exact ⟨_, _, _, rfl, rfl, jC, uh HB2⟩
  have hd : decide (x.seq < aT ws x.aa) = false := by simpa using c1
  rw [hd]
  by_cases c2 : 200 ≤ ws.length
  ·
   have hd2 : decide ((200 : Int) ≤ (ws.length : Int)) = true := by simp; omega
   have HG : Hid (bF ws x = ⟨2, false, 0, []⟩) := fy (uh HFW) (uh HF) (uh HSN) c1 c2
   clear c1 c2 HSN
   go_wp2_with fail
   refine bodyPost_ret (v := .tuple #[.slice none 0 0, .int .i64 0, .int .i64 2]) (by simp [results, Tryz.results94, go_sem]) rfl ?_
   rw [uh HG]
   exact ⟨_, _, _, rfl, rfl, jC, uh HB2⟩
  have hd2 : decide ((200 : Int) ≤ (ws.length : Int)) = false := by simp; omega
  have HG : Hid (bF ws x = ⟨0, true, (ws.length : Int) + 1, ws ++ [x]⟩) := gn (uh HFW) (uh HF) (uh HSN) c1 c2
  clear c1 c2 HSN
  have HRW := HR3
  have y0 : w2.cell? ⟨b, o, none⟩ = some (.int .i64 x.kind) := hQ2.at 0 _ rfl
  have y1 : w2.cell? ⟨b, o + 1, none⟩ = some (.int .i64 x.id) := hQ2.at 1 _ rfl
  have y2 : w2.cell? ⟨b, o + 2, none⟩ = some (.slice a2 x.vec.length d2) := hQ2.at 2 _ rfl
  have y3 : w2.cell? ⟨b, o + 3, none⟩ = some (.int .i64 x.aa) := hQ2.at 3 _ rfl
  have y4 : w2.cell? ⟨b, o + 4, none⟩ = some (.int .i64 x.seq) := hQ2.at 4 _ rfl
  have hbw : b < w2.heap.size := hQ2.lt
  have nb : Below w2.heap.size w2 (w2.alloc (.cells #[.int .i64 x.kind, .int .i64 x.id, .slice a2 x.vec.length d2, .int .i64 x.aa, .int .i64 x.seq] 44)) := (Below.refl _ _).alloc (Nat.le_refl _) _
  have HQB := yh (hQ2.ai nb)
  have HQ4 : Hid (aA 0 #[.int .i64 x.kind, .int .i64 x.id, .slice a2 x.vec.length d2, .int .i64 x.aa, .int .i64 x.seq] 44 (w2.alloc (.cells #[.int .i64 x.kind, .int .i64 x.id, .slice a2 x.vec.length d2, .int .i64 x.aa, .int .i64 x.seq] 44)) w2.heap.size) := aD (Nat.zero_le _)
  have HI := yh (iF _ x.vec _ (ab.bc ((uh HR4).later nb)) (Nat.le_trans (jS (uh HF)) (by decide)))
  have HWV := yh (ab.bc (uh HR4)).wf
  have HRA := yh ((uh HR3).later nb)
  have HBW := yh nb
  have HBA := yh ((uh HB2).trans (nb.mono (uh HB2).size))
  clear nb HR3 HR4 HB2 hQ2
  go_upto_region 9 with fail
  clear y0 y1 y2 y3 y4
  generalize hw4 : w2.alloc (.cells #[.int .i64 x.kind, .int .i64 x.id, .slice a2 x.vec.length d2, .int .i64 x.aa, .int .i64 x.seq] 44) = WA at *
  clear hw4
  have y2 : WA.cell? ⟨b, o + 2, none⟩ = some (.slice a2 x.vec.length d2) := (uh HQB).at 2 _ rfl
  go_wp2_with fail
  clear y2 HQB
  refine (uh HI).mono ?_
  rintro e w3 ⟨v3, rfl, hO, hb3⟩
  have hO2 := ab.eM (uh HWV) (by have := jS (uh HF); omega) hO
  obtain ⟨ao2, cp2, rfl⟩ := aI hO2.reads
  obtain ⟨bl2, ⟨hl2, -, -⟩, hr2⟩ := hO2
  have bI := (uh HQ4).ai hb3
  have z2 : w3.cell? ⟨w2.heap.size, 2, none⟩ = some (.slice a2 x.vec.length d2) := bI.at 2 _ rfl
  have f2 := bI.soft 2
  have l2 := bI.lt
  have hqA : w2.heap.size < WA.heap.size := (uh HQ4).lt
  have hE : Ext (fun c => c = w2.heap.size) w3 (w3.setCell ⟨w2.heap.size, 2, none⟩ (.slice ao2 x.vec.length cp2)) := (Ext.refl (fun c => c = w2.heap.size) w3).setCell ⟨w2.heap.size, 2, none⟩ _ rfl
  have HL5 : Hid (ab.ag.bg (w3.setCell ⟨w2.heap.size, 2, none⟩ (.slice ao2 x.vec.length cp2)) [.int .i64 x.kind, .int .i64 x.id, .slice ao2 x.vec.length cp2, .int .i64 x.aa, .int .i64 x.seq] x bl2) := ch.2 ⟨ao2, cp2, bl2, rfl, rfl, (me (uh HF)).1, (me (uh HF)).2.1, (ab.sl ab.int).ai hl2 (fun c hc => hE.block c ((ab.sl ab.int).lt hl2 c hc) (by have := (hr2 c hc).1; omega)), (me (uh HF)).2.2.1, (me (uh HF)).2.2.2⟩
  have HLB : Hid (∀ c ∈ bl2, w.heap.size ≤ c) := fun c hc => by have := (hr2 c hc).1; have := uh HZ2; omega
  have hQ5 : aA 0 #[.int .i64 x.kind, .int .i64 x.id, .slice ao2 x.vec.length cp2, .int .i64 x.aa, .int .i64 x.seq] 44 (w3.setCell ⟨w2.heap.size, 2, none⟩ (.slice ao2 x.vec.length cp2)) w2.heap.size := bI.set 2 (.slice ao2 x.vec.length cp2)
  have hR5a := (uh HRA).later hb3
  have HR5 : Hid ((ab.sl ab.ag).Reads (w3.setCell ⟨w2.heap.size, 2, none⟩ (.slice ao2 x.vec.length cp2)) [.slice ao ws.length cap] ws) := by
   obtain ⟨blR, lR⟩ := uh HRW
   refine ⟨blR, (ab.sl ab.ag).ai lR fun c hc => ?_⟩
   have hcl := (ab.sl ab.ag).lt lR c hc
   exact (hE.block c (by have := (uh HBW).size; have := hb3.size; omega) (by omega)).trans ((hb3.block c (by omega)).trans ((uh HBW).block c hcl))
  have HB5 : Hid (Below w.heap.size w (w3.setCell ⟨w2.heap.size, 2, none⟩ (.slice ao2 x.vec.length cp2))) := ((uh HBA).trans (hb3.mono (uh HBA).size)).setCell (by simpa using uh HZ2) _
  have HZ5 : Hid (w.heap.size ≤ (w3.setCell ⟨w2.heap.size, 2, none⟩ (.slice ao2 x.vec.length cp2)).heap.size) := (uh HB5).size
  clear hO hb3 hl2 hr2 bI hE HI HQ4 HRA HBA hR5a
  go_upto_region 10 with fail
  clear z2 f2 l2
  generalize hw5 : w3.setCell ⟨w2.heap.size, 2, none⟩ (.slice ao2 x.vec.length cp2) = w5 at *
  clear hw5
  have hwr : IntKind.i64.wrap ((ws.length : Int) + 1) = (ws.length : Int) + 1 := by rw [IntKind.wrap_i64]; omega
  have HDZ : Hid (w5.heap.size ≤ w5.drew.heap.size) := Nat.le_refl _
  generalize w2 = w4 at *
  refine wZz (fun w' => Below w5.heap.size w5 w') (Below.refl _ _).drew (fun zq => ?_)
  generalize w5.drew = wD at zq HDZ ⊢
  refine tkH 0 zq ?_
  refine tkJ 2 (v := ?vc2_2) ?hc2_2 zq ?rc2_2
  case hc2_2 =>
   intro wS hSw
   have y0 : wS.cell? ⟨w4.heap.size, 0, none⟩ = some (.int .i64 x.kind) := (hQ5.ai hSw).at 0 _ rfl
   have y1 : wS.cell? ⟨w4.heap.size, 1, none⟩ = some (.int .i64 x.id) := (hQ5.ai hSw).at 1 _ rfl
   have y2 : wS.cell? ⟨w4.heap.size, 2, none⟩ = some (.slice ao2 x.vec.length cp2) := (hQ5.ai hSw).at 2 _ rfl
   have y3 : wS.cell? ⟨w4.heap.size, 3, none⟩ = some (.int .i64 x.aa) := (hQ5.ai hSw).at 3 _ rfl
   have y4 : wS.cell? ⟨w4.heap.size, 4, none⟩ = some (.int .i64 x.seq) := (hQ5.ai hSw).at 4 _ rfl
   clear hSw
   exact fZ
  refine tkH 5 zq ?_
  refine tkH 6 zq ?_
  refine tkH 7 zq ?_
  refine wpAnyH_ready (rs := [1, 3]) (by kernel_rfl) (by simp) ?_
  refine AllReadyH.cons (o := ⟨some 48, .call { callee := .value (.func 153), args := #[.tmp 47], argTypes := #[61] }, 61, "l05_session.go:71", #[⟨0, .data⟩], none⟩) rfl (fun K hK => ?o1) (AllReadyH.cons (o := ⟨some 50, .buildSlice 61 1 #[(0, .tmp 49)], 61, "l05_session.go:71", #[⟨2, .data⟩], none⟩) rfl (fun K hK => ?o3) AllReadyH.nil)
  case o1 =>
   go_simp
   go_at_call 153
   refine (lZ _ ws _ ((uh HR5).later zq) (by omega) (uh HVF)).mono ?_
   rintro e w6 ⟨v6, rfl, ⟨rows6, bls6, hG6, hS6⟩, hb6⟩
   try go_wp2_with fail
   refine hK.out _ _ (zq.trans (hb6.mono zq.size)) (fun zq => ?_)
   clear hK K
   try simp only [Act.put, pz, py, px]
   refine rdH 3 (fun K hK => ?_)
   have hH6 := zq
   go_simp
   refine hK.out _ _ (zq.alloc zq.size _) (fun zq => ?_)
   clear hK K
   try simp only [Act.put, pz, py, px]
   refine rdH 4 (fun K hK => ?_)
   refine fj hG6 (row := [.int .i64 x.kind, .int .i64 x.id, .slice ao2 x.vec.length cp2, .int .i64 x.aa, .int .i64 x.seq]) (x := x) (bl := bl2) (ab.ag.ai (uh HL5) fun c hc => hH6.block c (ab.ag.lt (uh HL5) c hc)) (fun c hc e => by have h1 := (hG6.own.lt c e).1; have h2 := ab.ag.lt (uh HL5) c hc; have := uh HDZ; omega) rfl _ _ rfl rfl rfl (by omega) (by have := hH6.size; have := hb6.size; omega) ?_
   rintro g9 cp9 w9 hG9 hb9 hE9 hg9 hz9 hor9
   refine hK.out _ _ (hH6.trans (hb9.mono (uh HDZ))) (fun zq => ?_)
   clear hK K
   try simp only [Act.put, pz, py, px]
   refine tkH 8 zq ?_
   refine tkH 9 zq ?_
   refine tkH 10 zq ?_
   refine dZ ?_
   have HX := yh hH6
   clear hH6
   have HF9 : Hid (∀ c ∈ (bls6 ++ [bl2]).flatten, w.heap.size ≤ c) := by
    intro c hc
    rw [List.flatten_append] at hc
    rcases List.mem_append.1 hc with hc | hc
    ·
     have := hS6 c hc; have := uh HDZ; have := uh HZ5; omega
    have := uh HLB c (by simpa using hc); omega
   have HB9 := yh ((uh HB5).trans (zq.mono (uh HB5).size))
   have HG9 := yh (hG9.lower (b' := w.heap.size) (by have := uh HDZ; have := uh HZ5; omega))
   clear hG9 hb9 hE9 hg9 hz9 hor9 zq hG6 hS6 hb6 HX
   go_wp2_with fail
   refine bodyPost_ret (v := .tuple #[.slice (some ⟨g9, 0, none⟩) (ws.length + 1) cp9, .int .i64 ((ws.length : Int) + 1), .int .i64 0]) (by simp [results, Tryz.results94, go_sem]) rfl ?_
   rw [uh HG]
   refine ⟨_, _, _, rfl, by simp, ?_, uh HB9⟩
   have := (uh HG9).fa (by simp; omega) (uh HF9)
   simpa using this
  case o3 =>
   have hH6 := zq
   go_simp
   refine hK.out _ _ (zq.alloc zq.size _) (fun zq => ?_)
   clear hK K
   try simp only [Act.put, pz, py, px]
   refine rdH 1 (fun K hK => ?_)
   have hR6 : (wD.alloc (.cells #[.int .i64 x.kind, .int .i64 x.id, .slice ao2 x.vec.length cp2, .int .i64 x.aa, .int .i64 x.seq] 44)).heap[wD.heap.size]? = some (.cells #[.int .i64 x.kind, .int .i64 x.id, .slice ao2 x.vec.length cp2, .int .i64 x.aa, .int .i64 x.seq] 44 (0, 0)) := heap_alloc_new wD _
   go_simp
   go_at_call 153
   refine (lZ _ ws _ ((uh HR5).later zq) (by omega) (uh HVF)).mono ?_
   rintro e w6 ⟨v6, rfl, ⟨rows6, bls6, hG6, hS6⟩, hb6⟩
   try go_wp2_with fail
   have hR7 := (hb6.block _ (lt_of_block hR6)).trans hR6
   have hH7 := zq.trans (hb6.mono zq.size)
   refine hK.out _ _ (zq.trans (hb6.mono zq.size)) (fun zq => ?_)
   clear hK K
   try simp only [Act.put, pz, py, px]
   refine rdH 4 (fun K hK => ?_)
   refine gG hG6 (bR := wD.heap.size) (row := [.int .i64 x.kind, .int .i64 x.id, .slice ao2 x.vec.length cp2, .int .i64 x.aa, .int .i64 x.seq]) (x := x) (bl := bl2) hR7 (ab.ag.ai (uh HL5) fun c hc => hH7.block c (ab.ag.lt (uh HL5) c hc)) (fun c hc e => by have h1 := (hG6.own.lt c e).1; have h2 := ab.ag.lt (uh HL5) c hc; have h3 := hH6.size; have h4 : (wD.alloc (.cells #[.int .i64 x.kind, .int .i64 x.id, .slice ao2 x.vec.length cp2, .int .i64 x.aa, .int .i64 x.seq] 44)).heap.size = wD.heap.size + 1 := (by simp); omega) rfl _ _ rfl rfl rfl (by omega) hb6.size ?_
   rintro g9 cp9 w9 hG9 hb9 hE9 hg9 hz9 hor9
   refine hK.out _ _ (hH7.trans (hb9.mono (by have h3 := hH6.size; have h4 : (wD.alloc (.cells #[.int .i64 x.kind, .int .i64 x.id, .slice ao2 x.vec.length cp2, .int .i64 x.aa, .int .i64 x.seq] 44)).heap.size = wD.heap.size + 1 := (by simp); omega))) (fun zq => ?_)
   clear hK K
   try simp only [Act.put, pz, py, px]
   refine tkH 8 zq ?_
   refine tkH 9 zq ?_
   refine tkH 10 zq ?_
   refine dZ ?_
   have HX := yh hH6
   have h4 : (wD.alloc (.cells #[.int .i64 x.kind, .int .i64 x.id, .slice ao2 x.vec.length cp2, .int .i64 x.aa, .int .i64 x.seq] 44)).heap.size = wD.heap.size + 1 := (by simp)
   have h3 := hH6.size
   clear hH6 hR6 hR7 hH7
   have HF9 : Hid (∀ c ∈ (bls6 ++ [bl2]).flatten, w.heap.size ≤ c) := by
    intro c hc
    rw [List.flatten_append] at hc
    rcases List.mem_append.1 hc with hc | hc
    ·
     have := hS6 c hc; have := uh HZ5; omega
    have := uh HLB c (by simpa using hc); omega
   have HB9 := yh ((uh HB5).trans (zq.mono (uh HB5).size))
   have HG9 := yh (hG9.lower (b' := w.heap.size) (by have := uh HZ5; omega))
   clear hG9 hb9 hE9 hg9 hz9 hor9 zq hG6 hS6 hb6 HX
   go_wp2_with fail
   refine bodyPost_ret (v := .tuple #[.slice (some ⟨g9, 0, none⟩) (ws.length + 1) cp9, .int .i64 ((ws.length : Int) + 1), .int .i64 0]) (by simp [results, Tryz.results94, go_sem]) rfl ?_
   rw [uh HG]
   refine ⟨_, _, _, rfl, by simp, ?_, uh HB9⟩
   have := (uh HG9).fa (by simp; omega) (uh HF9)
   simpa using this
 have HG : Hid (bF ws x = ⟨0, false, ck ws x.aa x.seq, ws⟩) := fB (uh HFW) (uh HF) hsn
 have HC := yh (lZ _ ws w1 (uh HR) (by omega) (uh HVF))
 generalize ck ws x.aa x.seq = k9 at *
 obtain ⟨m9, rfl⟩ : ∃ m, k9 = m + 1 := ⟨k9 - 1, by omega⟩
 have hg : decide ((0 : Int) < (m9 : Int) + 1) = true := decide_eq_true (by omega)
 clear hsn hQ1
 go_wp2_with fail
 refine (uh HC).mono ?_
 rintro e w4 ⟨v4, rfl, ⟨rows4, bls4, hG4, hS4⟩, hb4⟩
 have hLI := hG4.fa (by omega) hS4
 obtain ⟨ao9, cp9, rfl⟩ := aI hLI.reads
 have HL9 := yh (hLI.mono (lo' := w.heap.size) (uh HZ1) (Nat.le_refl _))
 have HB9 := yh ((uh HB1).trans (hb4.mono (uh HB1).size))
 clear hG4 hS4 hb4 hLI HC
 go_wp2_with fail
 refine bodyPost_ret (v := .tuple #[.slice ao9 ws.length cp9, .int .i64 ((m9 : Int) + 1), .int .i64 0]) (by simp [results, Tryz.results94, go_sem]) rfl ?_
 rw [uh HG]
 exact ⟨_, _, _, by simp, rfl, uh HL9, uh HB9⟩
def aU (r : dX) : Int := if r.code = 0 then (if 40 < r.writes.length then 2 else 0) else r.code
theorem oR {x : aV} {y : aj} (h : cV x = 0) (hc : aU (bF x.writes y) ≠ 0) : dp x y = fp (aU (bF x.writes y)) := by
 rw [dp, if_pos h]
 unfold aU at hc ⊢
 by_cases h1 : (bF x.writes y).code = 0
 ·
  rw [if_pos h1] at hc ⊢
  by_cases h2 : 40 < (bF x.writes y).writes.length
  ·
   rw [if_pos h2] at hc ⊢; rw [if_pos h1, if_pos h2]
  rw [if_neg h2] at hc; exact absurd rfl hc
 rw [if_neg h1] at hc ⊢; rw [if_neg h1]
theorem sV {x : aV} {y : aj} (h : cV x = 0) (hc : aU (bF x.writes y) = 0) : dp x y = ⟨0, (bF x.writes y).place, ca x (bF x.writes y).writes⟩ := by
 rw [dp, if_pos h]
 unfold aU at hc
 by_cases h1 : (bF x.writes y).code = 0
 ·
  rw [if_pos h1] at hc
  by_cases h2 : 40 < (bF x.writes y).writes.length
  ·
   rw [if_pos h2] at hc; exact absurd hc (by decide)
  rw [if_pos h1, if_neg h2]
 rw [if_neg h1] at hc; exact absurd hc h1
theorem pV {ws : List aj} {y : aj} (h : aR ws = 0) : (0 ≤ (bF ws y).code ∧ (bF ws y).code ≤ 10) ∧ (0 ≤ (bF ws y).place ∧ (bF ws y).place ≤ 1000) := by
 have hl := (ei h).1
 have hv := fo y
 by_cases hf : wF y = 0
 ·
  by_cases hs : ck ws y.aa y.seq = 0
  ·
   by_cases c : y.seq < aT ws y.aa
   ·
    rw [gi h hf hs c]; simp
   by_cases c2 : 200 ≤ ws.length
   ·
    rw [fy h hf hs c c2]; simp
   rw [gn h hf hs c c2]; simp only; omega
  have := nJ ws y.aa y.seq
  rw [fB h hf hs]; simp only; omega
 rw [nO h hf]; simp only; omega
theorem nr {ws : List aj} {y : aj} (h : aR ws = 0) : 0 ≤ aU (bF ws y) ∧ aU (bF ws y) ≤ 10 := by
 have := (pV (y := y) h).1
 unfold aU
 split
 ·
  split <;> omega
 omega
theorem sd {ws : List aj} {y : aj} (hfw : aR ws = 0) (hf : wF y = 0) : (bF ws y).writes.length ≤ 201 := by
 have hlen := (ei hfw).1
 by_cases hs : ck ws y.aa y.seq = 0
 ·
  by_cases c : y.seq < aT ws y.aa
  ·
   rw [gi hfw hf hs c]; simp
  by_cases c2 : 200 ≤ ws.length
  ·
   rw [fy hfw hf hs c c2]; simp
  rw [gn hfw hf hs c c2]; simp; omega
 rw [fB hfw hf hs]; simp only; omega
theorem tI (bn on yb yo : Nat) (a6 : Option Addr) (d6 : Nat) (a2 : Option Addr) (d2 : Nat) (ws : List aj) (y : aj) (w : World) (hX : w.cell? ⟨bn, on + 4, none⟩ = some (.slice a6 ws.length d6)) (hbn : bn < w.heap.size) (hfr : ∀ q, w.frozen? ⟨bn, q, none⟩ = false) (hY : dB #[.int .i64 y.kind, .int .i64 y.id, .slice a2 y.vec.length d2, .int .i64 y.aa, .int .i64 y.seq] w yb yo) (R4 : (ab.sl ab.ag).Reads w [.slice a6 ws.length d6] ws) (R2 : (ab.sl ab.int).Reads w [.slice a2 y.vec.length d2] y.vec) (hfw : aR ws = 0) (hf : wF y = 0) :
  Calls Tryz.prog 38 #[.pointer (some ⟨bn, on, none⟩), .pointer (some ⟨yb, yo, none⟩)] w fun e w' => (aU (bF ws y) ≠ 0 ∧ e = .returned (.tuple #[.int .i64 0, .int .i64 (aU (bF ws y))]) ∧ Below w.heap.size w w') ∨ (aU (bF ws y) = 0 ∧ e = .returned (.tuple #[.int .i64 (bF ws y).place, .int .i64 0]) ∧ ∃ (w1 : World) (a : Option Addr) (n c : Nat), w' = w1.setCell ⟨bn, on + 4, none⟩ (.slice a n c) ∧ n = (bF ws y).writes.length ∧ (ab.sl ab.ag).cr w1 [.slice a n c] (bF ws y).writes w.heap.size w1.heap.size ∧ Below w.heap.size w w1) := by
 have HL := yh (qN _ ws yb yo a2 d2 y w R4 hY R2 hfw hf)
 have HAL : Hid ((bF ws y).writes.length ≤ 201) := sd hfw hf
 have HX := yh hX
 have HFR := yh hfr
 clear hY R4 R2 hfw hf hfr
 generalize hr : bF ws y = r at *
 clear hr
 go_enter Tryz.func38, Tryz.ntmps38
 go_wp2_with fail
 refine (uh HL).mono ?_
 rintro e w1 ⟨a, n, c, rfl, hn, O, hb⟩
 have x4 := (hb.cell (p := ⟨bn, on + 4, none⟩) hbn).trans (uh HX)
 have xl1 : bn < w1.heap.size := Nat.lt_of_lt_of_le hbn hb.size
 have xf : ∀ q, w1.frozen? ⟨bn, q, none⟩ = false := fun q => by rw [frozen_of_heap (hb.block bn hbn)]; exact uh HFR q
 have HB := yh hb
 have HO := yh O
 have hnl : n ≤ 201 := by rw [hn]; exact uh HAL
 have HN := yh hn
 clear hb O hn hX HX HFR HL hbn
 by_cases hc : r.code = 0
 ·
  rw [hc]
  by_cases h40 : 40 < n
  ·
   have HT : Hid (aU r = 2) := by show aU r = 2; rw [aU, if_pos hc, if_pos (by rw [← uh HN]; exact h40)]
   have hd : decide ((40 : Int) < (n : Int)) = true := by simp; omega
   clear hc
   go_wp2_with fail
   refine bodyPost_ret (v := .tuple #[.int .i64 0, .int .i64 2]) (by simp [results, Tryz.results38, go_sem]) rfl ?_
   rw [uh HT]
   exact Or.inl ⟨by decide, rfl, uh HB⟩
  have HT : Hid (aU r = 0) := by show aU r = 0; rw [aU, if_pos hc, if_neg (by rw [← uh HN]; exact h40)]
  have hd : decide ((40 : Int) < (n : Int)) = false := by simp; omega
  clear hc
  go_wp2_with fail
  refine bodyPost_ret (v := .tuple #[.int .i64 r.place, .int .i64 0]) (by simp [results, Tryz.results38, go_sem]) rfl ?_
  rw [uh HT]
  exact Or.inr ⟨rfl, rfl, w1, a, n, c, rfl, uh HN, uh HO, uh HB⟩
 have HT : Hid (aU r = r.code) := by show aU r = r.code; rw [aU, if_neg hc]
 have HC := yh hc
 have hd : (r.code != 0) = true := by simpa using hc
 clear hc
 generalize r.code = cc at *
 go_wp2_with fail
 refine bodyPost_ret (v := .tuple #[.int .i64 0, .int .i64 cc]) (by simp [results, Tryz.results38, go_sem]) rfl ?_
 rw [uh HT]
 exact Or.inl ⟨uh HC, rfl, uh HB⟩
theorem rW {x : bQ} (h : (decide (1 ≤ x.ae) && decide (x.ae ≤ 999)) = false) : aX x = 3 := by
 rw [aX, if_neg]
 simpa using h
theorem td {x : bQ} (h : (decide (1 ≤ x.ae) && decide (x.ae ≤ 999)) = true) (hn : x.ids.length < 1 ∨ 5 < x.ids.length) : aX x = 2 := by
 rw [aX, if_pos (by simpa using h), if_neg (by omega)]
theorem uP {x : bQ} (h : (decide (1 ≤ x.ae) && decide (x.ae ≤ 999)) = true) (hn : ¬ x.ids.length < 1) (hm : ¬ 5 < x.ids.length) : aX x = fW (x.ids.take 0) (x.ids.drop 0) := by
 rw [aX, if_pos (by simpa using h), if_pos (by omega)]
 simp
def mR (w : World) (b o : Nat) (v : Value) (x : bQ) : Prop := w.cell? ⟨b, o, none⟩ = some (.int .i64 x.ae) ∧ w.cell? ⟨b, o + 1, none⟩ = some v
theorem oZ (b o : Nat) (a : Option Addr) (d : Nat) (x : bQ) (id : Int) (w : World) (hX : mR w b o (.slice a x.ids.length d) x) (R : (ab.sl ab.int).Reads w [.slice a x.ids.length d] x.ids) :
  Calls Tryz.prog 92 #[.pointer (some ⟨b, o, none⟩), .int .i64 id] w fun e w' => e = .returned (.int .i64 (bK x.ids id)) ∧ w' = w := by
 have x1 := hX.2
 have xl : b < w.heap.size := World.block_lt_of_cell? _ _ x1
 have hbig := R.et
 have H := yh R
 clear hX R
 generalize x.ids = ids at *
 go_enter Tryz.func92, Tryz.ntmps92
 go_wp2_with fail
 go_loop [5] (fun i => ∃ k : Nat, k ≤ ids.length ∧ i = .int .i64 k ∧ (∀ j (hj : j < ids.length), j < k → ids[j] ≠ id)) (fun i => ids.length - (intOf i).toNat)
 case atStart => exact ⟨0, Nat.zero_le _, rfl, fun j _ h => by omega⟩
 case round =>
  obtain ⟨k, hk, rfl, hz⟩ := hrel
  by_cases hlt : k < ids.length
  ·
   obtain ⟨b2, off, rfl, -⟩ := ab.aS (uh H) (by omega)
   have c1 := eB (uh H) hlt
   cases hq : (ids[k] == id)
   ·
    have HZ : Hid (∀ j (hj : j < ids.length), j < k + 1 → ids[j] ≠ id) := fun j hj hjk => by
     by_cases h2 : j < k
     ·
      exact hz j hj h2
     obtain rfl : j = k := by omega
     simpa using hq
    clear hz
    generalize ids[k] = z at *
    go_wp2_with fail
    go_round
    case rel => exact ⟨k + 1, by omega, by go_num, uh HZ⟩
    case measure => simp [intOf]; omega
   have HP := yh (iH hlt (by simpa using hq) (fun j hj => hz j (by omega) hj))
   clear hz
   generalize ids[k] = z at *
   go_wp2_with fail
   go_ret
   exact ⟨by rw [uh HP]; rfl, rfl⟩
  obtain rfl : k = ids.length := by omega
  have HP := yh (jr (id := id) (fun j hj => hz j hj hj))
  clear hz
  go_wp2_with fail
  go_ret
  exact ⟨by rw [uh HP]; rfl, rfl⟩
theorem qh (b o : Nat) (a : Option Addr) (d : Nat) (x : bQ) (w : World) (hX : mR w b o (.slice a x.ids.length d) x) (R : (ab.sl ab.int).Reads w [.slice a x.ids.length d] x.ids) :
  Calls Tryz.prog 85 #[.pointer (some ⟨b, o, none⟩)] w fun e w' => e = .returned (.int .i64 (aX x)) ∧ w' = w := by
 have x0 := hX.1
 have x1 := hX.2
 have xl : b < w.heap.size := World.block_lt_of_cell? _ _ x1
 have hbig := R.et
 have HX := yh hX
 have H := yh R
 clear hX R
 go_enter Tryz.func85, Tryz.ntmps85
 go_wp2_with fail
 refine (fu x.ae 1 999 w).mono ?_
 rintro e w1 ⟨rfl, h1⟩
 subst w1
 cases d1 : (decide (1 ≤ x.ae) && decide (x.ae ≤ 999))
 ·
  have HF := yh (rW d1)
  clear d1
  go_wp2_with fail
  go_ret
  exact ⟨by rw [uh HF]; rfl, rfl⟩
 by_cases hn : x.ids.length < 1
 ·
  have HF := yh (td d1 (Or.inl hn))
  have hd : decide ((x.ids.length : Int) < 1) = true := by simp; omega
  clear d1
  go_wp2_with fail
  go_ret
  exact ⟨by rw [uh HF]; rfl, rfl⟩
 have hd : decide ((x.ids.length : Int) < 1) = false := by simp; omega
 by_cases hm : 5 < x.ids.length
 ·
  have HF := yh (td d1 (Or.inr hm))
  have hd2 : decide ((5 : Int) < (x.ids.length : Int)) = true := by simp; omega
  clear d1
  go_wp2_with fail
  go_ret
  exact ⟨by rw [uh HF]; rfl, rfl⟩
 have HF := yh (uP d1 hn hm)
 have hd2 : decide ((5 : Int) < (x.ids.length : Int)) = false := by simp; omega
 clear d1
 go_wp2_with fail
 clear hd hd2
 go_loop [3] (fun i => ∃ k : Nat, k ≤ x.ids.length ∧ i = .int .i64 k ∧ aX x = fW (x.ids.take k) (x.ids.drop k)) (fun i => x.ids.length - (intOf i).toNat)
 case atStart => exact ⟨0, Nat.zero_le _, rfl, uh HF⟩
 case round =>
  obtain ⟨k, hk, rfl, hz⟩ := hrel
  clear HF
  by_cases hlt : k < x.ids.length
  ·
   rw [lT x.ids k hlt] at hz
   have hself := nN hlt
   obtain ⟨b2, off, rfl, -⟩ := ab.aS (uh H) (by omega)
   have c1 := eB (uh H) hlt
   have HP := yh (oZ b o (some ⟨b2, off, none⟩) d x x.ids[k] w (uh HX) (uh H))
   have hdl : decide ((k : Int) < (x.ids.length : Int)) = true := by simp; omega
   have HZ := yh hz
   have HS := yh hself
   clear hz hself
   generalize x.ids[k] = z at *
   go_wp2_with fail
   refine (iq z w).mono ?_
   rintro e w1 ⟨rfl, h1⟩
   subst w1
   cases d2 : (decide (1 ≤ z) && decide (z ≤ 5))
   ·
    have hz := uh HZ
    rw [if_neg (by simpa using d2)] at hz
    have HF := yh hz
    clear d2 HZ HS hz
    go_wp2_with fail
    go_ret
    exact ⟨by rw [uh HF]; rfl, rfl⟩
   have hz := uh HZ
   rw [if_pos (by simpa using d2)] at hz
   have HZ2 := yh hz
   clear d2 HZ hz
   go_wp2_with fail
   refine (uh HP).mono ?_
   rintro e w1 ⟨rfl, h1⟩
   subst w1
   clear HP
   by_cases hq : bK x.ids z = (k : Int)
   ·
    have hz := uh HZ2
    rw [if_neg ((uh HS).1 hq)] at hz
    have HF := yh hz
    have hb : (bK x.ids z != (k : Int)) = false := by rw [hq]; simp
    clear HZ2 HS hz hq
    generalize bK x.ids z = p at *
    go_wp2_with fail
    go_round
    case rel => exact ⟨k + 1, by omega, by go_num, uh HF⟩
    case measure => simp [intOf]; omega
   have hz := uh HZ2
   rw [if_pos (Classical.not_not.1 fun hc => hq ((uh HS).2 hc))] at hz
   have HF := yh hz
   have hb : (bK x.ids z != (k : Int)) = true := by rw [bne_iff_ne]; exact hq
   clear HZ2 HS hz hq
   generalize bK x.ids z = p at *
   go_wp2_with fail
   go_ret
   exact ⟨by rw [uh HF]; rfl, rfl⟩
  obtain rfl : k = x.ids.length := by omega
  rw [nS] at hz
  have hdl : decide ((x.ids.length : Int) < (x.ids.length : Int)) = false := by simp
  have HF := yh hz
  clear hz
  go_wp2_with fail
  go_ret
  exact ⟨by rw [uh HF]; rfl, rfl⟩
theorem pa (a3 : Option Addr) (d3 b off d4 : Nat) (a5 : Option Addr) (d5 : Nat) (a6 : Option Addr) (d6 : Nat) (x : ay) (k xb : Nat) (w : World) (hX : aA 0 #[.int .i64 x.now, .int .i64 x.events, .int .i64 x.chain.ae, .slice a3 x.chain.ids.length d3, .slice (some ⟨b, off, none⟩) x.nodes.length d4, .slice a5 x.msgs.length d5, .slice a6 x.af.length d6] 39 w xb) (h : ab.aF.Reads w [.int .i64 x.now, .int .i64 x.events, .int .i64 x.chain.ae, .slice a3 x.chain.ids.length d3, .slice (some ⟨b, off, none⟩) x.nodes.length d4, .slice a5 x.msgs.length d5, .slice a6 x.af.length d6] x) (hk : k < x.nodes.length) (hn5 : x.nodes.length ≤ 5) :
  Calls Tryz.prog 36 #[.pointer (some ⟨xb, 0, none⟩), .int .i64 ((k : Int) + 1)] w fun e w' => e = .returned (.bool (cT x ((k : Int) + 1))) ∧ Below w.heap.size w w' := by
 have HP : Hid (cT x ((k : Int) + 1) = (x.nodes[k].up && ((x.nodes[k].ae == x.chain.ae) && decide (0 ≤ bK x.chain.ids ((k : Int) + 1))))) := by
  show cT x ((k : Int) + 1) = _
  rw [cT, dH hk]
 obtain ⟨_, _, _, _, _, _, _, _, hq, RC, RN, -, -⟩ := aK h
 simp only [List.cons.injEq, Value.slice.injEq, and_true, true_and] at hq
 obtain ⟨⟨rfl, rfl⟩, ⟨rfl, rfl⟩, -, -, -⟩ := hq
 obtain ⟨_, _, hq, RI⟩ := cb RC
 simp only [List.cons.injEq, Value.slice.injEq, and_true, true_and] at hq
 obtain ⟨rfl, rfl⟩ := hq
 obtain ⟨row, hcl, hr⟩ := ab.bE RN hk
 obtain ⟨an, dn, rfl, -⟩ := bG hr
 have x1 : w.drew.cell? ⟨b, off + k * 7 + 1, none⟩ = some (.bool x.nodes[k].up) := hcl 1 (by decide)
 have x2 : w.drew.cell? ⟨b, off + k * 7 + 2, none⟩ = some (.int .i64 x.nodes[k].ae) := hcl 2 (by decide)
 have z2 : w.drew.cell? ⟨xb, 2, none⟩ = some (.int .i64 x.chain.ae) := aA.at hX 2 _ rfl
 have z3 : w.drew.cell? ⟨xb, 3, none⟩ = some (.slice a3 x.chain.ids.length d3) := aA.at hX 3 _ rfl
 have z4 := aA.at hX 4 _ rfl
 simp only [ga, gb, gc] at z4
 have zl := hX.lt
 have HL : Hid (Calls Tryz.prog 92 #[.pointer (some ⟨xb, 2, none⟩), .int .i64 ((k : Int) + 1)] w.drew fun e w' => e = .returned (.int .i64 (bK x.chain.ids ((k : Int) + 1))) ∧ w' = w.drew) := oZ xb 2 a3 d3 x.chain ((k : Int) + 1) w.drew ⟨z2, z3⟩ (RI.drew 1)
 have HB : Hid (Below w.heap.size w w.drew) := (Below.refl _ _).drew
 have hw1 : IntKind.i64.wrap (k : Int) = (k : Int) := by
  rw [IntKind.wrap_i64]
  omega
 have hki : (k : Int) < (x.nodes.length : Int) := by omega
 have hki0 : (0 : Int) ≤ (k : Int) := by omega
 have hbl : b < w.heap.size := World.block_lt_of_cell? _ _ x1
 clear hX h RC RN RI hcl hr z3
 generalize cT x ((k : Int) + 1) = r at *
 generalize x.nodes[k] = n at *
 generalize bK x.chain.ids ((k : Int) + 1) = pp at *
 go_enter Tryz.func36, Tryz.ntmps36
 go_upto_region 2 with fail
 clear z4
 cases hup : n.up
 ·
  rw [hup] at x1 HP
  refine wZz (fun w' => w' = w.drew) rfl (fun zq => ?_)
  generalize w.drew = wD at zq x1 x2 z2 HL HB ⊢
  refine tkH 0 zq ?_
  refine tkH 1 zq ?_
  refine tkH 2 zq ?_
  refine tkJ 3 (v := ?va3) ?ha3 zq ?ra3
  case ha3 =>
   intro wS hSw
   subst hSw
   exact fZ
  refine tkH 4 zq ?_
  refine skH 5 zq ?_
  refine skH 6 zq ?_
  refine skH 7 zq ?_
  refine skH 8 zq ?_
  refine skH 9 zq ?_
  refine skH 10 zq ?_
  refine skH 11 zq ?_
  refine skH 12 zq ?_
  refine skH 13 zq ?_
  refine skH 14 zq ?_
  refine tkH 15 zq ?_
  refine tkH 16 zq ?_
  refine skH 17 zq ?_
  refine skH 18 zq ?_
  refine skH 19 zq ?_
  refine skH 20 zq ?_
  refine skH 21 zq ?_
  refine skH 22 zq ?_
  refine tkH 23 zq ?_
  refine tkH 24 zq ?_
  refine dZ ?_
  clear zq
  go_wp2_with fail
  go_ret
  exact ⟨by rw [uh HP]; rfl, uh HB⟩
 rw [hup] at x1 HP
 cases hep : (n.ae == x.chain.ae)
 ·
  rw [hep] at HP
  refine wZz (fun w' => w' = w.drew) rfl (fun zq => ?_)
  generalize w.drew = wD at zq x1 x2 z2 HL HB ⊢
  refine tkH 0 zq ?_
  refine tkH 1 zq ?_
  refine tkH 2 zq ?_
  refine tkJ 3 (v := ?vb3) ?hb3 zq ?rb3
  case hb3 =>
   intro wS hSw
   subst hSw
   exact fZ
  refine tkH 4 zq ?_
  refine tkH 5 zq ?_
  refine tkH 6 zq ?_
  refine tkH 7 zq ?_
  refine tkJ 8 (v := ?vb8) ?hb8 zq ?rb8
  case hb8 =>
   intro wS hSw
   subst hSw
   exact fZ
  refine tkH 9 zq ?_
  refine tkH 10 zq ?_
  refine tkH 11 zq ?_
  refine tkH 12 zq ?_
  refine tkJ 13 (v := ?vb13) ?hb13 zq ?rb13
  case hb13 =>
   intro wS hSw
   subst hSw
   exact fZ
  refine tkH 14 zq ?_
  refine tkH 15 zq ?_
  refine tkH 16 zq ?_
  refine skH 17 zq ?_
  refine skH 18 zq ?_
  refine skH 19 zq ?_
  refine skH 20 zq ?_
  refine skH 21 zq ?_
  refine skH 22 zq ?_
  refine tkH 23 zq ?_
  refine tkH 24 zq ?_
  refine dZ ?_
  clear zq
  go_wp2_with fail
  go_ret
  exact ⟨by rw [uh HP]; rfl, uh HB⟩
 rw [hep] at HP
 refine wZz (fun w' => w' = w.drew) rfl (fun zq => ?_)
 generalize w.drew = wD at zq x1 x2 z2 HL HB ⊢
 refine tkH 0 zq ?_
 refine tkH 1 zq ?_
 refine tkH 2 zq ?_
 refine tkJ 3 (v := ?vc3) ?hc3 zq ?rc3
 case hc3 =>
  intro wS hSw
  subst hSw
  exact fZ
 refine tkH 4 zq ?_
 refine tkH 5 zq ?_
 refine tkH 6 zq ?_
 refine tkH 7 zq ?_
 refine tkJ 8 (v := ?vc8) ?hc8 zq ?rc8
 case hc8 =>
  intro wS hSw
  subst hSw
  exact fZ
 refine tkH 9 zq ?_
 refine tkH 10 zq ?_
 refine tkH 11 zq ?_
 refine tkH 12 zq ?_
 refine tkJ 13 (v := ?vc13) ?hc13 zq ?rc13
 case hc13 =>
  intro wS hSw
  subst hSw
  exact fZ
 refine tkH 14 zq ?_
 refine tkH 15 zq ?_
 refine tkH 16 zq ?_
 refine tkH 17 zq ?_
 refine tkH 18 zq ?_
 refine tkH 19 zq ?_
 refine tkH 20 zq ?_
 refine rdH 21 (fun K hK => ?_)
 go_simp
 go_at_call 92
 refine (uh HL).mono ?_
 rintro e w2 ⟨rfl, rfl⟩
 try go_wp2_with fail
 refine hK.out _ _ rfl (fun zq => ?_)
 clear hK K
 try simp only [Act.put, pz, py, px]
 refine tkH 22 zq ?_
 refine tkH 23 zq ?_
 refine tkH 24 zq ?_
 refine dZ ?_
 clear zq
 go_wp2_with fail
 go_ret
 exact ⟨by rw [uh HP]; rfl, uh HB⟩
end Go.Proofs.YtomphbenbnnfgaaGreatDoor
