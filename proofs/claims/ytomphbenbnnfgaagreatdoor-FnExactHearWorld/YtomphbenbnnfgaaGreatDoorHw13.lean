/-
  Texts of this proof in one: ImplHearW, LawHearW, OpenChain, OpenHit, OpenEntry, OpenWorld.
  Their conditions stand in their theorems.
-/
import Derived.Test.YtomphbenbnnfgaaGreatDoorHw12
import Derived.Test.YtomphbenbnnfgaaGreatDoorHw07
import Derived.Test.YtomphbenbnnfgaaGreatDoorHw03
import Derived.Deep.RegionHeld3
import Derived.Test.YtomphbenbnnfgaaGreatDoorHw00
import Derived.Test.YtomphbenbnnfgaaGreatDoorHw04
import Derived.Test.YtomphbenbnnfgaaGreatDoorHw11
import Derived.Test.YtomphbenbnnfgaaGreatDoorHw05
import Derived.Test.YtomphbenbnnfgaaGreatDoorHw01
set_option maxRecDepth 100000
set_option maxHeartbeats 4000000
namespace Go.Proofs.YtomphbenbnnfgaaGreatDoor
open Go.RowKit
theorem tM (x : ay) (i : Int) : dR x (aX x) (eJ (dc x) i) (eP (dc x) (gB (dc x) i)) (ec (dc x) (gB (dc x) i)) = eQ x i := by
 unfold dR eQ
 by_cases h : aX x ≠ 0
 ·
  rw [if_pos h, if_pos h]
 rw [if_neg h, if_neg h]
 by_cases h1 : 9999 ≤ x.events
 ·
  rw [if_pos h1, if_pos h1]
 rw [if_neg h1, if_neg h1]
 have e1 : eJ (dc x) i = eJ x i := rfl
 rw [e1]
 by_cases h2 : 0 ≤ i ∧ i ≤ (x.msgs.length : Int) - 1
 ·
  have e2 : eJ x i = 0 := if_pos h2
  rw [e2, if_neg (not_not_intro h2), lu, if_pos rfl]
  have e3 : bU (dc x) (gB (dc x) i) = bU x (x.msgs.getD i.toNat gm) := rfl
  cases hh : bU x (x.msgs.getD i.toNat gm) with
  | none =>
   rw [hh] at e3
   rw [(ba e3).1, (ba e3).2]
  | some n =>
   rw [hh] at e3
   rw [(cS e3).1, (cS e3).2]
 have e2 : eJ x i = 3 := if_neg h2
 rw [e2, if_pos h2, lu, if_neg (by decide)]
theorem tj (i : Int) (w : World) :
  Calls Tryz.prog 60 #[.int .i64 i] w fun e w' => e = .returned (.func (.func 120) #[] #[.pointer (some ⟨w.heap.size, 0, none⟩)]) ∧ w' = (w.alloc (.cells #[.int .i64 i] 2)) := by
 have hmf : ∀ (fn : Fn) (first cap : Array Value) (w : World), (Instr.makeFunc fn first cap).run Tryz.prog w = .ok (.func fn first cap) w := fun _ _ _ _ => rfl
 go_enter Tryz.func60, Tryz.ntmps60
 go_wp2_with fail
 go_ret
 exact ⟨rfl, rfl⟩
theorem lK (cs : List Value) (x : ay) (i : Int) (w : World) (hE : iK w) (h : ab.aH.Reads w cs x) (hf : Fits x) :
  Calls Tryz.prog 21 #[.agg cs.toArray, .int .i64 i] w fun e w' => ∃ cs', e = .returned (.agg cs'.toArray) ∧ ab.aD.aL w' cs' (eQ x i) w.heap.size w'.heap.size ∧ Below w.heap.size w w' := by
 obtain ⟨a3, d3, a4, d4, a5, d5, a6, d6, rfl, -, -, -, -⟩ := aN h
 have nb1 : Below w.heap.size w (w.alloc (.cells #[.int .i64 x.now, .int .i64 x.events, .int .i64 x.chain.ae, .slice a3 x.chain.ids.length d3, .slice a4 x.nodes.length d4, .slice a5 x.msgs.length d5, .slice a6 x.af.length d6] 39)) := (Below.refl _ _).alloc (Nat.le_refl _) _
 have nb : Below w.heap.size w ((w.alloc (.cells #[.int .i64 x.now, .int .i64 x.events, .int .i64 x.chain.ae, .slice a3 x.chain.ids.length d3, .slice a4 x.nodes.length d4, .slice a5 x.msgs.length d5, .slice a6 x.af.length d6] 39)).alloc (.cells #[.int .i64 0, .bool false, .int .i64 0, .int .i64 0, .int .i64 0, .slice none 0 0, .slice none 0 0, .slice none 0 0, .slice none 0 0] 41)) := nb1.alloc (by simp) _
 have HX : Hid (ag 0 #[.int .i64 x.now, .int .i64 x.events, .int .i64 x.chain.ae, .slice a3 x.chain.ids.length d3, .slice a4 x.nodes.length d4, .slice a5 x.msgs.length d5, .slice a6 x.af.length d6] 39 ((w.alloc (.cells #[.int .i64 x.now, .int .i64 x.events, .int .i64 x.chain.ae, .slice a3 x.chain.ids.length d3, .slice a4 x.nodes.length d4, .slice a5 x.msgs.length d5, .slice a6 x.af.length d6] 39)).alloc (.cells #[.int .i64 0, .bool false, .int .i64 0, .int .i64 0, .int .i64 0, .slice none 0 0, .slice none 0 0, .slice none 0 0, .slice none 0 0] 41)) w.heap.size) := (aC (Nat.zero_le _)).grow _
 have HY : Hid (ag 0 #[.int .i64 0, .bool false, .int .i64 0, .int .i64 0, .int .i64 0, .slice none 0 0, .slice none 0 0, .slice none 0 0, .slice none 0 0] 41 ((w.alloc (.cells #[.int .i64 x.now, .int .i64 x.events, .int .i64 x.chain.ae, .slice a3 x.chain.ids.length d3, .slice a4 x.nodes.length d4, .slice a5 x.msgs.length d5, .slice a6 x.af.length d6] 39)).alloc (.cells #[.int .i64 0, .bool false, .int .i64 0, .int .i64 0, .int .i64 0, .slice none 0 0, .slice none 0 0, .slice none 0 0, .slice none 0 0] 41)) (w.heap.size + 1)) := bb (Nat.zero_le _) (by simp)
 have hz0 : ((w.alloc (.cells #[.int .i64 x.now, .int .i64 x.events, .int .i64 x.chain.ae, .slice a3 x.chain.ids.length d3, .slice a4 x.nodes.length d4, .slice a5 x.msgs.length d5, .slice a6 x.af.length d6] 39)).alloc (.cells #[.int .i64 0, .bool false, .int .i64 0, .int .i64 0, .int .i64 0, .slice none 0 0, .slice none 0 0, .slice none 0 0, .slice none 0 0] 41)).heap.size = w.heap.size + 2 := by simp
 have HR := yh (h.later nb)
 have HB := yh nb
 have HFT := yh hf
 have HEE := yh (hE.later nb)
 clear nb1 nb h hf hE
 go_enter Tryz.func21, Tryz.ntmps21
 go_upto_region 1 with fail
 generalize (w.alloc (.cells #[.int .i64 x.now, .int .i64 x.events, .int .i64 x.chain.ae, .slice a3 x.chain.ids.length d3, .slice a4 x.nodes.length d4, .slice a5 x.msgs.length d5, .slice a6 x.af.length d6] 39)).alloc (.cells #[.int .i64 0, .bool false, .int .i64 0, .int .i64 0, .int .i64 0, .slice none 0 0, .slice none 0 0, .slice none 0 0, .slice none 0 0] 41) = W1 at *
 have LI : Hid (∀ V, Below W1.heap.size W1 V → Calls Tryz.prog 24 #[.agg #[.int .i64 x.now, .int .i64 x.events, .int .i64 x.chain.ae, .slice a3 x.chain.ids.length d3, .slice a4 x.nodes.length d4, .slice a5 x.msgs.length d5, .slice a6 x.af.length d6]] V fun e w' => e = .returned (.int .i64 (aX x)) ∧ Below V.heap.size V w') := fun V hV => kg _ x V ((uh HR).later hV)
 have LS : Hid (∀ V, Below W1.heap.size W1 V → Calls Tryz.prog 45 #[.agg #[.int .i64 x.now, .int .i64 x.events, .int .i64 x.chain.ae, .slice a3 x.chain.ids.length d3, .slice a4 x.nodes.length d4, .slice a5 x.msgs.length d5, .slice a6 x.af.length d6], .int .i64 (aX x), .func (.func 120) #[] #[.pointer (some ⟨V.heap.size, 0, none⟩)]] (V.alloc (.cells #[.int .i64 i] 2)) fun e w' => ∃ cs', e = .returned (.agg cs'.toArray) ∧ ab.aD.aL w' cs' (eQ x i) V.heap.size w'.heap.size ∧ Below V.heap.size V w') := by
  intro V hV
  have nv : Below V.heap.size V (V.alloc (.cells #[.int .i64 i] 2)) := (Below.refl _ _).alloc (Nat.le_refl _) _
  refine (sD 120 _ _ x (aX x) (eJ (dc x) i) (eP (dc x) (gB (dc x) i)) (ec (dc x) (gB (dc x) i)) _ (fun a W => rfl) ((uh HR).later (hV.trans (nv.mono hV.size))) (fun h0 => dU h0) (uh HFT) (tX _ _) (by have := vb x; omega) (fun h0 W hW => ?_)).mono ?_
  ·
   have hok := dU h0
   exact rH _ (V.heap.size) i (dc x) W (ag.aj (aC (Nat.zero_le _)) hW) (by simp) ((((uh HEE).later hV).later nv).later hW) hok.ids hok.some.2 hok.chain (fun j h => ⟨(hok.nodes j h).1, (hok.nodes j h).2.1⟩) hok.uv
  rintro e w' ⟨cs', rfl, O, hb⟩
  rw [tM] at O
  exact ⟨cs', rfl, O.mono nv.size (Nat.le_refl _), nv.trans (hb.mono nv.size)⟩
 have hx := uh HX
 have hxl := hx.lt
 have HD : Hid (Below W1.heap.size W1 W1.drew) := (Below.refl _ _).drew
 replace HY : Hid (ag 0 #[.int .i64 0, .bool false, .int .i64 0, .int .i64 0, .int .i64 0, .slice none 0 0, .slice none 0 0, .slice none 0 0, .slice none 0 0] 41 W1.drew (w.heap.size + 1)) := (uh HY)
 refine wZz (fun w' => Ext (fun q => w.heap.size < q) W1 w') ((Ext.refl _ _).drew 1) (fun zq => ?_)
 generalize W1.drew = wD at zq HD HY ⊢
 refine tkJ 0 (v := ?vf0) ?hf0 zq ?rf0
 case hf0 =>
  intro wS hSw
  have bS := hx.ext hSw (fun e => Nat.lt_irrefl _ e)
  have q0 := ag.at bS 0 _ rfl
  have q1 := ag.at bS 1 _ rfl
  have q2 := ag.at bS 2 _ rfl
  have q3 := ag.at bS 3 _ rfl
  have q4 := ag.at bS 4 _ rfl
  have q5 := ag.at bS 5 _ rfl
  have q6 := ag.at bS 6 _ rfl
  simp only [ga, gb, gc] at q0 q1 q2 q3 q4 q5 q6
  clear bS hSw
  exact fZ
 refine tkJ 1 (v := ?vf1) ?hf1 zq ?rf1
 case hf1 =>
  intro wS hSw
  have bS := hx.ext hSw (fun e => Nat.lt_irrefl _ e)
  have q0 := ag.at bS 0 _ rfl
  have q1 := ag.at bS 1 _ rfl
  have q2 := ag.at bS 2 _ rfl
  have q3 := ag.at bS 3 _ rfl
  have q4 := ag.at bS 4 _ rfl
  have q5 := ag.at bS 5 _ rfl
  have q6 := ag.at bS 6 _ rfl
  simp only [ga, gb, gc] at q0 q1 q2 q3 q4 q5 q6
  clear bS hSw
  exact fZ
 refine tkH 3 zq ?_
 refine rdH 2 (fun K hK => ?_)
 go_simp
 go_at_call 24
 refine (uh LI _ (uh HD)).mono ?_
 rintro e u1 ⟨rfl, hb1⟩
 have HD1 := yh ((uh HD).trans (hb1.mono (uh HD).size))
 have HY1 := yh ((uh HY).aj hb1)
 try go_wp2_with fail
 have hH1 := zq.trans (ak hb1 (fun q => w.heap.size < q))
 refine hK.out _ _ (zq.trans (ak hb1 _)) (fun zq => ?_)
 clear hK K
 try simp only [Act.put, pz, py, px]
 refine rdH 4 (fun K hK => ?_)
 go_simp
 go_at_call 60
 refine (tj i _).mono ?_
 rintro e u2 ⟨rfl, rfl⟩
 try go_wp2_with fail
 refine hK.out _ _ (zq.trans (ak ((Below.refl _ _).alloc (Nat.le_refl _) _) _)) (fun zq => ?_)
 clear hK K
 try simp only [Act.put, pz, py, px]
 refine rdH 5 (fun K hK => ?_)
 go_simp
 go_at_call 45
 refine (uh LS u1 (uh HD1)).mono ?_
 rintro e u3 ⟨cs, rfl, O, hb3⟩
 obtain ⟨a5r, d5r, a6r, d6r, a7r, d7r, a8r, d8r, rfl, -⟩ := cr O.reads
 have hy := (uh HY1).aj hb3
 try go_wp2_with fail
 refine hK.out _ _ (hH1.trans (ak hb3 _)) (fun zq => ?_)
 clear hK K
 try simp only [Act.put, pz, py, px]
 refine rdH 6 (fun K hK => ?_)
 generalize hyr : eQ x i = yr at *
 have HYR := yh hyr
 clear hyr
 have r0 := ag.at hy 0 _ rfl
 have r1 := ag.at hy 1 _ rfl
 have r2 := ag.at hy 2 _ rfl
 have r3 := ag.at hy 3 _ rfl
 have r4 := ag.at hy 4 _ rfl
 have r5 := ag.at hy 5 _ rfl
 have r6 := ag.at hy 6 _ rfl
 have r7 := ag.at hy 7 _ rfl
 have r8 := ag.at hy 8 _ rfl
 simp only [ga, gb, gc] at r0 r1 r2 r3 r4 r5 r6 r7 r8
 have rf := ag.soft hy
 have rl := hy.lt
 go_simp
 refine hK.out _ _ (Ext.setCell (Ext.setCell (Ext.setCell (Ext.setCell (Ext.setCell (Ext.setCell (Ext.setCell (Ext.setCell (Ext.setCell zq ⟨w.heap.size + 1, 0, none⟩ (.int .i64 yr.code) (Nat.lt_succ_self _)) ⟨w.heap.size + 1, 1, none⟩ (.bool yr.bL) (Nat.lt_succ_self _)) ⟨w.heap.size + 1, 2, none⟩ (.int .i64 yr.world.now) (Nat.lt_succ_self _)) ⟨w.heap.size + 1, 3, none⟩ (.int .i64 yr.world.events) (Nat.lt_succ_self _)) ⟨w.heap.size + 1, 4, none⟩ (.int .i64 yr.world.chain.ae) (Nat.lt_succ_self _)) ⟨w.heap.size + 1, 5, none⟩ (.slice a5r yr.world.chain.ids.length d5r) (Nat.lt_succ_self _)) ⟨w.heap.size + 1, 6, none⟩ (.slice a6r yr.world.nodes.length d6r) (Nat.lt_succ_self _)) ⟨w.heap.size + 1, 7, none⟩ (.slice a7r yr.world.msgs.length d7r) (Nat.lt_succ_self _)) ⟨w.heap.size + 1, 8, none⟩ (.slice a8r yr.world.af.length d8r) (Nat.lt_succ_self _)) (fun zq => ?_)
 clear hK K
 try simp only [Act.put, pz, py, px]
 refine dZ ?_
 have hy9 := fJ hy (.int .i64 yr.code) (.bool yr.bL) (.int .i64 yr.world.now) (.int .i64 yr.world.events) (.int .i64 yr.world.chain.ae) (.slice a5r yr.world.chain.ids.length d5r) (.slice a6r yr.world.nodes.length d6r) (.slice a7r yr.world.msgs.length d7r) (.slice a8r yr.world.af.length d8r)
 have e2 : Ext (fun q => q = w.heap.size + 1) u3 (aU u3 (w.heap.size + 1) 0 [.int .i64 yr.code, .bool yr.bL, .int .i64 yr.world.now, .int .i64 yr.world.events, .int .i64 yr.world.chain.ae, .slice a5r yr.world.chain.ids.length d5r, .slice a6r yr.world.nodes.length d6r, .slice a7r yr.world.msgs.length d7r, .slice a8r yr.world.af.length d8r]) := cb _ (Ext.refl _ _) _ _ _ rfl
 have hs1 := hb1.size
 have hs2 := (uh HB).size
 have hs3 := (uh HD).size
 have HO := yh (O.ext e2 (fun q h1 h2 h3 => by omega))
 have HB9 := yh (aE (((uh HB).trans ((uh HD1).mono (uh HB).size)).trans (hb3.mono (by omega))) (w.heap.size + 1) 0 [.int .i64 yr.code, .bool yr.bL, .int .i64 yr.world.now, .int .i64 yr.world.events, .int .i64 yr.world.chain.ae, .slice a5r yr.world.chain.ids.length d5r, .slice a6r yr.world.nodes.length d6r, .slice a7r yr.world.msgs.length d7r, .slice a8r yr.world.af.length d8r] (by omega))
 have hsz : Hid ((aU u3 (w.heap.size + 1) 0 [.int .i64 yr.code, .bool yr.bL, .int .i64 yr.world.now, .int .i64 yr.world.events, .int .i64 yr.world.chain.ae, .slice a5r yr.world.chain.ids.length d5r, .slice a6r yr.world.nodes.length d6r, .slice a7r yr.world.msgs.length d7r, .slice a8r yr.world.af.length d8r]).heap.size = u3.heap.size) := bJ _ _ _ _
 clear r0 r1 r2 r3 r4 r5 r6 r7 r8 rf rl
 have r0 := ag.at hy9 0 _ rfl
 have r1 := ag.at hy9 1 _ rfl
 have r2 := ag.at hy9 2 _ rfl
 have r3 := ag.at hy9 3 _ rfl
 have r4 := ag.at hy9 4 _ rfl
 have r5 := ag.at hy9 5 _ rfl
 have r6 := ag.at hy9 6 _ rfl
 have r7 := ag.at hy9 7 _ rfl
 have r8 := ag.at hy9 8 _ rfl
 simp only [ga, gb, gc] at r0 r1 r2 r3 r4 r5 r6 r7 r8
 clear hy hy9 zq e2 O hb3 hb1
 go_wp2_with fail
 refine bodyPost_ret (v := .agg #[.int .i64 yr.code, .bool yr.bL, .int .i64 yr.world.now, .int .i64 yr.world.events, .int .i64 yr.world.chain.ae, .slice a5r yr.world.chain.ids.length d5r, .slice a6r yr.world.nodes.length d6r, .slice a7r yr.world.msgs.length d7r, .slice a8r yr.world.af.length d8r]) (by simp only [aU] at r0 r1 r2 r3 r4 r5 r6 r7 r8; simp [results, Tryz.results21, go_sem, r0, r1, r2, r3, r4, r5, r6, r7, r8]) rfl ?_
 rw [uh HYR]
 exact ⟨_, rfl, (uh HO).mono (by omega) (Nat.le_of_eq (uh hsz).symm), uh HB9⟩
theorem ti {n : aS} {v : au} (hfw : aM n.writes = 0) (hn : n.writes.length ≤ 1000 ∧ ∀ y ∈ n.writes, wF y = 0) (hf : wF v = 0) (h : (takeN n v).1 = 0) : (takeN n v).2.writes.length ≤ 1000 ∧ ∀ y ∈ (takeN n v).2.writes, wF y = 0 := by
 rw [kV] at h
 rw [ku h]
 show (ca n.writes v).writes.length ≤ 1000 ∧ ∀ y ∈ (ca n.writes v).writes, wF y = 0
 by_cases hs : bV n.writes v.aa v.seq = 0
 ·
  by_cases c : v.seq < aT n.writes v.aa
  ·
   rw [gv hfw hf hs c]; simp
  by_cases c2 : 200 ≤ n.writes.length
  ·
   rw [fS hfw hf hs c c2]; simp
  rw [gO hfw hf hs c c2]
  refine ⟨by simp; omega, fun y hy => ?_⟩
  rcases List.mem_append.1 hy with hy | hy
  ·
   exact hn.2 y hy
  rw [List.mem_singleton.1 hy]; exact hf
 rw [fM hfw hf hs]
 exact hn
theorem pk {x : ay} {i : Int} (hs : ab.aH.sz x ≤ 1048576) : ab.aD.al (eQ x i) ≤ 100000000 := by
 unfold eQ
 split
 ·
  exact j7 _
 rename_i q
 have hwf : aX x = 0 := by simpa using q
 have hok := dU hwf
 have hF := rX hok hs
 split
 ·
  exact j7 _
 split
 ·
  exact j7 _
 rename_i q3
 have q4 : 0 ≤ i ∧ i ≤ (x.msgs.length : Int) - 1 := Decidable.not_not.1 q3
 have hk : i.toNat < x.msgs.length := by omega
 have hmf : aJ (x.msgs.getD i.toNat gm) = 0 := by
  rw [List.getD, List.getElem?_eq_getElem hk]
  exact (cJ hok.uv).2 _ (List.getElem_mem hk)
 generalize x.msgs.getD i.toNat gm = m at *
 cases hh : bU x m with
 | none => exact kY (nK hF)
 | some n =>
  have hmp := jc hmf
  refine kY (vk (nK hF) ?_)
  have hnw := se hF m.dst
  unfold bU at hh
  split at hh
  ·
   simp at hh
  rename_i qm
  have qn : ch x m.dst = true := by
   cases e : ch x m.dst
   ·
    exact absurd (Or.inl e) qm
   rfl
  obtain ⟨k, hk2, hd2⟩ := gY qn
  have hfw : aM (cm x m.dst).writes = 0 := by
   rw [hd2, eY hk2]
   exact (cq (hok.nodes k hk2).1).aM
  split at hh
  ·
   split at hh
   ·
    simp at hh
   simp only [Option.some.injEq] at hh
   subst hh
   exact hnw
  rename_i qk
  split at hh
  ·
   simp at hh
  split at hh
  ·
   simp at hh
  split at hh
  ·
   rename_i qt
   simp only [Option.some.injEq] at hh
   subst hh
   exact ti hfw hnw (hmp.2.2.2 qk) qt
  simp at hh
theorem nC (cs : List Value) (x : ay) (i : Int) (w : World) (ht : iK w) (h : ab.aH.Reads w cs x) :
  Calls Tryz.prog 4 #[.agg cs.toArray, .int .i64 i] w fun e w' => e = .returned (.bool true) ∧ Below w.heap.size w w' := by
 by_cases hn : ab.aH.sz x ≤ 1048576
 ·
  refine ka cs x i (eQ x i) w h hn ht (fun W a _ ha => lO a x i W ha (lb hn)) (fun W a hE ha => lK a x i W hE ha (lb hn)) (pk hn)
 exact iR cs x i w h (by omega)
theorem nW : gj ab.aF 24 := by
 intro H enc W base spare held fuel cs x h
 obtain ⟨xs, n, _, _, hlen, hl, hfi⟩ := DataW.trod_struct Tryz.underlying24 h
 rw [show Tryz.prog.cellsOf 24 = 2 by kernel_rfl] at hlen
 match cs, hlen with
 | [c0, c1], _ =>
 match xs, hl with
 | [y0, y1], _ =>
 have z0 : Tryz.prog.cellsOf 2 = 1 := by kernel_rfl
 have z1 : Tryz.prog.cellsOf 22 = 1 := by kernel_rfl
 have f0 : DataW.trod enc Tryz.prog W base spare held n 2 (([c0, c1].drop 0).take (Tryz.prog.cellsOf 2)) = some y0 := hfi 0 _ rfl
 rw [z0] at f0
 obtain ⟨d0, r0⟩ := (bp Tryz.underlying2) enc W base spare held n _ _ f0
 have f1 : DataW.trod enc Tryz.prog W base spare held n 22 (([c0, c1].drop 1).take (Tryz.prog.cellsOf 22)) = some y1 := hfi 1 _ rfl
 rw [z1] at f1
 obtain ⟨d1, r1⟩ := (et Tryz.underlying22 (by kernel_rfl) (by decide) (bp Tryz.underlying2)) enc W base spare held n _ _ f1
 exact ⟨⟨d0, d1⟩, (aZ r0 r1)⟩
theorem sg : gj ab.bk 253 := by
 intro H enc W base spare held fuel cs x h
 obtain ⟨xs, n, _, _, hlen, hl, hfi⟩ := DataW.trod_struct Tryz.underlying253 h
 rw [show Tryz.prog.cellsOf 253 = 2 by kernel_rfl] at hlen
 match cs, hlen with
 | [c0, c1], _ =>
 match xs, hl with
 | [y0, y1], _ =>
 have z0 : Tryz.prog.cellsOf 2 = 1 := by kernel_rfl
 have f0 : DataW.trod enc Tryz.prog W base spare held n 2 (([c0, c1].drop 0).take (Tryz.prog.cellsOf 2)) = some y0 := hfi 0 _ rfl
 rw [z0] at f0
 obtain ⟨d0, r0⟩ := (bp Tryz.underlying2) enc W base spare held n _ _ f0
 have f1 : DataW.trod enc Tryz.prog W base spare held n 2 (([c0, c1].drop 1).take (Tryz.prog.cellsOf 2)) = some y1 := hfi 1 _ rfl
 rw [z0] at f1
 obtain ⟨d1, r1⟩ := (bp Tryz.underlying2) enc W base spare held n _ _ f1
 exact ⟨⟨d0, d1⟩, (aZ r0 r1)⟩
theorem nZ : gj ab.az 150 := by
 intro H enc W base spare held fuel cs x h
 obtain ⟨xs, n, _, _, hlen, hl, hfi⟩ := DataW.trod_struct Tryz.underlying150 h
 rw [show Tryz.prog.cellsOf 150 = 11 by kernel_rfl] at hlen
 match cs, hlen with
 | [c0, c1, c2, c3, c4, c5, c6, c7, c8, c9, c10], _ =>
 match xs, hl with
 | [y0, y1, y2, y3, y4, y5, y6, y7, y8, y9, y10], _ =>
 have z0 : Tryz.prog.cellsOf 2 = 1 := by kernel_rfl
 have z1 : Tryz.prog.cellsOf 22 = 1 := by kernel_rfl
 have z2 : Tryz.prog.cellsOf 148 = 1 := by kernel_rfl
 have f0 : DataW.trod enc Tryz.prog W base spare held n 2 (([c0, c1, c2, c3, c4, c5, c6, c7, c8, c9, c10].drop 0).take (Tryz.prog.cellsOf 2)) = some y0 := hfi 0 _ rfl
 rw [z0] at f0
 obtain ⟨d0, r0⟩ := (bp Tryz.underlying2) enc W base spare held n _ _ f0
 have f1 : DataW.trod enc Tryz.prog W base spare held n 2 (([c0, c1, c2, c3, c4, c5, c6, c7, c8, c9, c10].drop 1).take (Tryz.prog.cellsOf 2)) = some y1 := hfi 1 _ rfl
 rw [z0] at f1
 obtain ⟨d1, r1⟩ := (bp Tryz.underlying2) enc W base spare held n _ _ f1
 have f2 : DataW.trod enc Tryz.prog W base spare held n 2 (([c0, c1, c2, c3, c4, c5, c6, c7, c8, c9, c10].drop 2).take (Tryz.prog.cellsOf 2)) = some y2 := hfi 2 _ rfl
 rw [z0] at f2
 obtain ⟨d2, r2⟩ := (bp Tryz.underlying2) enc W base spare held n _ _ f2
 have f3 : DataW.trod enc Tryz.prog W base spare held n 2 (([c0, c1, c2, c3, c4, c5, c6, c7, c8, c9, c10].drop 3).take (Tryz.prog.cellsOf 2)) = some y3 := hfi 3 _ rfl
 rw [z0] at f3
 obtain ⟨d3, r3⟩ := (bp Tryz.underlying2) enc W base spare held n _ _ f3
 have f4 : DataW.trod enc Tryz.prog W base spare held n 22 (([c0, c1, c2, c3, c4, c5, c6, c7, c8, c9, c10].drop 4).take (Tryz.prog.cellsOf 22)) = some y4 := hfi 4 _ rfl
 rw [z1] at f4
 obtain ⟨d4, r4⟩ := (et Tryz.underlying22 (by kernel_rfl) (by decide) (bp Tryz.underlying2)) enc W base spare held n _ _ f4
 have f5 : DataW.trod enc Tryz.prog W base spare held n 2 (([c0, c1, c2, c3, c4, c5, c6, c7, c8, c9, c10].drop 5).take (Tryz.prog.cellsOf 2)) = some y5 := hfi 5 _ rfl
 rw [z0] at f5
 obtain ⟨d5, r5⟩ := (bp Tryz.underlying2) enc W base spare held n _ _ f5
 have f6 : DataW.trod enc Tryz.prog W base spare held n 2 (([c0, c1, c2, c3, c4, c5, c6, c7, c8, c9, c10].drop 6).take (Tryz.prog.cellsOf 2)) = some y6 := hfi 6 _ rfl
 rw [z0] at f6
 obtain ⟨d6, r6⟩ := (bp Tryz.underlying2) enc W base spare held n _ _ f6
 have f7 : DataW.trod enc Tryz.prog W base spare held n 2 (([c0, c1, c2, c3, c4, c5, c6, c7, c8, c9, c10].drop 7).take (Tryz.prog.cellsOf 2)) = some y7 := hfi 7 _ rfl
 rw [z0] at f7
 obtain ⟨d7, r7⟩ := (bp Tryz.underlying2) enc W base spare held n _ _ f7
 have f8 : DataW.trod enc Tryz.prog W base spare held n 2 (([c0, c1, c2, c3, c4, c5, c6, c7, c8, c9, c10].drop 8).take (Tryz.prog.cellsOf 2)) = some y8 := hfi 8 _ rfl
 rw [z0] at f8
 obtain ⟨d8, r8⟩ := (bp Tryz.underlying2) enc W base spare held n _ _ f8
 have f9 : DataW.trod enc Tryz.prog W base spare held n 22 (([c0, c1, c2, c3, c4, c5, c6, c7, c8, c9, c10].drop 9).take (Tryz.prog.cellsOf 22)) = some y9 := hfi 9 _ rfl
 rw [z1] at f9
 obtain ⟨d9, r9⟩ := (et Tryz.underlying22 (by kernel_rfl) (by decide) (bp Tryz.underlying2)) enc W base spare held n _ _ f9
 have f10 : DataW.trod enc Tryz.prog W base spare held n 148 (([c0, c1, c2, c3, c4, c5, c6, c7, c8, c9, c10].drop 10).take (Tryz.prog.cellsOf 148)) = some y10 := hfi 10 _ rfl
 rw [z2] at f10
 obtain ⟨d10, r10⟩ := (et Tryz.underlying148 (by kernel_rfl) (by decide) sg) enc W base spare held n _ _ f10
 exact ⟨⟨d0, d1, d2, d3, d4, d5, d6, d7, d8, d9, d10⟩, (aZ r0 (aZ r1 (aZ r2 (aZ r3 (aZ r4 (aZ r5 (aZ r6 (aZ r7 (aZ r8 (aZ r9 r10))))))))))⟩
theorem ot : gj ab.aH 29 := by
 intro H enc W base spare held fuel cs x h
 obtain ⟨xs, n, _, _, hlen, hl, hfi⟩ := DataW.trod_struct Tryz.underlying29 h
 rw [show Tryz.prog.cellsOf 29 = 7 by kernel_rfl] at hlen
 match cs, hlen with
 | [c0, c1, c2, c3, c4, c5, c6], _ =>
 match xs, hl with
 | [y0, y1, y2, y3, y4, y5], _ =>
 have z0 : Tryz.prog.cellsOf 2 = 1 := by kernel_rfl
 have z1 : Tryz.prog.cellsOf 24 = 2 := by kernel_rfl
 have z2 : Tryz.prog.cellsOf 25 = 1 := by kernel_rfl
 have z3 : Tryz.prog.cellsOf 26 = 1 := by kernel_rfl
 have z4 : Tryz.prog.cellsOf 27 = 1 := by kernel_rfl
 have f0 : DataW.trod enc Tryz.prog W base spare held n 2 (([c0, c1, c2, c3, c4, c5, c6].drop 0).take (Tryz.prog.cellsOf 2)) = some y0 := hfi 0 _ rfl
 rw [z0] at f0
 obtain ⟨d0, r0⟩ := (bp Tryz.underlying2) enc W base spare held n _ _ f0
 have f1 : DataW.trod enc Tryz.prog W base spare held n 2 (([c0, c1, c2, c3, c4, c5, c6].drop 1).take (Tryz.prog.cellsOf 2)) = some y1 := hfi 1 _ rfl
 rw [z0] at f1
 obtain ⟨d1, r1⟩ := (bp Tryz.underlying2) enc W base spare held n _ _ f1
 have f2 : DataW.trod enc Tryz.prog W base spare held n 24 (([c0, c1, c2, c3, c4, c5, c6].drop 2).take (Tryz.prog.cellsOf 24)) = some y2 := hfi 2 _ rfl
 rw [z1] at f2
 obtain ⟨d2, r2⟩ := (nW) enc W base spare held n _ _ f2
 have f3 : DataW.trod enc Tryz.prog W base spare held n 25 (([c0, c1, c2, c3, c4, c5, c6].drop 4).take (Tryz.prog.cellsOf 25)) = some y3 := hfi 3 _ rfl
 rw [z2] at f3
 obtain ⟨d3, r3⟩ := (et Tryz.underlying25 (by kernel_rfl) (by decide) qe) enc W base spare held n _ _ f3
 have f4 : DataW.trod enc Tryz.prog W base spare held n 26 (([c0, c1, c2, c3, c4, c5, c6].drop 5).take (Tryz.prog.cellsOf 26)) = some y4 := hfi 4 _ rfl
 rw [z3] at f4
 obtain ⟨d4, r4⟩ := (et Tryz.underlying26 (by kernel_rfl) (by decide) rM) enc W base spare held n _ _ f4
 have f5 : DataW.trod enc Tryz.prog W base spare held n 27 (([c0, c1, c2, c3, c4, c5, c6].drop 6).take (Tryz.prog.cellsOf 27)) = some y5 := hfi 5 _ rfl
 rw [z4] at f5
 obtain ⟨d5, r5⟩ := (et Tryz.underlying27 (by kernel_rfl) (by decide) nZ) enc W base spare held n _ _ f5
 exact ⟨⟨d0, d1, d2, d3, d4, d5⟩, (aZ r0 (aZ r1 (aZ r2 (aZ r3 (aZ r4 r5)))))⟩
end Go.Proofs.YtomphbenbnnfgaaGreatDoor
