/-
  Texts of this proof in one: SpecHear, SpecHearW, ImplLast, ImplSeenAt, OpenWrite, OpenMsg, OpenNode, ImplFrom2, ImplSetN, BesideKit, ImplBeside, ImplNodeOf, ImplNodeM.
  Their conditions stand in their theorems.
-/
import Derived.Test.YtomphbenbnnfgaaGreatDoorHw08
import Derived.Test.YtomphbenbnnfgaaGreatDoorHw10
import Derived.Deep.RegionHeld3
import Derived.Test.YtomphbenbnnfgaaGreatDoorHw00
import Derived.Test.YtomphbenbnnfgaaGreatDoorHw04
import Derived.Test.YtomphbenbnnfgaaGreatDoorHw06
import Derived.Test.YtomphbenbnnfgaaGreatDoorHw05
import Derived.Test.YtomphbenbnnfgaaGreatDoorHw01
import Derived.Deep.CutRange
import Derived.Test.YtomphbenbnnfgaaGreatDoorHw07
set_option maxRecDepth 100000
set_option maxHeartbeats 4000000
namespace Go.Proofs.YtomphbenbnnfgaaGreatDoor
open Go.RowKit
abbrev tK : Oper := ⟨some 68, .load 2 (.tmp 67), 2, "l12_world.go:216", #[⟨3, .data⟩], none⟩
theorem cT.write {w : World} {b o : Nat} {m : bu} {av : Option Addr} {dv : Nat} (h : cT #[.int .i64 m.kind, .int .i64 m.ae, .int .i64 m.src, .int .i64 m.dst, .int .i64 m.index, .int .i64 m.write.kind, .int .i64 m.write.id, .slice av m.write.vec.length dv, .int .i64 m.write.aa, .int .i64 m.write.seq] w b o) : cT #[.int .i64 m.write.kind, .int .i64 m.write.id, .slice av m.write.vec.length dv, .int .i64 m.write.aa, .int .i64 m.write.seq] w b (o + 5) := ⟨h.lt, fun i v hi => by
 rcases i with _ | _ | _ | _ | _ | i
 ·
  exact h.cells 5 v hi
 ·
  exact h.cells 6 v hi
 ·
  exact h.cells 7 v hi
 ·
  exact h.cells 8 v hi
 ·
  exact h.cells 9 v hi
 simp at hi⟩
theorem kV (n : aS) (v : au) : (takeN n v).1 = aV (ca n.writes v) := by
 unfold takeN aV
 split
 ·
  split <;> rfl
 rfl
theorem ku {n : aS} {v : au} (h : aV (ca n.writes v) = 0) : (takeN n v).2 = cM n (ca n.writes v).writes := by
 unfold aV at h
 unfold takeN
 by_cases c : (ca n.writes v).code = 0
 ·
  rw [if_pos c] at h ⊢
  by_cases c2 : 40 < (ca n.writes v).writes.length
  ·
   rw [if_pos c2] at h; simp at h
  rw [if_neg c2]
 rw [if_neg c] at h; exact absurd h c
def di (y : ay) (m : bu) (lo hi : Nat) (G : Nat → Prop) (cells : List Value) (W : World) (r : Bool) (w' : World) : Prop := r = eP y m ∧ lz w' lo hi G cells (ec y m) ∧ Ext (fun q => lo ≤ q ∧ q < hi ∧ ¬ G q) W w'
theorem tL (y : ay) (m : bu) (v3 v4 v5 v6 : Value) (g lo hi bm om : Nat) (G : Nat → Prop) (av : Option Addr) (dv : Nat) (W : World) (hg : ag 0 #[.int .i64 y.now, .int .i64 y.events, .int .i64 y.chain.ae, v3, v4, v5, v6] 39 W g) (hO : lz W lo hi G [.int .i64 y.now, .int .i64 y.events, .int .i64 y.chain.ae, v3, v4, v5, v6] y) (hG : ∀ c, G c → c < W.heap.size) (hGg : G g) (hM : cT #[.int .i64 m.kind, .int .i64 m.ae, .int .i64 m.src, .int .i64 m.dst, .int .i64 m.index, .int .i64 m.write.kind, .int .i64 m.write.id, .slice av m.write.vec.length dv, .int .i64 m.write.aa, .int .i64 m.write.seq] W bm om) (hGm : G bm) (RV : (ab.sl ab.int).Reads W [.slice av m.write.vec.length dv] m.write.vec) (hn5 : y.nodes.length ≤ 5) (hi0 : ∀ z ∈ y.chain.ids, ch y z = true) (hcf : aB y.chain = 0) (hnd : ∀ k (hk : k < y.nodes.length), aG y.nodes[k] = 0 ∧ y.nodes[k].id = (k : Int) + 1) (hmf : aJ m = 0) :
  Calls Tryz.prog 59 #[.pointer (some ⟨g, 0, none⟩), .pointer (some ⟨bm, om, none⟩)] W fun e w' => ∃ r : Bool, e = .returned (.bool r) ∧ di y m lo hi G [.int .i64 y.now, .int .i64 y.events, .int .i64 y.chain.ae, v3, v4, v5, v6] W r w' := by
 have HCF := yh hcf
 have HNF := yh hnd
 have HMP := yh (jc hmf)
 have HI := yh hi0
 have HGL := yh hG
 have HGG := yh hGg
 have hop := aN hO.reads
 obtain ⟨a3, d3, a4, d4, a5, d5, a6, d6, hq, RC, RN, -, -⟩ := hop
 simp only [List.cons.injEq, and_true, true_and] at hq
 obtain ⟨rfl, rfl, rfl, rfl⟩ := hq
 obtain ⟨_, _, hq, RI⟩ := cl RC
 simp only [List.cons.injEq, Value.slice.injEq, and_true, true_and] at hq
 obtain ⟨rfl, rfl⟩ := hq
 have HG := yh hg
 have HO := yh hO
 have HM := yh hM
 have HV := yh RV
 have HRI := yh RI
 have HLEN : Hid (y.chain.ids.length ≤ 1000) := by
  have := (de hcf).len
  show y.chain.ids.length ≤ 1000
  omega
 have HX : Hid (Ext (fun q => lo ≤ q ∧ q < hi ∧ ¬ G q) W W) := Ext.refl _ _
 clear RC RI hO hg hM RV hcf hnd hmf hi0 hG hGg
 go_enter Tryz.func59, Tryz.ntmps59
 go_upto_region 1 with fail
 cases hni : ch y m.dst
 ·
  have HNO : Hid (bU y m = none) := by
   show bU y m = none
   rw [bU, if_pos (Or.inl hni)]
  clear RN
  refine wZz (fun w' => Below W.heap.size W w') ((Below.refl _ _).drew) (fun zq => ?_)
  generalize W.drew = wD1 at zq ⊢
  refine tkH 0 zq ?_
  refine tkH 1 zq ?_
  refine tkH 2 zq ?_
  refine tkH 3 zq ?_
  refine tkJ 4 (v := ?va4) ?ha4 zq ?ra4
  case ha4 =>
   intro wS hSw
   have bM := (uh HM).aj hSw
   have q3 : wS.cell? ⟨bm, om + 3, none⟩ = some (.int .i64 m.dst) := bM.at 3 _ rfl
   clear bM hSw
   exact fZ
  refine rdH 5 (fun K hK => ?_)
  go_simp
  go_at_call 116
  refine (gN a3 d3 _ d4 a5 d5 a6 d6 y m.dst g _ ((uh HG).aj zq)).mono ?_
  rintro e u0 ⟨rfl, hu0⟩
  subst u0
  rw [hni]
  try go_wp2_with fail
  refine hK.out _ _ zq (fun zq => ?_)
  clear hK K
  try simp only [Act.put, pz, py, px]
  refine tkH 6 zq ?_
  refine tkH 7 zq ?_
  refine skH 8 zq ?_
  refine skH 9 zq ?_
  refine skH 10 zq ?_
  refine skH 11 zq ?_
  refine skH 12 zq ?_
  refine skH 13 zq ?_
  refine skH 14 zq ?_
  refine tkH 15 zq ?_
  refine tkH 16 zq ?_
  refine skH 17 zq ?_
  refine skH 18 zq ?_
  refine skH 19 zq ?_
  refine skH 20 zq ?_
  refine skH 21 zq ?_
  refine skH 22 zq ?_
  refine skH 23 zq ?_
  refine skH 24 zq ?_
  refine skH 25 zq ?_
  refine skH 26 zq ?_
  refine tkH 27 zq ?_
  refine dZ ?_
  replace HG := yh ((uh HG).aj zq)
  replace HO := yh ((uh HO).later zq)
  replace HX := yh ((uh HX).trans (ak zq _))
  replace HM := yh ((uh HM).aj zq)
  replace HV := yh ((uh HV).later zq)
  replace HRI := yh ((uh HRI).later zq)
  clear zq hni
  clear HM HV HRI
  go_wp2_with fail
  go_ret
  unfold di
  exact ⟨false, rfl, by rw [(ba (uh HNO)).1], by rw [(ba (uh HNO)).2]; exact uh HO, uh HX⟩
 obtain ⟨k, hk, hdst⟩ := gY hni
 have HDST := yh hdst
 obtain ⟨b, off, rfl, -⟩ := ab.aR RN (by omega)
 obtain ⟨row, hcl, hr⟩ := ab.bF RN hk
 obtain ⟨an, dn, rfl, RW⟩ := bt hr
 have HN : Hid (cT #[.int .i64 y.nodes[k].id, .bool y.nodes[k].up, .int .i64 y.nodes[k].ae, .int .i64 y.nodes[k].ar, .slice an y.nodes[k].writes.length dn, .int .i64 y.nodes[k].sure, .int .i64 y.nodes[k].clean] W b (off + k * 7)) := cT.ofRow (A := ab.aA) (off := off) (k := k) (row := [.int .i64 y.nodes[k].id, .bool y.nodes[k].up, .int .i64 y.nodes[k].ae, .int .i64 y.nodes[k].ar, .slice an y.nodes[k].writes.length dn, .int .i64 y.nodes[k].sure, .int .i64 y.nodes[k].clean]) hcl rfl (World.block_lt_of_cell? _ _ (hcl 0 (by decide)))
 have HW := yh RW
 have HWL : Hid (y.nodes[k].writes.length ≤ 10000000) := by
  have := (cq (uh HNF k hk).1).len
  show y.nodes[k].writes.length ≤ 10000000
  omega
 clear RN hcl hr RW hdst
 cases hmb : cF y m.dst
 ·
  have HNO := yh (mq (m := m) hmb)
  refine wZz (fun w' => Below W.heap.size W w') ((Below.refl _ _).drew) (fun zq => ?_)
  generalize W.drew = wD1 at zq ⊢
  refine tkH 0 zq ?_
  refine tkH 1 zq ?_
  refine tkH 2 zq ?_
  refine tkH 3 zq ?_
  refine tkJ 4 (v := ?vb4) ?hb4 zq ?rb4
  case hb4 =>
   intro wS hSw
   have bM := (uh HM).aj hSw
   have q3 : wS.cell? ⟨bm, om + 3, none⟩ = some (.int .i64 m.dst) := bM.at 3 _ rfl
   clear bM hSw
   exact fZ
  refine rdH 5 (fun K hK => ?_)
  go_simp
  go_at_call 116
  refine (gN a3 d3 _ d4 a5 d5 a6 d6 y m.dst g _ ((uh HG).aj zq)).mono ?_
  rintro e u0 ⟨rfl, hu0⟩
  subst u0
  rw [hni]
  try go_wp2_with fail
  refine hK.out _ _ zq (fun zq => ?_)
  clear hK K
  try simp only [Act.put, pz, py, px]
  refine tkH 6 zq ?_
  refine tkH 7 zq ?_
  refine tkH 8 zq ?_
  refine tkH 9 zq ?_
  refine tkH 10 zq ?_
  refine tkH 11 zq ?_
  refine tkJ 12 (v := ?vb12) ?hb12 zq ?rb12
  case hb12 =>
   intro wS hSw
   have bM := (uh HM).aj hSw
   have q3 : wS.cell? ⟨bm, om + 3, none⟩ = some (.int .i64 m.dst) := bM.at 3 _ rfl
   clear bM hSw
   exact fZ
  refine rdH 13 (fun K hK => ?_)
  go_simp
  go_at_call 36
  refine (show Calls _ _ _ _ _ from (by rw [uh HDST]; exact ij a3 d3 b off d4 a5 d5 a6 d6 y k g _ ((uh HG).aj zq) ((uh HO).reads.later zq) hk hn5 : Calls Tryz.prog 36 #[.pointer (some ⟨g, 0, none⟩), .int .i64 m.dst] wD1 fun e w' => e = .returned (.bool (cF y ((k : Int) + 1))) ∧ Below wD1.heap.size wD1 w')).mono ?_
  rintro e u1 ⟨rfl, hbu⟩
  rw [← uh HDST, hmb]
  try go_wp2_with fail
  refine hK.out _ _ (zq.trans (hbu.mono zq.size)) (fun zq => ?_)
  clear hK K
  try simp only [Act.put, pz, py, px]
  refine tkH 14 zq ?_
  refine tkH 15 zq ?_
  refine tkH 16 zq ?_
  refine skH 17 zq ?_
  refine skH 18 zq ?_
  refine skH 19 zq ?_
  refine skH 20 zq ?_
  refine skH 21 zq ?_
  refine skH 22 zq ?_
  refine skH 23 zq ?_
  refine skH 24 zq ?_
  refine skH 25 zq ?_
  refine skH 26 zq ?_
  refine tkH 27 zq ?_
  refine dZ ?_
  replace HG := yh ((uh HG).aj zq)
  replace HO := yh ((uh HO).later zq)
  replace HX := yh ((uh HX).trans (ak zq _))
  replace HM := yh ((uh HM).aj zq)
  replace HV := yh ((uh HV).later zq)
  replace HRI := yh ((uh HRI).later zq)
  replace HN := yh ((uh HN).aj zq)
  replace HW := yh ((uh HW).later zq)
  clear zq hni hmb hbu HN HW
  clear HM HV HRI
  go_wp2_with fail
  go_ret
  unfold di
  exact ⟨false, rfl, by rw [(ba (uh HNO)).1], by rw [(ba (uh HNO)).2]; exact uh HO, uh HX⟩
 by_cases hep : m.ae = y.chain.ae
 ·
  have hde : (m.ae != y.chain.ae) = false := by simpa using hep
  have HMM := yh hmb
  have HEP := yh hep
  clear hep
  refine wZz (fun w' => Below W.heap.size W w') ((Below.refl _ _).drew) (fun zq => ?_)
  generalize W.drew = wD1 at zq ⊢
  refine tkH 0 zq ?_
  refine tkH 1 zq ?_
  refine tkH 2 zq ?_
  refine tkH 3 zq ?_
  refine tkJ 4 (v := ?vc4) ?hc4 zq ?rc4
  case hc4 =>
   intro wS hSw
   have bM := (uh HM).aj hSw
   have q3 : wS.cell? ⟨bm, om + 3, none⟩ = some (.int .i64 m.dst) := bM.at 3 _ rfl
   clear bM hSw
   exact fZ
  refine rdH 5 (fun K hK => ?_)
  go_simp
  go_at_call 116
  refine (gN a3 d3 _ d4 a5 d5 a6 d6 y m.dst g _ ((uh HG).aj zq)).mono ?_
  rintro e u0 ⟨rfl, hu0⟩
  subst u0
  rw [hni]
  try go_wp2_with fail
  refine hK.out _ _ zq (fun zq => ?_)
  clear hK K
  try simp only [Act.put, pz, py, px]
  refine tkH 6 zq ?_
  refine tkH 7 zq ?_
  refine tkH 8 zq ?_
  refine tkH 9 zq ?_
  refine tkH 10 zq ?_
  refine tkH 11 zq ?_
  refine tkJ 12 (v := ?vc12) ?hc12 zq ?rc12
  case hc12 =>
   intro wS hSw
   have bM := (uh HM).aj hSw
   have q3 : wS.cell? ⟨bm, om + 3, none⟩ = some (.int .i64 m.dst) := bM.at 3 _ rfl
   clear bM hSw
   exact fZ
  refine rdH 13 (fun K hK => ?_)
  go_simp
  go_at_call 36
  refine (show Calls _ _ _ _ _ from (by rw [uh HDST]; exact ij a3 d3 b off d4 a5 d5 a6 d6 y k g _ ((uh HG).aj zq) ((uh HO).reads.later zq) hk hn5 : Calls Tryz.prog 36 #[.pointer (some ⟨g, 0, none⟩), .int .i64 m.dst] wD1 fun e w' => e = .returned (.bool (cF y ((k : Int) + 1))) ∧ Below wD1.heap.size wD1 w')).mono ?_
  rintro e u1 ⟨rfl, hbu⟩
  rw [← uh HDST, hmb]
  try go_wp2_with fail
  refine hK.out _ _ (zq.trans (hbu.mono zq.size)) (fun zq => ?_)
  clear hK K
  try simp only [Act.put, pz, py, px]
  refine tkH 14 zq ?_
  refine tkH 15 zq ?_
  refine tkH 16 zq ?_
  refine tkH 17 zq ?_
  refine tkH 18 zq ?_
  refine tkH 19 zq ?_
  refine tkJ 20 (v := ?vc20) ?hc20 zq ?rc20
  case hc20 =>
   intro wS hSw
   have bM := (uh HM).aj hSw
   have q1 : wS.cell? ⟨bm, om + 1, none⟩ = some (.int .i64 m.ae) := bM.at 1 _ rfl
   clear bM hSw
   exact fZ
  refine tkH 21 zq ?_
  refine tkH 22 zq ?_
  refine tkH 23 zq ?_
  refine tkH 24 zq ?_
  refine tkJ 25 (v := ?vc25) ?hc25 zq ?rc25
  case hc25 =>
   intro wS hSw
   have bG := (uh HG).aj hSw
   have p2 := ag.at bG 2 _ rfl
   simp only [ga, gb, gc] at p2
   have gl := bG.lt
   clear bG hSw
   exact fZ
  refine tkH 26 zq ?_
  refine tkH 27 zq ?_
  refine dZ ?_
  replace HG := yh ((uh HG).aj zq)
  replace HO := yh ((uh HO).later zq)
  replace HX := yh ((uh HX).trans (ak zq _))
  replace HM := yh ((uh HM).aj zq)
  replace HV := yh ((uh HV).later zq)
  replace HRI := yh ((uh HRI).later zq)
  replace HN := yh ((uh HN).aj zq)
  replace HW := yh ((uh HW).later zq)
  clear zq hni hmb hbu hde
  have hw1 : IntKind.i64.wrap (m.dst - 1) = (k : Int) := by
   have := uh HDST
   rw [IntKind.wrap_i64]
   omega
  have hki : (k : Int) < (y.nodes.length : Int) := by omega
  have hki0 : (0 : Int) ≤ (k : Int) := by omega
  have HNO1 : Hid (cm y m.dst = y.nodes[k]) := by
   show cm y m.dst = _
   rw [uh HDST, eY hk]
  go_upto_region 3 with fail
  refine wZz (fun w' => Below u1.heap.size u1 w') ((Below.refl _ _).drew) (fun zq => ?_)
  generalize u1.drew = wD3 at zq ⊢
  refine tkH 0 zq ?_
  refine tkH 1 zq ?_
  refine tkH 2 zq ?_
  refine tkJ 3 (v := ?ve3) ?he3 zq ?re3
  case he3 =>
   intro wS hSw
   have bG := (uh HG).aj hSw
   have p4 := ag.at bG 4 _ rfl
   simp only [ga, gb, gc] at p4
   have gl := bG.lt
   clear bG hSw
   exact fZ
  refine tkH 4 zq ?_
  refine tkH 5 zq ?_
  refine tkH 6 zq ?_
  refine tkJ 7 (v := ?ve7) ?he7 zq ?re7
  case he7 =>
   intro wS hSw
   have bM := (uh HM).aj hSw
   have q3 : wS.cell? ⟨bm, om + 3, none⟩ = some (.int .i64 m.dst) := bM.at 3 _ rfl
   clear bM hSw
   exact fZ
  refine tkH 8 zq ?_
  refine tkH 9 zq ?_
  refine tkH 10 zq ?_
  refine dZ ?_
  replace HG := yh ((uh HG).aj zq)
  replace HO := yh ((uh HO).later zq)
  replace HX := yh ((uh HX).trans (ak zq _))
  replace HM := yh ((uh HM).aj zq)
  replace HV := yh ((uh HV).later zq)
  replace HRI := yh ((uh HRI).later zq)
  replace HN := yh ((uh HN).aj zq)
  replace HW := yh ((uh HW).later zq)
  clear zq hw1 hki hki0
  have q0 : wD3.cell? ⟨bm, om, none⟩ = some (.int .i64 m.kind) := (uh HM).at 0 _ rfl
  have ml := (uh HM).lt
  by_cases hk2 : m.kind = 2
  ·
   have hdk : (m.kind == 2) = true := by simpa using hk2
   have hha := mw (uh HI) (uh HMM) (uh HEP) hk2
   rw [uh HNO1] at hha
   have HHA := yh hha
   clear hha hk2
   go_upto_region 5 with fail
   clear q0 ml hdk
   by_cases hx : df y.chain.ids m.dst 1 = m.src
   ·
    have hdx : (df y.chain.ids m.dst 1 != m.src) = false := by simpa using hx
    have HSO : Hid (bU y m = some { y.nodes[k] with clean := max y.nodes[k].clean (min m.index y.nodes[k].sure) }) := (uh HHA).trans (if_neg (by simp [hx]))
    clear hx
    refine wZz (fun w' => Below wD3.heap.size wD3 w') ((Below.refl _ _).drew) (fun zq => ?_)
    generalize wD3.drew = wD5 at zq ⊢
    refine tkH 0 zq ?_
    refine tkH 1 zq ?_
    refine tkH 2 zq ?_
    refine tkH 3 zq ?_
    refine tkH 4 zq ?_
    refine tkH 5 zq ?_
    refine tkJ 6 (v := ?vf6) ?hf6 zq ?rf6
    case hf6 =>
     intro wS hSw
     have bM := (uh HM).aj hSw
     have q3 : wS.cell? ⟨bm, om + 3, none⟩ = some (.int .i64 m.dst) := bM.at 3 _ rfl
     clear bM hSw
     exact fZ
    refine tkH 8 zq ?_
    refine tkH 9 zq ?_
    refine tkH 10 zq ?_
    refine tkJ 11 (v := ?vf11) ?hf11 zq ?rf11
    case hf11 =>
     intro wS hSw
     have bM := (uh HM).aj hSw
     have q2 : wS.cell? ⟨bm, om + 2, none⟩ = some (.int .i64 m.src) := bM.at 2 _ rfl
     clear bM hSw
     exact fZ
    refine rdH 7 (fun K hK => ?_)
    go_simp
    go_at_call 117
    refine (gu g 2 a3 d3 y.chain m.dst 1 _ ⟨ag.at ((uh HG).aj zq) 2 _ rfl, ag.at ((uh HG).aj zq) 3 _ rfl⟩ ((uh HRI).later zq) (uh HLEN) (by omega)).mono ?_
    rintro e u0 ⟨rfl, hu0⟩
    subst u0
    try go_wp2_with fail
    refine hK.out _ _ zq (fun zq => ?_)
    clear hK K
    try simp only [Act.put, pz, py, px]
    refine tkH 12 zq ?_
    refine dZ ?_
    replace HG := yh ((uh HG).aj zq)
    replace HO := yh ((uh HO).later zq)
    replace HX := yh ((uh HX).trans (ak zq _))
    replace HM := yh ((uh HM).aj zq)
    replace HV := yh ((uh HV).later zq)
    replace HRI := yh ((uh HRI).later zq)
    replace HN := yh ((uh HN).aj zq)
    replace HW := yh ((uh HW).later zq)
    clear zq hdx
    go_upto_region 7 with fail
    obtain ⟨b', off', d4', an', dn', e4, hb1, hb2, hb3, hbG, hR0, hwf, -, -, hput⟩ := vv ((uh HO).later (show Below wD5.heap.size wD5 wD5.drew from (Below.refl _ _).drew)) hk
    simp only [Value.slice.injEq, Option.some.injEq, Addr.mk.injEq, and_true, true_and] at e4
    obtain ⟨⟨rfl, rfl⟩, rfl⟩ := e4
    have HBMB : Hid (¬ bm = b) := fun e => hbG (e ▸ hGm)
    have HND : Hid (cT #[.int .i64 y.nodes[k].id, .bool y.nodes[k].up, .int .i64 y.nodes[k].ae, .int .i64 y.nodes[k].ar, .slice an y.nodes[k].writes.length dn, .int .i64 y.nodes[k].sure, .int .i64 y.nodes[k].clean] wD5.drew b (off + k * 7)) := (uh HN).drew
    have HFZ : Hid (∀ q, wD5.drew.frozen? ⟨b, q, none⟩ = false) := fun q => hR0.soft q
    have HPUT : Hid (true = eP y m ∧ lz (wD5.drew.setCell ⟨b, off + k * 7 + 6, none⟩ (.int .i64 (max y.nodes[k].clean (min m.index y.nodes[k].sure)))) lo hi G [.int .i64 y.now, .int .i64 y.events, .int .i64 y.chain.ae, .slice a3 y.chain.ids.length d3, .slice (some ⟨b, off, none⟩) y.nodes.length d4, .slice a5 y.msgs.length d5, .slice a6 y.af.length d6] (ec y m) ∧ Ext (fun q => lo ≤ q ∧ q < hi ∧ ¬ G q) W (wD5.drew.setCell ⟨b, off + k * 7 + 6, none⟩ (.int .i64 (max y.nodes[k].clean (min m.index y.nodes[k].sure))))) := by
     have e1 : Ext (fun q => lo ≤ q ∧ q < hi ∧ ¬ G q) wD5 (wD5.drew.setCell ⟨b, off + k * 7 + 6, none⟩ (.int .i64 (max y.nodes[k].clean (min m.index y.nodes[k].sure)))) := ((Ext.refl _ _).drew 1).setCell ⟨b, off + k * 7 + 6, none⟩ _ ⟨hb1, hb2, hbG⟩
     have hno := cq (uh HNF k hk).1
     have c1 := hno.clean
     have c2 := hno.sure
     have c3 := hno.len
     have hid := (uh HNF k hk).2
     refine ⟨(cS (uh HSO)).1.symm, ?_, (uh HX).trans e1⟩
     rw [(cS (uh HSO)).2, ik (y := y) (k := k) (n := { y.nodes[k] with clean := max y.nodes[k].clean (min m.index y.nodes[k].sure) }) hid]
     have hR6 := hR0.set 6 (.int .i64 (max y.nodes[k].clean (min m.index y.nodes[k].sure))) (by decide)
     simp only [List.set_cons_succ, List.set_cons_zero] at hR6
     exact hput _ { y.nodes[k] with clean := max y.nodes[k].clean (min m.index y.nodes[k].sure) } rfl ⟨hwf.1, hwf.2.1, hwf.2.2.1, hwf.2.2.2.1, aK (show -1000000000 ≤ max y.nodes[k].clean (min m.index y.nodes[k].sure) ∧ max y.nodes[k].clean (min m.index y.nodes[k].sure) ≤ 1000000000 by omega)⟩ hR6
    have bl3 : b < wD5.heap.size := (uh HN).lt
    clear hR0 hput hwf
    refine wZz (fun w' => Ext (fun q => q = b) wD5 w') ((Ext.refl _ _).drew 1) (fun zq => ?_)
    generalize wD5.drew = wD7 at zq HND HFZ HPUT ⊢
    refine tkH 0 zq ?_
    refine tkH 1 zq ?_
    refine tkH 2 zq ?_
    refine tkH 3 zq ?_
    refine tkH 5 zq ?_
    refine tkH 6 zq ?_
    refine tkH 7 zq ?_
    refine tkJ 8 (v := ?vh8_8) ?hh8_8 zq ?rh8_8
    case hh8_8 =>
     intro wS hSw
     have bM := (uh HM).ext hSw (uh HBMB)
     have q4 : wS.cell? ⟨bm, om + 4, none⟩ = some (.int .i64 m.index) := bM.at 4 _ rfl
     clear bM hSw
     exact fZ
    refine tkH 9 zq ?_
    refine tkH 10 zq ?_
    refine tkH 11 zq ?_
    refine wpAnyH_ready (rs := [4, 12]) (by kernel_rfl) (by simp) ?_
    refine AllReadyH.cons (o := tK) rfl (fun K hK => ?oh4_12) (AllReadyH.cons (o := ⟨some 76, .load 2 (.tmp 75), 2, "l12_world.go:216", #[⟨11, .data⟩], none⟩) rfl (fun K hK => ?oh12_12) (AllReadyH.nil))
    case oh4_12 =>
     have bN := (uh HND)
     have n6 : wD7.cell? ⟨b, off + k * 7 + 6, none⟩ = some (.int .i64 y.nodes[k].clean) := bN.at 6 _ rfl
     clear bN
     go_simp
     refine hK.out _ _ zq (fun zq => ?_)
     clear hK K
     try simp only [Act.put, pz, py, px]
     refine rdH 12 (fun K hK => ?_)
     have bN := (uh HND)
     have n5 : wD7.cell? ⟨b, off + k * 7 + 5, none⟩ = some (.int .i64 y.nodes[k].sure) := bN.at 5 _ rfl
     clear bN
     go_simp
     refine hK.out _ _ zq (fun zq => ?_)
     clear hK K
     try simp only [Act.put, pz, py, px]
     refine rdH 13 (fun K hK => ?_)
     go_simp
     go_at_call 118
     refine (wh m.index y.nodes[k].sure _).mono ?_
     rintro e u0 ⟨rfl, hu0⟩
     subst u0
     try go_wp2_with fail
     refine hK.out _ _ zq (fun zq => ?_)
     clear hK K
     try simp only [Act.put, pz, py, px]
     refine rdH 14 (fun K hK => ?_)
     go_simp
     go_at_call 65
     refine (nD y.nodes[k].clean (min m.index y.nodes[k].sure) _).mono ?_
     rintro e u0 ⟨rfl, hu0⟩
     subst u0
     try go_wp2_with fail
     refine hK.out _ _ zq (fun zq => ?_)
     clear hK K
     try simp only [Act.put, pz, py, px]
     refine tkH 15 zq ?_
     refine tkH 16 zq ?_
     refine rdH 17 (fun K hK => ?_)
     have bN := (uh HND)
     have n6 : wD7.cell? ⟨b, off + k * 7 + 6, none⟩ = some (.int .i64 y.nodes[k].clean) := bN.at 6 _ rfl
     have f6 := uh HFZ (off + k * 7 + 6)
     clear bN
     go_simp
     refine hK.out _ _ (zq.setCell ⟨b, off + k * 7 + 6, none⟩ (.int .i64 (max y.nodes[k].clean (min m.index y.nodes[k].sure))) rfl) (fun zq => ?_)
     clear hK K
     try simp only [Act.put, pz, py, px]
     refine dZ ?_
     clear zq
     go_wp2_with fail
     go_ret
     unfold di
     exact ⟨true, rfl, uh HPUT⟩
    case oh12_12 =>
     have bN := (uh HND)
     have n5 : wD7.cell? ⟨b, off + k * 7 + 5, none⟩ = some (.int .i64 y.nodes[k].sure) := bN.at 5 _ rfl
     clear bN
     go_simp
     refine hK.out _ _ zq (fun zq => ?_)
     clear hK K
     try simp only [Act.put, pz, py, px]
     refine wpAnyH_ready (rs := [4, 13]) (by kernel_rfl) (by simp) ?_
     refine AllReadyH.cons (o := tK) rfl (fun K hK => ?oh4_15) (AllReadyH.cons (o := ⟨some 77, .call { callee := .value (.func 118), args := #[.tmp 72, .tmp 76], argTypes := #[2, 2] }, 2, "l12_world.go:216", #[⟨8, .data⟩, ⟨12, .data⟩], none⟩) rfl (fun K hK => ?oh13_15) (AllReadyH.nil))
     case oh4_15 =>
      have bN := (uh HND)
      have n6 : wD7.cell? ⟨b, off + k * 7 + 6, none⟩ = some (.int .i64 y.nodes[k].clean) := bN.at 6 _ rfl
      clear bN
      go_simp
      refine hK.out _ _ zq (fun zq => ?_)
      clear hK K
      try simp only [Act.put, pz, py, px]
      refine rdH 13 (fun K hK => ?_)
      go_simp
      go_at_call 118
      refine (wh m.index y.nodes[k].sure _).mono ?_
      rintro e u0 ⟨rfl, hu0⟩
      subst u0
      try go_wp2_with fail
      refine hK.out _ _ zq (fun zq => ?_)
      clear hK K
      try simp only [Act.put, pz, py, px]
      refine rdH 14 (fun K hK => ?_)
      go_simp
      go_at_call 65
      refine (nD y.nodes[k].clean (min m.index y.nodes[k].sure) _).mono ?_
      rintro e u0 ⟨rfl, hu0⟩
      subst u0
      try go_wp2_with fail
      refine hK.out _ _ zq (fun zq => ?_)
      clear hK K
      try simp only [Act.put, pz, py, px]
      refine tkH 15 zq ?_
      refine tkH 16 zq ?_
      refine rdH 17 (fun K hK => ?_)
      have bN := (uh HND)
      have n6 : wD7.cell? ⟨b, off + k * 7 + 6, none⟩ = some (.int .i64 y.nodes[k].clean) := bN.at 6 _ rfl
      have f6 := uh HFZ (off + k * 7 + 6)
      clear bN
      go_simp
      refine hK.out _ _ (zq.setCell ⟨b, off + k * 7 + 6, none⟩ (.int .i64 (max y.nodes[k].clean (min m.index y.nodes[k].sure))) rfl) (fun zq => ?_)
      clear hK K
      try simp only [Act.put, pz, py, px]
      refine dZ ?_
      clear zq
      go_wp2_with fail
      go_ret
      unfold di
      exact ⟨true, rfl, uh HPUT⟩
     case oh13_15 =>
      go_simp
      go_at_call 118
      refine (wh m.index y.nodes[k].sure _).mono ?_
      rintro e u0 ⟨rfl, hu0⟩
      subst u0
      try go_wp2_with fail
      refine hK.out _ _ zq (fun zq => ?_)
      clear hK K
      try simp only [Act.put, pz, py, px]
      refine rdH 4 (fun K hK => ?_)
      have bN := (uh HND)
      have n6 : wD7.cell? ⟨b, off + k * 7 + 6, none⟩ = some (.int .i64 y.nodes[k].clean) := bN.at 6 _ rfl
      clear bN
      go_simp
      refine hK.out _ _ zq (fun zq => ?_)
      clear hK K
      try simp only [Act.put, pz, py, px]
      refine rdH 14 (fun K hK => ?_)
      go_simp
      go_at_call 65
      refine (nD y.nodes[k].clean (min m.index y.nodes[k].sure) _).mono ?_
      rintro e u0 ⟨rfl, hu0⟩
      subst u0
      try go_wp2_with fail
      refine hK.out _ _ zq (fun zq => ?_)
      clear hK K
      try simp only [Act.put, pz, py, px]
      refine tkH 15 zq ?_
      refine tkH 16 zq ?_
      refine rdH 17 (fun K hK => ?_)
      have bN := (uh HND)
      have n6 : wD7.cell? ⟨b, off + k * 7 + 6, none⟩ = some (.int .i64 y.nodes[k].clean) := bN.at 6 _ rfl
      have f6 := uh HFZ (off + k * 7 + 6)
      clear bN
      go_simp
      refine hK.out _ _ (zq.setCell ⟨b, off + k * 7 + 6, none⟩ (.int .i64 (max y.nodes[k].clean (min m.index y.nodes[k].sure))) rfl) (fun zq => ?_)
      clear hK K
      try simp only [Act.put, pz, py, px]
      refine dZ ?_
      clear zq
      go_wp2_with fail
      go_ret
      unfold di
      exact ⟨true, rfl, uh HPUT⟩
   have hdx : (df y.chain.ids m.dst 1 != m.src) = true := by simpa using hx
   have HNO : Hid (bU y m = none) := (uh HHA).trans (if_pos hx)
   clear hx
   refine wZz (fun w' => Below wD3.heap.size wD3 w') ((Below.refl _ _).drew) (fun zq => ?_)
   generalize wD3.drew = wD5 at zq ⊢
   refine tkH 0 zq ?_
   refine tkH 1 zq ?_
   refine tkH 2 zq ?_
   refine tkH 3 zq ?_
   refine tkH 4 zq ?_
   refine tkH 5 zq ?_
   refine tkJ 6 (v := ?vg6) ?hg6 zq ?rg6
   case hg6 =>
    intro wS hSw
    have bM := (uh HM).aj hSw
    have q3 : wS.cell? ⟨bm, om + 3, none⟩ = some (.int .i64 m.dst) := bM.at 3 _ rfl
    clear bM hSw
    exact fZ
   refine tkH 8 zq ?_
   refine tkH 9 zq ?_
   refine tkH 10 zq ?_
   refine tkJ 11 (v := ?vg11) ?hg11 zq ?rg11
   case hg11 =>
    intro wS hSw
    have bM := (uh HM).aj hSw
    have q2 : wS.cell? ⟨bm, om + 2, none⟩ = some (.int .i64 m.src) := bM.at 2 _ rfl
    clear bM hSw
    exact fZ
   refine rdH 7 (fun K hK => ?_)
   go_simp
   go_at_call 117
   refine (gu g 2 a3 d3 y.chain m.dst 1 _ ⟨ag.at ((uh HG).aj zq) 2 _ rfl, ag.at ((uh HG).aj zq) 3 _ rfl⟩ ((uh HRI).later zq) (uh HLEN) (by omega)).mono ?_
   rintro e u0 ⟨rfl, hu0⟩
   subst u0
   try go_wp2_with fail
   refine hK.out _ _ zq (fun zq => ?_)
   clear hK K
   try simp only [Act.put, pz, py, px]
   refine tkH 12 zq ?_
   refine dZ ?_
   replace HG := yh ((uh HG).aj zq)
   replace HO := yh ((uh HO).later zq)
   replace HX := yh ((uh HX).trans (ak zq _))
   replace HM := yh ((uh HM).aj zq)
   replace HV := yh ((uh HV).later zq)
   replace HRI := yh ((uh HRI).later zq)
   replace HN := yh ((uh HN).aj zq)
   replace HW := yh ((uh HW).later zq)
   clear zq hdx HN HW
   clear HM HV HRI
   go_wp2_with fail
   go_ret
   unfold di
   exact ⟨false, rfl, by rw [(ba (uh HNO)).1], by rw [(ba (uh HNO)).2]; exact uh HO, uh HX⟩
  have hdk : (m.kind == 2) = false := by simpa using hk2
  have hha := lY (uh HI) (uh HMM) (uh HEP) hk2
  rw [uh HNO1] at hha
  have HHA := yh hha
  have HWF := yh ((uh HMP).2.2.2 hk2)
  clear hha hk2
  go_upto_region 9 with fail
  clear q0 ml hdk
  by_cases hx : df y.chain.ids m.dst (-1) = m.src
  ·
   have hdx : (df y.chain.ids m.dst (-1) != m.src) = false := by simpa using hx
   have hwl : IntKind.i64.wrap ((y.nodes[k].writes.length : Int) + 1) = (y.nodes[k].writes.length : Int) + 1 := by
    have := uh HWL
    rw [IntKind.wrap_i64]
    omega
   have hwl0 : IntKind.i64.wrap (y.nodes[k].writes.length : Int) = (y.nodes[k].writes.length : Int) := by
    have := uh HWL
    rw [IntKind.wrap_i64]
    omega
   by_cases hy : m.index = (y.nodes[k].writes.length : Int) + 1
   ·
    have hdy : (m.index != (y.nodes[k].writes.length : Int) + 1) = false := by simpa using hy
    replace HHA := yh ((uh HHA).trans (if_neg (by simp [hx, hy])))
    clear hx hy
    refine wZz (fun w' => Below wD3.heap.size wD3 w') ((Below.refl _ _).drew) (fun zq => ?_)
    generalize wD3.drew = wD9 at zq ⊢
    refine tkH 0 zq ?_
    refine tkH 1 zq ?_
    refine tkH 2 zq ?_
    refine tkH 3 zq ?_
    refine tkH 4 zq ?_
    refine tkH 5 zq ?_
    refine tkJ 6 (v := ?vi6) ?hi6 zq ?ri6
    case hi6 =>
     intro wS hSw
     have bM := (uh HM).aj hSw
     have q3 : wS.cell? ⟨bm, om + 3, none⟩ = some (.int .i64 m.dst) := bM.at 3 _ rfl
     clear bM hSw
     exact fZ
    refine tkH 8 zq ?_
    refine tkH 9 zq ?_
    refine tkH 10 zq ?_
    refine tkJ 11 (v := ?vi11) ?hi11 zq ?ri11
    case hi11 =>
     intro wS hSw
     have bM := (uh HM).aj hSw
     have q2 : wS.cell? ⟨bm, om + 2, none⟩ = some (.int .i64 m.src) := bM.at 2 _ rfl
     clear bM hSw
     exact fZ
    refine rdH 7 (fun K hK => ?_)
    go_simp
    go_at_call 117
    refine (gu g 2 a3 d3 y.chain m.dst (-1) _ ⟨ag.at ((uh HG).aj zq) 2 _ rfl, ag.at ((uh HG).aj zq) 3 _ rfl⟩ ((uh HRI).later zq) (uh HLEN) (by omega)).mono ?_
    rintro e u0 ⟨rfl, hu0⟩
    subst u0
    try go_wp2_with fail
    refine hK.out _ _ zq (fun zq => ?_)
    clear hK K
    try simp only [Act.put, pz, py, px]
    refine tkH 12 zq ?_
    refine tkH 13 zq ?_
    refine tkH 14 zq ?_
    refine tkH 15 zq ?_
    refine tkH 16 zq ?_
    refine tkJ 17 (v := ?vi17) ?hi17 zq ?ri17
    case hi17 =>
     intro wS hSw
     have bM := (uh HM).aj hSw
     have q4 : wS.cell? ⟨bm, om + 4, none⟩ = some (.int .i64 m.index) := bM.at 4 _ rfl
     clear bM hSw
     exact fZ
    refine tkH 18 zq ?_
    refine tkH 19 zq ?_
    refine tkH 20 zq ?_
    refine tkJ 21 (v := ?vi21) ?hi21 zq ?ri21
    case hi21 =>
     intro wS hSw
     have bN := (uh HN).aj hSw
     have n4 : wS.cell? ⟨b, off + k * 7 + 4, none⟩ = some (.slice an y.nodes[k].writes.length dn) := bN.at 4 _ rfl
     clear bN hSw
     exact fZ
    refine tkH 22 zq ?_
    refine tkH 23 zq ?_
    refine tkH 24 zq ?_
    refine tkH 25 zq ?_
    refine dZ ?_
    replace HG := yh ((uh HG).aj zq)
    replace HO := yh ((uh HO).later zq)
    replace HX := yh ((uh HX).trans (ak zq _))
    replace HM := yh ((uh HM).aj zq)
    replace HV := yh ((uh HV).later zq)
    replace HRI := yh ((uh HRI).later zq)
    replace HN := yh ((uh HN).aj zq)
    replace HW := yh ((uh HW).later zq)
    clear zq hdx hdy hwl hwl0
    go_upto_region 11 with fail
    by_cases hs : 0 < bV y.nodes[k].writes m.write.aa m.write.seq
    ·
     have hds : decide (0 < bV y.nodes[k].writes m.write.aa m.write.seq) = true := by simpa using hs
     have HNO : Hid (bU y m = none) := (uh HHA).trans (if_pos hs)
     clear hs
     refine wZz (fun w' => Below wD9.heap.size wD9 w') ((Below.refl _ _).drew) (fun zq => ?_)
     generalize wD9.drew = wB at zq ⊢
     refine tkH 0 zq ?_
     refine tkH 1 zq ?_
     refine tkH 2 zq ?_
     refine tkJ 3 (v := ?vl3) ?hl3 zq ?rl3
     case hl3 =>
      intro wS hSw
      have bN := (uh HN).aj hSw
      have n4 : wS.cell? ⟨b, off + k * 7 + 4, none⟩ = some (.slice an y.nodes[k].writes.length dn) := bN.at 4 _ rfl
      clear bN hSw
      exact fZ
     refine tkH 4 zq ?_
     refine tkH 5 zq ?_
     refine tkH 6 zq ?_
     refine tkH 7 zq ?_
     refine tkJ 8 (v := ?vl8) ?hl8 zq ?rl8
     case hl8 =>
      intro wS hSw
      have bM := (uh HM).aj hSw
      have q8 : wS.cell? ⟨bm, om + 8, none⟩ = some (.int .i64 m.write.aa) := bM.at 8 _ rfl
      have q8' : wS.cell? ⟨bm, om + 5 + 3, none⟩ = some (.int .i64 m.write.aa) := bM.at 8 _ rfl
      clear bM hSw
      exact fZ
     refine tkH 9 zq ?_
     refine tkH 10 zq ?_
     refine tkH 11 zq ?_
     refine tkH 12 zq ?_
     refine tkJ 13 (v := ?vl13) ?hl13 zq ?rl13
     case hl13 =>
      intro wS hSw
      have bM := (uh HM).aj hSw
      have q9 : wS.cell? ⟨bm, om + 9, none⟩ = some (.int .i64 m.write.seq) := bM.at 9 _ rfl
      have q9' : wS.cell? ⟨bm, om + 5 + 4, none⟩ = some (.int .i64 m.write.seq) := bM.at 9 _ rfl
      clear bM hSw
      exact fZ
     refine rdH 14 (fun K hK => ?_)
     go_simp
     go_at_call 119
     refine (nf _ y.nodes[k].writes m.write.aa m.write.seq _ ((uh HW).later zq) (uh HWL)).mono ?_
     rintro e u0 ⟨rfl, hu0⟩
     subst u0
     try go_wp2_with fail
     refine hK.out _ _ zq (fun zq => ?_)
     clear hK K
     try simp only [Act.put, pz, py, px]
     refine tkH 15 zq ?_
     refine dZ ?_
     replace HG := yh ((uh HG).aj zq)
     replace HO := yh ((uh HO).later zq)
     replace HX := yh ((uh HX).trans (ak zq _))
     replace HM := yh ((uh HM).aj zq)
     replace HV := yh ((uh HV).later zq)
     replace HRI := yh ((uh HRI).later zq)
     replace HN := yh ((uh HN).aj zq)
     replace HW := yh ((uh HW).later zq)
     clear zq hds HN HW
     clear HM HV HRI
     go_wp2_with fail
     go_ret
     unfold di
     exact ⟨false, rfl, by rw [(ba (uh HNO)).1], by rw [(ba (uh HNO)).2]; exact uh HO, uh HX⟩
    have hds : decide (0 < bV y.nodes[k].writes m.write.aa m.write.seq) = false := by simpa using hs
    replace HHA := yh ((uh HHA).trans (if_neg hs))
    clear hs
    refine wZz (fun w' => Below wD9.heap.size wD9 w') ((Below.refl _ _).drew) (fun zq => ?_)
    generalize wD9.drew = wB at zq ⊢
    refine tkH 0 zq ?_
    refine tkH 1 zq ?_
    refine tkH 2 zq ?_
    refine tkJ 3 (v := ?vn3) ?hn3 zq ?rn3
    case hn3 =>
     intro wS hSw
     have bN := (uh HN).aj hSw
     have n4 : wS.cell? ⟨b, off + k * 7 + 4, none⟩ = some (.slice an y.nodes[k].writes.length dn) := bN.at 4 _ rfl
     clear bN hSw
     exact fZ
    refine tkH 4 zq ?_
    refine tkH 5 zq ?_
    refine tkH 6 zq ?_
    refine tkH 7 zq ?_
    refine tkJ 8 (v := ?vn8) ?hn8 zq ?rn8
    case hn8 =>
     intro wS hSw
     have bM := (uh HM).aj hSw
     have q8 : wS.cell? ⟨bm, om + 8, none⟩ = some (.int .i64 m.write.aa) := bM.at 8 _ rfl
     have q8' : wS.cell? ⟨bm, om + 5 + 3, none⟩ = some (.int .i64 m.write.aa) := bM.at 8 _ rfl
     clear bM hSw
     exact fZ
    refine tkH 9 zq ?_
    refine tkH 10 zq ?_
    refine tkH 11 zq ?_
    refine tkH 12 zq ?_
    refine tkJ 13 (v := ?vn13) ?hn13 zq ?rn13
    case hn13 =>
     intro wS hSw
     have bM := (uh HM).aj hSw
     have q9 : wS.cell? ⟨bm, om + 9, none⟩ = some (.int .i64 m.write.seq) := bM.at 9 _ rfl
     have q9' : wS.cell? ⟨bm, om + 5 + 4, none⟩ = some (.int .i64 m.write.seq) := bM.at 9 _ rfl
     clear bM hSw
     exact fZ
    refine rdH 14 (fun K hK => ?_)
    go_simp
    go_at_call 119
    refine (nf _ y.nodes[k].writes m.write.aa m.write.seq _ ((uh HW).later zq) (uh HWL)).mono ?_
    rintro e u0 ⟨rfl, hu0⟩
    subst u0
    try go_wp2_with fail
    refine hK.out _ _ zq (fun zq => ?_)
    clear hK K
    try simp only [Act.put, pz, py, px]
    refine tkH 15 zq ?_
    refine dZ ?_
    replace HG := yh ((uh HG).aj zq)
    replace HO := yh ((uh HO).later zq)
    replace HX := yh ((uh HX).trans (ak zq _))
    replace HM := yh ((uh HM).aj zq)
    replace HV := yh ((uh HV).later zq)
    replace HRI := yh ((uh HRI).later zq)
    replace HN := yh ((uh HN).aj zq)
    replace HW := yh ((uh HW).later zq)
    clear zq hds
    go_upto_region 13 with fail
    obtain ⟨b', off', d4', row0, e4, hb1, hb2, hb3, hbG, hR0, ⟨blk0, hl0, -⟩, -, hput⟩ := qG (uh HO) hk
    simp only [Value.slice.injEq, Option.some.injEq, Addr.mk.injEq, and_true, true_and] at e4
    obtain ⟨⟨rfl, rfl⟩, rfl⟩ := e4
    have hcd := kV y.nodes[k] m.write
    have HLT := yh (uU b (off + k * 7) bm (om + 5) an dn av dv y.nodes[k].writes m.write wB ((uh HN).at 4 _ rfl) (uh HN).lt (fun q => hR0.soft q) (uh HM).write (uh HW) (uh HV) (cq (uh HNF k hk).1).aM (uh HWF))
    obtain ⟨a4', d4', b4, rfl, rfl, g0, g2, g3, lw, g5, g6⟩ := cC.1 hl0
    have ml := (uh HM).lt
    have nl := (uh HN).lt
    have HR0 := yh hR0
    have HPUT := yh hput
    have HXX := yh (uh HX)
    have HOO := yh (uh HO)
    clear hl0 hR0 hput HN HM HV HRI HW HG HO HX lw
    go_wp2_with fail
    refine (uh HLT).mono ?_
    rintro e w9 (⟨hc, rfl, hb⟩ | ⟨hc, rfl, w1, a, n, c, rfl, hn, O, hb⟩)
    ·
     have hcq : (aV (ca y.nodes[k].writes m.write) == 0) = false := by simpa using hc
     have HNO : Hid (bU y m = none) := (uh HHA).trans (if_neg (by rw [hcd]; exact hc))
     have HOZ := yh ((uh HOO).later hb)
     have HXZ := yh ((uh HXX).trans (ak hb _))
     clear hc hb HLT hcd HR0 HPUT HOO HXX
     go_wp2_with fail
     go_ret
     unfold di
     exact ⟨false, rfl, by rw [(ba (uh HNO)).1], by rw [(ba (uh HNO)).2]; exact uh HOZ, uh HXZ⟩
    have HSO : Hid (bU y m = some (cM y.nodes[k] (ca y.nodes[k].writes m.write).writes)) := (uh HHA).trans ((if_pos (by rw [hcd]; exact hc)).trans (by rw [ku hc]))
    have hzB : W.heap.size ≤ wB.heap.size := (uh HXX).size
    have e1 : Ext (fun q => q = b) w1 (w1.setCell ⟨b, off + k * 7 + 4, none⟩ (.slice a n c)) := (Ext.refl _ _).setCell _ _ rfl
    obtain ⟨bl, hl1, hl2⟩ := O.ext e1 (fun q h1 h2 h3 => by omega)
    have hR1 := (((uh HR0).call (c' := w1) (g := []) (ak hb _) (by simp) (by simp)).set 4 (.slice a n c) (by decide))
    simp only [List.set_cons_succ, List.set_cons_zero] at hR1
    have hid := (uh HNF k hk).2
    have HOZ : Hid (lz (w1.setCell ⟨b, off + k * 7 + 4, none⟩ (.slice a n c)) lo hi G [.int .i64 y.now, .int .i64 y.events, .int .i64 y.chain.ae, .slice a3 y.chain.ids.length d3, .slice (some ⟨b, off, none⟩) y.nodes.length d4, .slice a5 y.msgs.length d5, .slice a6 y.af.length d6] (ec y m)) := by
     show lz _ lo hi G _ (ec y m)
     rw [(cS (uh HSO)).2, ik (y := y) (k := k) (n := cM y.nodes[k] (ca y.nodes[k].writes m.write).writes) hid]
     refine uh HPUT _ _ (cM y.nodes[k] (ca y.nodes[k].writes m.write).writes) bl (cC.2 ⟨a, c, bl, by subst hn; rfl, rfl, g0, g2, g3, by subst hn; exact hl1, g5, g6⟩) (fun q hq => ?_) hR1
     have h3 := hl2 q hq
     exact ⟨by omega, fun e => by have := uh HGL q e; omega⟩
    have HXZ := yh ((uh HXX).trans (((ak hb (fun q => lo ≤ q ∧ q < hi ∧ ¬ G q))).setCell ⟨b, off + k * 7 + 4, none⟩ (.slice a n c) ⟨hb1, hb2, hbG⟩))
    clear hc hb HLT hcd HR0 HPUT HOO HXX O e1 hl1 hl2 hR1 hn
    go_wp2_with fail
    go_ret
    unfold di
    exact ⟨true, rfl, by rw [(cS (uh HSO)).1], uh HOZ, uh HXZ⟩
   have hdy : (m.index != (y.nodes[k].writes.length : Int) + 1) = true := by simpa using hy
   have HNO : Hid (bU y m = none) := (uh HHA).trans (if_pos (Or.inr hy))
   clear hx hy
   refine wZz (fun w' => Below wD3.heap.size wD3 w') ((Below.refl _ _).drew) (fun zq => ?_)
   generalize wD3.drew = wD9 at zq ⊢
   refine tkH 0 zq ?_
   refine tkH 1 zq ?_
   refine tkH 2 zq ?_
   refine tkH 3 zq ?_
   refine tkH 4 zq ?_
   refine tkH 5 zq ?_
   refine tkJ 6 (v := ?vj6) ?hj6 zq ?rj6
   case hj6 =>
    intro wS hSw
    have bM := (uh HM).aj hSw
    have q3 : wS.cell? ⟨bm, om + 3, none⟩ = some (.int .i64 m.dst) := bM.at 3 _ rfl
    clear bM hSw
    exact fZ
   refine tkH 8 zq ?_
   refine tkH 9 zq ?_
   refine tkH 10 zq ?_
   refine tkJ 11 (v := ?vj11) ?hj11 zq ?rj11
   case hj11 =>
    intro wS hSw
    have bM := (uh HM).aj hSw
    have q2 : wS.cell? ⟨bm, om + 2, none⟩ = some (.int .i64 m.src) := bM.at 2 _ rfl
    clear bM hSw
    exact fZ
   refine rdH 7 (fun K hK => ?_)
   go_simp
   go_at_call 117
   refine (gu g 2 a3 d3 y.chain m.dst (-1) _ ⟨ag.at ((uh HG).aj zq) 2 _ rfl, ag.at ((uh HG).aj zq) 3 _ rfl⟩ ((uh HRI).later zq) (uh HLEN) (by omega)).mono ?_
   rintro e u0 ⟨rfl, hu0⟩
   subst u0
   try go_wp2_with fail
   refine hK.out _ _ zq (fun zq => ?_)
   clear hK K
   try simp only [Act.put, pz, py, px]
   refine tkH 12 zq ?_
   refine tkH 13 zq ?_
   refine tkH 14 zq ?_
   refine tkH 15 zq ?_
   refine tkH 16 zq ?_
   refine tkJ 17 (v := ?vj17) ?hj17 zq ?rj17
   case hj17 =>
    intro wS hSw
    have bM := (uh HM).aj hSw
    have q4 : wS.cell? ⟨bm, om + 4, none⟩ = some (.int .i64 m.index) := bM.at 4 _ rfl
    clear bM hSw
    exact fZ
   refine tkH 18 zq ?_
   refine tkH 19 zq ?_
   refine tkH 20 zq ?_
   refine tkJ 21 (v := ?vj21) ?hj21 zq ?rj21
   case hj21 =>
    intro wS hSw
    have bN := (uh HN).aj hSw
    have n4 : wS.cell? ⟨b, off + k * 7 + 4, none⟩ = some (.slice an y.nodes[k].writes.length dn) := bN.at 4 _ rfl
    clear bN hSw
    exact fZ
   refine tkH 22 zq ?_
   refine tkH 23 zq ?_
   refine tkH 24 zq ?_
   refine tkH 25 zq ?_
   refine dZ ?_
   replace HG := yh ((uh HG).aj zq)
   replace HO := yh ((uh HO).later zq)
   replace HX := yh ((uh HX).trans (ak zq _))
   replace HM := yh ((uh HM).aj zq)
   replace HV := yh ((uh HV).later zq)
   replace HRI := yh ((uh HRI).later zq)
   replace HN := yh ((uh HN).aj zq)
   replace HW := yh ((uh HW).later zq)
   clear zq hdx hdy hwl hwl0 HN HW
   clear HM HV HRI
   go_wp2_with fail
   go_ret
   unfold di
   exact ⟨false, rfl, by rw [(ba (uh HNO)).1], by rw [(ba (uh HNO)).2]; exact uh HO, uh HX⟩
  have hdx : (df y.chain.ids m.dst (-1) != m.src) = true := by simpa using hx
  have HNO : Hid (bU y m = none) := (uh HHA).trans (if_pos (Or.inl hx))
  clear hx
  refine wZz (fun w' => Below wD3.heap.size wD3 w') ((Below.refl _ _).drew) (fun zq => ?_)
  generalize wD3.drew = wD9 at zq ⊢
  refine tkH 0 zq ?_
  refine tkH 1 zq ?_
  refine tkH 2 zq ?_
  refine tkH 3 zq ?_
  refine tkH 4 zq ?_
  refine tkH 5 zq ?_
  refine tkJ 6 (v := ?vk6) ?hk6 zq ?rk6
  case hk6 =>
   intro wS hSw
   have bM := (uh HM).aj hSw
   have q3 : wS.cell? ⟨bm, om + 3, none⟩ = some (.int .i64 m.dst) := bM.at 3 _ rfl
   clear bM hSw
   exact fZ
  refine tkH 8 zq ?_
  refine tkH 9 zq ?_
  refine tkH 10 zq ?_
  refine tkJ 11 (v := ?vk11) ?hk11 zq ?rk11
  case hk11 =>
   intro wS hSw
   have bM := (uh HM).aj hSw
   have q2 : wS.cell? ⟨bm, om + 2, none⟩ = some (.int .i64 m.src) := bM.at 2 _ rfl
   clear bM hSw
   exact fZ
  refine rdH 7 (fun K hK => ?_)
  go_simp
  go_at_call 117
  refine (gu g 2 a3 d3 y.chain m.dst (-1) _ ⟨ag.at ((uh HG).aj zq) 2 _ rfl, ag.at ((uh HG).aj zq) 3 _ rfl⟩ ((uh HRI).later zq) (uh HLEN) (by omega)).mono ?_
  rintro e u0 ⟨rfl, hu0⟩
  subst u0
  try go_wp2_with fail
  refine hK.out _ _ zq (fun zq => ?_)
  clear hK K
  try simp only [Act.put, pz, py, px]
  refine tkH 12 zq ?_
  refine tkH 13 zq ?_
  refine skH 14 zq ?_
  refine skH 15 zq ?_
  refine skH 16 zq ?_
  refine skH 17 zq ?_
  refine skH 18 zq ?_
  refine skH 19 zq ?_
  refine skH 20 zq ?_
  refine skH 21 zq ?_
  refine skH 22 zq ?_
  refine skH 23 zq ?_
  refine skH 24 zq ?_
  refine tkH 25 zq ?_
  refine dZ ?_
  replace HG := yh ((uh HG).aj zq)
  replace HO := yh ((uh HO).later zq)
  replace HX := yh ((uh HX).trans (ak zq _))
  replace HM := yh ((uh HM).aj zq)
  replace HV := yh ((uh HV).later zq)
  replace HRI := yh ((uh HRI).later zq)
  replace HN := yh ((uh HN).aj zq)
  replace HW := yh ((uh HW).later zq)
  clear zq hdx HN HW
  clear HM HV HRI
  go_wp2_with fail
  go_ret
  unfold di
  exact ⟨false, rfl, by rw [(ba (uh HNO)).1], by rw [(ba (uh HNO)).2]; exact uh HO, uh HX⟩
 have hde : (m.ae != y.chain.ae) = true := by simpa using hep
 have HNO := yh (jy hep)
 clear hep
 refine wZz (fun w' => Below W.heap.size W w') ((Below.refl _ _).drew) (fun zq => ?_)
 generalize W.drew = wD1 at zq ⊢
 refine tkH 0 zq ?_
 refine tkH 1 zq ?_
 refine tkH 2 zq ?_
 refine tkH 3 zq ?_
 refine tkJ 4 (v := ?vd4) ?hd4 zq ?rd4
 case hd4 =>
  intro wS hSw
  have bM := (uh HM).aj hSw
  have q3 : wS.cell? ⟨bm, om + 3, none⟩ = some (.int .i64 m.dst) := bM.at 3 _ rfl
  clear bM hSw
  exact fZ
 refine rdH 5 (fun K hK => ?_)
 go_simp
 go_at_call 116
 refine (gN a3 d3 _ d4 a5 d5 a6 d6 y m.dst g _ ((uh HG).aj zq)).mono ?_
 rintro e u0 ⟨rfl, hu0⟩
 subst u0
 rw [hni]
 try go_wp2_with fail
 refine hK.out _ _ zq (fun zq => ?_)
 clear hK K
 try simp only [Act.put, pz, py, px]
 refine tkH 6 zq ?_
 refine tkH 7 zq ?_
 refine tkH 8 zq ?_
 refine tkH 9 zq ?_
 refine tkH 10 zq ?_
 refine tkH 11 zq ?_
 refine tkJ 12 (v := ?vd12) ?hd12 zq ?rd12
 case hd12 =>
  intro wS hSw
  have bM := (uh HM).aj hSw
  have q3 : wS.cell? ⟨bm, om + 3, none⟩ = some (.int .i64 m.dst) := bM.at 3 _ rfl
  clear bM hSw
  exact fZ
 refine rdH 13 (fun K hK => ?_)
 go_simp
 go_at_call 36
 refine (show Calls _ _ _ _ _ from (by rw [uh HDST]; exact ij a3 d3 b off d4 a5 d5 a6 d6 y k g _ ((uh HG).aj zq) ((uh HO).reads.later zq) hk hn5 : Calls Tryz.prog 36 #[.pointer (some ⟨g, 0, none⟩), .int .i64 m.dst] wD1 fun e w' => e = .returned (.bool (cF y ((k : Int) + 1))) ∧ Below wD1.heap.size wD1 w')).mono ?_
 rintro e u1 ⟨rfl, hbu⟩
 rw [← uh HDST, hmb]
 try go_wp2_with fail
 refine hK.out _ _ (zq.trans (hbu.mono zq.size)) (fun zq => ?_)
 clear hK K
 try simp only [Act.put, pz, py, px]
 refine tkH 14 zq ?_
 refine tkH 15 zq ?_
 refine tkH 16 zq ?_
 refine tkH 17 zq ?_
 refine tkH 18 zq ?_
 refine tkH 19 zq ?_
 refine tkJ 20 (v := ?vd20) ?hd20 zq ?rd20
 case hd20 =>
  intro wS hSw
  have bM := (uh HM).aj hSw
  have q1 : wS.cell? ⟨bm, om + 1, none⟩ = some (.int .i64 m.ae) := bM.at 1 _ rfl
  clear bM hSw
  exact fZ
 refine tkH 21 zq ?_
 refine tkH 22 zq ?_
 refine tkH 23 zq ?_
 refine tkH 24 zq ?_
 refine tkJ 25 (v := ?vd25) ?hd25 zq ?rd25
 case hd25 =>
  intro wS hSw
  have bG := (uh HG).aj hSw
  have p2 := ag.at bG 2 _ rfl
  simp only [ga, gb, gc] at p2
  have gl := bG.lt
  clear bG hSw
  exact fZ
 refine tkH 26 zq ?_
 refine tkH 27 zq ?_
 refine dZ ?_
 replace HG := yh ((uh HG).aj zq)
 replace HO := yh ((uh HO).later zq)
 replace HX := yh ((uh HX).trans (ak zq _))
 replace HM := yh ((uh HM).aj zq)
 replace HV := yh ((uh HV).later zq)
 replace HRI := yh ((uh HRI).later zq)
 replace HN := yh ((uh HN).aj zq)
 replace HW := yh ((uh HW).later zq)
 clear zq hni hmb hbu hde HN HW
 clear HM HV HRI
 go_wp2_with fail
 go_ret
 unfold di
 exact ⟨false, rfl, by rw [(ba (uh HNO)).1], by rw [(ba (uh HNO)).2]; exact uh HO, uh HX⟩
theorem nM (x : ay) (i : Int) : eQ x i = if aX x ≠ 0 then cy (aX x) else if 9999 ≤ x.events then cy 2 else if ¬ (0 ≤ i ∧ i ≤ (x.msgs.length : Int) - 1) then cy 3 else ⟨0, eP (dc x) (x.msgs.getD i.toNat gm), ec (dc x) (x.msgs.getD i.toNat gm)⟩ := by
 have e3 : bU (dc x) (x.msgs.getD i.toNat gm) = bU x (x.msgs.getD i.toNat gm) := rfl
 unfold eQ
 cases hh : bU x (x.msgs.getD i.toNat gm) with
 | none =>
  rw [hh] at e3
  rw [(ba e3).1, (ba e3).2]
 | some n =>
  rw [hh] at e3
  rw [(cS e3).1, (cS e3).2]
theorem lO (cs : List Value) (x : ay) (i : Int) (w : World) (h : ab.aH.Reads w cs x) (hf : Fits x) :
  Calls Tryz.prog 20 #[.agg cs.toArray, .int .i64 i] w fun e w' => ∃ cs', e = .returned (.agg cs'.toArray) ∧ ab.aD.Reads w' cs' (eQ x i) ∧ Below w.heap.size w w' := by
 have HP := yh (nM x i)
 obtain ⟨a3, d3, a4, d4, a5, d5, a6, d6, rfl, -, -, -, -⟩ := aN h
 have HBN : Hid (∀ b off, a4 = some ⟨b, off, none⟩ → 0 < x.nodes.length → b < w.heap.size) := fun b off e hp => by
  obtain ⟨_, _, _, _, _, _, _, _, hq, -, RN, -, -⟩ := aN h
  simp only [List.cons.injEq, Value.slice.injEq, and_true, true_and] at hq
  obtain ⟨-, ⟨rfl, rfl⟩, -, -, -⟩ := hq
  obtain ⟨b', off', e', hb⟩ := ab.aR RN hp
  rw [e] at e'
  simp only [Option.some.injEq, Addr.mk.injEq, and_true] at e'
  obtain ⟨rfl, -⟩ := e'
  exact hb
 have nb : Below w.heap.size w ((w.alloc (.cells #[.int .i64 x.now, .int .i64 x.events, .int .i64 x.chain.ae, .slice a3 x.chain.ids.length d3, .slice a4 x.nodes.length d4, .slice a5 x.msgs.length d5, .slice a6 x.af.length d6] 39)).alloc (.cells #[.int .i64 0, .bool false, .int .i64 0, .int .i64 0, .int .i64 0, .slice none 0 0, .slice none 0 0, .slice none 0 0, .slice none 0 0] 41)) := ((Below.refl _ _).alloc (Nat.le_refl _) _).alloc (by simp) _
 have HX : Hid (ag 0 #[.int .i64 x.now, .int .i64 x.events, .int .i64 x.chain.ae, .slice a3 x.chain.ids.length d3, .slice a4 x.nodes.length d4, .slice a5 x.msgs.length d5, .slice a6 x.af.length d6] 39 ((w.alloc (.cells #[.int .i64 x.now, .int .i64 x.events, .int .i64 x.chain.ae, .slice a3 x.chain.ids.length d3, .slice a4 x.nodes.length d4, .slice a5 x.msgs.length d5, .slice a6 x.af.length d6] 39)).alloc (.cells #[.int .i64 0, .bool false, .int .i64 0, .int .i64 0, .int .i64 0, .slice none 0 0, .slice none 0 0, .slice none 0 0, .slice none 0 0] 41)) w.heap.size) := ((aC (Nat.zero_le _)).grow _)
 have HY : Hid (ag 0 #[.int .i64 0, .bool false, .int .i64 0, .int .i64 0, .int .i64 0, .slice none 0 0, .slice none 0 0, .slice none 0 0, .slice none 0 0] 41 ((w.alloc (.cells #[.int .i64 x.now, .int .i64 x.events, .int .i64 x.chain.ae, .slice a3 x.chain.ids.length d3, .slice a4 x.nodes.length d4, .slice a5 x.msgs.length d5, .slice a6 x.af.length d6] 39)).alloc (.cells #[.int .i64 0, .bool false, .int .i64 0, .int .i64 0, .int .i64 0, .slice none 0 0, .slice none 0 0, .slice none 0 0, .slice none 0 0] 41)) (w.heap.size + 1)) := bb (Nat.zero_le _) (by simp)
 have hz0 : ((w.alloc (.cells #[.int .i64 x.now, .int .i64 x.events, .int .i64 x.chain.ae, .slice a3 x.chain.ids.length d3, .slice a4 x.nodes.length d4, .slice a5 x.msgs.length d5, .slice a6 x.af.length d6] 39)).alloc (.cells #[.int .i64 0, .bool false, .int .i64 0, .int .i64 0, .int .i64 0, .slice none 0 0, .slice none 0 0, .slice none 0 0, .slice none 0 0] 41)).heap.size = w.heap.size + 2 := by simp
 have HR := yh (h.later nb)
 have HB := yh nb
 clear nb
 clear h HBN
 generalize eQ x i = R at *
 go_enter Tryz.func20, Tryz.ntmps20
 go_upto_region 1 with fail
 generalize ((w.alloc (.cells #[.int .i64 x.now, .int .i64 x.events, .int .i64 x.chain.ae, .slice a3 x.chain.ids.length d3, .slice a4 x.nodes.length d4, .slice a5 x.msgs.length d5, .slice a6 x.af.length d6] 39)).alloc (.cells #[.int .i64 0, .bool false, .int .i64 0, .int .i64 0, .int .i64 0, .slice none 0 0, .slice none 0 0, .slice none 0 0, .slice none 0 0] 41)) = W0 at *
 go_wp2_with fail
 refine (sf a3 d3 a4 d4 a5 d5 a6 d6 x w.heap.size W0 (uh HX) (uh HR)).mono ?_
 rintro e wa ⟨rfl, hb⟩
 replace HX := yh ((uh HX).aj hb)
 replace HR := yh ((uh HR).later hb)
 replace HY := yh ((uh HY).aj hb)
 replace HB := bZ HB hb
 have hza := hb.size
 clear hb
 by_cases d1 : aX x ≠ 0
 ·
  have hd : (aX x != 0) = true := by simpa using d1
  replace HP := yh ((uh HP).trans (if_pos d1))
  have HC : Hid (-1000000000 ≤ aX x ∧ aX x ≤ 1000000000) := by
   have := gp x (eO _)
   show -1000000000 ≤ aX x ∧ aX x ≤ 1000000000
   omega
  clear d1 hf
  generalize aX x = c at *
  go_wp2_with fail
  refine (kc (c) _).mono ?_
  rintro e wB ⟨rfl, hbB⟩
  have hyB := (uh HY).aj hbB
  have z0 := ag.at hyB 0 _ rfl
  have z1 := ag.at hyB 1 _ rfl
  have z2 := ag.at hyB 2 _ rfl
  have z3 := ag.at hyB 3 _ rfl
  have z4 := ag.at hyB 4 _ rfl
  have z5 := ag.at hyB 5 _ rfl
  have z6 := ag.at hyB 6 _ rfl
  have z7 := ag.at hyB 7 _ rfl
  have z8 := ag.at hyB 8 _ rfl
  simp only [ga, gb, gc] at z0 z1 z2 z3 z4 z5 z6 z7 z8
  have zf := ag.soft hyB
  have zl := hyB.lt
  have HB9 := yh (aE ((uh HB).trans (hbB.mono (uh HB).size)) (w.heap.size + 1) 0 [.int .i64 c, .bool false, .int .i64 0, .int .i64 0, .int .i64 0, .slice none 0 0, .slice none 0 0, .slice none 0 0, .slice none 0 0] (by omega))
  clear hyB hbB HY HB
  go_wp2_with fail
  refine bodyPost_ret (v := .agg #[.int .i64 c, .bool false, .int .i64 0, .int .i64 0, .int .i64 0, .slice none 0 0, .slice none 0 0, .slice none 0 0, .slice none 0 0]) (by simp [results, Tryz.results20, go_sem, z0, z1, z2, z3, z4, z5, z6, z7, z8]) rfl ?_
  rw [uh HP]
  exact ⟨[.int .i64 c, .bool false, .int .i64 0, .int .i64 0, .int .i64 0, .slice none 0 0, .slice none 0 0, .slice none 0 0, .slice none 0 0], rfl, (fO (uh HC) (lo := 0) (hi := 0) (Nat.le_refl 0)).bD.reads, uh HB9⟩
 replace HP := yh ((uh HP).trans (if_neg d1))
 have hd0 : aX x = 0 := by simpa using d1
 have hok := dU hd0
 have HOK := yh hok
 have hml := (cJ hok.uv).1
 rw [hd0]
 clear d1 hd0 hok
 have z0 := ag.at (uh HX) 0 _ rfl
 have z1 := ag.at (uh HX) 1 _ rfl
 have z2 := ag.at (uh HX) 2 _ rfl
 have z3 := ag.at (uh HX) 3 _ rfl
 have z4 := ag.at (uh HX) 4 _ rfl
 have z5 := ag.at (uh HX) 5 _ rfl
 have z6 := ag.at (uh HX) 6 _ rfl
 simp only [ga, gb, gc] at z0 z1 z2 z3 z4 z5 z6
 have zl := (uh HX).lt
 by_cases he : 9999 ≤ x.events
 ·
  have hde : decide (9999 ≤ x.events) = true := by simpa using he
  replace HP := yh ((uh HP).trans (if_pos he))
  have HC : Hid (-1000000000 ≤ (2 : Int) ∧ (2 : Int) ≤ 1000000000) := by show (-1000000000 : Int) ≤ 2 ∧ (2 : Int) ≤ 1000000000; omega
  clear he hf HOK
  go_wp2_with fail
  refine (kc (2) _).mono ?_
  rintro e wB ⟨rfl, hbB⟩
  have hyB := (uh HY).aj hbB
  have z0 := ag.at hyB 0 _ rfl
  have z1 := ag.at hyB 1 _ rfl
  have z2 := ag.at hyB 2 _ rfl
  have z3 := ag.at hyB 3 _ rfl
  have z4 := ag.at hyB 4 _ rfl
  have z5 := ag.at hyB 5 _ rfl
  have z6 := ag.at hyB 6 _ rfl
  have z7 := ag.at hyB 7 _ rfl
  have z8 := ag.at hyB 8 _ rfl
  simp only [ga, gb, gc] at z0 z1 z2 z3 z4 z5 z6 z7 z8
  have zf := ag.soft hyB
  have zl2 := hyB.lt
  have HB9 := yh (aE ((uh HB).trans (hbB.mono (uh HB).size)) (w.heap.size + 1) 0 [.int .i64 2, .bool false, .int .i64 0, .int .i64 0, .int .i64 0, .slice none 0 0, .slice none 0 0, .slice none 0 0, .slice none 0 0] (by omega))
  clear hyB hbB HY HB
  go_wp2_with fail
  refine bodyPost_ret (v := .agg #[.int .i64 2, .bool false, .int .i64 0, .int .i64 0, .int .i64 0, .slice none 0 0, .slice none 0 0, .slice none 0 0, .slice none 0 0]) (by simp [results, Tryz.results20, go_sem, z0, z1, z2, z3, z4, z5, z6, z7, z8]) rfl ?_
  rw [uh HP]
  exact ⟨[.int .i64 2, .bool false, .int .i64 0, .int .i64 0, .int .i64 0, .slice none 0 0, .slice none 0 0, .slice none 0 0, .slice none 0 0], rfl, (fO (uh HC) (lo := 0) (hi := 0) (Nat.le_refl 0)).bD.reads, uh HB9⟩
 have hde : decide (9999 ≤ x.events) = false := by simpa using he
 replace HP := yh ((uh HP).trans (if_neg he))
 have hwm : IntKind.i64.wrap ((x.msgs.length : Int) - 1) = (x.msgs.length : Int) - 1 := by
  rw [IntKind.wrap_i64]
  omega
 have HLI := yh (fB i 0 ((x.msgs.length : Int) - 1) wa)
 clear he
 go_wp2_with fail
 refine (uh HLI).mono ?_
 rintro e wi ⟨rfl, hwi⟩
 subst wi
 clear HLI
 by_cases hr : 0 ≤ i ∧ i ≤ (x.msgs.length : Int) - 1
 ·
  have hd : (decide (0 ≤ i) && decide (i ≤ (x.msgs.length : Int) - 1)) = true := by simpa using hr
  rw [hd]
  replace HP := yh ((uh HP).trans (if_neg (not_not_intro hr)))
  obtain ⟨k, rfl⟩ : ∃ k : Nat, i = (k : Int) := ⟨i.toNat, by omega⟩
  have hk : k < x.msgs.length := by omega
  have hgd : x.msgs.getD (k : Int).toNat gm = x.msgs[k] := by simp [List.getD, hk]
  rw [hgd] at HP
  have hop := aN (uh HR)
  obtain ⟨_, _, _, _, _, _, _, _, hq, -, -, RM, -⟩ := hop
  simp only [List.cons.injEq, Value.slice.injEq, and_true, true_and] at hq
  obtain ⟨-, -, ⟨rfl, rfl⟩, -, -⟩ := hq
  obtain ⟨bm, om, rfl, hbm⟩ := ab.aR RM (by omega)
  have HL := yh (tW _ x wa (uh HR) (uh HOK) hf)
  clear hr hd RM hgd hwm hde
  go_wp2_with fail
  refine (uh HL).mono ?_
  rintro e W1 ⟨cs', rfl, O, hb⟩
  have hop := aN O.reads
  dsimp only [dc] at hop
  obtain ⟨a3w, d3w, a4w, d4w, a5w, d5w, a6w, d6w, rfl, -⟩ := hop
  have hz1 : wa.heap.size ≤ W1.heap.size := hb.size
  have nb : Below W1.heap.size W1 (W1.alloc (.cells #[.int .i64 x.now, .int .i64 (x.events + 1), .int .i64 x.chain.ae, .slice a3w x.chain.ids.length d3w, .slice a4w x.nodes.length d4w, .slice a5w x.msgs.length d5w, .slice a6w x.af.length d6w] 39)) := (Below.refl _ _).alloc (Nat.le_refl _) _
  have HG : Hid (ag 0 #[.int .i64 x.now, .int .i64 (x.events + 1), .int .i64 x.chain.ae, .slice a3w x.chain.ids.length d3w, .slice a4w x.nodes.length d4w, .slice a5w x.msgs.length d5w, .slice a6w x.af.length d6w] 39 (W1.alloc (.cells #[.int .i64 x.now, .int .i64 (x.events + 1), .int .i64 x.chain.ae, .slice a3w x.chain.ids.length d3w, .slice a4w x.nodes.length d4w, .slice a5w x.msgs.length d5w, .slice a6w x.af.length d6w] 39)) W1.heap.size) := aC (Nat.zero_le _)
  have HO := yh ((O.later nb).st (G := fun c => c < wa.heap.size ∨ c = W1.heap.size) (fun k hk => by omega))
  replace HX := yh (((uh HX).aj hb).aj nb)
  replace HR := yh (((uh HR).later hb).later nb)
  replace HY := yh (((uh HY).aj hb).aj nb)
  replace HB := yh ((uh HB).trans ((hb.trans (nb.mono hb.size)).mono (uh HB).size))
  have hz2 : W1.heap.size < (W1.alloc (.cells #[.int .i64 x.now, .int .i64 (x.events + 1), .int .i64 x.chain.ae, .slice a3w x.chain.ids.length d3w, .slice a4w x.nodes.length d4w, .slice a5w x.msgs.length d5w, .slice a6w x.af.length d6w] 39)).heap.size := by simp
  clear nb O hb HL
  clear z0 z1 z2 z3 z4 z5 z6 zl
  go_upto_region 9 with fail
  generalize W1.alloc (.cells #[.int .i64 x.now, .int .i64 (x.events + 1), .int .i64 x.chain.ae, .slice a3w x.chain.ids.length d3w, .slice a4w x.nodes.length d4w, .slice a5w x.msgs.length d5w, .slice a6w x.af.length d6w] 39) = W2 at *
  have hop := aN (uh HR)
  obtain ⟨_, _, _, _, _, _, _, _, hq, -, -, RM, -⟩ := hop
  simp only [List.cons.injEq, Value.slice.injEq, and_true, true_and] at hq
  obtain ⟨-, -, ⟨rfl, rfl⟩, -, -⟩ := hq
  obtain ⟨row, hcl, hr⟩ := ab.bF RM hk
  obtain ⟨blm, hlm⟩ := hr
  obtain ⟨av, dv, bv, rfl, -, -, -, -, -, -, -, -, lv, -, -⟩ := dT.1 hlm
  have hM : cT #[.int .i64 x.msgs[k].kind, .int .i64 x.msgs[k].ae, .int .i64 x.msgs[k].src, .int .i64 x.msgs[k].dst, .int .i64 x.msgs[k].index, .int .i64 x.msgs[k].write.kind, .int .i64 x.msgs[k].write.id, .slice av x.msgs[k].write.vec.length dv, .int .i64 x.msgs[k].write.aa, .int .i64 x.msgs[k].write.seq] W2 bm (om + k * 10) := cT.ofRow (A := ab.aP) (off := om) (k := k) (row := [.int .i64 x.msgs[k].kind, .int .i64 x.msgs[k].ae, .int .i64 x.msgs[k].src, .int .i64 x.msgs[k].dst, .int .i64 x.msgs[k].index, .int .i64 x.msgs[k].write.kind, .int .i64 x.msgs[k].write.id, .slice av x.msgs[k].write.vec.length dv, .int .i64 x.msgs[k].write.aa, .int .i64 x.msgs[k].write.seq]) hcl rfl (by omega)
  have HLH := yh (tL (dc x) x.msgs[k] _ _ _ _ W1.heap.size wa.heap.size W1.heap.size bm (om + k * 10) (fun c => c < wa.heap.size ∨ c = W1.heap.size) av dv W2 (uh HG) (uh HO) (fun c hc => by have hc' : c < wa.heap.size ∨ c = W1.heap.size := hc; omega) (Or.inr rfl) hM (Or.inl hbm) ⟨_, lv⟩ (uh HOK).some.2 (uh HOK).ids (uh HOK).chain (fun j h => ⟨((uh HOK).nodes j h).1, ((uh HOK).nodes j h).2.1⟩) ((cJ (uh HOK).uv).2 x.msgs[k] (List.getElem_mem hk)))
  have z5 := ag.at (uh HX) 5 _ rfl
  simp only [ga, gb, gc] at z5
  have zl := (uh HX).lt
  have hki : (k : Int) < (x.msgs.length : Int) := by omega
  have hki0 : (0 : Int) ≤ (k : Int) := by omega
  clear hM hlm lv hcl RM
  go_wp2_with fail
  refine (uh HLH).mono ?_
  rintro e W9 ⟨r, rfl, hp⟩
  unfold di at hp
  obtain ⟨hrb, hO9, hx9⟩ := hp
  replace HO : Hid (lz W9 wa.heap.size W1.heap.size (fun c => c < wa.heap.size ∨ c = W1.heap.size) [.int .i64 x.now, .int .i64 (x.events + 1), .int .i64 x.chain.ae, .slice a3w x.chain.ids.length d3w, .slice a4w x.nodes.length d4w, .slice a5w x.msgs.length d5w, .slice a6w x.af.length d6w] (ec (dc x) x.msgs[k])) := hO9
  replace HG := yh ((uh HG).ext hx9 (fun e => e.2.2 (Or.inr rfl)))
  replace HY := yh ((uh HY).ext hx9 (fun e => e.2.2 (Or.inl (by omega))))
  replace HB := yh ((uh HB).trans (hx9.below (B := w.heap.size) (by omega) (fun c hc e => e.2.2 (Or.inl (by omega)))))
  rw [← hrb] at HP
  clear hO9 hx9 HLH z5 zl HX HR hrb hki hki0
  go_upto_region 10 with fail
  have y0 := ag.at (uh HG) 0 _ rfl
  have y1 := ag.at (uh HG) 1 _ rfl
  have y2 := ag.at (uh HG) 2 _ rfl
  have y3 := ag.at (uh HG) 3 _ rfl
  have y4 := ag.at (uh HG) 4 _ rfl
  have y5 := ag.at (uh HG) 5 _ rfl
  have y6 := ag.at (uh HG) 6 _ rfl
  simp only [ga, gb, gc] at y0 y1 y2 y3 y4 y5 y6
  have yl := (uh HG).lt
  have r0 := ag.at (uh HY) 0 _ rfl
  have r1 := ag.at (uh HY) 1 _ rfl
  have r2 := ag.at (uh HY) 2 _ rfl
  have r3 := ag.at (uh HY) 3 _ rfl
  have r4 := ag.at (uh HY) 4 _ rfl
  have r5 := ag.at (uh HY) 5 _ rfl
  have r6 := ag.at (uh HY) 6 _ rfl
  have r7 := ag.at (uh HY) 7 _ rfl
  have r8 := ag.at (uh HY) 8 _ rfl
  simp only [ga, gb, gc] at r0 r1 r2 r3 r4 r5 r6 r7 r8
  have rl := (uh HY).lt
  have rf := ag.soft (uh HY)
  have e9 : Ext (fun q => q = w.heap.size + 1) W9 (aU W9 (w.heap.size + 1) 0 [.int .i64 0, .bool r, .int .i64 x.now, .int .i64 (x.events + 1), .int .i64 x.chain.ae, .slice a3w x.chain.ids.length d3w, .slice a4w x.nodes.length d4w, .slice a5w x.msgs.length d5w, .slice a6w x.af.length d6w]) := cb _ (Ext.refl _ _) _ _ _ rfl
  have HO9 := yh (sL (m := r) (((uh HO).ext e9 (fun c h1 h2 h3 => h2 (Or.inl (by omega)))).dY (B := 0) (fun c hc => by omega)))
  have HB9 := yh (aE (uh HB) (w.heap.size + 1) 0 [.int .i64 0, .bool r, .int .i64 x.now, .int .i64 (x.events + 1), .int .i64 x.chain.ae, .slice a3w x.chain.ids.length d3w, .slice a4w x.nodes.length d4w, .slice a5w x.msgs.length d5w, .slice a6w x.af.length d6w] (by omega))
  clear e9 HO HG HY HB
  go_wp2_with fail
  refine bodyPost_ret (v := .agg #[.int .i64 0, .bool r, .int .i64 x.now, .int .i64 (x.events + 1), .int .i64 x.chain.ae, .slice a3w x.chain.ids.length d3w, .slice a4w x.nodes.length d4w, .slice a5w x.msgs.length d5w, .slice a6w x.af.length d6w]) (by simp [results, Tryz.results20, go_sem, r0, r1, r2, r3, r4, r5, r6, r7, r8]) rfl ?_
  rw [uh HP]
  exact ⟨_, rfl, (uh HO9).reads, uh HB9⟩
 have hd : (decide (0 ≤ i) && decide (i ≤ (x.msgs.length : Int) - 1)) = false := by
  rw [Bool.and_eq_false_iff]
  by_cases q : 0 ≤ i
  ·
   exact Or.inr (by simpa using fun r => hr ⟨q, r⟩)
  exact Or.inl (by simpa using q)
 rw [hd]
 replace HP := yh ((uh HP).trans (if_pos hr))
 have HC : Hid (-1000000000 ≤ (3 : Int) ∧ (3 : Int) ≤ 1000000000) := by show (-1000000000 : Int) ≤ 3 ∧ (3 : Int) ≤ 1000000000; omega
 clear hd hr hf HOK
 go_wp2_with fail
 refine (kc (3) _).mono ?_
 rintro e wB ⟨rfl, hbB⟩
 have hyB := (uh HY).aj hbB
 have z0 := ag.at hyB 0 _ rfl
 have z1 := ag.at hyB 1 _ rfl
 have z2 := ag.at hyB 2 _ rfl
 have z3 := ag.at hyB 3 _ rfl
 have z4 := ag.at hyB 4 _ rfl
 have z5 := ag.at hyB 5 _ rfl
 have z6 := ag.at hyB 6 _ rfl
 have z7 := ag.at hyB 7 _ rfl
 have z8 := ag.at hyB 8 _ rfl
 simp only [ga, gb, gc] at z0 z1 z2 z3 z4 z5 z6 z7 z8
 have zf := ag.soft hyB
 have zl2 := hyB.lt
 have HB9 := yh (aE ((uh HB).trans (hbB.mono (uh HB).size)) (w.heap.size + 1) 0 [.int .i64 3, .bool false, .int .i64 0, .int .i64 0, .int .i64 0, .slice none 0 0, .slice none 0 0, .slice none 0 0, .slice none 0 0] (by omega))
 clear hyB hbB HY HB
 go_wp2_with fail
 refine bodyPost_ret (v := .agg #[.int .i64 3, .bool false, .int .i64 0, .int .i64 0, .int .i64 0, .slice none 0 0, .slice none 0 0, .slice none 0 0, .slice none 0 0]) (by simp [results, Tryz.results20, go_sem, z0, z1, z2, z3, z4, z5, z6, z7, z8]) rfl ?_
 rw [uh HP]
 exact ⟨[.int .i64 3, .bool false, .int .i64 0, .int .i64 0, .int .i64 0, .slice none 0 0, .slice none 0 0, .slice none 0 0, .slice none 0 0], rfl, (fO (uh HC) (lo := 0) (hi := 0) (Nat.le_refl 0)).bD.reads, uh HB9⟩
theorem pD (v : Value) (ws : List au) (s q : Int) (w : World) (h : (ab.sl ab.ai).Reads w [v] ws) :
  Calls Tryz.prog 27 #[v, .int .i64 s , .int .i64 q] w fun e w' => ∃ cs, e = .returned (.agg cs.toArray) ∧ ab.dx.aL w' cs (eh ws s q) w.heap.size w'.heap.size ∧ Below w.heap.size w w' := by
 have nb : Below w.heap.size w (w.alloc (.cells #[.int .i64 0, .int .i64 0] 69)) := (Below.refl _ _).alloc (Nat.le_refl _) _
 have bR0 : ag w.heap.size #[.int .i64 0, .int .i64 0] 69 (w.alloc (.cells #[.int .i64 0, .int .i64 0] 69)) w.heap.size := aC (Nat.le_refl _)
 have HR := yh (h.later nb)
 have HB0 := yh nb
 have HBR := yh bR0
 obtain ⟨ao, cap, rfl⟩ := aI h
 clear nb bR0 h
 have HL := yh (la _ ws _ (uh HR))
 go_enter Tryz.func27, Tryz.ntmps27
 go_wp2_with fail
 refine (uh HL).mono ?_
 rintro e w2 ⟨r, rfl, g0, g1, hb⟩
 have bR := (uh HBR).aj hb
 have HB2 := yh ((uh HB0).trans (hb.mono (uh HB0).size))
 have hsz : (w.alloc (.cells #[.int .i64 0, .int .i64 0] 69)).heap.size = w.heap.size + 1 := by simp
 rw [hsz] at g0
 clear hb HL HB0 HBR HR hsz
 by_cases hf : aM ws = 0
 ·
  obtain ⟨rfl, v2, rows, bls, hT⟩ := g0 hf
  clear g0 g1
  have HF := yh hf
  rw [hf]
  clear hf
  have HS := yh (eb s w2)
  by_cases hs : 1 ≤ s ∧ s ≤ 9
  ·
   rw [dec9 hs] at HS
   have HQ := yh (kM q w2)
   by_cases hq : 1 ≤ q ∧ q ≤ 999
   ·
    rw [vN hq] at HQ
    have hlk := hT.seen.look (s := s) (q := q) (aK (by omega)) (aK (by omega))
    simp only [tick] at hlk
    have zm : w2.cell? ⟨w.heap.size + 1 + 1, 1, none⟩ = some (.map (some (w.heap.size + 1))) := hT.box.at 1 _ rfl
    by_cases h0 : bV ws s q = 0
    ·
     have HG : Hid (eh ws s q = ⟨4, 0⟩) := by show eh ws s q = _; rw [eh, if_pos (iz (uh HF) hs), if_pos hq, if_pos h0]
     have hlk2 : (Instr.lookup 134 (.map (some (w.heap.size + 1))) (.agg #[.int .i64 s, .int .i64 q]) true).run Tryz.prog w2 = .ok (.tuple #[.int .i64 0, .bool false]) w2 := by rw [hlk, h0]; rfl
     clear hlk h0 hs hq hT HF
     go_wp2_with fail
     refine (uh HS).mono ?_
     rintro e w3 ⟨rfl, hw3⟩
     rw [hw3]
     clear hw3 w3
     go_wp2_with fail
     refine (uh HQ).mono ?_
     rintro e w3 ⟨rfl, hw3⟩
     rw [hw3]
     clear hw3 w3
     clear HS HQ
     have z0 : w2.cell? ⟨w.heap.size, 0, none⟩ = some (.int .i64 0) := bR.at 0 _ rfl
     have z1 : w2.cell? ⟨w.heap.size, 1, none⟩ = some (.int .i64 0) := bR.at 1 _ rfl
     have f0 := bR.soft 0
     have f1 := bR.soft 1
     have l0 := bR.lt
     clear bR
     go_wp2_with fail
     refine bodyPost_ret (v := .agg #[.int .i64 (4), .int .i64 (0)]) (by simp [results, Tryz.results27, go_sem, z0, z1]) rfl ?_
     rw [uh HG]
     exact ⟨_, rfl, gK (by decide) (by decide), ((uh HB2).setCell (by simp) _).setCell (by simp) _⟩
    have HG : Hid (eh ws s q = ⟨0, bV ws s q⟩) := by show eh ws s q = _; rw [eh, if_pos (iz (uh HF) hs), if_pos hq, if_neg h0]
    have HBD : Hid (bV ws s q ≤ 200) := Nat.le_trans (kS ws s q) (dK (uh HF)).1
    have hlk2 : (Instr.lookup 134 (.map (some (w.heap.size + 1))) (.agg #[.int .i64 s, .int .i64 q]) true).run Tryz.prog w2 = .ok (.tuple #[.int .i64 (bV ws s q), .bool true]) w2 := by rw [hlk]; simp [h0]
    clear hlk h0 hs hq hT HF
    go_wp2_with fail
    refine (uh HS).mono ?_
    rintro e w3 ⟨rfl, hw3⟩
    rw [hw3]
    clear hw3 w3
    go_wp2_with fail
    refine (uh HQ).mono ?_
    rintro e w3 ⟨rfl, hw3⟩
    rw [hw3]
    clear hw3 w3
    clear HS HQ
    have z0 : w2.cell? ⟨w.heap.size, 0, none⟩ = some (.int .i64 0) := bR.at 0 _ rfl
    have z1 : w2.cell? ⟨w.heap.size, 1, none⟩ = some (.int .i64 0) := bR.at 1 _ rfl
    have f0 := bR.soft 0
    have f1 := bR.soft 1
    have l0 := bR.lt
    clear bR
    go_wp2_with fail
    refine bodyPost_ret (v := .agg #[.int .i64 (0), .int .i64 (bV ws s q)]) (by simp [results, Tryz.results27, go_sem, z0, z1]) rfl ?_
    rw [uh HG]
    exact ⟨_, rfl, gK (by decide) (aK (by have := uh HBD; omega)), ((uh HB2).setCell (by simp) _).setCell (by simp) _⟩
   rw [uD hq] at HQ
   have HG : Hid (eh ws s q = ⟨3, 0⟩) := by show eh ws s q = _; rw [eh, if_pos (iz (uh HF) hs), if_neg hq]
   clear hs hq hT HF
   go_wp2_with fail
   refine (uh HS).mono ?_
   rintro e w3 ⟨rfl, hw3⟩
   rw [hw3]
   clear hw3 w3
   go_wp2_with fail
   refine (uh HQ).mono ?_
   rintro e w3 ⟨rfl, hw3⟩
   rw [hw3]
   clear hw3 w3
   clear HS HQ
   have z0 : w2.cell? ⟨w.heap.size, 0, none⟩ = some (.int .i64 0) := bR.at 0 _ rfl
   have z1 : w2.cell? ⟨w.heap.size, 1, none⟩ = some (.int .i64 0) := bR.at 1 _ rfl
   have f0 := bR.soft 0
   have f1 := bR.soft 1
   have l0 := bR.lt
   clear bR
   go_wp2_with fail
   refine bodyPost_ret (v := .agg #[.int .i64 (3), .int .i64 (0)]) (by simp [results, Tryz.results27, go_sem, z0, z1]) rfl ?_
   rw [uh HG]
   exact ⟨_, rfl, gK (by decide) (by decide), ((uh HB2).setCell (by simp) _).setCell (by simp) _⟩
  rw [wQ hs] at HS
  have HG : Hid (eh ws s q = ⟨3, 0⟩) := by show eh ws s q = _; rw [eh, rF (uh HF) hs, if_neg (by decide)]
  clear hs hT HF
  go_wp2_with fail
  refine (uh HS).mono ?_
  rintro e w3 ⟨rfl, hw3⟩
  rw [hw3]
  clear hw3 w3
  clear HS
  have z0 : w2.cell? ⟨w.heap.size, 0, none⟩ = some (.int .i64 0) := bR.at 0 _ rfl
  have z1 : w2.cell? ⟨w.heap.size, 1, none⟩ = some (.int .i64 0) := bR.at 1 _ rfl
  have f0 := bR.soft 0
  have f1 := bR.soft 1
  have l0 := bR.lt
  clear bR
  go_wp2_with fail
  refine bodyPost_ret (v := .agg #[.int .i64 (3), .int .i64 (0)]) (by simp [results, Tryz.results27, go_sem, z0, z1]) rfl ?_
  rw [uh HG]
  exact ⟨_, rfl, gK (by decide) (by decide), ((uh HB2).setCell (by simp) _).setCell (by simp) _⟩
 obtain rfl := g1 hf
 clear g0 g1
 have HG : Hid (eh ws s q = ⟨aM ws, 0⟩) := by show eh ws s q = _; rw [eh, sc s hf, if_neg hf]
 have HWF := yh (sF ws)
 have hd : (aM ws != 0) = true := by simpa using hf
 clear hf
 have z0 : w2.cell? ⟨w.heap.size, 0, none⟩ = some (.int .i64 0) := bR.at 0 _ rfl
 have z1 : w2.cell? ⟨w.heap.size, 1, none⟩ = some (.int .i64 0) := bR.at 1 _ rfl
 have f0 := bR.soft 0
 have f1 := bR.soft 1
 have l0 := bR.lt
 clear bR
 go_wp2_with fail
 refine bodyPost_ret (v := .agg #[.int .i64 (aM ws), .int .i64 (0)]) (by simp [results, Tryz.results27, go_sem, z0, z1]) rfl ?_
 rw [uh HG]
 exact ⟨_, rfl, gK (uh HWF) (by decide), ((uh HB2).setCell (by simp) _).setCell (by simp) _⟩
theorem jn : gj ab.ai 31 := by
 intro H enc W base spare held fuel cs x h
 obtain ⟨xs, n, _, _, hlen, hl, hfi⟩ := DataW.trod_struct Tryz.underlying31 h
 rw [show Tryz.prog.cellsOf 31 = 5 by kernel_rfl] at hlen
 match cs, hlen with
 | [c0, c1, c2, c3, c4], _ =>
 match xs, hl with
 | [y0, y1, y2, y3, y4], _ =>
 have z0 : Tryz.prog.cellsOf 2 = 1 := by kernel_rfl
 have z1 : Tryz.prog.cellsOf 22 = 1 := by kernel_rfl
 have f0 : DataW.trod enc Tryz.prog W base spare held n 2 (([c0, c1, c2, c3, c4].drop 0).take (Tryz.prog.cellsOf 2)) = some y0 := hfi 0 _ rfl
 rw [z0] at f0
 obtain ⟨d0, r0⟩ := (bp Tryz.underlying2) enc W base spare held n _ _ f0
 have f1 : DataW.trod enc Tryz.prog W base spare held n 2 (([c0, c1, c2, c3, c4].drop 1).take (Tryz.prog.cellsOf 2)) = some y1 := hfi 1 _ rfl
 rw [z0] at f1
 obtain ⟨d1, r1⟩ := (bp Tryz.underlying2) enc W base spare held n _ _ f1
 have f2 : DataW.trod enc Tryz.prog W base spare held n 22 (([c0, c1, c2, c3, c4].drop 2).take (Tryz.prog.cellsOf 22)) = some y2 := hfi 2 _ rfl
 rw [z1] at f2
 obtain ⟨d2, r2⟩ := (et Tryz.underlying22 (by kernel_rfl) (by decide) (bp Tryz.underlying2)) enc W base spare held n _ _ f2
 have f3 : DataW.trod enc Tryz.prog W base spare held n 2 (([c0, c1, c2, c3, c4].drop 3).take (Tryz.prog.cellsOf 2)) = some y3 := hfi 3 _ rfl
 rw [z0] at f3
 obtain ⟨d3, r3⟩ := (bp Tryz.underlying2) enc W base spare held n _ _ f3
 have f4 : DataW.trod enc Tryz.prog W base spare held n 2 (([c0, c1, c2, c3, c4].drop 4).take (Tryz.prog.cellsOf 2)) = some y4 := hfi 4 _ rfl
 rw [z0] at f4
 obtain ⟨d4, r4⟩ := (bp Tryz.underlying2) enc W base spare held n _ _ f4
 exact ⟨⟨d0, d1, d2, d3, d4⟩, (aZ r0 (aZ r1 (aZ r2 (aZ r3 r4))))⟩
theorem rM : gj ab.aP 146 := by
 intro H enc W base spare held fuel cs x h
 obtain ⟨xs, n, _, _, hlen, hl, hfi⟩ := DataW.trod_struct Tryz.underlying146 h
 rw [show Tryz.prog.cellsOf 146 = 10 by kernel_rfl] at hlen
 match cs, hlen with
 | [c0, c1, c2, c3, c4, c5, c6, c7, c8, c9], _ =>
 match xs, hl with
 | [y0, y1, y2, y3, y4, y5], _ =>
 have z0 : Tryz.prog.cellsOf 2 = 1 := by kernel_rfl
 have z1 : Tryz.prog.cellsOf 31 = 5 := by kernel_rfl
 have f0 : DataW.trod enc Tryz.prog W base spare held n 2 (([c0, c1, c2, c3, c4, c5, c6, c7, c8, c9].drop 0).take (Tryz.prog.cellsOf 2)) = some y0 := hfi 0 _ rfl
 rw [z0] at f0
 obtain ⟨d0, r0⟩ := (bp Tryz.underlying2) enc W base spare held n _ _ f0
 have f1 : DataW.trod enc Tryz.prog W base spare held n 2 (([c0, c1, c2, c3, c4, c5, c6, c7, c8, c9].drop 1).take (Tryz.prog.cellsOf 2)) = some y1 := hfi 1 _ rfl
 rw [z0] at f1
 obtain ⟨d1, r1⟩ := (bp Tryz.underlying2) enc W base spare held n _ _ f1
 have f2 : DataW.trod enc Tryz.prog W base spare held n 2 (([c0, c1, c2, c3, c4, c5, c6, c7, c8, c9].drop 2).take (Tryz.prog.cellsOf 2)) = some y2 := hfi 2 _ rfl
 rw [z0] at f2
 obtain ⟨d2, r2⟩ := (bp Tryz.underlying2) enc W base spare held n _ _ f2
 have f3 : DataW.trod enc Tryz.prog W base spare held n 2 (([c0, c1, c2, c3, c4, c5, c6, c7, c8, c9].drop 3).take (Tryz.prog.cellsOf 2)) = some y3 := hfi 3 _ rfl
 rw [z0] at f3
 obtain ⟨d3, r3⟩ := (bp Tryz.underlying2) enc W base spare held n _ _ f3
 have f4 : DataW.trod enc Tryz.prog W base spare held n 2 (([c0, c1, c2, c3, c4, c5, c6, c7, c8, c9].drop 4).take (Tryz.prog.cellsOf 2)) = some y4 := hfi 4 _ rfl
 rw [z0] at f4
 obtain ⟨d4, r4⟩ := (bp Tryz.underlying2) enc W base spare held n _ _ f4
 have f5 : DataW.trod enc Tryz.prog W base spare held n 31 (([c0, c1, c2, c3, c4, c5, c6, c7, c8, c9].drop 5).take (Tryz.prog.cellsOf 31)) = some y5 := hfi 5 _ rfl
 rw [z1] at f5
 obtain ⟨d5, r5⟩ := (jn) enc W base spare held n _ _ f5
 exact ⟨⟨d0, d1, d2, d3, d4, d5⟩, (aZ r0 (aZ r1 (aZ r2 (aZ r3 (aZ r4 r5)))))⟩
theorem qe : gj ab.aA 143 := by
 intro H enc W base spare held fuel cs x h
 obtain ⟨xs, n, _, _, hlen, hl, hfi⟩ := DataW.trod_struct Tryz.underlying143 h
 rw [show Tryz.prog.cellsOf 143 = 7 by kernel_rfl] at hlen
 match cs, hlen with
 | [c0, c1, c2, c3, c4, c5, c6], _ =>
 match xs, hl with
 | [y0, y1, y2, y3, y4, y5, y6], _ =>
 have z0 : Tryz.prog.cellsOf 2 = 1 := by kernel_rfl
 have z1 : Tryz.prog.cellsOf 4 = 1 := by kernel_rfl
 have z2 : Tryz.prog.cellsOf 141 = 1 := by kernel_rfl
 have f0 : DataW.trod enc Tryz.prog W base spare held n 2 (([c0, c1, c2, c3, c4, c5, c6].drop 0).take (Tryz.prog.cellsOf 2)) = some y0 := hfi 0 _ rfl
 rw [z0] at f0
 obtain ⟨d0, r0⟩ := (bp Tryz.underlying2) enc W base spare held n _ _ f0
 have f1 : DataW.trod enc Tryz.prog W base spare held n 4 (([c0, c1, c2, c3, c4, c5, c6].drop 1).take (Tryz.prog.cellsOf 4)) = some y1 := hfi 1 _ rfl
 rw [z1] at f1
 obtain ⟨d1, r1⟩ := (pj Tryz.underlying4) enc W base spare held n _ _ f1
 have f2 : DataW.trod enc Tryz.prog W base spare held n 2 (([c0, c1, c2, c3, c4, c5, c6].drop 2).take (Tryz.prog.cellsOf 2)) = some y2 := hfi 2 _ rfl
 rw [z0] at f2
 obtain ⟨d2, r2⟩ := (bp Tryz.underlying2) enc W base spare held n _ _ f2
 have f3 : DataW.trod enc Tryz.prog W base spare held n 2 (([c0, c1, c2, c3, c4, c5, c6].drop 3).take (Tryz.prog.cellsOf 2)) = some y3 := hfi 3 _ rfl
 rw [z0] at f3
 obtain ⟨d3, r3⟩ := (bp Tryz.underlying2) enc W base spare held n _ _ f3
 have f4 : DataW.trod enc Tryz.prog W base spare held n 141 (([c0, c1, c2, c3, c4, c5, c6].drop 4).take (Tryz.prog.cellsOf 141)) = some y4 := hfi 4 _ rfl
 rw [z2] at f4
 obtain ⟨d4, r4⟩ := (et Tryz.underlying141 (by kernel_rfl) (by decide) jn) enc W base spare held n _ _ f4
 have f5 : DataW.trod enc Tryz.prog W base spare held n 2 (([c0, c1, c2, c3, c4, c5, c6].drop 5).take (Tryz.prog.cellsOf 2)) = some y5 := hfi 5 _ rfl
 rw [z0] at f5
 obtain ⟨d5, r5⟩ := (bp Tryz.underlying2) enc W base spare held n _ _ f5
 have f6 : DataW.trod enc Tryz.prog W base spare held n 2 (([c0, c1, c2, c3, c4, c5, c6].drop 6).take (Tryz.prog.cellsOf 2)) = some y6 := hfi 6 _ rfl
 rw [z0] at f6
 obtain ⟨d6, r6⟩ := (bp Tryz.underlying2) enc W base spare held n _ _ f6
 exact ⟨⟨d0, d1, d2, d3, d4, d5, d6⟩, (aZ r0 (aZ r1 (aZ r2 (aZ r3 (aZ r4 (aZ r5 r6))))))⟩
theorem tQ (x y : Int) (w : World) : (Instr.field 69 (.agg #[.int .i64 x, .int .i64 y]) 0).run Tryz.prog w = .ok (.int .i64 x) w := by kernel_rfl
theorem iC (ms : List Value) (m : bu) (r : dW) (w : World) (h : ab.aP.Reads w ms m) :
  Calls Tryz.prog 169 #[.agg ms.toArray, .agg #[.int .i64 r.code, .int .i64 r.value]] w fun e w' => e = .returned (.bool (gE m r)) ∧ Below w.heap.size w w' := by
 obtain ⟨av, dv, rfl, -⟩ := cE h
 have nb : Below w.heap.size w ((w.alloc (.cells #[.int .i64 m.kind, .int .i64 m.ae, .int .i64 m.src, .int .i64 m.dst, .int .i64 m.index, .int .i64 m.write.kind, .int .i64 m.write.id, .slice av m.write.vec.length dv, .int .i64 m.write.aa, .int .i64 m.write.seq] 60)).alloc (.cells #[.int .i64 r.code, .int .i64 r.value] 69)) := ((Below.refl _ _).alloc (Nat.le_refl _) _).alloc (by simp) _
 have HM : Hid (ag 0 #[.int .i64 m.kind, .int .i64 m.ae, .int .i64 m.src, .int .i64 m.dst, .int .i64 m.index, .int .i64 m.write.kind, .int .i64 m.write.id, .slice av m.write.vec.length dv, .int .i64 m.write.aa, .int .i64 m.write.seq] 60 ((w.alloc (.cells #[.int .i64 m.kind, .int .i64 m.ae, .int .i64 m.src, .int .i64 m.dst, .int .i64 m.index, .int .i64 m.write.kind, .int .i64 m.write.id, .slice av m.write.vec.length dv, .int .i64 m.write.aa, .int .i64 m.write.seq] 60)).alloc (.cells #[.int .i64 r.code, .int .i64 r.value] 69)) w.heap.size) := (aC (Nat.zero_le _)).grow _
 have HI : Hid (ag 0 #[.int .i64 r.code, .int .i64 r.value] 69 ((w.alloc (.cells #[.int .i64 m.kind, .int .i64 m.ae, .int .i64 m.src, .int .i64 m.dst, .int .i64 m.index, .int .i64 m.write.kind, .int .i64 m.write.id, .slice av m.write.vec.length dv, .int .i64 m.write.aa, .int .i64 m.write.seq] 60)).alloc (.cells #[.int .i64 r.code, .int .i64 r.value] 69)) (w.heap.size + 1)) := bb (Nat.zero_le _) (by simp)
 have HB := yh nb
 clear nb h
 go_enter Tryz.func169, Tryz.ntmps169
 go_upto_region 1 with fail
 generalize ((w.alloc (.cells #[.int .i64 m.kind, .int .i64 m.ae, .int .i64 m.src, .int .i64 m.dst, .int .i64 m.index, .int .i64 m.write.kind, .int .i64 m.write.id, .slice av m.write.vec.length dv, .int .i64 m.write.aa, .int .i64 m.write.seq] 60)).alloc (.cells #[.int .i64 r.code, .int .i64 r.value] 69)) = W1 at *
 have c2 := ag.at (uh HM) 2 _ rfl
 have i0 := ag.at (uh HI) 0 _ rfl
 have i1 := ag.at (uh HI) 1 _ rfl
 simp only [ga, gb, gc] at c2 i0 i1
 have ml := (uh HM).lt
 have il := (uh HI).lt
 clear HM HI
 cases h1 : (r.code == 0)
 ·
  have HT : Hid (gE m r = false) := by show gE m r = false; rw [gE, h1]; rfl
  go_wp2_with fail
  go_ret
  exact ⟨by rw [uh HT]; rfl, uh HB⟩
 have HT : Hid (gE m r = (r.value == m.src)) := by show gE m r = _; rw [gE, h1]; rfl
 go_wp2_with fail
 go_ret
 exact ⟨by rw [uh HT]; rfl, uh HB⟩
theorem mH (ns ms : List Value) (n : aS) (m : bu) (w : World) (hn : ab.aA.Reads w ns n) (h : ab.aP.Reads w ms m) (hl : n.writes.length ≤ 1000) :
  Calls Tryz.prog 173 #[.agg ns.toArray, .agg ms.toArray] w fun e w' => e = .returned (.bool (nU n m)) ∧ Below w.heap.size w w' := by
 obtain ⟨av, dv, rfl, -⟩ := cE h
 obtain ⟨an, dn, rfl, RW⟩ := bt hn
 have nb : Below w.heap.size w ((w.alloc (.cells #[.int .i64 n.id, .bool n.up, .int .i64 n.ae, .int .i64 n.ar, .slice an n.writes.length dn, .int .i64 n.sure, .int .i64 n.clean] 63)).alloc (.cells #[.int .i64 m.kind, .int .i64 m.ae, .int .i64 m.src, .int .i64 m.dst, .int .i64 m.index, .int .i64 m.write.kind, .int .i64 m.write.id, .slice av m.write.vec.length dv, .int .i64 m.write.aa, .int .i64 m.write.seq] 60)) := ((Below.refl _ _).alloc (Nat.le_refl _) _).alloc (by simp) _
 have HN : Hid (ag 0 #[.int .i64 n.id, .bool n.up, .int .i64 n.ae, .int .i64 n.ar, .slice an n.writes.length dn, .int .i64 n.sure, .int .i64 n.clean] 63 ((w.alloc (.cells #[.int .i64 n.id, .bool n.up, .int .i64 n.ae, .int .i64 n.ar, .slice an n.writes.length dn, .int .i64 n.sure, .int .i64 n.clean] 63)).alloc (.cells #[.int .i64 m.kind, .int .i64 m.ae, .int .i64 m.src, .int .i64 m.dst, .int .i64 m.index, .int .i64 m.write.kind, .int .i64 m.write.id, .slice av m.write.vec.length dv, .int .i64 m.write.aa, .int .i64 m.write.seq] 60)) w.heap.size) := (aC (Nat.zero_le _)).grow _
 have HM : Hid (ag 0 #[.int .i64 m.kind, .int .i64 m.ae, .int .i64 m.src, .int .i64 m.dst, .int .i64 m.index, .int .i64 m.write.kind, .int .i64 m.write.id, .slice av m.write.vec.length dv, .int .i64 m.write.aa, .int .i64 m.write.seq] 60 ((w.alloc (.cells #[.int .i64 n.id, .bool n.up, .int .i64 n.ae, .int .i64 n.ar, .slice an n.writes.length dn, .int .i64 n.sure, .int .i64 n.clean] 63)).alloc (.cells #[.int .i64 m.kind, .int .i64 m.ae, .int .i64 m.src, .int .i64 m.dst, .int .i64 m.index, .int .i64 m.write.kind, .int .i64 m.write.id, .slice av m.write.vec.length dv, .int .i64 m.write.aa, .int .i64 m.write.seq] 60)) (w.heap.size + 1)) := bb (Nat.zero_le _) (by simp)
 have HL := yh (pD _ n.writes m.write.aa m.write.seq _ (RW.later nb))
 have HB := yh nb
 clear nb h hn RW
 go_enter Tryz.func173, Tryz.ntmps173
 go_upto_region 1 with fail
 generalize ((w.alloc (.cells #[.int .i64 n.id, .bool n.up, .int .i64 n.ae, .int .i64 n.ar, .slice an n.writes.length dn, .int .i64 n.sure, .int .i64 n.clean] 63)).alloc (.cells #[.int .i64 m.kind, .int .i64 m.ae, .int .i64 m.src, .int .i64 m.dst, .int .i64 m.index, .int .i64 m.write.kind, .int .i64 m.write.id, .slice av m.write.vec.length dv, .int .i64 m.write.aa, .int .i64 m.write.seq] 60)) = W1 at *
 have c4 := ag.at (uh HN) 4 _ rfl
 have m8 := ag.at (uh HM) 8 _ rfl
 have m9 := ag.at (uh HM) 9 _ rfl
 simp only [ga, gb, gc] at c4 m8 m9
 have nl := (uh HN).lt
 have ml := (uh HM).lt
 go_wp2_with fail
 refine (uh HL).mono ?_
 rintro e w3 ⟨cs, rfl, O, hb⟩
 obtain ⟨rfl, -, -⟩ := eC O
 replace HN := yh ((uh HN).aj hb)
 replace HM := yh ((uh HM).aj hb)
 replace HB := bZ HB hb
 clear hb HL O c4 m8 m9 nl ml
 have c4 := ag.at (uh HN) 4 _ rfl
 have m4 := ag.at (uh HM) 4 _ rfl
 simp only [ga, gb, gc] at c4 m4
 have nl := (uh HN).lt
 have ml := (uh HM).lt
 have hwl : IntKind.i64.wrap ((n.writes.length : Int) + 1) = (n.writes.length : Int) + 1 := by rw [IntKind.wrap_i64]; omega
 have hwl0 : IntKind.i64.wrap (n.writes.length : Int) = (n.writes.length : Int) := by rw [IntKind.wrap_i64]; omega
 have HT : Hid (nU n m = (((eh n.writes m.write.aa m.write.seq).code == 4) && (m.index == (n.writes.length : Int) + 1))) := rfl
 clear HN HM
 generalize (eh n.writes m.write.aa m.write.seq) = sr at *
 have hfd : ∀ w, (Instr.field 69 (.agg #[.int .i64 sr.code, .int .i64 sr.value]) 0).run Tryz.prog w = .ok (.int .i64 sr.code) w := fun w => tQ _ _ w
 cases h1 : (sr.code == 4)
 ·
  go_wp2_with fail
  go_ret
  exact ⟨by rw [uh HT, h1]; rfl, uh HB⟩
 go_wp2_with fail
 go_ret
 exact ⟨by rw [uh HT, h1]; rfl, uh HB⟩
theorem ou (g : Nat) (us : List Value) (r : cY) (W : World) (h : ab.da.Reads W us r) (hc : r.code ≠ 0) :
  Calls Tryz.prog 104 #[.pointer (some ⟨g, 0, none⟩), .agg us.toArray] W fun e W' => e = .returned (.tuple #[.bool false, .int .i64 r.code]) ∧ Below W.heap.size W W' := by
 obtain ⟨a6, d6, rfl, -⟩ := jO h
 have nb : Below W.heap.size W (W.alloc (.cells #[.int .i64 r.code, .int .i64 r.place, .int .i64 r.node.id, .bool r.node.up, .int .i64 r.node.ae, .int .i64 r.node.ar, .slice a6 r.node.writes.length d6, .int .i64 r.node.sure, .int .i64 r.node.clean] 167)) := (Below.refl _ _).alloc (Nat.le_refl _) _
 have HX : Hid (ag 0 #[.int .i64 r.code, .int .i64 r.place, .int .i64 r.node.id, .bool r.node.up, .int .i64 r.node.ae, .int .i64 r.node.ar, .slice a6 r.node.writes.length d6, .int .i64 r.node.sure, .int .i64 r.node.clean] 167 (W.alloc (.cells #[.int .i64 r.code, .int .i64 r.place, .int .i64 r.node.id, .bool r.node.up, .int .i64 r.node.ae, .int .i64 r.node.ar, .slice a6 r.node.writes.length d6, .int .i64 r.node.sure, .int .i64 r.node.clean] 167)) W.heap.size) := aC (Nat.zero_le _)
 have HB := yh nb
 have hd : (r.code != 0) = true := by simpa using hc
 clear nb h hc
 go_enter Tryz.func104, Tryz.ntmps104
 go_upto_region 1 with fail
 generalize W.alloc (.cells #[.int .i64 r.code, .int .i64 r.place, .int .i64 r.node.id, .bool r.node.up, .int .i64 r.node.ae, .int .i64 r.node.ar, .slice a6 r.node.writes.length d6, .int .i64 r.node.sure, .int .i64 r.node.clean] 167) = w1 at *
 have z0 := ag.at (uh HX) 0 _ rfl
 simp only [List.getElem_toArray, List.getElem_cons_zero] at z0
 go_upto_region 2 with fail
 clear z0
 have z0 := ag.at (uh HX).drew 0 _ rfl
 simp only [List.getElem_toArray, List.getElem_cons_zero] at z0
 replace HB := yh (uh HB).drew
 refine wZz (fun w' => w' = w1.drew) rfl (fun zq => ?_)
 generalize w1.drew = wD at zq z0 HB HX ⊢
 refine tkJ 0 (v := ?vb0) ?hb0 zq ?rb0
 case hb0 =>
  intro wS hSw
  subst hSw
  exact fZ
 refine tkJ 1 (v := ?vb1) ?hb1 zq ?rb1
 case hb1 =>
  intro wS hSw
  subst hSw
  exact fZ
 refine tkJ 2 (v := ?vb2) ?hb2 zq ?rb2
 case hb2 =>
  intro wS hSw
  subst hSw
  exact fZ
 refine tkJ 3 (v := ?vb3) ?hb3 zq ?rb3
 case hb3 =>
  intro wS hSw
  subst hSw
  exact fZ
 refine dZ ?_
 clear zq
 go_wp2_with fail
 go_ret2
 exact ⟨rfl, uh HB⟩
theorem ke (g lo k : Nat) (v3 v4 v5 v6 : Value) (y : ay) (us : List Value) (r : cY) (W0 W : World) (hg : ag 0 #[.int .i64 y.now, .int .i64 y.events, .int .i64 y.chain.ae, v3, v4, v5, v6] 39 W0 g) (hO : fu W0 lo g [.int .i64 y.now, .int .i64 y.events, .int .i64 y.chain.ae, v3, v4, v5, v6] y) (hb : Below W0.heap.size W0 W) (hr : ab.da.aL W us r W0.heap.size W.heap.size)
  (hc : r.code = 0) (hk : k < y.nodes.length) (hn5 : y.nodes.length ≤ 5) (hid : r.node.id = (k : Int) + 1) :
  Calls Tryz.prog 104 #[.pointer (some ⟨g, 0, none⟩), .agg us.toArray] W fun e W' => e = .returned (.tuple #[.bool true, .int .i64 0]) ∧ (∃ (u3 u4 u5 u6 : Value), ag 0 #[.int .i64 y.now, .int .i64 y.events, .int .i64 y.chain.ae, u3, u4, u5, u6] 39 W' g ∧ fu W' lo g [.int .i64 y.now, .int .i64 y.events, .int .i64 y.chain.ae, u3, u4, u5, u6] (fV y r.node)) ∧ Ext (fun q => lo ≤ q ∧ q ≠ g) W W' := by
 obtain ⟨rc, rp, ri, ru, re, rl, rws, rs, rcl⟩ := r
 obtain rfl : rc = 0 := hc
 obtain rfl : ri = (k : Int) + 1 := hid
 obtain ⟨blr, hOr, hbr⟩ := hr
 obtain ⟨a6, d6, g2, hq, rfl, hOn, -, -⟩ := kH hOr
 dsimp only at hq hOn
 subst hq
 have nb : Below W.heap.size W (W.alloc (.cells #[.int .i64 0, .int .i64 rp, .int .i64 ((k : Int) + 1), .bool ru, .int .i64 re, .int .i64 rl, .slice a6 rws.length d6, .int .i64 rs, .int .i64 rcl] 167)) := (Below.refl _ _).alloc (Nat.le_refl _) _
 have bX : ag 0 #[.int .i64 0, .int .i64 rp, .int .i64 ((k : Int) + 1), .bool ru, .int .i64 re, .int .i64 rl, .slice a6 rws.length d6, .int .i64 rs, .int .i64 rcl] 167 (W.alloc (.cells #[.int .i64 0, .int .i64 rp, .int .i64 ((k : Int) + 1), .bool ru, .int .i64 re, .int .i64 rl, .slice a6 rws.length d6, .int .i64 rs, .int .i64 rcl] 167)) W.heap.size := aC (Nat.zero_le _)
 have hOn1 : ab.aA.aL (W.alloc (.cells #[.int .i64 0, .int .i64 rp, .int .i64 ((k : Int) + 1), .bool ru, .int .i64 re, .int .i64 rl, .slice a6 rws.length d6, .int .i64 rs, .int .i64 rcl] 167)) _ ⟨(k : Int) + 1, ru, re, rl, rws, rs, rcl⟩ W0.heap.size (W.alloc (.cells #[.int .i64 0, .int .i64 rp, .int .i64 ((k : Int) + 1), .bool ru, .int .i64 re, .int .i64 rl, .slice a6 rws.length d6, .int .i64 rs, .int .i64 rcl] 167)).heap.size := ⟨blr, hOn.later nb, fun c hc => ⟨(hbr c hc).1, Nat.lt_of_lt_of_le (hbr c hc).2 nb.size⟩⟩
 obtain ⟨b, off, cap, row0, rfl, hb1, hb2, hbg, hR0, -, hput⟩ := sV hO (hb.trans (nb.mono hb.size)) hg.lt hOn1 hk
 have hgx := hg.aj (hb.trans (nb.mono hb.size))
 have hbx : b ≠ W.heap.size := by have := hb.size; omega
 have hxl := bX.lt
 have hgl := hgx.lt
 have hbl : b < (W.alloc (.cells #[.int .i64 0, .int .i64 rp, .int .i64 ((k : Int) + 1), .bool ru, .int .i64 re, .int .i64 rl, .slice a6 rws.length d6, .int .i64 rs, .int .i64 rcl] 167)).heap.size := by have := hb.size; simp; omega
 have c4 := ag.at hgx 4 _ rfl
 have z0 := ag.at bX 0 _ rfl
 have z1 := ag.at bX 1 _ rfl
 have z2 := ag.at bX 2 _ rfl
 have z3 := ag.at bX 3 _ rfl
 have z4 := ag.at bX 4 _ rfl
 have z5 := ag.at bX 5 _ rfl
 have z6 := ag.at bX 6 _ rfl
 have z7 := ag.at bX 7 _ rfl
 have z8 := ag.at bX 8 _ rfl
 simp only [ga, gb, gc] at z0 z1 z2 z3 z4 z5 z6 z7 z8
 simp only [ga, gb, gc] at c4
 have HE : Hid (Ext (fun q => lo ≤ q ∧ q ≠ g) W (W.alloc (.cells #[.int .i64 0, .int .i64 rp, .int .i64 ((k : Int) + 1), .bool ru, .int .i64 re, .int .i64 rl, .slice a6 rws.length d6, .int .i64 rs, .int .i64 rcl] 167))) := ak nb _
 have hgb : (fun q => q = b) g → False := fun e => hbg e.symm
 have HG := yh hgx
 have HP := yh hput
 have HR0 := yh hR0
 have hLO : lo ≤ b := hb1
 have hw1 : IntKind.i64.wrap (k : Int) = (k : Int) := by
  have hk5 := hn5
  rw [IntKind.wrap_i64]
  omega
 have hki : (k : Int) < (y.nodes.length : Int) := by omega
 have hki0 : (0 : Int) ≤ (k : Int) := by omega
 clear nb hO hb hg hOn1 hOn hOr hbr hgx bX hput hR0 hb2 hgb
 go_enter Tryz.func104, Tryz.ntmps104
 go_upto_region 1 with fail
 generalize hWW : W.alloc (.cells #[.int .i64 0, .int .i64 rp, .int .i64 ((k : Int) + 1), .bool ru, .int .i64 re, .int .i64 rl, .slice a6 rws.length d6, .int .i64 rs, .int .i64 rcl] 167) = w1 at *
 go_upto_region 3 with fail
 have HRD : Hid (cX w1 w1.drew b (off + k * 7) 7 row0 []) := ⟨(uh HR0).len, (uh HR0).cells, (uh HR0).others, (uh HR0).soft, (uh HR0).lt, (Ext.refl _ _).drew 1⟩
 have s0 := (uh HRD).soft (off + k * 7)
 have s1 := (uh HRD).soft (off + k * 7 + 1)
 have s2 := (uh HRD).soft (off + k * 7 + 2)
 have s3 := (uh HRD).soft (off + k * 7 + 3)
 have s4 := (uh HRD).soft (off + k * 7 + 4)
 have s5 := (uh HRD).soft (off + k * 7 + 5)
 have s6 := (uh HRD).soft (off + k * 7 + 6)
 obtain ⟨o0, x0⟩ : ∃ u, w1.drew.cell? ⟨b, off + k * 7, none⟩ = some u := ⟨_, ((uh HRD).cells 0 (by decide)).trans (List.getElem?_eq_getElem (by rw [(uh HRD).len]; decide))⟩
 obtain ⟨o1, x1⟩ : ∃ u, w1.drew.cell? ⟨b, off + k * 7 + 1, none⟩ = some u := ⟨_, ((uh HRD).cells 1 (by decide)).trans (List.getElem?_eq_getElem (by rw [(uh HRD).len]; decide))⟩
 obtain ⟨o2, x2⟩ : ∃ u, w1.drew.cell? ⟨b, off + k * 7 + 2, none⟩ = some u := ⟨_, ((uh HRD).cells 2 (by decide)).trans (List.getElem?_eq_getElem (by rw [(uh HRD).len]; decide))⟩
 obtain ⟨o3, x3⟩ : ∃ u, w1.drew.cell? ⟨b, off + k * 7 + 3, none⟩ = some u := ⟨_, ((uh HRD).cells 3 (by decide)).trans (List.getElem?_eq_getElem (by rw [(uh HRD).len]; decide))⟩
 obtain ⟨o4, x4⟩ : ∃ u, w1.drew.cell? ⟨b, off + k * 7 + 4, none⟩ = some u := ⟨_, ((uh HRD).cells 4 (by decide)).trans (List.getElem?_eq_getElem (by rw [(uh HRD).len]; decide))⟩
 obtain ⟨o5, x5⟩ : ∃ u, w1.drew.cell? ⟨b, off + k * 7 + 5, none⟩ = some u := ⟨_, ((uh HRD).cells 5 (by decide)).trans (List.getElem?_eq_getElem (by rw [(uh HRD).len]; decide))⟩
 obtain ⟨o6, x6⟩ : ∃ u, w1.drew.cell? ⟨b, off + k * 7 + 6, none⟩ = some u := ⟨_, ((uh HRD).cells 6 (by decide)).trans (List.getElem?_eq_getElem (by rw [(uh HRD).len]; decide))⟩
 refine wZz (fun w' => Ext (fun q => q = b) w1 w') ((Ext.refl _ _).drew 1) (fun zq => ?_)
 generalize w1.drew = wD at zq HRD s0 x0 s1 x1 s2 x2 s3 x3 s4 x4 s5 x5 s6 x6 ⊢
 refine tkH 0 zq ?_
 refine tkH 1 zq ?_
 refine tkH 2 zq ?_
 refine tkJ 3 (v := ?vs3) ?hs3 zq ?rs3
 case hs3 =>
  intro wS hSw
  have q := (cell_of_heap (hSw.block g hgl (fun e => hbg e.symm)) 4).trans c4
  clear hSw
  exact fZ
 refine tkH 4 zq ?_
 refine tkH 5 zq ?_
 refine tkJ 6 (v := ?vs6) ?hs6 zq ?rs6
 case hs6 =>
  intro wS hSw
  have q := (cell_of_heap (hSw.block W.heap.size hxl (fun e => hbx e.symm)) 2).trans z2
  clear hSw
  exact fZ
 refine tkH 7 zq ?_
 refine tkH 8 zq ?_
 refine tkJ 9 (v := ?vs9) ?hs9 zq ?rs9
 case hs9 =>
  intro wS hSw
  have q2 := (cell_of_heap (hSw.block W.heap.size hxl (fun e => hbx e.symm)) 2).trans z2
  have q3 := (cell_of_heap (hSw.block W.heap.size hxl (fun e => hbx e.symm)) 3).trans z3
  have q4 := (cell_of_heap (hSw.block W.heap.size hxl (fun e => hbx e.symm)) 4).trans z4
  have q5 := (cell_of_heap (hSw.block W.heap.size hxl (fun e => hbx e.symm)) 5).trans z5
  have q6 := (cell_of_heap (hSw.block W.heap.size hxl (fun e => hbx e.symm)) 6).trans z6
  have q7 := (cell_of_heap (hSw.block W.heap.size hxl (fun e => hbx e.symm)) 7).trans z7
  have q8 := (cell_of_heap (hSw.block W.heap.size hxl (fun e => hbx e.symm)) 8).trans z8
  clear hSw
  exact fZ
 refine tkH 10 zq ?_
 refine rdH 11 (fun K hK => ?_)
 go_simp
 refine hK.out _ _ (Ext.setCell (Ext.setCell (Ext.setCell (Ext.setCell (Ext.setCell (Ext.setCell (Ext.setCell zq ⟨b, off + k * 7, none⟩ (.int .i64 ((k : Int) + 1)) rfl) ⟨b, off + k * 7 + 1, none⟩ (.bool ru) rfl) ⟨b, off + k * 7 + 2, none⟩ (.int .i64 re) rfl) ⟨b, off + k * 7 + 3, none⟩ (.int .i64 rl) rfl) ⟨b, off + k * 7 + 4, none⟩ (.slice a6 rws.length d6) rfl) ⟨b, off + k * 7 + 5, none⟩ (.int .i64 rs) rfl) ⟨b, off + k * 7 + 6, none⟩ (.int .i64 rcl) rfl) (fun zq => ?_)
 clear hK K
 try simp only [Act.put, pz, py, px]
 refine dZ ?_
 have hRW := cX.set7 (uh HRD) (.int .i64 ((k : Int) + 1)) (.bool ru) (.int .i64 re) (.int .i64 rl) (.slice a6 rws.length d6) (.int .i64 rs) (.int .i64 rcl)
 have hOW := uh HP _ hRW
 have hEW : Ext (fun q => lo ≤ q ∧ q ≠ g) w1 (((((((wD.setCell ⟨b, off + k * 7, none⟩ (.int .i64 ((k : Int) + 1))).setCell ⟨b, off + k * 7 + 1, none⟩ (.bool ru)).setCell ⟨b, off + k * 7 + 2, none⟩ (.int .i64 re)).setCell ⟨b, off + k * 7 + 3, none⟩ (.int .i64 rl)).setCell ⟨b, off + k * 7 + 4, none⟩ (.slice a6 rws.length d6)).setCell ⟨b, off + k * 7 + 5, none⟩ (.int .i64 rs)).setCell ⟨b, off + k * 7 + 6, none⟩ (.int .i64 rcl)) := (zq.mono (fun q _ e => by rw [e]; exact ⟨hLO, hbg⟩))
 have hGW := (uh HG).ext zq (fun e => hbg e.symm)
 have HOW := yh hOW
 have HGW := yh hGW
 have HEW := yh ((uh HE).trans hEW)
 clear hRW hOW hEW hGW zq
 go_wp2_with fail
 go_ret2
 exact ⟨rfl, ⟨_, _, _, _, by rw [ik (k := k) rfl]; exact ⟨uh HGW, uh HOW⟩⟩, uh HEW⟩
theorem jW {x : bx} (h : ∀ z ∈ x.ids, (Lit.int .i64 z).wf = true) (id dd : Int) : (Lit.int .i64 (br x id dd).code).wf = true ∧ (Lit.int .i64 (br x id dd).value).wf = true := by
 unfold br
 split
 ·
  split
  ·
   exact ⟨by decide, by decide⟩
  split
  ·
   exact ⟨by decide, by decide⟩
  refine ⟨by show (Lit.int .i64 0).wf = true; decide, ?_⟩
  show (Lit.int .i64 (df x.ids id dd)).wf = true
  unfold df
  split
  ·
   decide
  rw [List.getD]
  cases hg : x.ids[(aY x.ids id + dd).toNat]? with
  | none => simp; decide
  | some z => exact h z (List.mem_of_getElem? hg)
 exact ⟨aK (fF x), by show (Lit.int .i64 0).wf = true; decide⟩
theorem nc {x : bx} {id dd : Int} (hf : aB x = 0) (h : aY x.ids id < 0) : br x id dd = ⟨4, 0⟩ := by rw [br, if_pos hf, if_pos h]
theorem oJ {x : bx} {id dd : Int} (hf : aB x = 0) (h : 0 ≤ aY x.ids id) (h2 : aY x.ids id + dd < 0 ∨ (x.ids.length : Int) ≤ aY x.ids id + dd) : br x id dd = ⟨8, 0⟩ := by
 rw [br, if_pos hf, if_neg (by omega), if_pos]
 rw [df, if_pos (Or.inr h2)]
theorem pV {x : bx} {id dd : Int} (hf : aB x = 0) (h : 0 ≤ aY x.ids id) {m : Nat} (hm : aY x.ids id + dd = (m : Int)) (hl : m < x.ids.length) : br x id dd = ⟨0, x.ids[m]⟩ := by
 have e : df x.ids id dd = x.ids[m] := by
  rw [df, if_neg (by omega), hm]
  simp [List.getD, hl]
 have hz := (de hf).ids x.ids[m] (List.getElem_mem hl)
 rw [br, if_pos hf, if_neg (by omega), if_neg (by rw [e]; omega), e]
theorem oH (b bs : Nat) (a : Option Addr) (d : Nat) (x : bx) (id dd : Int) (w : World) (hX : fW w b (.slice a x.ids.length d) x) (hS : ag 0 #[.int .i64 dd] 3 w bs) (R : (ab.sl ab.int).Reads w [.slice a x.ids.length d] x.ids) (hf : aB x = 0) (hd : -1 ≤ dd ∧ dd ≤ 1) :
  Calls Tryz.prog 224 #[.int .i64 id, .pointer (some ⟨b, 0, none⟩), .pointer (some ⟨bs, 0, none⟩)] w fun e w' => e = .returned (.agg #[.int .i64 (br x id dd).code, .int .i64 (br x id dd).value]) ∧ Below w.heap.size w w' := by
 have HB : Hid (Below w.heap.size w (w.alloc (.cells #[.int .i64 0, .int .i64 0] 69))) := (Below.refl _ _).alloc (Nat.le_refl _) _
 have HR : Hid (ag 0 #[.int .i64 0, .int .i64 0] 69 (w.alloc (.cells #[.int .i64 0, .int .i64 0] 69)) w.heap.size) := aC (Nat.zero_le _)
 have HX := yh (hX.aj (uh HB))
 have HS := yh (hS.aj (uh HB))
 have H := yh (R.later (uh HB))
 have hxb := hX.lt
 have hsb := hS.lt
 have hlen := (de hf).len
 have HP := yh (ub _ x.ids id _ (uh H))
 have HN := yh (nc (id := id) (dd := dd) hf)
 have HE := yh (oJ (id := id) (dd := dd) hf)
 have HA := yh (fun h m hm hl => pV (id := id) (dd := dd) hf h (m := m) hm hl)
 clear hX hS R hf
 go_enter Tryz.func224, Tryz.ntmps224
 have x1 : (w.alloc (.cells #[.int .i64 0, .int .i64 0] 69)).cell? ⟨b, 1, none⟩ = some (.slice a x.ids.length d) := (uh HX).at 1 _ rfl
 have s0 : (w.alloc (.cells #[.int .i64 0, .int .i64 0] 69)).cell? ⟨bs, 0, none⟩ = some (.int .i64 dd) := (uh HS).at 0 _ rfl
 have z0 : (w.alloc (.cells #[.int .i64 0, .int .i64 0] 69)).cell? ⟨w.heap.size, 0, none⟩ = some (.int .i64 0) := (uh HR).at 0 _ rfl
 have z1 : (w.alloc (.cells #[.int .i64 0, .int .i64 0] 69)).cell? ⟨w.heap.size, 1, none⟩ = some (.int .i64 0) := (uh HR).at 1 _ rfl
 have ff := (uh HR).soft
 have l0 := (uh HR).lt
 go_wp2_with fail
 generalize w.alloc (.cells #[.int .i64 0, .int .i64 0] 69) = W at *
 refine (uh HP).mono ?_
 rintro e w1 ⟨rfl, h1⟩
 subst w1
 clear HP
 have hb := iW x.ids id
 generalize aY x.ids id = p at *
 have HB1 := yh (fun vs => aE (uh HB) w.heap.size 0 vs (Nat.le_refl _))
 clear HB HR HX HS
 by_cases h0 : p < 0
 ·
  have HF := yh (uh HN h0)
  have hd0 : decide (p < 0) = true := by simpa using h0
  clear HN HE HA
  go_wp2_with fail
  refine bodyPost_ret (v := .agg #[.int .i64 4, .int .i64 0]) (by simp [results, Tryz.results224, go_sem, z0, z1]) rfl ?_
  exact ⟨by rw [uh HF], uh HB1 [_, _]⟩
 have hd0 : decide (p < 0) = false := by simpa using h0
 by_cases h1 : p + dd < 0
 ·
  have HF := yh (uh HE (by omega) (Or.inl h1))
  have hd1 : decide (p + dd < 0) = true := by simpa using h1
  clear HN HE HA
  go_wp2_with fail
  refine bodyPost_ret (v := .agg #[.int .i64 8, .int .i64 0]) (by simp [results, Tryz.results224, go_sem, z0, z1]) rfl ?_
  exact ⟨by rw [uh HF], uh HB1 [_, _]⟩
 have hd1 : decide (p + dd < 0) = false := by simpa using h1
 by_cases h2 : (x.ids.length : Int) ≤ p + dd
 ·
  have HF := yh (uh HE (by omega) (Or.inr h2))
  have hd2 : decide ((x.ids.length : Int) ≤ p + dd) = true := by simpa using h2
  clear HN HE HA
  go_wp2_with fail
  refine bodyPost_ret (v := .agg #[.int .i64 8, .int .i64 0]) (by simp [results, Tryz.results224, go_sem, z0, z1]) rfl ?_
  exact ⟨by rw [uh HF], uh HB1 [_, _]⟩
 have hd2 : decide ((x.ids.length : Int) ≤ p + dd) = false := by simp; omega
 obtain ⟨m, hm⟩ : ∃ m : Nat, p + dd = (m : Int) := ⟨(p + dd).toNat, by omega⟩
 have hml : m < x.ids.length := by omega
 have HF := yh (uh HA (by omega) m hm hml)
 obtain ⟨b2, off, rfl, -⟩ := ab.aR (uh H) (by omega)
 have c1 := eH (uh H) hml
 clear HN HE HA
 generalize x.ids[m] = z at *
 rw [hm] at hd1 hd2
 go_wp2_with fail
 refine bodyPost_ret (v := .agg #[.int .i64 0, .int .i64 z]) (by simp [results, Tryz.results224, go_sem, z0, z1]) rfl ?_
 exact ⟨by rw [uh HF], uh HB1 [_, _]⟩
theorem lP (a : Option Addr) (d : Nat) (x : bx) (dd : Int) (w : World) :
  Calls Tryz.prog 206 #[.agg #[.int .i64 x.ae, .slice a x.ids.length d], .int .i64 dd] w fun e w' => ∃ b bs, e = .returned (.func (.func 224) #[] #[.pointer (some ⟨b, 0, none⟩), .pointer (some ⟨bs, 0, none⟩)]) ∧ fW w' b (.slice a x.ids.length d) x ∧ ag 0 #[.int .i64 dd] 3 w' bs ∧ Below w.heap.size w w' := by
 have HB : Hid (Below w.heap.size w ((w.alloc (.cells #[.int .i64 x.ae, .slice a x.ids.length d] 34)).alloc (.cells #[.int .i64 dd] 3))) := ((Below.refl _ _).alloc (Nat.le_refl _) _).alloc (by simp) _
 have HX : Hid (fW ((w.alloc (.cells #[.int .i64 x.ae, .slice a x.ids.length d] 34)).alloc (.cells #[.int .i64 dd] 3)) w.heap.size (.slice a x.ids.length d) x) := (aC (Nat.zero_le _)).grow _
 have HS : Hid (ag 0 #[.int .i64 dd] 3 ((w.alloc (.cells #[.int .i64 x.ae, .slice a x.ids.length d] 34)).alloc (.cells #[.int .i64 dd] 3)) (w.heap.size + 1)) := bb (Nat.zero_le _) (by simp)
 go_enter Tryz.func206, Tryz.ntmps206
 go_wp2_with fail
 go_ret
 exact ⟨_, _, rfl, uh HX, uh HS, uh HB⟩
theorem kq (cs : List Value) (x : bx) (id : Int) (w : World) (h : ab.aF.Reads w cs x) :
  Calls Tryz.prog 170 #[.agg cs.toArray, .int .i64 id] w fun e w' => ∃ cs, e = .returned (.agg cs.toArray) ∧ ab.dx.aL w' cs (br x id 1) w.heap.size w'.heap.size ∧ Below w.heap.size w w' := by
 obtain ⟨a, d, rfl, R⟩ := cl h
 have nb : Below w.heap.size w ((w.alloc (.cells #[.int .i64 x.ae, .slice a x.ids.length d] 34)).alloc (.cells #[.int .i64 0, .int .i64 0] 69)) := ((Below.refl _ _).alloc (Nat.le_refl _) _).alloc (by simp) _
 have hX : fW ((w.alloc (.cells #[.int .i64 x.ae, .slice a x.ids.length d] 34)).alloc (.cells #[.int .i64 0, .int .i64 0] 69)) w.heap.size (.slice a x.ids.length d) x := (aC (Nat.zero_le _)).grow _
 have bR : ag 0 #[.int .i64 0, .int .i64 0] 69 ((w.alloc (.cells #[.int .i64 x.ae, .slice a x.ids.length d] 34)).alloc (.cells #[.int .i64 0, .int .i64 0] 69)) (w.heap.size + 1) := bb (Nat.zero_le _) (by simp)
 have HL := yh (fj _ x _ (h.later nb))
 have HW : Hid ((Lit.int .i64 (br x id 1).code).wf = true ∧ (Lit.int .i64 (br x id 1).value).wf = true) := jW (sU R) id 1
 have HRd := yh (R.later nb)
 have HB := yh nb
 have HR := yh bR
 have HX := yh hX
 have x0 : ((w.alloc (.cells #[.int .i64 x.ae, .slice a x.ids.length d] 34)).alloc (.cells #[.int .i64 0, .int .i64 0] 69)).cell? ⟨w.heap.size, 0, none⟩ = some (.int .i64 x.ae) := hX.at 0 _ rfl
 have x1 : ((w.alloc (.cells #[.int .i64 x.ae, .slice a x.ids.length d] 34)).alloc (.cells #[.int .i64 0, .int .i64 0] 69)).cell? ⟨w.heap.size, 1, none⟩ = some (.slice a x.ids.length d) := hX.at 1 _ rfl
 clear h R nb hX bR
 go_enter Tryz.func170, Tryz.ntmps170
 go_wp2_with fail
 generalize (w.alloc (.cells #[.int .i64 x.ae, .slice a x.ids.length d] 34)).alloc (.cells #[.int .i64 0, .int .i64 0] 69) = W at *
 refine (uh HL).mono ?_
 rintro e w1 ⟨rfl, hb⟩
 replace HX := yh ((uh HX).aj hb)
 replace HR := yh ((uh HR).aj hb)
 replace HRd := yh ((uh HRd).later hb)
 replace HB := bZ HB hb
 clear HL hb x0 x1
 have x0 : w1.cell? ⟨w.heap.size, 0, none⟩ = some (.int .i64 x.ae) := (uh HX).at 0 _ rfl
 have x1 : w1.cell? ⟨w.heap.size, 1, none⟩ = some (.slice a x.ids.length d) := (uh HX).at 1 _ rfl
 have xl := (uh HX).lt
 by_cases hf : aB x = 0
 ·
  rw [hf]
  have HO : Hid (∀ W', ab.dx.aL W' [.int .i64 (br x id 1).code, .int .i64 (br x id 1).value] (br x id 1) w.heap.size W'.heap.size) := fun W' => gS (uh HW).1 (uh HW).2
  have HK : Hid (∀ (b bs : Nat) W', fW W' b (.slice a x.ids.length d) x → ag 0 #[.int .i64 1] 3 W' bs → (ab.sl ab.int).Reads W' [.slice a x.ids.length d] x.ids → Calls Tryz.prog 224 #[.int .i64 id, .pointer (some ⟨b, 0, none⟩), .pointer (some ⟨bs, 0, none⟩)] W' fun e w' => e = .returned (.agg #[.int .i64 (br x id 1).code, .int .i64 (br x id 1).value]) ∧ Below W'.heap.size W' w') := fun b bs W' q1 q2 q3 => oH b bs a d x id 1 W' q1 q2 q3 hf (by omega)
  generalize (br x id 1).code = yc at *
  generalize (br x id 1).value = yv at *
  clear hf HW
  go_wp2_with fail
  refine (lP a d x 1 w1).mono ?_
  rintro e w2 ⟨b, bs, rfl, hX2, hS2, hb⟩
  have HX2 := yh hX2
  have HS2 := yh hS2
  replace HR := yh ((uh HR).aj hb)
  replace HRd := yh ((uh HRd).later hb)
  replace HB := bZ HB hb
  clear hX2 hS2 hb x0 x1 xl HX
  go_wp2_with fail
  refine (uh HK b bs w2 (uh HX2) (uh HS2) (uh HRd)).mono ?_
  rintro e w3 ⟨rfl, hb⟩
  have bR := (uh HR).aj hb
  have z0 : w3.cell? ⟨w.heap.size + 1, 0, none⟩ = some (.int .i64 0) := bR.at 0 _ rfl
  have z1 : w3.cell? ⟨w.heap.size + 1, 1, none⟩ = some (.int .i64 0) := bR.at 1 _ rfl
  have ff := bR.soft
  have l0 := bR.lt
  have HB2 := yh (aE ((uh HB).trans (hb.mono (uh HB).size)) (w.heap.size + 1) 0 [.int .i64 yc, .int .i64 yv] (by omega))
  clear HB HR bR hb HX2 HS2 HRd HK
  go_wp2_with fail
  refine bodyPost_ret (v := .agg #[.int .i64 yc, .int .i64 yv]) (by simp [results, Tryz.results170, go_sem, z0, z1]) rfl ?_
  exact ⟨_, rfl, uh HO _, uh HB2⟩
 have HV := yh (jE (id := id) (d := 1) hf)
 have hd : (aB x != 0) = true := by simpa using hf
 have HC := yh (fF x)
 have z0 : w1.cell? ⟨w.heap.size + 1, 0, none⟩ = some (.int .i64 0) := (uh HR).at 0 _ rfl
 have z1 : w1.cell? ⟨w.heap.size + 1, 1, none⟩ = some (.int .i64 0) := (uh HR).at 1 _ rfl
 have ff := (uh HR).soft
 have l0 := (uh HR).lt
 generalize aB x = c at *
 have HB2 := yh (aE (uh HB) (w.heap.size + 1) 0 [.int .i64 c, .int .i64 0] (by omega))
 clear HB HR HX HRd hf HW
 go_wp2_with fail
 refine bodyPost_ret (v := .agg #[.int .i64 c, .int .i64 0]) (by simp [results, Tryz.results170, go_sem, z0, z1]) rfl ?_
 rw [uh HV]
 exact ⟨[_, _], rfl, gS (aK (uh HC)) (by decide), uh HB2⟩
theorem im (cs : List Value) (x : bx) (id : Int) (w : World) (h : ab.aF.Reads w cs x) :
  Calls Tryz.prog 172 #[.agg cs.toArray, .int .i64 id] w fun e w' => ∃ cs, e = .returned (.agg cs.toArray) ∧ ab.dx.aL w' cs (br x id (-1)) w.heap.size w'.heap.size ∧ Below w.heap.size w w' := by
 obtain ⟨a, d, rfl, R⟩ := cl h
 have nb : Below w.heap.size w ((w.alloc (.cells #[.int .i64 x.ae, .slice a x.ids.length d] 34)).alloc (.cells #[.int .i64 0, .int .i64 0] 69)) := ((Below.refl _ _).alloc (Nat.le_refl _) _).alloc (by simp) _
 have hX : fW ((w.alloc (.cells #[.int .i64 x.ae, .slice a x.ids.length d] 34)).alloc (.cells #[.int .i64 0, .int .i64 0] 69)) w.heap.size (.slice a x.ids.length d) x := (aC (Nat.zero_le _)).grow _
 have bR : ag 0 #[.int .i64 0, .int .i64 0] 69 ((w.alloc (.cells #[.int .i64 x.ae, .slice a x.ids.length d] 34)).alloc (.cells #[.int .i64 0, .int .i64 0] 69)) (w.heap.size + 1) := bb (Nat.zero_le _) (by simp)
 have HL := yh (fj _ x _ (h.later nb))
 have HW : Hid ((Lit.int .i64 (br x id (-1)).code).wf = true ∧ (Lit.int .i64 (br x id (-1)).value).wf = true) := jW (sU R) id (-1)
 have HRd := yh (R.later nb)
 have HB := yh nb
 have HR := yh bR
 have HX := yh hX
 have x0 : ((w.alloc (.cells #[.int .i64 x.ae, .slice a x.ids.length d] 34)).alloc (.cells #[.int .i64 0, .int .i64 0] 69)).cell? ⟨w.heap.size, 0, none⟩ = some (.int .i64 x.ae) := hX.at 0 _ rfl
 have x1 : ((w.alloc (.cells #[.int .i64 x.ae, .slice a x.ids.length d] 34)).alloc (.cells #[.int .i64 0, .int .i64 0] 69)).cell? ⟨w.heap.size, 1, none⟩ = some (.slice a x.ids.length d) := hX.at 1 _ rfl
 clear h R nb hX bR
 go_enter Tryz.func172, Tryz.ntmps172
 go_wp2_with fail
 generalize (w.alloc (.cells #[.int .i64 x.ae, .slice a x.ids.length d] 34)).alloc (.cells #[.int .i64 0, .int .i64 0] 69) = W at *
 refine (uh HL).mono ?_
 rintro e w1 ⟨rfl, hb⟩
 replace HX := yh ((uh HX).aj hb)
 replace HR := yh ((uh HR).aj hb)
 replace HRd := yh ((uh HRd).later hb)
 replace HB := bZ HB hb
 clear HL hb x0 x1
 have x0 : w1.cell? ⟨w.heap.size, 0, none⟩ = some (.int .i64 x.ae) := (uh HX).at 0 _ rfl
 have x1 : w1.cell? ⟨w.heap.size, 1, none⟩ = some (.slice a x.ids.length d) := (uh HX).at 1 _ rfl
 have xl := (uh HX).lt
 by_cases hf : aB x = 0
 ·
  rw [hf]
  have HO : Hid (∀ W', ab.dx.aL W' [.int .i64 (br x id (-1)).code, .int .i64 (br x id (-1)).value] (br x id (-1)) w.heap.size W'.heap.size) := fun W' => gS (uh HW).1 (uh HW).2
  have HK : Hid (∀ (b bs : Nat) W', fW W' b (.slice a x.ids.length d) x → ag 0 #[.int .i64 (-1)] 3 W' bs → (ab.sl ab.int).Reads W' [.slice a x.ids.length d] x.ids → Calls Tryz.prog 224 #[.int .i64 id, .pointer (some ⟨b, 0, none⟩), .pointer (some ⟨bs, 0, none⟩)] W' fun e w' => e = .returned (.agg #[.int .i64 (br x id (-1)).code, .int .i64 (br x id (-1)).value]) ∧ Below W'.heap.size W' w') := fun b bs W' q1 q2 q3 => oH b bs a d x id (-1) W' q1 q2 q3 hf (by omega)
  generalize (br x id (-1)).code = yc at *
  generalize (br x id (-1)).value = yv at *
  clear hf HW
  go_wp2_with fail
  refine (lP a d x (-1) w1).mono ?_
  rintro e w2 ⟨b, bs, rfl, hX2, hS2, hb⟩
  have HX2 := yh hX2
  have HS2 := yh hS2
  replace HR := yh ((uh HR).aj hb)
  replace HRd := yh ((uh HRd).later hb)
  replace HB := bZ HB hb
  clear hX2 hS2 hb x0 x1 xl HX
  go_wp2_with fail
  refine (uh HK b bs w2 (uh HX2) (uh HS2) (uh HRd)).mono ?_
  rintro e w3 ⟨rfl, hb⟩
  have bR := (uh HR).aj hb
  have z0 : w3.cell? ⟨w.heap.size + 1, 0, none⟩ = some (.int .i64 0) := bR.at 0 _ rfl
  have z1 : w3.cell? ⟨w.heap.size + 1, 1, none⟩ = some (.int .i64 0) := bR.at 1 _ rfl
  have ff := bR.soft
  have l0 := bR.lt
  have HB2 := yh (aE ((uh HB).trans (hb.mono (uh HB).size)) (w.heap.size + 1) 0 [.int .i64 yc, .int .i64 yv] (by omega))
  clear HB HR bR hb HX2 HS2 HRd HK
  go_wp2_with fail
  refine bodyPost_ret (v := .agg #[.int .i64 yc, .int .i64 yv]) (by simp [results, Tryz.results172, go_sem, z0, z1]) rfl ?_
  exact ⟨_, rfl, uh HO _, uh HB2⟩
 have HV := yh (jE (id := id) (d := (-1)) hf)
 have hd : (aB x != 0) = true := by simpa using hf
 have HC := yh (fF x)
 have z0 : w1.cell? ⟨w.heap.size + 1, 0, none⟩ = some (.int .i64 0) := (uh HR).at 0 _ rfl
 have z1 : w1.cell? ⟨w.heap.size + 1, 1, none⟩ = some (.int .i64 0) := (uh HR).at 1 _ rfl
 have ff := (uh HR).soft
 have l0 := (uh HR).lt
 generalize aB x = c at *
 have HB2 := yh (aE (uh HB) (w.heap.size + 1) 0 [.int .i64 c, .int .i64 0] (by omega))
 clear HB HR HX HRd hf HW
 go_wp2_with fail
 refine bodyPost_ret (v := .agg #[.int .i64 c, .int .i64 0]) (by simp [results, Tryz.results172, go_sem, z0, z1]) rfl ?_
 rw [uh HV]
 exact ⟨[_, _], rfl, gS (aK (uh HC)) (by decide), uh HB2⟩
def dG (w : World) (g : Nat) (v : Value) (x : aS) : Prop := ag 0 #[v, .int .i64 x.sure, .int .i64 x.id, .bool x.up, .int .i64 x.ae, .int .i64 x.ar, .int .i64 x.clean] 218 w g
theorem dG.aj {w w' : World} {g : Nat} {v : Value} {x : aS} (h : dG w g v x) (hb : Below w.heap.size w w') : dG w' g v x := ag.aj h hb
theorem dG.lt {w : World} {g : Nat} {v : Value} {x : aS} (h : dG w g v x) : g < w.heap.size := ag.lt h
theorem sy {x : aS} (h : gD x) : ∀ y ∈ x.writes, y.vec.length ≤ 10000000 := fun y hy => by
 obtain ⟨-, -, -, hk⟩ := cf (h.ws y hy)
 rcases hk with ⟨-, hv⟩ | ⟨-, hv⟩
 ·
  have := (cI hv).1; omega
 rw [hv]; simp
theorem qj (cs : List Value) (x : aS) (w : World) (h : ab.aA.Reads w cs x) (hf : aG x ≠ 0) :
  Calls Tryz.prog 201 #[.agg cs.toArray] w fun e w' => e = .returned (.tuple #[.pointer none, .int .i64 (aG x)]) ∧ Below w.heap.size w w' := by
 have hN := h
 obtain ⟨a4, d4, rfl, R4⟩ := bt h
 have nb : Below w.heap.size w (w.alloc (.cells #[.int .i64 x.id, .bool x.up, .int .i64 x.ae, .int .i64 x.ar, .slice a4 x.writes.length d4, .int .i64 x.sure, .int .i64 x.clean] 63)) := (Below.refl _ _).alloc (Nat.le_refl _) _
 have bX : ag w.heap.size #[.int .i64 x.id, .bool x.up, .int .i64 x.ae, .int .i64 x.ar, .slice a4 x.writes.length d4, .int .i64 x.sure, .int .i64 x.clean] 63 (w.alloc (.cells #[.int .i64 x.id, .bool x.up, .int .i64 x.ae, .int .i64 x.ar, .slice a4 x.writes.length d4, .int .i64 x.sure, .int .i64 x.clean] 63)) w.heap.size := aC (Nat.le_refl _)
 have HL := yh (fD _ x _ (hN.later nb))
 have HB := yh nb
 have hd : (aG x != 0) = true := by simpa using hf
 clear h hN nb bX R4 hf
 generalize aG x = c at *
 go_enter Tryz.func201, Tryz.ntmps201
 go_wp2_with fail
 refine (uh HL).mono ?_
 rintro e w1 ⟨rfl, hb⟩
 have HB1 := yh ((uh HB).trans (hb.mono (uh HB).size))
 clear hb HL HB
 go_wp2_with fail
 refine bodyPost_ret (v := .tuple #[.pointer none, .int .i64 c]) (by simp [results, Tryz.results201, go_sem]) rfl ?_
 exact ⟨rfl, uh HB1⟩
theorem lV (cs : List Value) (x : aS) (w : World) (h : ab.aA.Reads w cs x) (hf : aG x = 0) :
  Calls Tryz.prog 201 #[.agg cs.toArray] w fun e w' => ∃ g gw, e = .returned (.tuple #[.pointer (some ⟨g, 0, none⟩), .int .i64 0]) ∧ dG w' g (.slice (some ⟨gw, 0, none⟩) x.writes.length x.writes.length) x ∧ (ab.sl ab.ai).aL w' [.slice (some ⟨gw, 0, none⟩) x.writes.length x.writes.length] x.writes (g + 1) w'.heap.size ∧ w.heap.size ≤ g ∧ Below w.heap.size w w' := by
 have hN := h
 obtain ⟨a4, d4, rfl, R4⟩ := bt h
 have nb : Below w.heap.size w (w.alloc (.cells #[.int .i64 x.id, .bool x.up, .int .i64 x.ae, .int .i64 x.ar, .slice a4 x.writes.length d4, .int .i64 x.sure, .int .i64 x.clean] 63)) := (Below.refl _ _).alloc (Nat.le_refl _) _
 have bX : ag w.heap.size #[.int .i64 x.id, .bool x.up, .int .i64 x.ae, .int .i64 x.ar, .slice a4 x.writes.length d4, .int .i64 x.sure, .int .i64 x.clean] 63 (w.alloc (.cells #[.int .i64 x.id, .bool x.up, .int .i64 x.ae, .int .i64 x.ar, .slice a4 x.writes.length d4, .int .i64 x.sure, .int .i64 x.clean] 63)) w.heap.size := aC (Nat.le_refl _)
 have hok := cq hf
 have HL := yh (fD _ x _ (hN.later nb))
 rw [hf] at HL
 have hlen := hok.len
 have HV := yh (sy hok)
 have HB := yh nb
 have HX := yh bX
 have HR := yh (R4.later nb)
 clear h hN nb bX R4 hf hok
 go_enter Tryz.func201, Tryz.ntmps201
 go_wp2_with fail
 generalize w.alloc (.cells #[.int .i64 x.id, .bool x.up, .int .i64 x.ae, .int .i64 x.ar, .slice a4 x.writes.length d4, .int .i64 x.sure, .int .i64 x.clean] 63) = W0 at *
 refine (uh HL).mono ?_
 rintro e w1 ⟨rfl, hb⟩
 have bX1 := (uh HX).aj hb
 have HB1 := yh ((uh HB).trans (hb.mono (uh HB).size))
 have HR1 := yh ((uh HR).later hb)
 have x0 := bX1.at 0 _ rfl
 have x1 := bX1.at 1 _ rfl
 have x2 := bX1.at 2 _ rfl
 have x3 := bX1.at 3 _ rfl
 have x4 := bX1.at 4 _ rfl
 have x5 := bX1.at 5 _ rfl
 have x6 := bX1.at 6 _ rfl
 simp only [ga, gb, gc] at x0 x1 x2 x3 x4 x5 x6
 have xl := bX1.lt
 have hgs := (uh HB1).size
 have nb2 : Below w1.heap.size w1 (w1.alloc (.cells #[.slice none 0 0, .int .i64 0, .int .i64 x.id, .bool x.up, .int .i64 x.ae, .int .i64 x.ar, .int .i64 x.clean] 218)) := (Below.refl _ _).alloc (Nat.le_refl _) _
 have bH : ag 0 #[.slice none 0 0, .int .i64 0, .int .i64 x.id, .bool x.up, .int .i64 x.ae, .int .i64 x.ar, .int .i64 x.clean] 218 (w1.alloc (.cells #[.slice none 0 0, .int .i64 0, .int .i64 x.id, .bool x.up, .int .i64 x.ae, .int .i64 x.ar, .int .i64 x.clean] 218)) w1.heap.size := aC (Nat.zero_le _)
 have HC := yh (qO _ x.writes _ ((uh HR1).later nb2) (by omega) (uh HV))
 have HX2 := yh (bX1.aj nb2)
 have HB2 := yh ((uh HB1).trans (nb2.mono (uh HB1).size))
 have HH := yh bH
 have hz2 : (w1.alloc (.cells #[.slice none 0 0, .int .i64 0, .int .i64 x.id, .bool x.up, .int .i64 x.ae, .int .i64 x.ar, .int .i64 x.clean] 218)).heap.size = w1.heap.size + 1 := by simp
 have HZ2 : Hid (w1.heap.size + 1 ≤ (w1.alloc (.cells #[.slice none 0 0, .int .i64 0, .int .i64 x.id, .bool x.up, .int .i64 x.ae, .int .i64 x.ar, .int .i64 x.clean] 218)).heap.size) := Nat.le_of_eq hz2.symm
 clear hb HL HB HX HR HR1 bX1 nb2 bH HB1 hz2
 go_wp2_with fail
 clear x0 x1 x2 x3 x4 x5 x6 xl
 refine (uh HC).mono ?_
 generalize w1.alloc (.cells #[.slice none 0 0, .int .i64 0, .int .i64 x.id, .bool x.up, .int .i64 x.ae, .int .i64 x.ar, .int .i64 x.clean] 218) = W2 at *
 rintro e w3 ⟨gw, rfl, O, hb⟩
 have bX3 := (uh HX2).aj hb
 have bH3 := (uh HH).aj hb
 have x5 := bX3.at 5 _ rfl
 have y0 := bH3.at 0 _ rfl
 have y1 := bH3.at 1 _ rfl
 have yf := bH3.soft
 have yl := bH3.lt
 have xl := bX3.lt
 have hxy : w.heap.size ≠ w1.heap.size := by
  have h1 := (uh HX2).lt
  intro e
  have q1 := (uh HX2).2
  have q2 := (uh HH).2
  rw [e, q2] at q1
  simp at q1
 have hwlt : w.heap.size < w1.heap.size := by omega
 simp only [ga, gb, gc] at x5 y0 y1
 have HF3 : Hid (dG ((w3.setCell ⟨w1.heap.size, 0, none⟩ (.slice (some ⟨gw, 0, none⟩) x.writes.length x.writes.length)).setCell ⟨w1.heap.size, 1, none⟩ (.int .i64 x.sure)) w1.heap.size (.slice (some ⟨gw, 0, none⟩) x.writes.length x.writes.length) x) := (bH3.set 0 (.slice (some ⟨gw, 0, none⟩) x.writes.length x.writes.length)).set 1 (.int .i64 x.sure)
 have hzb := uh HZ2
 have E : Ext (fun q => q = w1.heap.size) w3 ((w3.setCell ⟨w1.heap.size, 0, none⟩ (.slice (some ⟨gw, 0, none⟩) x.writes.length x.writes.length)).setCell ⟨w1.heap.size, 1, none⟩ (.int .i64 x.sure)) := ((Ext.refl (fun q => q = w1.heap.size) _).setCell ⟨w1.heap.size, 0, none⟩ _ rfl).setCell ⟨w1.heap.size, 1, none⟩ _ rfl
 have HO3 := yh ((O.ext E (fun q h1 h2 h3 => by omega)).mono (lo' := w1.heap.size + 1) (hi' := ((w3.setCell ⟨w1.heap.size, 0, none⟩ (.slice (some ⟨gw, 0, none⟩) x.writes.length x.writes.length)).setCell ⟨w1.heap.size, 1, none⟩ (.int .i64 x.sure)).heap.size) hzb (by simp))
 have HB3 : Hid (Below w.heap.size w ((w3.setCell ⟨w1.heap.size, 0, none⟩ (.slice (some ⟨gw, 0, none⟩) x.writes.length x.writes.length)).setCell ⟨w1.heap.size, 1, none⟩ (.int .i64 x.sure))) := (((uh HB2).trans (hb.mono (uh HB2).size)).setCell (by simpa using hgs) _).setCell (by simpa using hgs) _
 clear hb O bX3 bH3 E HC HX2 HH HB2 HZ2
 go_wp2_with fail
 refine bodyPost_ret (v := .tuple #[.pointer (some ⟨w1.heap.size, 0, none⟩), .int .i64 0]) (by simp [results, Tryz.results201, go_sem]) rfl ?_
 exact ⟨w1.heap.size, gw, rfl, uh HF3, uh HO3, hgs, uh HB3⟩
theorem ki (cs : List Value) (x : aS) (w : World) (h : ab.aA.Reads w cs x) (hf : cH x ≠ 0) :
  Calls Tryz.prog 159 #[.agg cs.toArray] w fun e w' => e = .returned (.tuple #[.pointer none, .int .i64 (cH x)]) ∧ Below w.heap.size w w' := by
 have hN := h
 obtain ⟨a4, d4, rfl, R4⟩ := bt h
 have nb : Below w.heap.size w (w.alloc (.cells #[.int .i64 x.id, .bool x.up, .int .i64 x.ae, .int .i64 x.ar, .slice a4 x.writes.length d4, .int .i64 x.sure, .int .i64 x.clean] 63)) := (Below.refl _ _).alloc (Nat.le_refl _) _
 have bX : ag w.heap.size #[.int .i64 x.id, .bool x.up, .int .i64 x.ae, .int .i64 x.ar, .slice a4 x.writes.length d4, .int .i64 x.sure, .int .i64 x.clean] 63 (w.alloc (.cells #[.int .i64 x.id, .bool x.up, .int .i64 x.ae, .int .i64 x.ar, .slice a4 x.writes.length d4, .int .i64 x.sure, .int .i64 x.clean] 63)) w.heap.size := aC (Nat.le_refl _)
 by_cases hn : aG x = 0
 ·
  have HL := yh (lV _ x _ (hN.later nb) hn)
  have ha : cH x = 10 ∧ x.up = false := by
   unfold cH at hf ⊢
   rw [if_pos hn] at hf ⊢
   cases hu : x.up
   ·
    exact ⟨by simp, rfl⟩
   rw [hu] at hf; simp at hf
  have HU := yh ha.2
  rw [ha.1]
  have HB := yh nb
  clear h hN nb bX R4 hf hn ha
  go_enter Tryz.func159, Tryz.ntmps159
  go_wp2_with fail
  refine (uh HL).mono ?_
  rintro e w1 ⟨g, gw, rfl, hH, -, -, hb⟩
  have y3 := ag.at hH 3 _ rfl
  have yl := hH.lt
  simp only [ga, gb, gc] at y3
  rw [uh HU] at y3
  have HB1 := yh ((uh HB).trans (hb.mono (uh HB).size))
  clear hb HL HB hH
  go_wp2_with fail
  refine bodyPost_ret (v := .tuple #[.pointer none, .int .i64 10]) (by simp [results, Tryz.results159, go_sem]) rfl ?_
  exact ⟨rfl, uh HB1⟩
 have HL := yh (qj _ x _ (hN.later nb) hn)
 have ha : cH x = aG x := by rw [cH, if_neg hn]
 rw [ha]
 have HB := yh nb
 have hd : (aG x == 0) = false := by simpa using hn
 clear h hN nb bX R4 hf hn ha
 generalize aG x = c at *
 go_enter Tryz.func159, Tryz.ntmps159
 go_wp2_with fail
 refine (uh HL).mono ?_
 rintro e w1 ⟨rfl, hb⟩
 have HB1 := yh ((uh HB).trans (hb.mono (uh HB).size))
 clear hb HL HB
 go_wp2_with fail
 refine bodyPost_ret (v := .tuple #[.pointer none, .int .i64 c]) (by simp [results, Tryz.results159, go_sem]) rfl ?_
 exact ⟨rfl, uh HB1⟩
theorem mG (cs : List Value) (x : aS) (w : World) (h : ab.aA.Reads w cs x) (hf : cH x = 0) :
  Calls Tryz.prog 159 #[.agg cs.toArray] w fun e w' => ∃ g gw, e = .returned (.tuple #[.pointer (some ⟨g, 0, none⟩), .int .i64 0]) ∧ dG w' g (.slice (some ⟨gw, 0, none⟩) x.writes.length x.writes.length) x ∧ (ab.sl ab.ai).aL w' [.slice (some ⟨gw, 0, none⟩) x.writes.length x.writes.length] x.writes (g + 1) w'.heap.size ∧ w.heap.size ≤ g ∧ Below w.heap.size w w' := by
 obtain ⟨hok, hu⟩ := gx hf
 have HU := yh hu
 clear hu
 have hN := h
 obtain ⟨a4, d4, rfl, R4⟩ := bt h
 have nb : Below w.heap.size w (w.alloc (.cells #[.int .i64 x.id, .bool x.up, .int .i64 x.ae, .int .i64 x.ar, .slice a4 x.writes.length d4, .int .i64 x.sure, .int .i64 x.clean] 63)) := (Below.refl _ _).alloc (Nat.le_refl _) _
 have bX : ag w.heap.size #[.int .i64 x.id, .bool x.up, .int .i64 x.ae, .int .i64 x.ar, .slice a4 x.writes.length d4, .int .i64 x.sure, .int .i64 x.clean] 63 (w.alloc (.cells #[.int .i64 x.id, .bool x.up, .int .i64 x.ae, .int .i64 x.ar, .slice a4 x.writes.length d4, .int .i64 x.sure, .int .i64 x.clean] 63)) w.heap.size := aC (Nat.le_refl _)
 have HL := yh (lV _ x _ (hN.later nb) hok.fault)
 have HB := yh nb
 clear h hN nb bX R4 hf hok
 go_enter Tryz.func159, Tryz.ntmps159
 go_wp2_with fail
 refine (uh HL).mono ?_
 rintro e w1 ⟨g, gw, rfl, hH, O, hg, hb⟩
 have y3 := ag.at hH 3 _ rfl
 have yl := hH.lt
 simp only [ga, gb, gc] at y3
 rw [uh HU] at y3
 have HB1 := yh ((uh HB).trans (hb.mono (uh HB).size))
 have HH := yh hH
 have HO := yh O
 have HG := yh (Nat.le_trans (uh HB).size hg)
 clear hb HL HB hH O hg
 go_wp2_with fail
 refine bodyPost_ret (v := .tuple #[.pointer (some ⟨g, 0, none⟩), .int .i64 0]) (by simp [results, Tryz.results159, go_sem]) rfl ?_
 exact ⟨g, gw, rfl, uh HH, uh HO, uh HG, uh HB1⟩
theorem mz (a b i : Int) : (if a < (if b < i then b else i) then (if b < i then b else i) else a) = max a (min i b) := by
 by_cases h : b < i
 ·
  rw [if_pos h]; split <;> omega
 rw [if_neg h]; split <;> omega
theorem vA (g : Nat) (a : Option Addr) (n c : Nat) (x : aS) (w : World) (h : dG w g (.slice a n c) x) :
  Calls Tryz.prog 161 #[.pointer (some ⟨g, 0, none⟩)] w fun e w' => e = .returned (.agg #[.int .i64 x.id, .bool x.up, .int .i64 x.ae, .int .i64 x.ar, .slice a n c, .int .i64 x.sure, .int .i64 x.clean]) ∧ Below w.heap.size w w' := by
 have k0 := ag.at h 0 _ rfl
 have k1 := ag.at h 1 _ rfl
 have k2 := ag.at h 2 _ rfl
 have k3 := ag.at h 3 _ rfl
 have k4 := ag.at h 4 _ rfl
 have k5 := ag.at h 5 _ rfl
 have k6 := ag.at h 6 _ rfl
 simp only [ga, gb, gc] at k0 k1 k2 k3 k4 k5 k6
 have hgl := h.lt
 have HB0 := yh ((Below.refl w.heap.size w).alloc (Nat.le_refl _) (.cells #[.int .i64 0, .bool false, .int .i64 0, .int .i64 0, .slice none 0 0, .int .i64 0, .int .i64 0] 63))
 have hRD : ag 0 #[.int .i64 0, .bool false, .int .i64 0, .int .i64 0, .slice none 0 0, .int .i64 0, .int .i64 0] 63 (w.alloc (.cells #[.int .i64 0, .bool false, .int .i64 0, .int .i64 0, .slice none 0 0, .int .i64 0, .int .i64 0] 63)).drew w.heap.size := (aC (Nat.zero_le _)).drew
 clear h
 go_enter Tryz.func161, Tryz.ntmps161
 go_wp2_with fail
 generalize w.alloc (.cells #[.int .i64 0, .bool false, .int .i64 0, .int .i64 0, .slice none 0 0, .int .i64 0, .int .i64 0] 63) = W0 at *
 refine wZz (fun w' => Below w.heap.size w w') (uh HB0).drew (fun zq => ?_)
 generalize W0.drew = wD at zq hRD ⊢
 refine tkH 0 zq ?_
 refine tkH 1 zq ?_
 refine tkH 2 zq ?_
 refine tkJ 3 (v := ?vt3) ?ht3 zq ?rt3
 case ht3 =>
  intro wS hSw
  have y2 : wS.cell? ⟨g, 2, none⟩ = some (.int .i64 x.id) := (hSw.cell (p := ⟨g, 2, none⟩) hgl).trans k2
  clear hSw
  exact fZ
 refine tkH 4 zq ?_
 refine tkH 5 zq ?_
 refine tkH 6 zq ?_
 refine tkJ 7 (v := ?vt7) ?ht7 zq ?rt7
 case ht7 =>
  intro wS hSw
  have y3 : wS.cell? ⟨g, 3, none⟩ = some (.bool x.up) := (hSw.cell (p := ⟨g, 3, none⟩) hgl).trans k3
  clear hSw
  exact fZ
 refine tkH 8 zq ?_
 refine tkH 9 zq ?_
 refine tkH 10 zq ?_
 refine tkJ 11 (v := ?vt11) ?ht11 zq ?rt11
 case ht11 =>
  intro wS hSw
  have y4 : wS.cell? ⟨g, 4, none⟩ = some (.int .i64 x.ae) := (hSw.cell (p := ⟨g, 4, none⟩) hgl).trans k4
  clear hSw
  exact fZ
 refine tkH 12 zq ?_
 refine tkH 13 zq ?_
 refine tkH 14 zq ?_
 refine tkJ 15 (v := ?vt15) ?ht15 zq ?rt15
 case ht15 =>
  intro wS hSw
  have y5 : wS.cell? ⟨g, 5, none⟩ = some (.int .i64 x.ar) := (hSw.cell (p := ⟨g, 5, none⟩) hgl).trans k5
  clear hSw
  exact fZ
 refine tkH 16 zq ?_
 refine tkH 17 zq ?_
 refine tkH 18 zq ?_
 refine tkH 19 zq ?_
 refine tkJ 20 (v := ?vt20) ?ht20 zq ?rt20
 case ht20 =>
  intro wS hSw
  have y0 : wS.cell? ⟨g, 0, none⟩ = some (.slice a n c) := (hSw.cell (p := ⟨g, 0, none⟩) hgl).trans k0
  clear hSw
  exact fZ
 refine tkH 21 zq ?_
 refine tkH 22 zq ?_
 refine tkH 23 zq ?_
 refine tkH 24 zq ?_
 refine tkJ 25 (v := ?vt25) ?ht25 zq ?rt25
 case ht25 =>
  intro wS hSw
  have y1 : wS.cell? ⟨g, 1, none⟩ = some (.int .i64 x.sure) := (hSw.cell (p := ⟨g, 1, none⟩) hgl).trans k1
  clear hSw
  exact fZ
 refine tkH 26 zq ?_
 refine tkH 27 zq ?_
 refine tkH 28 zq ?_
 refine tkJ 29 (v := ?vt29) ?ht29 zq ?rt29
 case ht29 =>
  intro wS hSw
  have y6 : wS.cell? ⟨g, 6, none⟩ = some (.int .i64 x.clean) := (hSw.cell (p := ⟨g, 6, none⟩) hgl).trans k6
  clear hSw
  exact fZ
 refine tkH 30 zq ?_
 refine rdH 31 (fun K hK => ?_)
 have z0 := ag.at hRD 0 _ rfl
 have z1 := ag.at hRD 1 _ rfl
 have z2 := ag.at hRD 2 _ rfl
 have z3 := ag.at hRD 3 _ rfl
 have z4 := ag.at hRD 4 _ rfl
 have z5 := ag.at hRD 5 _ rfl
 have z6 := ag.at hRD 6 _ rfl
 simp only [ga, gb, gc] at z0 z1 z2 z3 z4 z5 z6
 have ff := ag.soft hRD
 have l0 := ag.lt hRD
 go_simp
 try go_wp2_with fail
 refine hK.out _ _ (aE zq w.heap.size 0 [.int .i64 x.id, .bool x.up, .int .i64 x.ae, .int .i64 x.ar, .slice a n c, .int .i64 x.sure, .int .i64 x.clean] (Nat.le_refl _)) (fun zq => ?_)
 clear hK K
 try simp only [Act.put, pz, py, px]
 refine dZ ?_
 have HB9 := yh (zq)
 clear zq
 go_wp2_with fail
 refine bodyPost_ret (v := .agg #[.int .i64 x.id, .bool x.up, .int .i64 x.ae, .int .i64 x.ar, .slice a n c, .int .i64 x.sure, .int .i64 x.clean]) (by simp [results, Tryz.results161, go_sem, z0, z1, z2, z3, z4, z5, z6]) rfl ?_
 exact ⟨rfl, uh HB9⟩
theorem vI (g : Nat) (a : Option Addr) (n c : Nat) (x : aS) (i : Int) (w : World) (h : dG w g (.slice a n c) x) :
  Calls Tryz.prog 207 #[.pointer (some ⟨g, 0, none⟩), .int .i64 i] w fun e w' => e = .returned (.tuple #[]) ∧ dG w' g (.slice a n c) ⟨x.id, x.up, x.ae, x.ar, x.writes, x.sure, max x.clean (min i x.sure)⟩ ∧ Ext (fun q => q = g) w w' := by
 have hHD : dG w.drew g (.slice a n c) x := h
 have k0 := ag.at hHD 0 _ rfl
 have k1 := ag.at hHD 1 _ rfl
 have k6 := ag.at hHD 6 _ rfl
 have kf := ag.soft hHD
 have kl := ag.lt hHD
 simp only [ga, gb, gc] at k0 k1 k6
 clear h
 go_enter Tryz.func207, Tryz.ntmps207
 go_wp2_with fail
 refine wZz (fun w' => Ext (fun q => q = g) w w') ((Ext.refl _ _).drew 1) (fun zq => ?_)
 generalize w.drew = wD at zq k0 k1 k6 kf kl hHD ⊢
 refine tkH 0 zq ?_
 refine tkH 1 zq ?_
 refine tkH 2 zq ?_
 refine tkH 3 zq ?_
 refine tkH 5 zq ?_
 refine tkH 6 zq ?_
 refine tkH 7 zq ?_
 refine tkH 8 zq ?_
 refine tkH 9 zq ?_
 refine wpAnyH_ready (rs := [4, 10]) (by kernel_rfl) (by simp) ?_
 refine AllReadyH.cons (o := ⟨some 8, .load 2 (.tmp 7), 2, "l09_node.go:162", #[⟨3, .data⟩], none⟩) rfl (fun K hK => ?ol4_10) (AllReadyH.cons (o := ⟨some 14, .load 2 (.tmp 13), 2, "l09_node.go:162", #[⟨9, .data⟩], none⟩) rfl (fun K hK => ?ol10_10) (AllReadyH.nil))
 case ol4_10 =>
  go_simp
  refine hK.out _ _ zq (fun zq => ?_)
  clear hK K
  try simp only [Act.put, pz, py, px]
  refine rdH 10 (fun K hK => ?_)
  go_simp
  refine hK.out _ _ zq (fun zq => ?_)
  clear hK K
  try simp only [Act.put, pz, py, px]
  refine tkH 11 zq ?_
  refine tkH 12 zq ?_
  refine tkH 13 zq ?_
  refine tkH 14 zq ?_
  refine rdH 15 (fun K hK => ?_)
  go_simp
  refine hK.out _ _ (zq.setCell ⟨g, 6, none⟩ _ rfl) (fun zq => ?_)
  clear hK K
  try simp only [Act.put, pz, py, px]
  refine dZ ?_
  have HE := yh zq
  have HH := yh (ag.set hHD 6 (.int .i64 (max x.clean (min i x.sure))))
  clear zq hHD
  first | rw [mz] at HE ⊢ | skip
  generalize (if x.sure < i then x.sure else i) = mn
  go_wp2_with fail
  refine bodyPost_end (v := .tuple #[]) (by simp [results, Tryz.results207, go_sem]) rfl ?_
  exact ⟨rfl, uh HH, uh HE⟩
 case ol10_10 =>
  go_simp
  refine hK.out _ _ zq (fun zq => ?_)
  clear hK K
  try simp only [Act.put, pz, py, px]
  refine tkH 11 zq ?_
  refine rdH 4 (fun K hK => ?_)
  go_simp
  refine hK.out _ _ zq (fun zq => ?_)
  clear hK K
  try simp only [Act.put, pz, py, px]
  refine tkH 12 zq ?_
  refine tkH 13 zq ?_
  refine tkH 14 zq ?_
  refine rdH 15 (fun K hK => ?_)
  go_simp
  refine hK.out _ _ (zq.setCell ⟨g, 6, none⟩ _ rfl) (fun zq => ?_)
  clear hK K
  try simp only [Act.put, pz, py, px]
  refine dZ ?_
  have HE := yh zq
  have HH := yh (ag.set hHD 6 (.int .i64 (max x.clean (min i x.sure))))
  clear zq hHD
  first | rw [mz] at HE ⊢ | skip
  generalize (if x.sure < i then x.sure else i) = mn
  go_wp2_with fail
  refine bodyPost_end (v := .tuple #[]) (by simp [results, Tryz.results207, go_sem]) rfl ?_
  exact ⟨rfl, uh HH, uh HE⟩
end Go.Proofs.YtomphbenbnnfgaaGreatDoor
