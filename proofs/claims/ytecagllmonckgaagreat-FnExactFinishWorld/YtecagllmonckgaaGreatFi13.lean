/-
  Texts of this proof in one: ImplFinW, LawFinW.
  Their conditions stand in their theorems.
-/
import Derived.Test.YtecagllmonckgaaGreatFi12
import Derived.Test.YtecagllmonckgaaGreatFi11
import Derived.Test.YtecagllmonckgaaGreatFi04
import Derived.Deep.RegionHeld3
import Derived.Test.YtecagllmonckgaaGreatFi00
import Derived.Test.YtecagllmonckgaaGreatFi05
set_option maxRecDepth 100000
set_option maxHeartbeats 4000000
namespace Go.Proofs.YtecagllmonckgaaGreat
open Go.RowKit
theorem nf (s q : Int) (w : World) :
  Calls Tryz.prog 84 #[.agg #[.int .i64 s, .int .i64 q]] w fun e w' => e = .returned (.func (.func 145) #[] #[.pointer (some ⟨w.heap.size, 0, none⟩)]) ∧ w' = (w.alloc (.cells #[.int .i64 s, .int .i64 q] 117)) := by
 have hmf : ∀ (fn : Fn) (first cap : Array Value) (w : World), (Instr.makeFunc fn first cap).run Tryz.prog w = .ok (.func fn first cap) w := fun _ _ _ _ => rfl
 go_enter Tryz.func84, Tryz.ntmps84
 go_wp2_with fail
 go_ret
 exact ⟨rfl, rfl⟩
theorem iw (cs : List Value) (x : ay) (s q : Int) (w : World) (h : ab.aC.Reads w cs x) (hf : Fits x) :
  Calls Tryz.prog 26 #[.agg cs.toArray, .int .i64 s, .int .i64 q] w fun e w' => ∃ cs', e = .returned (.agg cs'.toArray) ∧ ab.aB.aQ w' cs' (fs x s q) w.heap.size w'.heap.size ∧ Below w.heap.size w w' := by
 obtain ⟨a3, d3, a4, d4, a5, d5, a6, d6, rfl, -, -, -, -⟩ := aG h
 have nb1 : Below w.heap.size w (w.alloc (.cells #[.int .i64 x.now, .int .i64 x.events, .int .i64 x.chain.af, .slice a3 x.chain.ids.length d3, .slice a4 x.nodes.length d4, .slice a5 x.msgs.length d5, .slice a6 x.ae.length d6] 37)) := (Below.refl _ _).alloc (Nat.le_refl _) _
 have nb : Below w.heap.size w ((w.alloc (.cells #[.int .i64 x.now, .int .i64 x.events, .int .i64 x.chain.af, .slice a3 x.chain.ids.length d3, .slice a4 x.nodes.length d4, .slice a5 x.msgs.length d5, .slice a6 x.ae.length d6] 37)).alloc (.cells #[.int .i64 0, .bool false, .int .i64 0, .int .i64 0, .int .i64 0, .slice none 0 0, .slice none 0 0, .slice none 0 0, .slice none 0 0] 53)) := nb1.alloc (by simp) _
 have HX : Hid (aj 0 #[.int .i64 x.now, .int .i64 x.events, .int .i64 x.chain.af, .slice a3 x.chain.ids.length d3, .slice a4 x.nodes.length d4, .slice a5 x.msgs.length d5, .slice a6 x.ae.length d6] 37 ((w.alloc (.cells #[.int .i64 x.now, .int .i64 x.events, .int .i64 x.chain.af, .slice a3 x.chain.ids.length d3, .slice a4 x.nodes.length d4, .slice a5 x.msgs.length d5, .slice a6 x.ae.length d6] 37)).alloc (.cells #[.int .i64 0, .bool false, .int .i64 0, .int .i64 0, .int .i64 0, .slice none 0 0, .slice none 0 0, .slice none 0 0, .slice none 0 0] 53)) w.heap.size) := (aH (Nat.zero_le _)).grow _
 have HY : Hid (aj 0 #[.int .i64 0, .bool false, .int .i64 0, .int .i64 0, .int .i64 0, .slice none 0 0, .slice none 0 0, .slice none 0 0, .slice none 0 0] 53 ((w.alloc (.cells #[.int .i64 x.now, .int .i64 x.events, .int .i64 x.chain.af, .slice a3 x.chain.ids.length d3, .slice a4 x.nodes.length d4, .slice a5 x.msgs.length d5, .slice a6 x.ae.length d6] 37)).alloc (.cells #[.int .i64 0, .bool false, .int .i64 0, .int .i64 0, .int .i64 0, .slice none 0 0, .slice none 0 0, .slice none 0 0, .slice none 0 0] 53)) (w.heap.size + 1)) := bg (Nat.zero_le _) (by simp)
 have hz0 : ((w.alloc (.cells #[.int .i64 x.now, .int .i64 x.events, .int .i64 x.chain.af, .slice a3 x.chain.ids.length d3, .slice a4 x.nodes.length d4, .slice a5 x.msgs.length d5, .slice a6 x.ae.length d6] 37)).alloc (.cells #[.int .i64 0, .bool false, .int .i64 0, .int .i64 0, .int .i64 0, .slice none 0 0, .slice none 0 0, .slice none 0 0, .slice none 0 0] 53)).heap.size = w.heap.size + 2 := by simp
 have HR := yh (h.ag nb)
 have HB := yh nb
 have HFT := yh hf
 clear nb1 nb h hf
 go_enter Tryz.func26, Tryz.ntmps26
 go_upto_region 1 with fail
 generalize (w.alloc (.cells #[.int .i64 x.now, .int .i64 x.events, .int .i64 x.chain.af, .slice a3 x.chain.ids.length d3, .slice a4 x.nodes.length d4, .slice a5 x.msgs.length d5, .slice a6 x.ae.length d6] 37)).alloc (.cells #[.int .i64 0, .bool false, .int .i64 0, .int .i64 0, .int .i64 0, .slice none 0 0, .slice none 0 0, .slice none 0 0, .slice none 0 0] 53) = W1 at *
 have LI : Hid (∀ V, Below W1.heap.size W1 V → Calls Tryz.prog 59 #[.agg #[.int .i64 x.now, .int .i64 x.events, .int .i64 x.chain.af, .slice a3 x.chain.ids.length d3, .slice a4 x.nodes.length d4, .slice a5 x.msgs.length d5, .slice a6 x.ae.length d6]] V fun e w' => e = .returned (.int .i64 (aW x)) ∧ Below V.heap.size V w') := fun V hV => jl _ x V ((uh HR).ag hV)
 have LS : Hid (∀ V, Below W1.heap.size W1 V → Calls Tryz.prog 58 #[.agg #[.int .i64 x.now, .int .i64 x.events, .int .i64 x.chain.af, .slice a3 x.chain.ids.length d3, .slice a4 x.nodes.length d4, .slice a5 x.msgs.length d5, .slice a6 x.ae.length d6], .int .i64 (aW x), .func (.func 145) #[] #[.pointer (some ⟨V.heap.size, 0, none⟩)]] (V.alloc (.cells #[.int .i64 s, .int .i64 q] 117)) fun e w' => ∃ cs', e = .returned (.agg cs'.toArray) ∧ ab.aB.aQ w' cs' (fs x s q) V.heap.size w'.heap.size ∧ Below V.heap.size V w') := by
  intro V hV
  have nv : Below V.heap.size V (V.alloc (.cells #[.int .i64 s, .int .i64 q] 117)) := (Below.refl _ _).alloc (Nat.le_refl _) _
  refine (qa 145 _ _ x (aW x) (fb (cC x) s q) true (finished (cC x) s q) _ (fun a W => rfl) ((uh HR).ag (hV.trans (nv.mono hV.size))) (fun h0 => dm h0) (uh HFT) (rm _ _ _) (by have := nR x; omega) (fun h0 W hW => ?_)).mono ?_
  ·
   have hok := dm h0
   obtain ⟨kt, hkt, het⟩ := tail_at hok
   exact lH _ kt (V.heap.size) s q (cC x) W (aj.au (aH (Nat.zero_le _)) hW) (by simp) hok.mid.next hkt het (by have := hok.events; show -1000000000 ≤ x.events + 1 ∧ x.events + 1 ≤ 1000000000; omega)
  rintro e w' ⟨cs', rfl, O, hb⟩
  rw [qT] at O
  exact ⟨cs', rfl, O.mono nv.size (Nat.le_refl _), nv.trans (hb.mono nv.size)⟩
 have hx := uh HX
 have hxl := hx.lt
 have HD : Hid (Below W1.heap.size W1 W1.drew) := (Below.refl _ _).drew
 replace HY : Hid (aj 0 #[.int .i64 0, .bool false, .int .i64 0, .int .i64 0, .int .i64 0, .slice none 0 0, .slice none 0 0, .slice none 0 0, .slice none 0 0] 53 W1.drew (w.heap.size + 1)) := (uh HY)
 refine wZz (fun w' => Ext (fun q => w.heap.size < q) W1 w') ((Ext.refl _ _).drew 1) (fun zq => ?_)
 generalize W1.drew = wD at zq HD HY ⊢
 refine tkJ 0 (v := ?vf0) ?hf0 zq ?rf0
 case hf0 =>
  intro wS hSw
  have bS := hx.ext hSw (fun e => Nat.lt_irrefl _ e)
  have q0 := aj.at bS 0 _ rfl
  have q1 := aj.at bS 1 _ rfl
  have q2 := aj.at bS 2 _ rfl
  have q3 := aj.at bS 3 _ rfl
  have q4 := aj.at bS 4 _ rfl
  have q5 := aj.at bS 5 _ rfl
  have q6 := aj.at bS 6 _ rfl
  simp only [ga, gb, gc] at q0 q1 q2 q3 q4 q5 q6
  clear bS hSw
  exact fZ
 refine tkJ 1 (v := ?vf1) ?hf1 zq ?rf1
 case hf1 =>
  intro wS hSw
  have bS := hx.ext hSw (fun e => Nat.lt_irrefl _ e)
  have q0 := aj.at bS 0 _ rfl
  have q1 := aj.at bS 1 _ rfl
  have q2 := aj.at bS 2 _ rfl
  have q3 := aj.at bS 3 _ rfl
  have q4 := aj.at bS 4 _ rfl
  have q5 := aj.at bS 5 _ rfl
  have q6 := aj.at bS 6 _ rfl
  simp only [ga, gb, gc] at q0 q1 q2 q3 q4 q5 q6
  clear bS hSw
  exact fZ
 refine tkH 3 zq ?_
 refine tkH 4 zq ?_
 refine tkH 5 zq ?_
 refine rdH 2 (fun K hK => ?_)
 go_simp
 go_at_call 59
 refine (uh LI _ (uh HD)).mono ?_
 rintro e u1 ⟨rfl, hb1⟩
 have HD1 := yh ((uh HD).trans (hb1.mono (uh HD).size))
 have HY1 := yh ((uh HY).au hb1)
 try go_wp2_with fail
 have hH1 := zq.trans (aL hb1 (fun q => w.heap.size < q))
 refine hK.out _ _ (zq.trans (aL hb1 _)) (fun zq => ?_)
 clear hK K
 try simp only [Act.put, pz, py, px]
 refine rdH 6 (fun K hK => ?_)
 go_simp
 go_at_call 84
 refine (nf s q _).mono ?_
 rintro e u2 ⟨rfl, rfl⟩
 try go_wp2_with fail
 refine hK.out _ _ (zq.trans (aL ((Below.refl _ _).alloc (Nat.le_refl _) _) _)) (fun zq => ?_)
 clear hK K
 try simp only [Act.put, pz, py, px]
 refine rdH 7 (fun K hK => ?_)
 go_simp
 go_at_call 58
 refine (uh LS u1 (uh HD1)).mono ?_
 rintro e u3 ⟨cs, rfl, O, hb3⟩
 obtain ⟨a5r, d5r, a6r, d6r, a7r, d7r, a8r, d8r, rfl, -⟩ := bQ O.reads
 have hy := (uh HY1).au hb3
 try go_wp2_with fail
 refine hK.out _ _ (hH1.trans (aL hb3 _)) (fun zq => ?_)
 clear hK K
 try simp only [Act.put, pz, py, px]
 refine rdH 8 (fun K hK => ?_)
 generalize hyr : fs x s q = yr at *
 have HYR := yh hyr
 clear hyr
 have r0 := aj.at hy 0 _ rfl
 have r1 := aj.at hy 1 _ rfl
 have r2 := aj.at hy 2 _ rfl
 have r3 := aj.at hy 3 _ rfl
 have r4 := aj.at hy 4 _ rfl
 have r5 := aj.at hy 5 _ rfl
 have r6 := aj.at hy 6 _ rfl
 have r7 := aj.at hy 7 _ rfl
 have r8 := aj.at hy 8 _ rfl
 simp only [ga, gb, gc] at r0 r1 r2 r3 r4 r5 r6 r7 r8
 have rf := aj.soft hy
 have rl := hy.lt
 go_simp
 refine hK.out _ _ (Ext.setCell (Ext.setCell (Ext.setCell (Ext.setCell (Ext.setCell (Ext.setCell (Ext.setCell (Ext.setCell (Ext.setCell zq ⟨w.heap.size + 1, 0, none⟩ (.int .i64 yr.code) (Nat.lt_succ_self _)) ⟨w.heap.size + 1, 1, none⟩ (.bool yr.bt) (Nat.lt_succ_self _)) ⟨w.heap.size + 1, 2, none⟩ (.int .i64 yr.world.now) (Nat.lt_succ_self _)) ⟨w.heap.size + 1, 3, none⟩ (.int .i64 yr.world.events) (Nat.lt_succ_self _)) ⟨w.heap.size + 1, 4, none⟩ (.int .i64 yr.world.chain.af) (Nat.lt_succ_self _)) ⟨w.heap.size + 1, 5, none⟩ (.slice a5r yr.world.chain.ids.length d5r) (Nat.lt_succ_self _)) ⟨w.heap.size + 1, 6, none⟩ (.slice a6r yr.world.nodes.length d6r) (Nat.lt_succ_self _)) ⟨w.heap.size + 1, 7, none⟩ (.slice a7r yr.world.msgs.length d7r) (Nat.lt_succ_self _)) ⟨w.heap.size + 1, 8, none⟩ (.slice a8r yr.world.ae.length d8r) (Nat.lt_succ_self _)) (fun zq => ?_)
 clear hK K
 try simp only [Act.put, pz, py, px]
 refine dZ ?_
 have hy9 := eN hy (.int .i64 yr.code) (.bool yr.bt) (.int .i64 yr.world.now) (.int .i64 yr.world.events) (.int .i64 yr.world.chain.af) (.slice a5r yr.world.chain.ids.length d5r) (.slice a6r yr.world.nodes.length d6r) (.slice a7r yr.world.msgs.length d7r) (.slice a8r yr.world.ae.length d8r)
 have e2 : Ext (fun q => q = w.heap.size + 1) u3 (aO u3 (w.heap.size + 1) 0 [.int .i64 yr.code, .bool yr.bt, .int .i64 yr.world.now, .int .i64 yr.world.events, .int .i64 yr.world.chain.af, .slice a5r yr.world.chain.ids.length d5r, .slice a6r yr.world.nodes.length d6r, .slice a7r yr.world.msgs.length d7r, .slice a8r yr.world.ae.length d8r]) := bD _ (Ext.refl _ _) _ _ _ rfl
 have hs1 := hb1.size
 have hs2 := (uh HB).size
 have hs3 := (uh HD).size
 have HO := yh (O.ext e2 (fun q h1 h2 h3 => by omega))
 have HB9 := yh (aP (((uh HB).trans ((uh HD1).mono (uh HB).size)).trans (hb3.mono (by omega))) (w.heap.size + 1) 0 [.int .i64 yr.code, .bool yr.bt, .int .i64 yr.world.now, .int .i64 yr.world.events, .int .i64 yr.world.chain.af, .slice a5r yr.world.chain.ids.length d5r, .slice a6r yr.world.nodes.length d6r, .slice a7r yr.world.msgs.length d7r, .slice a8r yr.world.ae.length d8r] (by omega))
 have hsz : Hid ((aO u3 (w.heap.size + 1) 0 [.int .i64 yr.code, .bool yr.bt, .int .i64 yr.world.now, .int .i64 yr.world.events, .int .i64 yr.world.chain.af, .slice a5r yr.world.chain.ids.length d5r, .slice a6r yr.world.nodes.length d6r, .slice a7r yr.world.msgs.length d7r, .slice a8r yr.world.ae.length d8r]).heap.size = u3.heap.size) := bF _ _ _ _
 clear r0 r1 r2 r3 r4 r5 r6 r7 r8 rf rl
 have r0 := aj.at hy9 0 _ rfl
 have r1 := aj.at hy9 1 _ rfl
 have r2 := aj.at hy9 2 _ rfl
 have r3 := aj.at hy9 3 _ rfl
 have r4 := aj.at hy9 4 _ rfl
 have r5 := aj.at hy9 5 _ rfl
 have r6 := aj.at hy9 6 _ rfl
 have r7 := aj.at hy9 7 _ rfl
 have r8 := aj.at hy9 8 _ rfl
 simp only [ga, gb, gc] at r0 r1 r2 r3 r4 r5 r6 r7 r8
 clear hy hy9 zq e2 O hb3 hb1
 go_wp2_with fail
 refine bodyPost_ret (v := .agg #[.int .i64 yr.code, .bool yr.bt, .int .i64 yr.world.now, .int .i64 yr.world.events, .int .i64 yr.world.chain.af, .slice a5r yr.world.chain.ids.length d5r, .slice a6r yr.world.nodes.length d6r, .slice a7r yr.world.msgs.length d7r, .slice a8r yr.world.ae.length d8r]) (by simp only [aO] at r0 r1 r2 r3 r4 r5 r6 r7 r8; simp [results, Tryz.results26, go_sem, r0, r1, r2, r3, r4, r5, r6, r7, r8]) rfl ?_
 rw [uh HYR]
 exact ⟨_, rfl, (uh HO).mono (by omega) (Nat.le_of_eq (uh hsz).symm), uh HB9⟩
theorem gm : ∀ (es : List aZ) (k : Nat) (hk : k < es.length) (f p : Int), al ab.ar.bG (es.set k (en es[k] f p)) = al ab.ar.bG es
 | [], _, hk, _, _ => by simp at hk
 | x :: xs, 0, _, f, p => by
  simp only [List.set_cons_zero, List.getElem_cons_zero, al]
  rfl
 | x :: xs, k + 1, hk, f, p => by
  have := gm xs k (by simpa using hk) f p
  simp only [List.set_cons_succ, List.getElem_cons_succ, al]
  rw [this]
theorem oN {x : ay} {s q : Int} (hs : ab.aC.sz x ≤ 1048576) : ab.aB.ak (fs x s q) ≤ 100000000 := by
 unfold fs
 split
 ·
  exact fX _
 rename_i c
 have hF := oE (dm (iT (by simpa using c))) hs
 split
 ·
  exact fX _
 rename_i c1
 split
 ·
  exact fX _
 split
 ·
  exact fX _
 obtain ⟨k, hk, -, hk2⟩ := fN (es := x.ae) (s := s) (q := q) (by omega)
 have hea : cM x s q = x.ae[k] := by
  rw [cM, hk2]
  simp [List.getD, hk]
 have e1 : fg (cC x).ae s q = k := hk2
 have e2 : cM (cC x) s q = x.ae[k] := hea
 refine k8 ⟨hF.ids, hF.len, hF.nodes, hF.sO, hF.msgs, ?_⟩
 show al ab.ar.bG (finished (cC x) s q).ae ≤ 20000000
 rw [finished, e1, e2]
 have := gm x.ae k hk (cC x).events ((bM (cW (cC x)) s q : Nat) : Int)
 show al ab.ar.bG (x.ae.set k (en x.ae[k] (cC x).events ((bM (cW (cC x)) s q : Nat) : Int))) ≤ 20000000
 rw [this]
 exact hF.sM
theorem jq (cs : List Value) (x : ay) (s q : Int) (w : World) (h : ab.aC.Reads w cs x) :
  Calls Tryz.prog 5 #[.agg cs.toArray, .int .i64 s, .int .i64 q] w fun e w' => e = .returned (.bool true) ∧ Below w.heap.size w w' := by
 by_cases hn : ab.aC.sz x ≤ 1048576
 ·
  refine gC cs x s q (fs x s q) w h hn (fun W a ha => il a x s q W ha (jc hn)) (fun W a ha => iw a x s q W ha (jc hn)) (oN hn)
 exact fF cs x s q w h (by omega)
end Go.Proofs.YtecagllmonckgaaGreat
