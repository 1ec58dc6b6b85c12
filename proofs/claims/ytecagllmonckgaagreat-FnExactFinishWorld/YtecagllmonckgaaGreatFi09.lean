/-
  Texts of this proof in one: ImplTell, VecOf, ImplDeed, ListC, ImplWOf, ImplWOfA, LayOpen, ImplStory, ImplOnce, ImplWrF, ImplNodeF, ImplWN, ImplWNs.
  Their conditions stand in their theorems.
-/
import Derived.Test.YtecagllmonckgaaGreatFi08
import Derived.Test.YtecagllmonckgaaGreatFi06
import Derived.Deep.RegionHeld3
import Derived.Test.YtecagllmonckgaaGreatFi00
import Derived.Test.YtecagllmonckgaaGreatChecked
import Derived.Test.YtecagllmonckgaaGreatFi01
import Derived.Test.YtecagllmonckgaaGreatFi05
import Derived.WalkSmall
import Derived.Outline
import Derived.ProofKit
import Derived.OpenShut
import Derived.Deep.Slices
import Derived.Carry
import Derived.Test.YtecagllmonckgaaGreatFi07
import Derived.Deep.CutRange
import Derived.WalkMore
set_option maxRecDepth 100000
set_option maxHeartbeats 4000000
namespace Go.Proofs.YtecagllmonckgaaGreat
open Go.RowKit
theorem Ext.jV {S : Nat → Prop} {a b : World} (h : Ext S a b) : Ext S a b.drew := ⟨h.os, h.tape, h.output, h.size, h.block⟩
theorem Ext.m8 {S : Nat → Prop} {a b : World} (h : Ext S a b) (o : Obj) : Ext S a (b.alloc o) := h.trans (aL ((Below.refl _ _).alloc (Nat.le_refl _) o) S)
theorem rr (k i : Int) (u1 : Option Addr) (u2 u3 : Nat) (s q : Int) (w : World) :
  Calls Tryz.prog 275 #[.agg #[.int .i64 k, .int .i64 i, .slice u1 u2 u3, .int .i64 s, .int .i64 q]] w fun e w' => e = .returned (tick s q) ∧ Below w.heap.size w w' := by
 have HB : Hid (∀ o o', Below w.heap.size w ((w.alloc o).alloc o')) := fun o o' => ((Below.refl _ _).alloc (Nat.le_refl _) _).alloc (by simp) _
 go_enter Tryz.func275, Tryz.ntmps275
 go_wp2_with fail
 refine bodyPost_ret (v := .agg #[.int .i64 s, .int .i64 q]) (by simp [results, Tryz.results275, go_sem]) rfl ?_
 exact ⟨rfl, uh HB _ _⟩
theorem sQ {w : World} {p mb N : Nat} {ws : List aA} {v : Value} {rows : List (List Value)} {bls : List (List Nat)} (h : Told w p mb N ws v rows bls) {cs : List Value} {x : aA} {bl : List Nat} (hl : ab.ai.bp w cs x bl) (hX : ∀ b ∈ bl, N ≤ b ∧ ∀ o, w.frozen? ⟨b, o, none⟩ = false) (hnd : bl.Nodup) (hNw : N ≤ w.heap.size) (hf : wF x = 0) (hn : ws.length < 1000) :
  Calls Tryz.prog 253 #[.pointer (some ⟨p, 0, none⟩), .agg cs.toArray] w fun e w' => e = .returned (.tuple #[]) ∧ (∃ v' rows' bls', Told w' p mb w'.heap.size (ws ++ [x]) v' rows' bls') ∧ Below mb w w' := by
 obtain ⟨a2, d2, b2, rfl, rfl, -, -, -, k3, k4⟩ := cg.1 hl
 have nb : Below w.heap.size w (w.alloc (.cells #[.int .i64 x.kind, .int .i64 x.id, .slice a2 x.vec.length d2, .int .i64 x.aa, .int .i64 x.seq] 142)) := (Below.refl _ _).alloc (Nat.le_refl _) _
 have hQ0 : aj 0 #[.int .i64 x.kind, .int .i64 x.id, .slice a2 x.vec.length d2, .int .i64 x.aa, .int .i64 x.seq] 142 (w.alloc (.cells #[.int .i64 x.kind, .int .i64 x.id, .slice a2 x.vec.length d2, .int .i64 x.aa, .int .i64 x.seq] 142)) w.heap.size := aH (Nat.zero_le _)
 have hT0 := h.ag nb
 have hL0 : ab.ai.bp (w.alloc (.cells #[.int .i64 x.kind, .int .i64 x.id, .slice a2 x.vec.length d2, .int .i64 x.aa, .int .i64 x.seq] 142)) [.int .i64 x.kind, .int .i64 x.id, .slice a2 x.vec.length d2, .int .i64 x.aa, .int .i64 x.seq] x bl := ab.ai.au hl fun b hb => nb.block b (ab.ai.lt hl b hb)
 have hpw := h.box.lt
 have hmp := h.lt
 have HNW := yh hNw
 have hF0 : ∀ b ∈ bl, ∀ o, (w.alloc (.cells #[.int .i64 x.kind, .int .i64 x.id, .slice a2 x.vec.length d2, .int .i64 x.aa, .int .i64 x.seq] 142)).frozen? ⟨b, o, none⟩ = false := fun b hb o => (ct (nb.block b (ab.ai.lt hl b hb)) o).trans ((hX b hb).2 o)
 have hBw : Below mb w (w.alloc (.cells #[.int .i64 x.kind, .int .i64 x.id, .slice a2 x.vec.length d2, .int .i64 x.aa, .int .i64 x.seq] 142)) := nb.mono (by omega)
 go_enter Tryz.func253, Tryz.ntmps253
 go_wp2_with fail
 generalize hW0 : w.alloc (.cells #[.int .i64 x.kind, .int .i64 x.id, .slice a2 x.vec.length d2, .int .i64 x.aa, .int .i64 x.seq] 142) = W0 at *
 clear hW0
 have hHD : Ext (fun c => c = p ∨ v.ownBlock = some c) W0 W0.drew := (Ext.refl _ _).jV
 have hTD : Told W0.drew p mb N ws v rows bls := hT0.ag (cL (Below.refl _ _) 1)
 have hLD : ab.ai.bp W0.drew [.int .i64 x.kind, .int .i64 x.id, .slice a2 x.vec.length d2, .int .i64 x.aa, .int .i64 x.seq] x bl := hL0
 have hFD : ∀ b ∈ bl, ∀ o, W0.drew.frozen? ⟨b, o, none⟩ = false := hF0
 refine wZz (fun w' => Ext (fun c => c = p ∨ v.ownBlock = some c) W0 w') (Ext.refl _ _).jV (fun zq => ?_)
 generalize W0.drew = wD at zq hTD hLD hHD hFD ⊢
 refine tkH 0 zq ?_
 refine tkH 1 zq ?_
 refine tkH 2 zq ?_
 refine tkH 3 zq ?_
 refine tkJ 5 (v := ?va5) ?ha5 zq ?ra5
 case ha5 =>
  intro wS hSw
  have y0 : wS.cell? ⟨w.heap.size, 0, none⟩ = some (.int .i64 x.kind) := (hQ0.ext hSw (by first | (rintro (e | e); omega; have := h.oz _ e; have := uh HNW; omega) | (intro e; omega) | exact fun e => e)).at 0 _ rfl
  have y1 : wS.cell? ⟨w.heap.size, 1, none⟩ = some (.int .i64 x.id) := (hQ0.ext hSw (by first | (rintro (e | e); omega; have := h.oz _ e; have := uh HNW; omega) | (intro e; omega) | exact fun e => e)).at 1 _ rfl
  have y2 : wS.cell? ⟨w.heap.size, 2, none⟩ = some (.slice a2 x.vec.length d2) := (hQ0.ext hSw (by first | (rintro (e | e); omega; have := h.oz _ e; have := uh HNW; omega) | (intro e; omega) | exact fun e => e)).at 2 _ rfl
  have y3 : wS.cell? ⟨w.heap.size, 3, none⟩ = some (.int .i64 x.aa) := (hQ0.ext hSw (by first | (rintro (e | e); omega; have := h.oz _ e; have := uh HNW; omega) | (intro e; omega) | exact fun e => e)).at 3 _ rfl
  have y4 : wS.cell? ⟨w.heap.size, 4, none⟩ = some (.int .i64 x.seq) := (hQ0.ext hSw (by first | (rintro (e | e); omega; have := h.oz _ e; have := uh HNW; omega) | (intro e; omega) | exact fun e => e)).at 4 _ rfl
  clear hSw
  exact fZ
 refine (fun (REST : ?T) => ?main) ?rest
 case main =>
  refine wpAnyH_ready (rs := [4, 6]) (by kernel_rfl) (by simp) ?_
  refine AllReadyH.cons (o := ⟨some 11, .load 77 (.tmp 10), 77, "l05_session.go:65", #[⟨3, .data⟩], none⟩) rfl (fun K hK => ?first) (AllReadyH.cons (o := ⟨some 13, .buildSlice 77 1 #[(0, .tmp 12)], 77, "l05_session.go:65", #[⟨5, .data⟩], none⟩) rfl (fun K hK => ?second) AllReadyH.nil)
  case first =>
   have y0 : wD.cell? ⟨p, 0, none⟩ = some v := hTD.box.at 0 _ rfl
   have hp : p < wD.heap.size := hTD.box.lt
   have y1 : ∀ o, (wD.alloc o).cell? ⟨p, 0, none⟩ = some v := fun o => (World.cell?_alloc_lt _ _ _ hp).trans y0
   go_simp
   refine hK.out _ _ zq (fun zq => ?_)
   clear hK K
   try simp only [Act.put, pz, py, px]
   refine rdH 6 (fun K hK => ?_)
   go_simp
   refine hK.out _ _ (zq.m8 _) (fun zq => ?_)
   clear hK K
   try simp only [Act.put, pz, py, px]
   exact REST
  case second =>
   go_simp
   refine hK.out _ _ (zq.m8 _) (fun zq => ?_)
   clear hK K
   try simp only [Act.put, pz, py, px]
   refine rdH 4 (fun K hK => ?_)
   have y0 : wD.cell? ⟨p, 0, none⟩ = some v := hTD.box.at 0 _ rfl
   have hp : p < wD.heap.size := hTD.box.lt
   have y1 : ∀ o, (wD.alloc o).cell? ⟨p, 0, none⟩ = some v := fun o => (World.cell?_alloc_lt _ _ _ hp).trans y0
   go_simp
   refine hK.out _ _ zq (fun zq => ?_)
   clear hK K
   try simp only [Act.put, pz, py, px]
   exact REST
 case rest =>
 replace zq := zq.m8 (.cells #[.int .i64 x.kind, .int .i64 x.id, .slice a2 x.vec.length d2, .int .i64 x.aa, .int .i64 x.seq] 142)
 refine rdH 7 (fun K hK => ?_)
 refine gl hTD.grow (row := [.int .i64 x.kind, .int .i64 x.id, .slice a2 x.vec.length d2, .int .i64 x.aa, .int .i64 x.seq]) (x := x) (bl := bl) hLD (fun c hc e => by have h1 := (hX c hc).1; have h2 := hTD.oz c e; omega) rfl _ _ rfl rfl rfl (by omega) (by have := hTD.box.lt; omega) ?_
 rintro g5 cp5 w5 hG5 hb5 hE5 hl5 hz5 hor5
 refine hK.out _ _ ((hHD.trans (hE5.mono (fun k _ h => Or.inr h)))) (fun zq => ?_)
 clear hK K
 try simp only [Act.put, pz, py, px]
 refine tkH 8 zq ?_
 refine tkH 9 zq ?_
 refine rdH 10 (fun K hK => ?_)
 have hb6 : aj 0 (er v mb (aV ws)) 237 w5 p := hTD.box.ext hE5 (fun e => by have := (hTD.grow.own.lt p e).1; omega)
 have c6 : w5.cell? ⟨p, 0, none⟩ = some v := hb6.at 0 _ rfl
 have f6 := hb6.soft 0
 have l6 := hb6.lt
 go_simp
 refine hK.out _ _ ((hHD.trans (hE5.mono (fun k _ h => Or.inr h))).setCell ⟨p, 0, none⟩ _ (Or.inl rfl)) (fun zq => ?_)
 clear hK K
 try simp only [Act.put, pz, py, px]
 refine dZ ?_
 have hnf : (bls ++ [bl]).flatten = bls.flatten ++ bl := by simp
 have hT6 := hTD.added hG5 hE5 (by
  intro b hb
  rw [hnf] at hb
  rcases List.mem_append.1 hb with hb | hb
  ·
   exact ⟨(hTD.sub b hb).1, fun o => (ct (hE5.block b (hTD.grow.sub_lt b hb) (fun e => hTD.grow.off b hb e)) o).trans ((hTD.sub b hb).2 o)⟩
  ·
   refine ⟨by have := (hX b hb).1; have := hTD.pN; omega, fun o => (ct (hE5.block b (ab.ai.lt hLD b hb) (fun e => by have := hTD.oz b e; have := (hX b hb).1; omega)) o).trans (hFD b hb o)⟩) (by
  rw [hnf, List.nodup_append]
  exact ⟨hTD.nd, hnd, fun b hb c hc e => by have := hTD.sF b hb; have := (hX c hc).1; omega⟩)
 have hQ6 : aj 0 #[.int .i64 x.kind, .int .i64 x.id, .slice a2 x.vec.length d2, .int .i64 x.aa, .int .i64 x.seq] 142 (w5.setCell ⟨p, 0, none⟩ (.slice (some ⟨g5, 0, none⟩) (ws.length + 1) cp5)) w.heap.size := hQ0.ext zq (by rintro (e | e); omega; have := h.oz _ e; omega)
 have hB6 : Below mb w (w5.setCell ⟨p, 0, none⟩ (.slice (some ⟨g5, 0, none⟩) (ws.length + 1) cp5)) := hBw.trans (zq.below (by have := hBw.size; omega) (by rintro c hc (e | e); omega; have := (h.grow.own.lt c e).1; omega))
 clear zq hTD hLD hHD hFD hG5 hE5 hb5 hl5 hz5 hor5 hT0 hL0 hF0 hQ0 hBw h hl hX hnd nb hnf
 generalize w5.setCell ⟨p, 0, none⟩ (.slice (some ⟨g5, 0, none⟩) (ws.length + 1) cp5) = w6 at hT6 hQ6 hB6 ⊢
 have y0 : w6.cell? ⟨w.heap.size, 0, none⟩ = some (.int .i64 x.kind) := hQ6.at 0 _ rfl
 have y1 : w6.cell? ⟨w.heap.size, 1, none⟩ = some (.int .i64 x.id) := hQ6.at 1 _ rfl
 have y2 : w6.cell? ⟨w.heap.size, 2, none⟩ = some (.slice a2 x.vec.length d2) := hQ6.at 2 _ rfl
 have y3 : w6.cell? ⟨w.heap.size, 3, none⟩ = some (.int .i64 x.aa) := hQ6.at 3 _ rfl
 have y4 : w6.cell? ⟨w.heap.size, 4, none⟩ = some (.int .i64 x.seq) := hQ6.at 4 _ rfl
 go_wp2_with fail
 clear y0 y1 y2 y3 y4
 refine (rr _ _ _ _ _ _ _ w6).mono ?_
 rintro e w7 ⟨rfl, hb7⟩
 have nb8 : Below w6.heap.size w6 (w7.alloc (.cells #[.int .i64 x.aa, .int .i64 x.seq] 117)) := hb7.alloc hb7.size _
 have hT8 := hT6.ag nb8
 have hQ8 := hQ6.au nb8
 have hB8 := hB6.trans (nb8.mono (by have := hT6.lt; have := hT6.box.lt; omega))
 have hR8 : aj 0 #[.int .i64 x.aa, .int .i64 x.seq] 117 (w7.alloc (.cells #[.int .i64 x.aa, .int .i64 x.seq] 117)) w7.heap.size := aH (Nat.zero_le _)
 have hrp : mb < w7.heap.size := by have := hT6.lt; have := hT6.box.lt; have := hb7.size; omega
 simp only [tick]
 go_wp2_with fail
 clear hT6 hQ6 hB6 hb7 nb8
 generalize w7.alloc (.cells #[.int .i64 x.aa, .int .i64 x.seq] 117) = w8 at *
 generalize w7.heap.size = r at *
 have hT9 : cY w8.drew p mb _ ws.length (ws ++ [x]) (aV ws) (fun s q => bM ws s q) (.slice (some ⟨g5, 0, none⟩) (ws.length + 1) cp5) (rows ++ [[.int .i64 x.kind, .int .i64 x.id, .slice a2 x.vec.length d2, .int .i64 x.aa, .int .i64 x.seq]]) (bls ++ [bl]) := hT8.ag (cL (Below.refl _ _) 1)
 have hQ9 : aj 0 #[.int .i64 x.kind, .int .i64 x.id, .slice a2 x.vec.length d2, .int .i64 x.aa, .int .i64 x.seq] 142 w8.drew w.heap.size := hQ8
 have hR9 : aj 0 #[.int .i64 x.aa, .int .i64 x.seq] 117 w8.drew r := hR8
 have hB9 : Below mb w w8.drew := hB8.drew
 obtain ⟨bs, hbs⟩ : ∃ bs, bs = decide (bM ws x.aa x.seq ≠ 0) := ⟨_, rfl⟩
 have HBS := yh hbs
 clear hbs
 refine wZz (fun w' => Ext (fun _ => False) w8 w') (Ext.refl _ _).jV (fun zq => ?_)
 generalize w8.drew = w9 at zq hT9 hQ9 hR9 hB9 ⊢
 refine tkH 0 zq ?_
 refine tkH 1 zq ?_
 refine tkH 2 zq ?_
 refine tkJ 3 (v := ?vc3) ?hc3 zq ?rc3
 case hc3 =>
  intro wS hSw
  have z1 : wS.cell? ⟨p, 1, none⟩ = some (.map (some mb)) := (hT8.box.ext hSw (fun e => e)).at 1 _ rfl
  have k0 : wS.cell? ⟨r, 0, none⟩ = some (.int .i64 x.aa) := (hR8.ext hSw (fun e => e)).at 0 _ rfl
  have k1 : wS.cell? ⟨r, 1, none⟩ = some (.int .i64 x.seq) := (hR8.ext hSw (fun e => e)).at 1 _ rfl
  clear hSw
  exact fZ
 refine tkJ 4 (v := ?vc4) ?hc4 zq ?rc4
 case hc4 =>
  intro wS hSw
  have z1 : wS.cell? ⟨p, 1, none⟩ = some (.map (some mb)) := (hT8.box.ext hSw (fun e => e)).at 1 _ rfl
  have k0 : wS.cell? ⟨r, 0, none⟩ = some (.int .i64 x.aa) := (hR8.ext hSw (fun e => e)).at 0 _ rfl
  have k1 : wS.cell? ⟨r, 1, none⟩ = some (.int .i64 x.seq) := (hR8.ext hSw (fun e => e)).at 1 _ rfl
  clear hSw
  exact fZ
 refine tkJ 5 (v := ?vc5) ?hc5 zq ?rc5
 case hc5 =>
  intro wS hSw
  have hlk := (hT8.seen.ext hSw (fun e => e)).look k3 k4
  simp only [tick] at hlk
  rw [← uh HBS] at hlk
  clear hSw
  exact fZ
 refine tkH 6 zq ?_
 refine tkH 7 zq ?_
 refine tkH 8 zq ?_
 refine tkH 9 zq ?_
 refine tkH 10 zq ?_
 refine dZ ?_
 clear zq hT8 hQ8 hR8 hB8
 obtain ⟨b1, b9, q1, q9⟩ := np hf
 have hs9 : x.aa.toNat < 10 := by omega
 have hsi : (x.aa.toNat : Int) = x.aa := by omega
 have i1 : (0 : Int) ≤ x.aa := by omega
 have i2 : x.aa < 10 := by omega
 have hlast : ∀ j : Int, (if j = (x.aa.toNat : Int) then (if aV ws x.aa < x.seq then x.seq else aV ws x.aa) else aV ws j) = aV (ws ++ [x]) j := by
  intro j
  rw [iX, hsi, show (if aV ws x.aa < x.seq then x.seq else aV ws x.aa) = max (aV ws x.aa) x.seq by split <;> omega]
  by_cases e : j = x.aa
  ·
   rw [if_pos e, if_pos e.symm, e]
  rw [if_neg e, if_neg (fun h => e h.symm)]
 have hlen : Hid ((ws ++ [x]).length = ws.length + 1) := by show (ws ++ [x]).length = ws.length + 1; simp
 have HLAST := yh hlast
 clear hlast
 by_cases hsn : bM ws x.aa x.seq = 0
 ·
  obtain rfl : bs = false := by rw [uh HBS]; simpa using hsn
  have hseen : ∀ s q : Int, (if s = x.aa ∧ q = x.seq then ws.length + 1 else bM ws s q) = bM (ws ++ [x]) s q := by
   intro s q
   rw [iH]
   by_cases e : s = x.aa ∧ q = x.seq
   ·
    rw [if_pos e, e.1, e.2, hsn, if_pos rfl, if_pos ⟨rfl, rfl⟩]
   rw [if_neg e]
   by_cases h0 : bM ws s q = 0
   ·
    rw [if_pos h0, if_neg (fun h => e ⟨h.1.symm, h.2.symm⟩), h0]
   rw [if_neg h0]
  have HSEEN := yh hseen
  clear HBS hseen hsn
  go_wp2_with fail
  have hT10 : cY w9.drew p mb _ ws.length (ws ++ [x]) (aV ws) (fun s q => bM ws s q) (.slice (some ⟨g5, 0, none⟩) (ws.length + 1) cp5) (rows ++ [[.int .i64 x.kind, .int .i64 x.id, .slice a2 x.vec.length d2, .int .i64 x.aa, .int .i64 x.seq]]) (bls ++ [bl]) := hT9.ag (cL (Below.refl _ _) 1)
  have hQ10 : aj 0 #[.int .i64 x.kind, .int .i64 x.id, .slice a2 x.vec.length d2, .int .i64 x.aa, .int .i64 x.seq] 142 w9.drew w.heap.size := hQ9
  have hB10 : Below mb w w9.drew := hB9.drew
  refine wZz (fun w' => Ext (fun c => c = mb) w9 w') (Ext.refl _ _).jV (fun zq => ?_)
  generalize w9.drew = wE at zq hT10 hQ10 hB10 ⊢
  refine tkH 0 zq ?_
  refine tkH 1 zq ?_
  refine tkH 2 zq ?_
  refine tkJ 3 (v := ?ve3) ?he3 zq ?re3
  case he3 =>
   intro wS hSw
   have z1 : wS.cell? ⟨p, 1, none⟩ = some (.map (some mb)) := (hT9.box.ext hSw (by have := hT9.lt; have := hrp; omega)).at 1 _ rfl
   have k0 : wS.cell? ⟨r, 0, none⟩ = some (.int .i64 x.aa) := (hR9.ext hSw (by have := hT9.lt; have := hrp; omega)).at 0 _ rfl
   have k1 : wS.cell? ⟨r, 1, none⟩ = some (.int .i64 x.seq) := (hR9.ext hSw (by have := hT9.lt; have := hrp; omega)).at 1 _ rfl
   have z0 : wS.cell? ⟨p, 0, none⟩ = some (.slice (some ⟨g5, 0, none⟩) (ws.length + 1) cp5) := (hT9.box.ext hSw (by have := hT9.lt; omega)).at 0 _ rfl
   clear hSw
   exact fZ
  refine tkJ 4 (v := ?ve4) ?he4 zq ?re4
  case he4 =>
   intro wS hSw
   have z1 : wS.cell? ⟨p, 1, none⟩ = some (.map (some mb)) := (hT9.box.ext hSw (by have := hT9.lt; have := hrp; omega)).at 1 _ rfl
   have k0 : wS.cell? ⟨r, 0, none⟩ = some (.int .i64 x.aa) := (hR9.ext hSw (by have := hT9.lt; have := hrp; omega)).at 0 _ rfl
   have k1 : wS.cell? ⟨r, 1, none⟩ = some (.int .i64 x.seq) := (hR9.ext hSw (by have := hT9.lt; have := hrp; omega)).at 1 _ rfl
   have z0 : wS.cell? ⟨p, 0, none⟩ = some (.slice (some ⟨g5, 0, none⟩) (ws.length + 1) cp5) := (hT9.box.ext hSw (by have := hT9.lt; omega)).at 0 _ rfl
   clear hSw
   exact fZ
  refine tkH 5 zq ?_
  refine tkH 6 zq ?_
  refine tkH 7 zq ?_
  refine tkJ 8 (v := ?ve8) ?he8 zq ?re8
  case he8 =>
   intro wS hSw
   have z1 : wS.cell? ⟨p, 1, none⟩ = some (.map (some mb)) := (hT9.box.ext hSw (by have := hT9.lt; have := hrp; omega)).at 1 _ rfl
   have k0 : wS.cell? ⟨r, 0, none⟩ = some (.int .i64 x.aa) := (hR9.ext hSw (by have := hT9.lt; have := hrp; omega)).at 0 _ rfl
   have k1 : wS.cell? ⟨r, 1, none⟩ = some (.int .i64 x.seq) := (hR9.ext hSw (by have := hT9.lt; have := hrp; omega)).at 1 _ rfl
   have z0 : wS.cell? ⟨p, 0, none⟩ = some (.slice (some ⟨g5, 0, none⟩) (ws.length + 1) cp5) := (hT9.box.ext hSw (by have := hT9.lt; omega)).at 0 _ rfl
   clear hSw
   exact fZ
  refine tkH 9 zq ?_
  refine rdH 10 (fun K hK => ?_)
  obtain ⟨w12, hrun, hTk, hE12⟩ := hT10.seen.put (by omega) k3 k4 (m := ws.length + 1) (by omega) (aR (by omega))
  simp only [tick] at hrun
  have hrun2 : (Instr.mapUpdate 234 (.map (some mb)) (.agg #[.int .i64 x.aa, .int .i64 x.seq]) (.int .i64 ((ws.length : Int) + 1))).run Tryz.prog wE = .ok () w12 := by simpa using hrun
  clear hrun
  go_simp
  refine hK.out _ _ (zq.trans hE12) (fun zq => ?_)
  clear hK K
  try simp only [Act.put, pz, py, px]
  refine dZ ?_
  have hT12 := (hT10.marked hE12 hTk)
  have hQ12 := hQ10.ext hE12 (by omega)
  have hB12 := hB10.trans (hE12.below (by have := hT10.lt; have := hT10.box.lt; omega) (by intro c hc e; omega))
  clear zq hT9 hQ9 hR9 hB9 hT10 hQ10 hB10 hE12 hTk
  go_wp2_with fail
  have hTG : cY w12.drew p mb _ (ws.length + 1) (ws ++ [x]) (aV ws) _ (.slice (some ⟨g5, 0, none⟩) (ws.length + 1) cp5) (rows ++ [[.int .i64 x.kind, .int .i64 x.id, .slice a2 x.vec.length d2, .int .i64 x.aa, .int .i64 x.seq]]) (bls ++ [bl]) := hT12.ag (cL (Below.refl _ _) 1)
  have hBG : Below mb w w12.drew := hB12.drew
  refine wZz (fun w' => Ext (fun c => c = p) w12 w') (Ext.refl _ _).jV (fun zq => ?_)
  generalize w12.drew = wG at zq hTG hBG ⊢
  refine tkH 0 zq ?_
  refine tkH 1 zq ?_
  refine tkJ 2 (v := ?vf2) ?hf2 zq ?rf2
  case hf2 =>
   intro wS hSw
   have y3 : wS.cell? ⟨w.heap.size, 3, none⟩ = some (.int .i64 x.aa) := (hQ12.ext hSw (by omega)).at 3 _ rfl
   have y4 : wS.cell? ⟨w.heap.size, 4, none⟩ = some (.int .i64 x.seq) := (hQ12.ext hSw (by omega)).at 4 _ rfl
   clear hSw
   exact fZ
  refine tkH 3 zq ?_
  refine tkH 4 zq ?_
  refine tkJ 5 (v := ?vf5) ?hf5 zq ?rf5
  case hf5 =>
   intro wS hSw
   have y3 : wS.cell? ⟨w.heap.size, 3, none⟩ = some (.int .i64 x.aa) := (hQ12.ext hSw (by omega)).at 3 _ rfl
   have y4 : wS.cell? ⟨w.heap.size, 4, none⟩ = some (.int .i64 x.seq) := (hQ12.ext hSw (by omega)).at 4 _ rfl
   clear hSw
   exact fZ
  refine tkH 6 zq ?_
  refine tkH 7 zq ?_
  refine tkH 8 zq ?_
  refine tkH 10 zq ?_
  refine tkJ 11 (v := ?vf11) ?hf11 zq ?rf11
  case hf11 =>
   intro wS hSw
   have y3 : wS.cell? ⟨w.heap.size, 3, none⟩ = some (.int .i64 x.aa) := (hQ12.ext hSw (by omega)).at 3 _ rfl
   have y4 : wS.cell? ⟨w.heap.size, 4, none⟩ = some (.int .i64 x.seq) := (hQ12.ext hSw (by omega)).at 4 _ rfl
   clear hSw
   exact fZ
  refine tkH 13 zq ?_
  refine tkH 14 zq ?_
  refine rdH 9 (fun K hK => ?_)
  have zl : wG.cell? ⟨p, 2 + x.aa.toNat, none⟩ = some (.int .i64 (aV ws x.aa)) := by
   have := hTG.box.at _ _ (fz (.slice (some ⟨g5, 0, none⟩) (ws.length + 1) cp5) mb (aV ws) x.aa.toNat hs9)
   rwa [hsi] at this
  go_simp
  refine hK.out _ _ zq (fun zq => ?_)
  clear hK K
  try simp only [Act.put, pz, py, px]
  refine tkH 12 zq ?_
  refine tkH 15 zq ?_
  refine rdH 16 (fun K hK => ?_)
  have zl : wG.cell? ⟨p, 2 + x.aa.toNat, none⟩ = some (.int .i64 (aV ws x.aa)) := by
   have := hTG.box.at _ _ (fz (.slice (some ⟨g5, 0, none⟩) (ws.length + 1) cp5) mb (aV ws) x.aa.toNat hs9)
   rwa [hsi] at this
  have f6 := hTG.box.soft (2 + x.aa.toNat)
  have l6 := hTG.box.lt
  go_simp
  refine hK.out _ _ (zq.setCell ⟨p, 2 + x.aa.toNat, none⟩ _ rfl) (fun zq => ?_)
  clear hK K
  try simp only [Act.put, pz, py, px]
  refine dZ ?_
  have hTZ := ((hTG.pE x.aa.toNat hs9 ((if aV ws x.aa < x.seq then x.seq else aV ws x.aa))).same (Nat.le_of_eq (uh hlen).symm) (uh HLAST) (uh HSEEN)).top
  have hBZ : Below mb w (wG.setCell ⟨p, 2 + x.aa.toNat, none⟩ (.int .i64 ((if aV ws x.aa < x.seq then x.seq else aV ws x.aa)))) := hBG.setCell (by simp; omega) _
  clear zq hTG hBG
  generalize wG.setCell ⟨p, 2 + x.aa.toNat, none⟩ (.int .i64 (if aV ws x.aa < x.seq then x.seq else aV ws x.aa)) = wZ at hTZ hBZ ⊢
  go_wp2_with fail
  all_goals
   refine bodyPost_end (v := .tuple #[]) (by simp [results, Tryz.results253, go_sem]) rfl ?_
   exact ⟨rfl, ⟨_, _, _, hTZ⟩, hBZ⟩
 obtain rfl : bs = true := by rw [uh HBS]; simpa using hsn
 have hseen : ∀ s q : Int, bM ws s q = bM (ws ++ [x]) s q := by
  intro s q
  rw [iH]
  split
  ·
   rename_i e
   rw [if_neg]
   ·
    exact e
   rintro ⟨rfl, rfl⟩
   exact hsn e
  rfl
 have HSEEN := yh hseen
 clear HBS hseen hsn
 go_wp2_with fail
 have hTG : cY w9.drew p mb _ ws.length (ws ++ [x]) (aV ws) (fun s q => bM ws s q) (.slice (some ⟨g5, 0, none⟩) (ws.length + 1) cp5) (rows ++ [[.int .i64 x.kind, .int .i64 x.id, .slice a2 x.vec.length d2, .int .i64 x.aa, .int .i64 x.seq]]) (bls ++ [bl]) := hT9.ag (cL (Below.refl _ _) 1)
 have hBG : Below mb w w9.drew := hB9.drew
 refine wZz (fun w' => Ext (fun c => c = p) w9 w') (Ext.refl _ _).jV (fun zq => ?_)
 generalize w9.drew = wG at zq hTG hBG ⊢
 refine tkH 0 zq ?_
 refine tkH 1 zq ?_
 refine tkJ 2 (v := ?vg2) ?hg2 zq ?rg2
 case hg2 =>
  intro wS hSw
  have y3 : wS.cell? ⟨w.heap.size, 3, none⟩ = some (.int .i64 x.aa) := (hQ9.ext hSw (by omega)).at 3 _ rfl
  have y4 : wS.cell? ⟨w.heap.size, 4, none⟩ = some (.int .i64 x.seq) := (hQ9.ext hSw (by omega)).at 4 _ rfl
  clear hSw
  exact fZ
 refine tkH 3 zq ?_
 refine tkH 4 zq ?_
 refine tkJ 5 (v := ?vg5) ?hg5 zq ?rg5
 case hg5 =>
  intro wS hSw
  have y3 : wS.cell? ⟨w.heap.size, 3, none⟩ = some (.int .i64 x.aa) := (hQ9.ext hSw (by omega)).at 3 _ rfl
  have y4 : wS.cell? ⟨w.heap.size, 4, none⟩ = some (.int .i64 x.seq) := (hQ9.ext hSw (by omega)).at 4 _ rfl
  clear hSw
  exact fZ
 refine tkH 6 zq ?_
 refine tkH 7 zq ?_
 refine tkH 8 zq ?_
 refine tkH 10 zq ?_
 refine tkJ 11 (v := ?vg11) ?hg11 zq ?rg11
 case hg11 =>
  intro wS hSw
  have y3 : wS.cell? ⟨w.heap.size, 3, none⟩ = some (.int .i64 x.aa) := (hQ9.ext hSw (by omega)).at 3 _ rfl
  have y4 : wS.cell? ⟨w.heap.size, 4, none⟩ = some (.int .i64 x.seq) := (hQ9.ext hSw (by omega)).at 4 _ rfl
  clear hSw
  exact fZ
 refine tkH 13 zq ?_
 refine tkH 14 zq ?_
 refine rdH 9 (fun K hK => ?_)
 have zl : wG.cell? ⟨p, 2 + x.aa.toNat, none⟩ = some (.int .i64 (aV ws x.aa)) := by
  have := hTG.box.at _ _ (fz (.slice (some ⟨g5, 0, none⟩) (ws.length + 1) cp5) mb (aV ws) x.aa.toNat hs9)
  rwa [hsi] at this
 go_simp
 refine hK.out _ _ zq (fun zq => ?_)
 clear hK K
 try simp only [Act.put, pz, py, px]
 refine tkH 12 zq ?_
 refine tkH 15 zq ?_
 refine rdH 16 (fun K hK => ?_)
 have zl : wG.cell? ⟨p, 2 + x.aa.toNat, none⟩ = some (.int .i64 (aV ws x.aa)) := by
  have := hTG.box.at _ _ (fz (.slice (some ⟨g5, 0, none⟩) (ws.length + 1) cp5) mb (aV ws) x.aa.toNat hs9)
  rwa [hsi] at this
 have f6 := hTG.box.soft (2 + x.aa.toNat)
 have l6 := hTG.box.lt
 go_simp
 refine hK.out _ _ (zq.setCell ⟨p, 2 + x.aa.toNat, none⟩ _ rfl) (fun zq => ?_)
 clear hK K
 try simp only [Act.put, pz, py, px]
 refine dZ ?_
 have hTZ := ((hTG.pE x.aa.toNat hs9 ((if aV ws x.aa < x.seq then x.seq else aV ws x.aa))).same (n' := (ws ++ [x]).length) (by rw [uh hlen]; omega) (uh HLAST) (uh HSEEN)).top
 have hBZ : Below mb w (wG.setCell ⟨p, 2 + x.aa.toNat, none⟩ (.int .i64 ((if aV ws x.aa < x.seq then x.seq else aV ws x.aa)))) := hBG.setCell (by simp; omega) _
 clear zq hTG hBG
 generalize wG.setCell ⟨p, 2 + x.aa.toNat, none⟩ (.int .i64 (if aV ws x.aa < x.seq then x.seq else aV ws x.aa)) = wZ at hTZ hBZ ⊢
 go_wp2_with fail
 all_goals
  refine bodyPost_end (v := .tuple #[]) (by simp [results, Tryz.results253, go_sem]) rfl ?_
  exact ⟨rfl, ⟨_, _, _, hTZ⟩, hBZ⟩
def gI (x y z : Int) : Value := .agg #[.int .i64 x, .int .i64 y, .int .i64 z]
theorem bU.three {w : World} {v : Value} {zs : List Int} (h : bU w v zs) (h3 : zs.length = 3) :
  ∃ b off cap x y z, zs = [x, y, z] ∧ v = .slice (some ⟨b, off, none⟩) 3 cap ∧ b < w.heap.size ∧ w.cell? ⟨b, off, none⟩ = some (.int .i64 x) ∧ w.cell? ⟨b, off + 1, none⟩ = some (.int .i64 y) ∧ w.cell? ⟨b, off + 2, none⟩ = some (.int .i64 z) := by
 obtain ⟨ao, cap, rfl, hwf, hc⟩ := h
 match zs, h3 with
 | [x, y, z], _ =>
  obtain ⟨b, off, rfl, hc1⟩ := hc (by simp)
  have c0 := hc1 0 (by simp)
  have c1 := hc1 1 (by simp)
  have c2 := hc1 2 (by simp)
  exact ⟨b, off, cap, x, y, z, rfl, rfl, World.block_lt_of_cell? _ _ c0, c0, c1, c2⟩
theorem kH (v : Value) (zs : List Int) (w : World) (h : bU w v zs) (hf : bj zs ≠ 0) :
  Calls Tryz.prog 263 #[v] w fun e w' => e = .returned (.tuple #[gI 0 0 0, .int .i64 (bj zs)]) ∧ Below w.heap.size w w' := by
 go_enter Tryz.func263, Tryz.ntmps263
 go_wp2_with fail
 refine (jP v zs _ (h.ag (((Below.refl _ _).alloc (Nat.le_refl _) _).alloc (by simp) _))).mono ?_
 rintro e w' ⟨rfl, rfl⟩
 have hne : (bj zs != 0) = true := by rw [bne_iff_ne]; exact hf
 go_wp2_with fail
 refine bodyPost_ret (v := .tuple #[gI 0 0 0, .int .i64 (bj zs)]) (by simp [results, Tryz.results263, go_sem, gI]) rfl ⟨rfl, ?_⟩
 exact ((Below.refl _ _).alloc (Nat.le_refl _) _).alloc (by simp) _
theorem iW (b off cap : Nat) (x y z : Int) (w : World) (hbl : b < w.heap.size) (c0 : w.cell? ⟨b, off, none⟩ = some (.int .i64 x)) (c1 : w.cell? ⟨b, off + 1, none⟩ = some (.int .i64 y)) (c2 : w.cell? ⟨b, off + 2, none⟩ = some (.int .i64 z))
  (h : bU w (.slice (some ⟨b, off, none⟩) 3 cap) [x, y, z]) (hf : bj [x, y, z] = 0) :
  Calls Tryz.prog 263 #[.slice (some ⟨b, off, none⟩) 3 cap] w fun e w' => e = .returned (.tuple #[gI x y z, .int .i64 0]) ∧ Below w.heap.size w w' := by
 go_enter Tryz.func263, Tryz.ntmps263
 go_wp2_with fail
 refine (jP _ [x, y, z] _ (h.ag (((Below.refl _ _).alloc (Nat.le_refl _) _).alloc (by simp) _))).mono ?_
 rintro e w' ⟨rfl, rfl⟩
 rw [hf]
 clear h hf
 go_wp2_with fail
 refine wp_loop_rounds 4 ?_
 rw [rounds_succ]
 go_wp2
 rw [rounds_succ]
 go_wp2
 rw [rounds_succ]
 go_wp2
 rw [rounds_succ]
 go_wp2
 refine bodyPost_ret (v := .tuple #[gI x y z, .int .i64 0]) (by simp [results, Tryz.results263, go_sem, gI]) rfl ⟨rfl, ?_⟩
 exact ((Below.refl _ _).alloc (Nat.le_refl _) _).alloc (by simp) _
theorem mc (v : Value) (x y z : Int) (w : World) (h : bU w v [x, y, z]) (hf : bj [x, y, z] = 0) :
  Calls Tryz.prog 263 #[v] w fun e w' => e = .returned (.tuple #[gI x y z, .int .i64 0]) ∧ Below w.heap.size w w' := by
 obtain ⟨b, off, cap, x', y', z', he, rfl, hbl, c0, c1, c2⟩ := h.three rfl
 simp only [List.cons.injEq, and_true] at he
 obtain ⟨rfl, rfl, rfl⟩ := he
 exact iW b off cap x y z w hbl c0 c1 c2 h hf
def sd (x y z : Int) : Value := .iface 298 (.agg #[.int .i64 x, .int .i64 y, .int .i64 z])
def qj : Value := .iface 294 (.agg #[])
def ke (k : Int) (zs : List Int) : Value := if k = 1 then sd (zs.getD 0 0) (zs.getD 1 0) (zs.getD 2 0) else qj
def gi (k i : Int) (zs : List Int) (s q : Int) : Value := if aK k i zs s q = 0 then ke k zs else .nilIface
def pr (i s q : Int) : Prop := (1 ≤ i ∧ i ≤ 999) ∧ (1 ≤ s ∧ s ≤ 9) ∧ 1 ≤ q ∧ q ≤ 999
theorem jR {i s q : Int} (h : pr i s q) : de i s q = true := by
 obtain ⟨⟨a, b⟩, ⟨c, d⟩, e, f⟩ := h
 simp [de, a, b, c, d, e, f]
theorem iF {i s q : Int} (h : ¬ pr i s q) : de i s q = false := by
 rw [Bool.eq_false_iff]
 intro hb
 simp only [de, Bool.and_eq_true, decide_eq_true_eq] at hb
 exact h ⟨hb.1, hb.2.1, hb.2.2⟩
theorem jT {k i s q : Int} {zs : List Int} (hk : dH k zs.length = true) (h : ¬ pr i s q) : aK k i zs s q = 3 := by
 rw [aK, hk, if_pos rfl, iF h]; rfl
theorem mO {i s q : Int} (h : pr i s q) : aK 2 i [] s q = 0 := by
 rw [aK, show dH 2 ([] : List Int).length = true from rfl, if_pos rfl, jR h]; rfl
theorem qn {k i s q : Int} {zs : List Int} (hk : dH k zs.length = true) (h : pr i s q) : aK k i zs s q = if k = 1 then bj zs else 0 := by
 rw [aK, hk, if_pos rfl, jR h, if_pos rfl]
def di (w w' : World) (e : Ending) (k i : Int) (zs : List Int) (s q : Int) : Prop := e = .returned (.tuple #[gi k i zs s q, .int .i64 (aK k i zs s q)]) ∧ Below w.heap.size w w'
theorem cz {w w' : World} {k i s q c : Int} {zs : List Int} (hc : aK k i zs s q = c) (h0 : c ≠ 0) (hb : Below w.heap.size w w') : di w w' (.returned (.tuple #[.nilIface, .int .i64 c])) k i zs s q := by
 refine ⟨?_, hb⟩
 rw [gi, hc, if_neg h0]
theorem ij {w w' : World} {k i s q : Int} {zs : List Int} {v : Value} (hc : aK k i zs s q = 0) (hv : v = ke k zs) (hb : Below w.heap.size w w') : di w w' (.returned (.tuple #[v, .int .i64 0])) k i zs s q := by
 refine ⟨?_, hb⟩
 rw [gi, hc, if_pos rfl, hv]
theorem hU (n : Int) (w : World) : Calls Tryz.prog 123 #[.int .i64 n] w fun e w' => e = .returned (.bool (decide (1 ≤ n) && decide (n ≤ 999))) ∧ w' = w := by
 by_cases h1 : 1 ≤ n
 ·
  have d1 : decide (1 ≤ n) = true := by simpa using h1
  rw [d1]
  cases d2 : decide (n ≤ 999) <;>
  ·
   go_enter Tryz.func123, Tryz.ntmps123
   go_wp2
   go_ret
   exact ⟨rfl, rfl⟩
 have d1 : decide (1 ≤ n) = false := by simpa using h1
 rw [d1]
 go_enter Tryz.func123, Tryz.ntmps123
 go_wp2
 go_ret
 exact ⟨rfl, rfl⟩
theorem dt (n : Int) (w : World) : Calls Tryz.prog 216 #[.int .i64 n] w fun e w' => e = .returned (.bool (decide (1 ≤ n) && decide (n ≤ 9))) ∧ w' = w := by
 by_cases h1 : 1 ≤ n
 ·
  have d1 : decide (1 ≤ n) = true := by simpa using h1
  rw [d1]
  cases d2 : decide (n ≤ 9) <;>
  ·
   go_enter Tryz.func216, Tryz.ntmps216
   go_wp2
   go_ret
   exact ⟨rfl, rfl⟩
 have d1 : decide (1 ≤ n) = false := by simpa using h1
 rw [d1]
 go_enter Tryz.func216, Tryz.ntmps216
 go_wp2
 go_ret
 exact ⟨rfl, rfl⟩
theorem iK (n : Int) (w : World) : Calls Tryz.prog 217 #[.int .i64 n] w fun e w' => e = .returned (.bool (decide (1 ≤ n) && decide (n ≤ 999))) ∧ w' = w := by
 by_cases h1 : 1 ≤ n
 ·
  have d1 : decide (1 ≤ n) = true := by simpa using h1
  rw [d1]
  cases d2 : decide (n ≤ 999) <;>
  ·
   go_enter Tryz.func217, Tryz.ntmps217
   go_wp2
   go_ret
   exact ⟨rfl, rfl⟩
 have d1 : decide (1 ≤ n) = false := by simpa using h1
 rw [d1]
 go_enter Tryz.func217, Tryz.ntmps217
 go_wp2
 go_ret
 exact ⟨rfl, rfl⟩
theorem jo (i : Int) (ao : Option Addr) (cap : Nat) (s q : Int) (zs : List Int) (w : World) (hb : ¬ pr i s q) :
  Calls Tryz.prog 236 #[.agg #[.int .i64 1, .int .i64 i, .slice ao zs.length cap, .int .i64 s, .int .i64 q]] w fun e w' => di w w' e 1 i zs s q := by
 have HB : Hid (∀ o, Below w.heap.size w (w.alloc o)) := fun o => (Below.refl _ _).alloc (Nat.le_refl _) o
 have HF : Hid (aK 1 i zs s q = 3) := jT rfl hb
 have hbb := iF hb
 unfold de at hbb
 clear hb
 cases dI : (decide (1 ≤ i) && decide (i ≤ 999)) with
 | false =>
  clear hbb
  go_enter Tryz.func236, Tryz.ntmps236
  go_wp2_with fail
  refine (hU i _).mono ?_
  rintro e w1 ⟨rfl, rfl⟩
  rw [dI]
  go_wp2_with fail
  go_ret2
  exact cz (uh HF) (by omega) (uh HB _)
 | true =>
  cases dS : (decide (1 ≤ s) && decide (s ≤ 9)) with
  | false =>
   clear hbb
   go_enter Tryz.func236, Tryz.ntmps236
   go_wp2_with fail
   refine (hU i _).mono ?_
   rintro e w1 ⟨rfl, rfl⟩
   rw [dI]
   go_wp2_with fail
   refine (dt s _).mono ?_
   rintro e w1 ⟨rfl, rfl⟩
   rw [dS]
   go_wp2_with fail
   go_ret2
   exact cz (uh HF) (by omega) (uh HB _)
  | true =>
   have dQ : (decide (1 ≤ q) && decide (q ≤ 999)) = false := by rw [dI, dS] at hbb; simpa using hbb
   clear hbb
   go_enter Tryz.func236, Tryz.ntmps236
   go_wp2_with fail
   refine (hU i _).mono ?_
   rintro e w1 ⟨rfl, rfl⟩
   rw [dI]
   go_wp2_with fail
   refine (dt s _).mono ?_
   rintro e w1 ⟨rfl, rfl⟩
   rw [dS]
   go_wp2_with fail
   refine (iK q _).mono ?_
   rintro e w1 ⟨rfl, rfl⟩
   rw [dQ]
   go_wp2_with fail
   go_ret2
   exact cz (uh HF) (by omega) (uh HB _)
theorem iu (i : Int) (ao : Option Addr) (cap : Nat) (s q : Int) (w : World) (hb : ¬ pr i s q) :
  Calls Tryz.prog 236 #[.agg #[.int .i64 2, .int .i64 i, .slice ao 0 cap, .int .i64 s, .int .i64 q]] w fun e w' => di w w' e 2 i [] s q := by
 have HB : Hid (∀ o, Below w.heap.size w (w.alloc o)) := fun o => (Below.refl _ _).alloc (Nat.le_refl _) o
 have HF : Hid (aK 2 i [] s q = 3) := jT rfl hb
 have hbb := iF hb
 unfold de at hbb
 clear hb
 cases dI : (decide (1 ≤ i) && decide (i ≤ 999)) with
 | false =>
  clear hbb
  go_enter Tryz.func236, Tryz.ntmps236
  go_wp2_with fail
  refine (hU i _).mono ?_
  rintro e w1 ⟨rfl, rfl⟩
  rw [dI]
  go_wp2_with fail
  go_ret2
  exact cz (uh HF) (by omega) (uh HB _)
 | true =>
  cases dS : (decide (1 ≤ s) && decide (s ≤ 9)) with
  | false =>
   clear hbb
   go_enter Tryz.func236, Tryz.ntmps236
   go_wp2_with fail
   refine (hU i _).mono ?_
   rintro e w1 ⟨rfl, rfl⟩
   rw [dI]
   go_wp2_with fail
   refine (dt s _).mono ?_
   rintro e w1 ⟨rfl, rfl⟩
   rw [dS]
   go_wp2_with fail
   go_ret2
   exact cz (uh HF) (by omega) (uh HB _)
  | true =>
   have dQ : (decide (1 ≤ q) && decide (q ≤ 999)) = false := by rw [dI, dS] at hbb; simpa using hbb
   clear hbb
   go_enter Tryz.func236, Tryz.ntmps236
   go_wp2_with fail
   refine (hU i _).mono ?_
   rintro e w1 ⟨rfl, rfl⟩
   rw [dI]
   go_wp2_with fail
   refine (dt s _).mono ?_
   rintro e w1 ⟨rfl, rfl⟩
   rw [dS]
   go_wp2_with fail
   refine (iK q _).mono ?_
   rintro e w1 ⟨rfl, rfl⟩
   rw [dQ]
   go_wp2_with fail
   go_ret2
   exact cz (uh HF) (by omega) (uh HB _)
theorem mi (i : Int) (ao : Option Addr) (cap : Nat) (s q : Int) (w : World) (hb : pr i s q) :
  Calls Tryz.prog 236 #[.agg #[.int .i64 2, .int .i64 i, .slice ao 0 cap, .int .i64 s, .int .i64 q]] w fun e w' => di w w' e 2 i [] s q := by
 have HB : Hid (∀ o, Below w.heap.size w (w.alloc o)) := fun o => (Below.refl _ _).alloc (Nat.le_refl _) o
 have HF : Hid (aK 2 i [] s q = 0) := mO hb
 obtain ⟨⟨i1, i2⟩, ⟨s1, s2⟩, q1, q2⟩ := hb
 have dI : (decide (1 ≤ i) && decide (i ≤ 999)) = true := by simp [i1, i2]
 have dS : (decide (1 ≤ s) && decide (s ≤ 9)) = true := by simp [s1, s2]
 have dQ : (decide (1 ≤ q) && decide (q ≤ 999)) = true := by simp [q1, q2]
 go_enter Tryz.func236, Tryz.ntmps236
 go_wp2_with fail
 refine (hU i _).mono ?_
 rintro e w1 ⟨rfl, rfl⟩
 rw [dI]
 go_wp2_with fail
 refine (dt s _).mono ?_
 rintro e w1 ⟨rfl, rfl⟩
 rw [dS]
 go_wp2_with fail
 refine (iK q _).mono ?_
 rintro e w1 ⟨rfl, rfl⟩
 rw [dQ]
 go_wp2_with fail
 go_ret2
 exact ij (uh HF) rfl (uh HB _)
theorem lJ (i : Int) (ao : Option Addr) (cap n : Nat) (s q : Int) (zs : List Int) (w : World) (hn : zs.length = n + 1) :
  Calls Tryz.prog 236 #[.agg #[.int .i64 2, .int .i64 i, .slice ao (n + 1) cap, .int .i64 s, .int .i64 q]] w fun e w' => di w w' e 2 i zs s q := by
 have B0 : ∀ o, Below w.heap.size w (w.alloc o) := fun o => (Below.refl _ _).alloc (Nat.le_refl _) o
 have HB := yh B0
 have hF : aK 2 i zs s q = 1 := by
  have : dH 2 zs.length = false := by simp [dH]; omega
  rw [aK, this]; rfl
 have HF := yh hF
 clear B0 hF hn
 go_enter Tryz.func236, Tryz.ntmps236
 go_wp2
 go_ret2
 exact cz (uh HF) (by omega) (uh HB _)
theorem lE (k i : Int) (ao : Option Addr) (cap : Nat) (s q : Int) (zs : List Int) (w : World) (h1 : k ≠ 1) (h2 : k ≠ 2) :
  Calls Tryz.prog 236 #[.agg #[.int .i64 k, .int .i64 i, .slice ao zs.length cap, .int .i64 s, .int .i64 q]] w fun e w' => di w w' e k i zs s q := by
 have B0 : ∀ o, Below w.heap.size w (w.alloc o) := fun o => (Below.refl _ _).alloc (Nat.le_refl _) o
 have HB := yh B0
 have hF : aK k i zs s q = 1 := by
  have : dH k zs.length = false := by simp [dH]; omega
  rw [aK, this]; rfl
 have HF := yh hF
 clear B0 hF
 go_enter Tryz.func236, Tryz.ntmps236
 go_wp2
 go_ret2
 exact cz (uh HF) (by omega) (uh HB _)
theorem kI (v : Value) (zs : List Int) (w : World) (h : bU w v zs) :
  Calls Tryz.prog 263 #[v] w fun e w' => e = .returned (.tuple #[if bj zs = 0 then gI (zs.getD 0 0) (zs.getD 1 0) (zs.getD 2 0) else gI 0 0 0, .int .i64 (bj zs)]) ∧ Below w.heap.size w w' := by
 by_cases hf : bj zs = 0
 ·
  obtain ⟨hl, -⟩ := cA hf
  match zs, hl with
  | [x, y, z], _ =>
   rw [if_pos hf]
   refine (mc v x y z w h hf).mono ?_
   rintro e w' ⟨rfl, hb⟩
   exact ⟨by rw [hf]; rfl, hb⟩
 rw [if_neg hf]
 exact kH v zs w h hf
theorem nc (i : Int) (ao : Option Addr) (cap : Nat) (s q : Int) (zs : List Int) (w : World) (h : bU w (.slice ao zs.length cap) zs) (hb : pr i s q) :
  Calls Tryz.prog 236 #[.agg #[.int .i64 1, .int .i64 i, .slice ao zs.length cap, .int .i64 s, .int .i64 q]] w fun e w' => di w w' e 1 i zs s q := by
 have B0 : Below w.heap.size w (w.alloc (.cells #[.int .i64 1, .int .i64 i, .slice ao zs.length cap, .int .i64 s, .int .i64 q] 142)) := (Below.refl _ _).alloc (Nat.le_refl _) _
 have HB := yh B0
 have H := yh (h.ag B0)
 clear h B0
 have HF : Hid (aK 1 i zs s q = bj zs) := qn rfl hb
 obtain ⟨⟨i1, i2⟩, ⟨s1, s2⟩, q1, q2⟩ := hb
 have dI : (decide (1 ≤ i) && decide (i ≤ 999)) = true := by simp [i1, i2]
 have dS : (decide (1 ≤ s) && decide (s ≤ 9)) = true := by simp [s1, s2]
 have dQ : (decide (1 ≤ q) && decide (q ≤ 999)) = true := by simp [q1, q2]
 go_enter Tryz.func236, Tryz.ntmps236
 go_wp2_with fail
 refine (hU i _).mono ?_
 rintro e w1 ⟨rfl, rfl⟩
 rw [dI]
 go_wp2_with fail
 refine (dt s _).mono ?_
 rintro e w1 ⟨rfl, rfl⟩
 rw [dS]
 go_wp2_with fail
 refine (iK q _).mono ?_
 rintro e w1 ⟨rfl, rfl⟩
 rw [dQ]
 go_wp2_with fail
 refine (kI _ zs _ (uh H)).mono ?_
 rintro e w1 ⟨rfl, hb1⟩
 have HB1 := yh ((uh HB).trans (hb1.mono (uh HB).size))
 have hz : w.heap.size ≤ w1.heap.size := (uh HB1).size
 clear HB hb1 H
 generalize hV : bj zs = F at *
 by_cases hf : F = 0
 ·
  subst hf
  rw [if_pos rfl]
  simp only [gI]
  go_wp2_with fail
  go_ret2
  refine ij (uh HF) ?_ ?_
  ·
   rw [ke, if_pos rfl]; rfl
  exact (uh HB1).alloc hz _
 rw [if_neg hf]
 have hd : (F != 0) = true := by rw [bne_iff_ne]; exact hf
 have HN := yh hf
 clear hf
 simp only [gI]
 go_wp2_with fail
 go_ret2
 exact cz (uh HF) (uh HN) ((uh HB1).alloc hz _)
theorem lI (k i : Int) (v : Value) (s q : Int) (zs : List Int) (w : World) (h : bU w v zs) :
  Calls Tryz.prog 236 #[.agg #[.int .i64 k, .int .i64 i, v, .int .i64 s, .int .i64 q]] w fun e w' => di w w' e k i zs s q := by
 have h' := h
 obtain ⟨ao, cap, rfl, -⟩ := h'
 by_cases h1 : k = 1
 ·
  subst h1
  by_cases hb : pr i s q
  ·
   exact nc i ao cap s q zs w h hb
  exact jo i ao cap s q zs w hb
 by_cases h2 : k = 2
 ·
  subst h2
  rcases Nat.eq_zero_or_pos zs.length with h0 | h0
  ·
   obtain rfl : zs = [] := List.eq_nil_of_length_eq_zero h0
   by_cases hb : pr i s q
   ·
    exact mi i ao cap s q w hb
   exact iu i ao cap s q w hb
  obtain ⟨n, hn⟩ : ∃ n, zs.length = n + 1 := ⟨zs.length - 1, by omega⟩
  rw [hn]
  exact lJ i ao cap n s q zs w hn
 exact lE k i ao cap s q zs w h1 h2
theorem qS (x y z : Int) (w : World) :
  Calls Tryz.prog 243 #[gI x y z] w fun e w' => e = .returned (.slice (some ⟨w.heap.size + 1, 0, none⟩) 3 3) ∧
   (w.alloc (.cells #[.int .i64 x, .int .i64 y, .int .i64 z] 272)).alloc (.cells #[.int .i64 x, .int .i64 y, .int .i64 z] 2) = w' := by
 have hmk : ∀ w : World, (Instr.makeSlice 22 (.int .i64 3) (.int .i64 3)).run Tryz.prog w = .ok (.slice (some ⟨w.heap.size, 0, none⟩) 3 3) (w.alloc (.cells #[.int .i64 0, .int .i64 0, .int .i64 0] 2)) := fun _ => by kernel_rfl
 have i0 : ∀ w : World, (Instr.index 272 (.agg #[.int .i64 x, .int .i64 y, .int .i64 z]) (.int .i64 0)).run Tryz.prog w = .ok (.int .i64 x) w := fun _ => by kernel_rfl
 have i1 : ∀ w : World, (Instr.index 272 (.agg #[.int .i64 x, .int .i64 y, .int .i64 z]) (.int .i64 1)).run Tryz.prog w = .ok (.int .i64 y) w := fun _ => by kernel_rfl
 have i2 : ∀ w : World, (Instr.index 272 (.agg #[.int .i64 x, .int .i64 y, .int .i64 z]) (.int .i64 2)).run Tryz.prog w = .ok (.int .i64 z) w := fun _ => by kernel_rfl
 simp only [gI]
 go_enter Tryz.func243, Tryz.ntmps243
 go_wp2
 refine wp_loop_rounds 4 ?_
 rw [rounds_succ]
 go_wp2
 rw [rounds_succ]
 go_wp2
 rw [rounds_succ]
 go_wp2
 rw [rounds_succ]
 go_wp2
 go_ret
 exact ⟨rfl, rfl⟩
theorem pJ (v : Value) (w : World) : (Instr.typeAssert (.iface 294 v) 259 298 true).run Tryz.prog w = .ok (.tuple #[.agg #[.int .i64 0, .int .i64 0, .int .i64 0], .bool false]) w := by kernel_rfl
theorem pF (v : Value) (w : World) : (Instr.typeAssert (.iface 294 v) 259 294 true).run Tryz.prog w = .ok (.tuple #[v, .bool true]) w := by kernel_rfl
theorem kK (i s q : Int) (w : World) :
  Calls Tryz.prog 254 #[qj, .int .i64 i, .int .i64 s, .int .i64 q] w fun e w' => e = .returned (.agg #[.int .i64 2, .int .i64 i, .slice none 0 0, .int .i64 s, .int .i64 q]) ∧ Below w.heap.size w w' := by
 have a1 := pJ
 have a2 := pF
 have HB : Hid (∀ o o' o'', Below w.heap.size w (((w.alloc o).alloc o').alloc o'')) := fun o o' o'' => (((Below.refl _ _).alloc (Nat.le_refl _) _).alloc (by simp) _).alloc (by simp; omega) _
 simp only [qj] at *
 go_enter Tryz.func254, Tryz.ntmps254
 go_wp2_with fail
 refine bodyPost_ret (v := .agg #[.int .i64 2, .int .i64 i, .slice none 0 0, .int .i64 s, .int .i64 q]) (by simp [results, Tryz.results254, go_sem]) rfl ?_
 exact ⟨rfl, uh HB _ _ _⟩
theorem qE (v : Value) (w : World) : (Instr.typeAssert (.iface 298 v) 259 298 true).run Tryz.prog w = .ok (.tuple #[v, .bool true]) w := by kernel_rfl
theorem rD (x y z : Int) (w : World) :
  Calls Tryz.prog 243 #[.agg #[.int .i64 x, .int .i64 y, .int .i64 z]] w fun e w' => ∃ a c, e = .returned (.slice a 3 c) ∧ w'.ownsRow w.heap.size 2 1 (.slice a 3 c) 3 [.int .i64 x, .int .i64 y, .int .i64 z] ∧ Below w.heap.size w w' := by
 refine (qS x y z w).mono ?_
 rintro e w' ⟨rfl, rfl⟩
 exact ⟨_, _, rfl, pb (W := w.alloc (.cells #[.int .i64 x, .int .i64 y, .int .i64 z] 272)) (base := w.heap.size) (T := 2) (by simp) (by simp), ((Below.refl _ _).alloc (Nat.le_refl _) _).alloc (by simp) _⟩
theorem sB {w w1 : World} {sx : Nat} {u : Value} {xs : List Value} {B : Nat} {vs : List Value} (hsx : w.heap.size < sx) (hB : sx < B) (O : w1.ownsRow B 2 1 u 3 xs) (hb : Below w.heap.size w w1) :
  (aO (w1.setCell ⟨sx, 2, none⟩ u) w.heap.size 0 vs).ownsRow B 2 1 u 3 xs ∧ Below w.heap.size w (aO (w1.setCell ⟨sx, 2, none⟩ u) w.heap.size 0 vs) := by
 have h1 := gy (a := ⟨sx, 2, none⟩) O (by simpa using hB) u
 have h2 : Below w.heap.size w (w1.setCell ⟨sx, 2, none⟩ u) := hb.setCell (by simp; omega) _
 refine ⟨?_, aP h2 _ _ _ (Nat.le_refl _)⟩
 have : ∀ (l : List Value) (i : Nat) (W : World), W.ownsRow B 2 1 u 3 xs → (aO W w.heap.size i l).ownsRow B 2 1 u 3 xs := by
  intro l
  induction l with
  | nil => intro i W h; exact h
  | cons v l ih => intro i W h; exact ih (i + 1) _ (gy (a := ⟨w.heap.size, i, none⟩) h (by simp; omega) v)
 exact this vs 0 _ h1
theorem lG (x y z i s q : Int) (w : World) :
  Calls Tryz.prog 254 #[sd x y z, .int .i64 i, .int .i64 s, .int .i64 q] w fun e w' => ∃ a c, e = .returned (.agg #[.int .i64 1, .int .i64 i, .slice a 3 c, .int .i64 s, .int .i64 q]) ∧ w'.ownsRow w.heap.size 2 1 (.slice a 3 c) 3 [.int .i64 x, .int .i64 y, .int .i64 z] ∧ Below w.heap.size w w' := by
 have a1 := qE
 have L := yh (fun W => rD x y z W)
 simp only [sd] at *
 go_enter Tryz.func254, Tryz.ntmps254
 go_wp2_with fail
 obtain ⟨W, hW⟩ : ∃ W, W = ((w.alloc (.cells #[.int .i64 0, .int .i64 0, .slice none 0 0, .int .i64 0, .int .i64 0] 142)).alloc (.cells #[.int .i64 1, .int .i64 i, .slice none 0 0, .int .i64 s, .int .i64 q] 142)).alloc (.cells #[.int .i64 x, .int .i64 y, .int .i64 z] 298) := ⟨_, rfl⟩
 have n1 : Below w.heap.size w (w.alloc (.cells #[.int .i64 0, .int .i64 0, .slice none 0 0, .int .i64 0, .int .i64 0] 142)) := (Below.refl _ _).alloc (Nat.le_refl _) _
 have bR : aj 0 #[.int .i64 0, .int .i64 0, .slice none 0 0, .int .i64 0, .int .i64 0] 142 W w.heap.size := by rw [hW]; exact ((aH (Nat.zero_le _)).grow _).grow _
 have bX : aj 0 #[.int .i64 1, .int .i64 i, .slice none 0 0, .int .i64 s, .int .i64 q] 142 W (w.heap.size + 1) := by rw [hW]; exact (bg (by omega) (by simp)).grow _
 have HB : Hid (Below w.heap.size w W) := by rw [hW]; exact (n1.alloc (by simp) _).alloc (by simp; omega) _
 rw [← hW]
 clear hW n1
 refine (uh L _).mono ?_
 rintro e w1 ⟨a, c, rfl, O, hb⟩
 have hsx : w.heap.size < w.heap.size + 1 := by omega
 generalize w.heap.size + 1 = sx at *
 have hX := bX.lt
 replace bR := bR.au hb
 replace bX := bX.au hb
 replace HB := bZ HB hb
 have x0 := bX.at 0 _ rfl
 have x1 := bX.at 1 _ rfl
 have x2 := bX.at 2 _ rfl
 have x3 := bX.at 3 _ rfl
 have x4 := bX.at 4 _ rfl
 have xf := bX.soft
 have xl := bX.lt
 have r0 := bR.at 0 _ rfl
 have r1 := bR.at 1 _ rfl
 have r2 := bR.at 2 _ rfl
 have r3 := bR.at 3 _ rfl
 have r4 := bR.at 4 _ rfl
 have rf := bR.soft
 have rl := bR.lt
 have HO := yh O
 clear bR bX hb O L
 simp only [ga, gb, gc] at x0 x1 x2 x3 x4 r0 r1 r2 r3 r4
 go_wp2_with fail
 refine bodyPost_ret (v := .agg #[.int .i64 1, .int .i64 i, .slice a 3 c, .int .i64 s, .int .i64 q]) (by simp [results, Tryz.results254, go_sem, r0, r1, r2, r3, r4]) rfl ?_
 obtain ⟨s1, s2⟩ := sB (vs := [.int .i64 1, .int .i64 i, .slice a 3 c, .int .i64 s, .int .i64 q]) hsx hX (uh HO) (uh HB)
 exact ⟨a, c, rfl, kY (by omega) s1, s2⟩
theorem qC (x : aA) (w : World) (hf : wF x = 0) :
  Calls Tryz.prog 254 #[ke x.kind x.vec, .int .i64 x.id, .int .i64 x.aa, .int .i64 x.seq] w fun e w' => ∃ cs, e = .returned (.agg cs.toArray) ∧ ab.ai.aQ w' cs x w.heap.size w'.heap.size ∧ Below w.heap.size w w' := by
 obtain ⟨kd, id, vec, ss, sq⟩ := x
 obtain ⟨hi, hs, hq, hk⟩ := ca hf
 simp only at hi hs hq hk
 have w1 : (Lit.int .i64 id).wf = true := aR (by omega)
 have w3 : (Lit.int .i64 ss).wf = true := aR (by omega)
 have w4 : (Lit.int .i64 sq).wf = true := aR (by omega)
 rcases hk with ⟨rfl, hv⟩ | ⟨rfl, hv⟩
 ·
  obtain ⟨hl, hb⟩ := cA hv
  match vec, hl with
  | [p, q, r], _ =>
   refine (lG p q r id ss sq w).mono ?_
   rintro e w' ⟨a, c, rfl, hO, hb2⟩
   have hO2 := ab.ez (zs := [p, q, r]) (fun z hz => aR (by have h0 := hb 0 (by decide); have h1 := hb 1 (by decide); have h2 := hb 2 (by decide); simp at h0 h1 h2 hz; omega)) (by simp) hO
   obtain ⟨bl, O, hr⟩ := hO2
   exact ⟨_, rfl, ⟨bl, dz (x := ⟨1, id, [p, q, r], ss, sq⟩) O (show (Lit.int .i64 1).wf = true by decide) w1 w3 w4 O.2.1, hr⟩, hb2⟩
 subst hv
 refine (kK id ss sq w).mono ?_
 rintro e w' ⟨rfl, hb2⟩
 exact ⟨_, rfl, ⟨[], dz (x := ⟨2, id, [], ss, sq⟩) (c2 := [.slice none 0 0]) ⟨⟨none, 0, rfl, by simp, Or.inl ⟨rfl, rfl⟩⟩, by simp, by simp⟩ (show (Lit.int .i64 2).wf = true by decide) w1 w3 w4 (by simp), by simp⟩, hb2⟩
end Go.Proofs.YtecagllmonckgaaGreat

namespace Go.Proofs.YtecagllmonckgaaGreat
open Go.RowKit Go.ChangeShapes Go.WideShapes
def eX {α : Type} (A : ab α) (t : TypeId) : Prop :=
 ∀ {H : Type} (enc : TypeId × Value → H) (W : World) (base : Nat) (spare : Nat → Bool) (held : Bool) (fuel : Nat) (cs : List Value) (x : DataW H × List MemPlace), DataW.trod enc Tryz.prog W base spare held fuel t cs = some x → ∃ y, A.Reads W cs y
theorem aU {α β : Type} {A : ab α} {B : ab β} {W : World} {c1 c2 : List Value} {x : α} {y : β} (h : A.Reads W c1 x) (k : B.Reads W c2 y) : (ab.pair A B).Reads W (c1 ++ c2) (x, y) := by
 obtain ⟨b1, h⟩ := h
 obtain ⟨b2, k⟩ := k
 exact ⟨b1 ++ b2, c1, c2, b1, b2, rfl, rfl, h, k⟩
theorem bc {t : TypeId} (ht : Tryz.prog.underlying t = some (.int .i64)) : eX ab.int t := by
 intro H enc W base spare held fuel cs x h
 obtain ⟨n, rfl, -, hw⟩ := DataW.trod_int ht h
 exact ⟨n, [], rfl, hw, rfl⟩
theorem nm {t : TypeId} (ht : Tryz.prog.underlying t = some .bool) : eX ab.bool t := by
 intro H enc W base spare held fuel cs x h
 obtain ⟨b, rfl, -⟩ := DataW.trod_bool ht h
 exact ⟨b, [], rfl, rfl⟩
theorem dE {α : Type} {A : ab α} {t e : TypeId} (ht : Tryz.prog.underlying t = some (.slice e)) (hn : Tryz.prog.cellsOf e = A.n) (h0 : 0 < A.n) (h : eX A e) : eX (ab.sl A) t := by
 intro H enc W base spare held fuel cs x hx
 rcases Go.Deep.open_slice ht hx with ⟨rfl, -⟩ | ⟨a, len, cap, m, n, D, Pl, rfl, hb, hl, hm, hmm, -, hel⟩
 ·
  exact ⟨[], [], none, 0, rfl, ⟨Nat.le_refl _, by simp⟩, Or.inl ⟨rfl, rfl⟩⟩
 have hlm : len ≤ m := by rw [hmm]; split <;> omega
 rw [hn] at hel
 have each : ∀ i, i < len → ∃ q : List Value × α, (∀ j, j < A.n → W.cell? (a.add (i * A.n + j)) = q.1[j]?) ∧ q.1.length = A.n ∧ A.Reads W q.1 q.2 := by
  intro i hi
  obtain ⟨cs', h1, h2⟩ := hel i (by omega)
  obtain ⟨-, hlen, hc⟩ := World.cells?_some h1
  obtain ⟨y, hy⟩ := h enc W base spare held n cs' _ h2
  refine ⟨(cs', y), fun j hj => ?_, hlen, hy⟩
  have := hc j hj
  rw [Addr.add_add] at this
  exact this
 by_cases hp : 0 < len
 ·
  obtain ⟨b, off, spot⟩ := a
  obtain ⟨q0, c0, l0, -⟩ := each 0 hp
  have hc0 := c0 0 h0
  have hs0 : ∃ v, W.cell? ((⟨b, off, spot⟩ : Addr).add (0 * A.n + 0)) = some v := ⟨_, hc0.trans (List.getElem?_eq_getElem (by omega))⟩
  obtain ⟨v0, hv0⟩ := hs0
  have hspot : spot = none := by simpa [Addr.add] using World.cell?_spot hv0
  subst hspot
  have hbl : b < W.heap.size := by
   have := World.block_lt_of_cell? _ _ hv0
   simpa [Addr.add] using this
  have pick : ∃ f : (i : Nat) → i < len → List Value × α, ∀ i (hi : i < len), (∀ j, j < A.n → W.cell? ((⟨b, off, none⟩ : Addr).add (i * A.n + j)) = (f i hi).1[j]?) ∧ (f i hi).1.length = A.n ∧ A.Reads W (f i hi).1 (f i hi).2 :=
   ⟨fun i hi => Classical.choose (each i hi), fun i hi => Classical.choose_spec (each i hi)⟩
  obtain ⟨f, hf⟩ := pick
  have pick2 : ∃ g : (i : Nat) → i < len → List Nat, ∀ i (hi : i < len), A.bp W (f i hi).1 (f i hi).2 (g i hi) :=
   ⟨fun i hi => Classical.choose (hf i hi).2.2, fun i hi => Classical.choose_spec (hf i hi).2.2⟩
  obtain ⟨g, hg⟩ := pick2
  refine ⟨(List.finRange len).map (fun i => (f i.1 i.2).2), b :: ((List.finRange len).map (fun i => g i.1 i.2)).flatten, some ⟨b, off, none⟩, cap, by simp, ⟨by simpa using hl, by simp; unfold maxLen at hm; omega⟩, Or.inr ⟨b, off, (List.finRange len).map (fun i => (f i.1 i.2).1), (List.finRange len).map (fun i => g i.1 i.2), rfl, hbl, rfl, by simp, by simp, fun j h1 h2 h3 => ?_⟩⟩
  have hj : j < len := by simpa using h1
  refine ⟨fun k hk => ?_, ?_⟩
  ·
   have := (hf j hj).1 k hk
   rw [Addr.add_lit] at this
   simpa [Nat.add_assoc] using this
  simpa using hg j hj
 obtain rfl : len = 0 := by omega
 exact ⟨[], [], some a, cap, rfl, ⟨hl, by simp⟩, Or.inl ⟨rfl, rfl⟩⟩
theorem la {α : Type} {A : ab α} {t : TypeId} (O : eX A t) {H : Type} {enc : TypeId × Value → H} {W : World} {base : Nat} {spare : Nat → Bool} {held : Bool} {cs : Array Value} {d : DataW H} {p : List MemPlace}
  (h : DataW.Trod enc Tryz.prog W base spare held t (.agg cs) d p) : ∃ y, A.Reads W cs.toList y := by
 obtain ⟨fuel, hf⟩ := h
 exact O enc W base spare held fuel _ _ (by simpa [Value.cells] using hf)
end Go.Proofs.YtecagllmonckgaaGreat

namespace Go.Proofs.YtecagllmonckgaaGreat
open Go.RowKit
def pO (w w' : World) (e : Ending) (ws : List aA) : Prop := ∃ r, e = .returned (.tuple #[r, .int .i64 (aY ws)]) ∧ (aY ws = 0 → r = .pointer (some ⟨w.heap.size + 1, 0, none⟩) ∧ ∃ v rows bls, Told w' (w.heap.size + 1) w.heap.size w'.heap.size ws v rows bls) ∧ (aY ws ≠ 0 → r = .pointer none) ∧ Below w.heap.size w w'
theorem jf (w : World) : Told ((w.alloc (.map #[] 0)).alloc (.cells #[.slice none 0 0, .map (some w.heap.size), .int .i64 0, .int .i64 0, .int .i64 0, .int .i64 0, .int .i64 0, .int .i64 0, .int .i64 0, .int .i64 0, .int .i64 0, .int .i64 0] 237)) (w.heap.size + 1) w.heap.size ((w.alloc (.map #[] 0)).alloc (.cells #[.slice none 0 0, .map (some w.heap.size), .int .i64 0, .int .i64 0, .int .i64 0, .int .i64 0, .int .i64 0, .int .i64 0, .int .i64 0, .int .i64 0, .int .i64 0, .int .i64 0] 237)).heap.size [] (.slice none 0 0) [] [] := pg w
theorem og (b off cap : Nat) (ws : List aA) (w : World) (h : (ab.sl ab.ai).Reads w [.slice (some ⟨b, off, none⟩) ws.length cap] ws) (hbl : b < w.heap.size) (hn : ws.length ≤ 200) :
  Calls Tryz.prog 215 #[.slice (some ⟨b, off, none⟩) ws.length cap] w fun e w' => pO w w' e ws := by
 have HW : Hid (aY ws = cc ws) := by show aY ws = cc ws; rw [aY, if_neg (by omega)]
 have H := yh h
 clear h
 have HT0 := yh (jf w)
 have HB0 := yh (((Below.refl w.heap.size w).alloc (Nat.le_refl _) (.map #[] 0)).alloc (by simp) (.cells #[.slice none 0 0, .map (some w.heap.size), .int .i64 0, .int .i64 0, .int .i64 0, .int .i64 0, .int .i64 0, .int .i64 0, .int .i64 0, .int .i64 0, .int .i64 0, .int .i64 0] 237))
 have hmk := @run_makeMap Tryz.prog
 go_enter Tryz.func215, Tryz.ntmps215
 go_wp2_with fail
 clear hmk
 generalize (w.alloc (.map #[] 0)).alloc (.cells #[.slice none 0 0, .map (some w.heap.size), .int .i64 0, .int .i64 0, .int .i64 0, .int .i64 0, .int .i64 0, .int .i64 0, .int .i64 0, .int .i64 0, .int .i64 0, .int .i64 0] 237) = W1 at *
 go_loopw [17] (fun i wr => ∃ k : Nat, k ≤ ws.length ∧ i = .int .i64 k ∧ (∀ j (hj : j < ws.length), j < k → wF ws[j] = 0) ∧ (∃ v rows bls, Told wr (w.heap.size + 1) w.heap.size wr.heap.size (ws.take k) v rows bls) ∧ Below w.heap.size w wr) (fun i _ => ws.length - (intOf i).toNat)
 case atStart => exact ⟨0, Nat.zero_le _, rfl, fun j _ hj => by omega, ⟨_, _, _, uh HT0⟩, uh HB0⟩
 case round =>
  obtain ⟨k, hk, rfl, hz, ⟨v, rows, bls, hT⟩, hB⟩ := hrel
  clear HT0 HB0
  by_cases hlt : k < ws.length
  ·
   obtain ⟨row, hc, hr⟩ := ab.bm (uh H) hlt
   replace hr := hr.ag hB
   obtain ⟨a2, d2, rfl, R2⟩ := bk hr
   have c0 : wr.cell? ⟨b, off + k * 5, none⟩ = some (.int .i64 (ws[k]).kind) := (hB.cell (p := ⟨b, off + k * 5, none⟩) hbl).trans (hc 0 (by decide))
   have c1 : wr.cell? ⟨b, off + k * 5 + 1, none⟩ = some (.int .i64 (ws[k]).id) := (hB.cell (p := ⟨b, off + k * 5 + 1, none⟩) hbl).trans (hc 1 (by decide))
   have c2 : wr.cell? ⟨b, off + k * 5 + 2, none⟩ = some (.slice a2 (ws[k]).vec.length d2) := (hB.cell (p := ⟨b, off + k * 5 + 2, none⟩) hbl).trans (hc 2 (by decide))
   have c3 : wr.cell? ⟨b, off + k * 5 + 3, none⟩ = some (.int .i64 (ws[k]).aa) := (hB.cell (p := ⟨b, off + k * 5 + 3, none⟩) hbl).trans (hc 3 (by decide))
   have c4 : wr.cell? ⟨b, off + k * 5 + 4, none⟩ = some (.int .i64 (ws[k]).seq) := (hB.cell (p := ⟨b, off + k * 5 + 4, none⟩) hbl).trans (hc 4 (by decide))
   have HZ := yh hz
   have HST : Hid (ws.take (k + 1) = ws.take k ++ [ws[k]]) := List.take_succ_eq_append_getElem hlt
   have HAT : Hid (wF ws[k] ≠ 0 → aY ws = wF ws[k]) := fun hn => (uh HW).trans (gD ws k hlt hz hn)
   have HZ2 : Hid (wF ws[k] = 0 → ∀ j (hj : j < ws.length), j < k + 1 → wF ws[j] = 0) := by
    intro h0 j hj hjk
    by_cases hjk2 : j < k
    ·
     exact uh HZ j hj hjk2
    obtain rfl : j = k := by omega
    exact h0
   have HLK : Hid ((ws.take k).length = k) := by show (ws.take k).length = k; rw [List.length_take]; omega
   clear hc hr hz HZ
   generalize hx : ws[k] = x at *
   clear hx
   have hbr : b < wr.heap.size := Nat.lt_of_lt_of_le hbl hB.size
   have nb : Below wr.heap.size wr (wr.alloc (.cells #[.int .i64 x.kind, .int .i64 x.id, .slice a2 x.vec.length d2, .int .i64 x.aa, .int .i64 x.seq] 142)) := (Below.refl _ _).alloc (Nat.le_refl _) _
   have bI : aj wr.heap.size #[.int .i64 x.kind, .int .i64 x.id, .slice a2 x.vec.length d2, .int .i64 x.aa, .int .i64 x.seq] 142 (wr.alloc (.cells #[.int .i64 x.kind, .int .i64 x.id, .slice a2 x.vec.length d2, .int .i64 x.aa, .int .i64 x.seq] 142)) wr.heap.size := aH (Nat.le_refl _)
   have L := lI x.kind x.id (.slice a2 x.vec.length d2) x.aa x.seq x.vec _ ((ab.bn R2).ag nb)
   simp only [di] at L
   rw [show aK x.kind x.id x.vec x.aa x.seq = wF x from rfl] at L
   have HL := yh L
   have HT := yh (hT.ag nb)
   have HB := yh (hB.trans (nb.mono hB.size))
   have HBI := yh bI
   have HZW : Hid (w.heap.size ≤ wr.heap.size) := hB.size
   clear R2 hT hB nb bI L
   go_wp2_with fail
   clear c0 c1 c2 c3 c4
   refine (uh HL).mono ?_
   generalize hW0 : wr.alloc (.cells #[.int .i64 x.kind, .int .i64 x.id, .slice a2 x.vec.length d2, .int .i64 x.aa, .int .i64 x.seq] 142) = W0 at *
   clear hW0
   rintro e w2 ⟨rfl, hb⟩
   replace HT := yh ((uh HT).ag hb)
   replace HBI := yh ((uh HBI).au hb)
   replace HB := bZ HB hb
   clear hb HL
   by_cases hf : wF x = 0
   ·
    rw [hf, show gi x.kind x.id x.vec x.aa x.seq = ke x.kind x.vec from if_pos hf]
    have hb1 : w2.cell? ⟨wr.heap.size, 1, none⟩ = some (.int .i64 x.id) := (uh HBI).at 1 _ rfl
    have hb3 : w2.cell? ⟨wr.heap.size, 3, none⟩ = some (.int .i64 x.aa) := (uh HBI).at 3 _ rfl
    have hb4 : w2.cell? ⟨wr.heap.size, 4, none⟩ = some (.int .i64 x.seq) := (uh HBI).at 4 _ rfl
    have hbl1 : wr.heap.size < w2.heap.size := (uh HBI).lt
    have HZ3 := yh (uh HZ2 hf)
    have HL := yh (qC x w2 hf)
    have HF := yh hf
    generalize hdv : ke x.kind x.vec = dv at *
    clear hf hdv HZ2 HAT HBI
    go_wp2_with fail
    refine (uh HL).mono ?_
    rintro e w3 ⟨cs, rfl, ⟨bl, hO, hr⟩, hb3⟩
    have hT3 := (uh HT).ag hb3
    replace HB := bZ HB hb3
    have HC := yh (sQ (hT3.raise (Nat.le_trans (Nat.le_of_lt hbl1) (Nat.le_refl w2.heap.size))) hO.1 (fun c hc => ⟨(hr c hc).1, hO.2.2 c hc⟩) hO.2.1 hb3.size (uh HF) (by rw [uh HLK]; omega))
    rw [← uh HST] at HC
    clear hO hr hb3 HL HT hT3 HF hb1 hb4 hbl1
    go_wp2_with fail
    refine (uh HC).mono ?_
    rintro e w4 ⟨rfl, ⟨v4, rows4, bls4, hT4⟩, hb4⟩
    have HT4 := yh hT4
    have HB4 := yh ((uh HB).trans hb4)
    clear hT4 hb4 HC HB
    go_wp2_with fail
    go_roundw
    case rel => exact ⟨k + 1, by omega, by go_num, uh HZ3, ⟨_, _, _, uh HT4⟩, uh HB4⟩
    case measure => simp [intOf]; omega
   have hd : (wF x != 0) = true := by simpa using hf
   have HG := yh (uh HAT hf)
   have HF := yh hf
   generalize hdr : gi x.kind x.id x.vec x.aa x.seq = dr at *
   clear hf hdr HZ2 HAT HST HT HBI
   go_wp2_with fail
   refine bodyPost_ret (v := .tuple #[.pointer none, .int .i64 (wF x)]) (by simp [results, Tryz.results215, go_sem]) rfl ?_
   exact ⟨.pointer none, by rw [uh HG], fun e => absurd ((uh HG).symm.trans e) (uh HF), fun _ => rfl, uh HB⟩
  obtain rfl : k = ws.length := by omega
  have HG : Hid (aY ws = 0) := (uh HW).trans (eo ws fun j hj => hz j hj hj)
  rw [List.take_length] at hT
  have HT := yh hT
  have HB := yh hB
  clear hT hB hz H HW
  go_wp2_with fail
  refine bodyPost_ret (v := .tuple #[.pointer (some ⟨w.heap.size + 1, 0, none⟩), .int .i64 0]) (by simp [results, Tryz.results215, go_sem]) rfl ?_
  exact ⟨.pointer (some ⟨w.heap.size + 1, 0, none⟩), by rw [uh HG], fun _ => ⟨rfl, _, _, _, uh HT⟩, fun e => absurd (uh HG) e, uh HB⟩
theorem kV (v : Value) (ws : List aA) (w : World) (h : (ab.sl ab.ai).Reads w [v] ws) :
  Calls Tryz.prog 215 #[v] w fun e w' => pO w w' e ws := by
 obtain ⟨ao, cap, rfl⟩ := aE h
 by_cases hn : ws.length ≤ 200
 ·
  by_cases hp : 0 < ws.length
  ·
   obtain ⟨b, off, rfl, hbl⟩ := ab.aI h hp
   exact og b off cap ws w h hbl hn
  obtain rfl : ws = [] := List.eq_nil_of_length_eq_zero (by omega)
  clear h hn hp
  have HT0 := yh (jf w)
  have HB0 := yh (((Below.refl w.heap.size w).alloc (Nat.le_refl _) (.map #[] 0)).alloc (by simp) (.cells #[.slice none 0 0, .map (some w.heap.size), .int .i64 0, .int .i64 0, .int .i64 0, .int .i64 0, .int .i64 0, .int .i64 0, .int .i64 0, .int .i64 0, .int .i64 0, .int .i64 0] 237))
  have hmk := @run_makeMap Tryz.prog
  go_enter Tryz.func215, Tryz.ntmps215
  go_wp2_with fail
  clear hmk
  refine wp_loop_rounds 1 ?_
  rw [rounds_succ]
  go_wp2_with fail
  refine bodyPost_ret (v := .tuple #[.pointer (some ⟨w.heap.size + 1, 0, none⟩), .int .i64 0]) (by simp [results, Tryz.results215, go_sem]) rfl ?_
  exact ⟨.pointer (some ⟨w.heap.size + 1, 0, none⟩), rfl, fun _ => ⟨rfl, _, _, _, uh HT0⟩, fun e => absurd rfl e, uh HB0⟩
 have e : aY ws = 2 := by rw [aY, if_pos (by omega)]
 have HG := yh e
 have hd : decide ((200 : Int) < (ws.length : Int)) = true := by simp; omega
 clear h e
 go_enter Tryz.func215, Tryz.ntmps215
 go_wp2_with fail
 refine bodyPost_ret (v := .tuple #[.pointer none, .int .i64 2]) (by simp [results, Tryz.results215, go_sem]) rfl ?_
 exact ⟨.pointer none, by rw [uh HG], fun e => absurd ((uh HG).symm.trans e) (by decide), fun _ => rfl, Below.refl _ _⟩
def fO (f : Int → Int) : Array Value := #[.int .i64 (f 0), .int .i64 (f 1), .int .i64 (f 2), .int .i64 (f 3), .int .i64 (f 4), .int .i64 (f 5), .int .i64 (f 6), .int .i64 (f 7), .int .i64 (f 8), .int .i64 (f 9)]
theorem fx (f : Int → Int) (i : Nat) (h : i < 10) : (fO f)[i]? = some (.int .i64 (f i)) := by
 match i, h with
 | 0, _ => rfl
 | 1, _ => rfl
 | 2, _ => rfl
 | 3, _ => rfl
 | 4, _ => rfl
 | 5, _ => rfl
 | 6, _ => rfl
 | 7, _ => rfl
 | 8, _ => rfl
 | 9, _ => rfl
theorem m2 (f : Int → Int) (i : Nat) (h : i < 10) (z : Int) : (fO f).setIfInBounds i (.int .i64 z) = fO (fun j => if j = i then z else f j) := by
 match i, h with
 | 0, _ => rfl
 | 1, _ => rfl
 | 2, _ => rfl
 | 3, _ => rfl
 | 4, _ => rfl
 | 5, _ => rfl
 | 6, _ => rfl
 | 7, _ => rfl
 | 8, _ => rfl
 | 9, _ => rfl
theorem jL (b off cap : Nat) (ws : List aA) (w : World) (h : (ab.sl ab.ai).Reads w [.slice (some ⟨b, off, none⟩) ws.length cap] ws) (hbl : b < w.heap.size) (hf : aY ws = 0) :
  Calls Tryz.prog 258 #[.slice (some ⟨b, off, none⟩) ws.length cap] w fun e w' => e = .returned (.bool (cP [] ws)) ∧ Below w.heap.size w w' := by
 have HL := yh (kV _ ws w h)
 have H := yh h
 obtain ⟨hlen, hall⟩ := fY hf
 have HA := yh hall
 have HF := yh hf
 clear h hall hf
 go_enter Tryz.func258, Tryz.ntmps258
 go_wp2_with fail
 refine (uh HL).mono ?_
 rintro e w2 ⟨r, rfl, g0, -, hb⟩
 obtain ⟨rfl, -⟩ := g0 (uh HF)
 rw [uh HF]
 have HB0 := yh (hb.alloc hb.size (.cells #[.int .i64 0, .int .i64 0, .int .i64 0, .int .i64 0, .int .i64 0, .int .i64 0, .int .i64 0, .int .i64 0, .int .i64 0, .int .i64 0] 235))
 have HX0 : Hid (aj 0 (fO (aV [])) 235 (w2.alloc (.cells #[.int .i64 0, .int .i64 0, .int .i64 0, .int .i64 0, .int .i64 0, .int .i64 0, .int .i64 0, .int .i64 0, .int .i64 0, .int .i64 0] 235)) w2.heap.size) := aH (Nat.zero_le _)
 have hz2 := hb.size
 clear hb HL HF g0
 go_wp2_with fail
 generalize w2.alloc (.cells #[.int .i64 0, .int .i64 0, .int .i64 0, .int .i64 0, .int .i64 0, .int .i64 0, .int .i64 0, .int .i64 0, .int .i64 0, .int .i64 0] 235) = W1 at *
 generalize w2.heap.size = L at *
 go_loopw [17] (fun i wr => ∃ k : Nat, k ≤ ws.length ∧ i = .int .i64 k ∧ (∀ j (hj : j < ws.length), j < k → aV ([] ++ ws.take j) (ws[j]).aa < (ws[j]).seq) ∧ aj 0 (fO (aV (ws.take k))) 235 wr L ∧ Below w.heap.size w wr) (fun i _ => ws.length - (intOf i).toNat)
 case atStart => exact ⟨0, Nat.zero_le _, rfl, fun j _ hj => by omega, uh HX0, uh HB0⟩
 case round =>
  obtain ⟨k, hk, rfl, hz, hX, hB⟩ := hrel
  clear HX0 HB0
  by_cases hlt : k < ws.length
  ·
   obtain ⟨row, hc, hr⟩ := ab.bm (uh H) hlt
   replace hr := hr.ag hB
   obtain ⟨a2, d2, rfl, R2⟩ := bk hr
   have c0 : wr.cell? ⟨b, off + k * 5, none⟩ = some (.int .i64 (ws[k]).kind) := (hB.cell (p := ⟨b, off + k * 5, none⟩) hbl).trans (hc 0 (by decide))
   have c1 : wr.cell? ⟨b, off + k * 5 + 1, none⟩ = some (.int .i64 (ws[k]).id) := (hB.cell (p := ⟨b, off + k * 5 + 1, none⟩) hbl).trans (hc 1 (by decide))
   have c2 : wr.cell? ⟨b, off + k * 5 + 2, none⟩ = some (.slice a2 (ws[k]).vec.length d2) := (hB.cell (p := ⟨b, off + k * 5 + 2, none⟩) hbl).trans (hc 2 (by decide))
   have c3 : wr.cell? ⟨b, off + k * 5 + 3, none⟩ = some (.int .i64 (ws[k]).aa) := (hB.cell (p := ⟨b, off + k * 5 + 3, none⟩) hbl).trans (hc 3 (by decide))
   have c4 : wr.cell? ⟨b, off + k * 5 + 4, none⟩ = some (.int .i64 (ws[k]).seq) := (hB.cell (p := ⟨b, off + k * 5 + 4, none⟩) hbl).trans (hc 4 (by decide))
   have hsq := np (uh HA ws[k] (List.getElem_mem hlt))
   have HAT : Hid ((ws[k]).seq ≤ aV (ws.take k) (ws[k]).aa → cP [] ws = false) := fun he => jm ws [] k hlt (by simpa using he)
   have HZ2 : Hid (aV (ws.take k) (ws[k]).aa < (ws[k]).seq → ∀ j (hj : j < ws.length), j < k + 1 → aV ([] ++ ws.take j) (ws[j]).aa < (ws[j]).seq) := by
    intro h0 j hj hjk
    by_cases hjk2 : j < k
    ·
     exact hz j hj hjk2
    obtain rfl : j = k := by omega
    simpa using h0
   have HLT : Hid (aV (ws.take k) (ws[k]).aa < (ws[k]).seq → ∀ j : Int, (if j = ((ws[k]).aa.toNat : Int) then (ws[k]).seq else aV (ws.take k) j) = aV (ws.take (k + 1)) j) := by
    intro h0 j
    have h9 := np (uh HA ws[k] (List.getElem_mem hlt))
    rw [iS ws k hlt, show ((ws[k]).aa.toNat : Int) = (ws[k]).aa by omega]
    by_cases e : j = (ws[k]).aa
    ·
     rw [if_pos e, if_pos e.symm, e]; omega
    rw [if_neg e, if_neg (fun h => e h.symm)]
   clear hc hr hz R2
   generalize hx : ws[k] = x at *
   clear hx
   have hbr : b < wr.heap.size := Nat.lt_of_lt_of_le hbl hB.size
   have nb : Below wr.heap.size wr (wr.alloc (.cells #[.int .i64 x.kind, .int .i64 x.id, .slice a2 x.vec.length d2, .int .i64 x.aa, .int .i64 x.seq] 142)) := (Below.refl _ _).alloc (Nat.le_refl _) _
   have bI : aj 0 #[.int .i64 x.kind, .int .i64 x.id, .slice a2 x.vec.length d2, .int .i64 x.aa, .int .i64 x.seq] 142 (wr.alloc (.cells #[.int .i64 x.kind, .int .i64 x.id, .slice a2 x.vec.length d2, .int .i64 x.aa, .int .i64 x.seq] 142)) wr.heap.size := aH (Nat.zero_le _)
   have hLq := hX.lt
   have HX1 := yh (hX.au nb)
   have HB1 := yh (hB.trans (nb.mono hB.size))
   have HBI := yh bI
   have hLw : w.heap.size ≤ L := hz2
   clear nb bI hX hB
   go_wp2_with fail
   clear c0 c1 c2 c3 c4
   generalize wr.alloc (.cells #[.int .i64 x.kind, .int .i64 x.id, .slice a2 x.vec.length d2, .int .i64 x.aa, .int .i64 x.seq] 142) = W0 at *
   obtain ⟨b1, b9, q1, q9⟩ := hsq
   have hs9 : x.aa.toNat < 10 := by omega
   have hsi : (x.aa.toNat : Int) = x.aa := by omega
   have i1 : (0 : Int) ≤ x.aa := by omega
   have i2 : x.aa < 10 := by omega
   have hXD := uh HX1
   have hID := uh HBI
   refine wZz (fun w' => w' = W0.drew) rfl (fun zq => ?_)
   refine tkH 0 zq ?_
   refine tkJ 1 (v := ?vo1) ?ho1 zq ?ro1
   case ho1 =>
    intro wS hSw
    have y3 : wS.cell? ⟨wr.heap.size, 3, none⟩ = some (.int .i64 x.aa) := by rw [hSw]; exact hID.at 3 _ rfl
    have y4 : wS.cell? ⟨wr.heap.size, 4, none⟩ = some (.int .i64 x.seq) := by rw [hSw]; exact hID.at 4 _ rfl
    have yl : wS.cell? ⟨L, x.aa.toNat, none⟩ = some (.int .i64 (aV (ws.take k) x.aa)) := by
     have := hXD.at _ _ (fx (aV (ws.take k)) x.aa.toNat hs9)
     rw [hsi] at this
     rw [hSw]; exact this
    clear hSw
    exact fZ
   refine tkH 2 zq ?_
   refine tkJ 3 (v := ?vo3) ?ho3 zq ?ro3
   case ho3 =>
    intro wS hSw
    have y3 : wS.cell? ⟨wr.heap.size, 3, none⟩ = some (.int .i64 x.aa) := by rw [hSw]; exact hID.at 3 _ rfl
    have y4 : wS.cell? ⟨wr.heap.size, 4, none⟩ = some (.int .i64 x.seq) := by rw [hSw]; exact hID.at 4 _ rfl
    have yl : wS.cell? ⟨L, x.aa.toNat, none⟩ = some (.int .i64 (aV (ws.take k) x.aa)) := by
     have := hXD.at _ _ (fx (aV (ws.take k)) x.aa.toNat hs9)
     rw [hsi] at this
     rw [hSw]; exact this
    clear hSw
    exact fZ
   refine tkH 4 zq ?_
   refine tkJ 5 (v := ?vo5) ?ho5 zq ?ro5
   case ho5 =>
    intro wS hSw
    have y3 : wS.cell? ⟨wr.heap.size, 3, none⟩ = some (.int .i64 x.aa) := by rw [hSw]; exact hID.at 3 _ rfl
    have y4 : wS.cell? ⟨wr.heap.size, 4, none⟩ = some (.int .i64 x.seq) := by rw [hSw]; exact hID.at 4 _ rfl
    have yl : wS.cell? ⟨L, x.aa.toNat, none⟩ = some (.int .i64 (aV (ws.take k) x.aa)) := by
     have := hXD.at _ _ (fx (aV (ws.take k)) x.aa.toNat hs9)
     rw [hsi] at this
     rw [hSw]; exact this
    clear hSw
    exact fZ
   refine tkH 6 zq ?_
   refine dZ ?_
   clear zq
   have HBD := yh (uh HB1).drew
   have hX2 : aj 0 (fO (aV (ws.take k))) 235 W0.drew L := uh HX1
   have hI2 : aj 0 #[.int .i64 x.kind, .int .i64 x.id, .slice a2 x.vec.length d2, .int .i64 x.aa, .int .i64 x.seq] 142 W0.drew wr.heap.size := uh HBI
   generalize W0.drew = W2 at *
   clear HX1 HBI HB1 hXD hID
   by_cases hq : x.seq ≤ aV (ws.take k) x.aa
   ·
    have hd : decide (x.seq ≤ aV (ws.take k) x.aa) = true := by simpa using hq
    have HG := yh (uh HAT hq)
    clear hq HAT HZ2 HLT hsi
    rw [hd]
    go_wp2_with fail
    go_ret
    exact ⟨by rw [uh HG]; first | done | rfl, uh HBD⟩
   ·
    have hd : decide (x.seq ≤ aV (ws.take k) x.aa) = false := by simpa using hq
    have HZ := yh (uh HZ2 (by omega))
    have HX3 : Hid (aj 0 (fO (aV (ws.take (k + 1)))) 235 (W2.setCell ⟨L, x.aa.toNat, none⟩ (.int .i64 x.seq)) L) := by
     have e := hX2.set x.aa.toNat (.int .i64 x.seq)
     rw [m2 _ _ hs9, funext (uh HLT (by omega))] at e
     exact e
    have HB3 : Hid (Below w.heap.size w (W2.setCell ⟨L, x.aa.toNat, none⟩ (.int .i64 x.seq))) := (uh HBD).setCell (by simp; omega) _
    have y3 : W2.cell? ⟨wr.heap.size, 3, none⟩ = some (.int .i64 x.aa) := hI2.at 3 _ rfl
    have y4 : W2.cell? ⟨wr.heap.size, 4, none⟩ = some (.int .i64 x.seq) := hI2.at 4 _ rfl
    have yl : W2.cell? ⟨L, x.aa.toNat, none⟩ = some (.int .i64 (aV (ws.take k) x.aa)) := by
     have := hX2.at _ _ (fx (aV (ws.take k)) x.aa.toNat hs9)
     rwa [hsi] at this
    have fl := hX2.soft x.aa.toNat
    have ll := hX2.lt
    clear hq HAT HZ2 HLT hsi hX2 hI2 HBD
    rw [hd]
    go_wp2_with fail
    go_roundw
    case rel => exact ⟨k + 1, by omega, by go_num, uh HZ, uh HX3, uh HB3⟩
    case measure => simp [intOf]; omega
  obtain rfl : k = ws.length := by omega
  have HG : Hid (cP [] ws = true) := gN ws [] fun j hj => hz j hj hj
  have HB := yh hB
  clear H hz hB hX
  go_wp2_with fail
  go_ret
  exact ⟨by rw [uh HG]; first | done | rfl, uh HB⟩
theorem pd (v : Value) (ws : List aA) (w : World) (h : (ab.sl ab.ai).Reads w [v] ws) :
  Calls Tryz.prog 258 #[v] w fun e w' => e = .returned (.bool (gY ws)) ∧ Below w.heap.size w w' := by
 obtain ⟨ao, cap, rfl⟩ := aE h
 by_cases hf : aY ws = 0
 ·
  have e1 : gY ws = cP [] ws := by simp [gY, hf]
  rw [e1]
  by_cases hp : 0 < ws.length
  ·
   obtain ⟨b, off, rfl, hbl⟩ := ab.aI h hp
   exact jL b off cap ws w h hbl hf
  obtain rfl : ws = [] := List.eq_nil_of_length_eq_zero (by omega)
  have HL := yh (kV _ [] w h)
  clear h hp e1 hf
  go_enter Tryz.func258, Tryz.ntmps258
  go_wp2_with fail
  refine (uh HL).mono ?_
  rintro e w2 ⟨r, rfl, g0, -, hb⟩
  obtain ⟨rfl, -⟩ := g0 rfl
  rw [show aY [] = 0 from rfl]
  have HB0 := yh (hb.alloc hb.size (.cells #[.int .i64 0, .int .i64 0, .int .i64 0, .int .i64 0, .int .i64 0, .int .i64 0, .int .i64 0, .int .i64 0, .int .i64 0, .int .i64 0] 235))
  clear hb HL g0
  go_wp2_with fail
  refine wp_loop_rounds 1 ?_
  rw [rounds_succ]
  go_wp2_with fail
  go_ret
  exact ⟨rfl, uh HB0⟩
 have HL := yh (kV _ ws w h)
 have HG : Hid (gY ws = false) := by show gY ws = _; simp [gY, hf]
 have hd : (aY ws != 0) = true := by simpa using hf
 clear h
 go_enter Tryz.func258, Tryz.ntmps258
 go_wp2_with fail
 refine (uh HL).mono ?_
 rintro e w2 ⟨r, rfl, -, -, hb⟩
 have HB0 := yh hb
 clear hb HL hf
 go_wp2_with fail
 go_ret
 exact ⟨by rw [uh HG]; first | done | rfl, uh HB0⟩
theorem fu (k i : Int) (v : Value) (s q : Int) (zs : List Int) (w : World) (h : bU w v zs) :
  Calls Tryz.prog 257 #[.agg #[.int .i64 k, .int .i64 i, v, .int .i64 s, .int .i64 q]] w fun e w' => e = .returned (.int .i64 (aK k i zs s q)) ∧ Below w.heap.size w w' := by
 have h' := h
 obtain ⟨ao, cap, rfl, -⟩ := h'
 have B0 : Below w.heap.size w (w.alloc (.cells #[.int .i64 k, .int .i64 i, .slice ao zs.length cap, .int .i64 s, .int .i64 q] 142)) := (Below.refl _ _).alloc (Nat.le_refl _) _
 have L := yh (lI k i (.slice ao zs.length cap) s q zs _ (h.ag B0))
 have HB := yh B0
 clear B0 h
 go_enter Tryz.func257, Tryz.ntmps257
 go_wp2_with fail
 refine (uh L).mono ?_
 rintro e w1 ⟨rfl, hb1⟩
 have HB1 := yh ((uh HB).trans (hb1.mono (uh HB).size))
 clear hb1 HB L
 go_wp2_with fail
 go_ret
 exact ⟨rfl, uh HB1⟩
theorem sr (v : Value) (ws : List aA) (w : World) (h : (ab.sl ab.ai).Reads w [v] ws) :
  Calls Tryz.prog 227 #[v] w fun e w' => e = .returned (.int .i64 (cm ws)) ∧ Below w.heap.size w w' := by
 obtain ⟨ao, cap, rfl⟩ := aE h
 by_cases hn0 : 40 < ws.length
 ·
  have HF : Hid (cm ws = 2) := by show cm ws = 2; rw [cm, if_pos hn0]
  have hbig := h.dK
  have hd : decide ((40 : Int) < (ws.length : Int)) = true := by simp; omega
  clear h
  go_enter Tryz.func227, Tryz.ntmps227
  go_wp2_with fail
  go_ret
  exact ⟨by rw [uh HF]; rfl, Below.refl _ _⟩
 have hn : ws.length ≤ 40 := by omega
 have HW : Hid (cm ws = if cc ws ≠ 0 then cc ws else if cP [] ws = false then 6 else 0) := by show cm ws = _; rw [cm, if_neg hn0]
 have H := yh h
 clear h hn0
 go_enter Tryz.func227, Tryz.ntmps227
 go_wp2_with fail
 go_loopw [11] (fun i wr => ∃ k : Nat, k ≤ ws.length ∧ i = .int .i64 k ∧ (∀ j (hj : j < ws.length), j < k → wF ws[j] = 0) ∧ Below w.heap.size w wr) (fun i _ => ws.length - (intOf i).toNat)
 case atStart => exact ⟨0, Nat.zero_le _, rfl, fun j _ hj => by omega, Below.refl _ _⟩
 case round =>
  obtain ⟨k, hk, rfl, hz, hB⟩ := hrel
  by_cases hlt : k < ws.length
  ·
   obtain ⟨b, off, rfl, hbl⟩ := ab.aI (uh H) (by omega)
   obtain ⟨row, hc, hr⟩ := ab.bm (uh H) hlt
   replace hr := hr.ag hB
   obtain ⟨a2, d2, rfl, R2⟩ := bk hr
   have c0 : wr.cell? ⟨b, off + k * 5, none⟩ = some (.int .i64 (ws[k]).kind) := (hB.cell (p := ⟨b, off + k * 5, none⟩) hbl).trans (hc 0 (by decide))
   have c1 : wr.cell? ⟨b, off + k * 5 + 1, none⟩ = some (.int .i64 (ws[k]).id) := (hB.cell (p := ⟨b, off + k * 5 + 1, none⟩) hbl).trans (hc 1 (by decide))
   have c2 : wr.cell? ⟨b, off + k * 5 + 2, none⟩ = some (.slice a2 (ws[k]).vec.length d2) := (hB.cell (p := ⟨b, off + k * 5 + 2, none⟩) hbl).trans (hc 2 (by decide))
   have c3 : wr.cell? ⟨b, off + k * 5 + 3, none⟩ = some (.int .i64 (ws[k]).aa) := (hB.cell (p := ⟨b, off + k * 5 + 3, none⟩) hbl).trans (hc 3 (by decide))
   have c4 : wr.cell? ⟨b, off + k * 5 + 4, none⟩ = some (.int .i64 (ws[k]).seq) := (hB.cell (p := ⟨b, off + k * 5 + 4, none⟩) hbl).trans (hc 4 (by decide))
   have HZ := yh hz
   have HAT : Hid (wF ws[k] ≠ 0 → cm ws = wF ws[k]) := fun hn => by
    have e := gD ws k hlt hz hn
    rw [uh HW, e, if_pos hn]
   have HZ2 : Hid (wF ws[k] = 0 → ∀ j (hj : j < ws.length), j < k + 1 → wF ws[j] = 0) := by
    intro h0 j hj hjk
    by_cases hjk2 : j < k
    ·
     exact uh HZ j hj hjk2
    obtain rfl : j = k := by omega
    exact h0
   clear hc hr hz HZ
   generalize hx : ws[k] = x at *
   clear hx
   have hbr : b < wr.heap.size := Nat.lt_of_lt_of_le hbl hB.size
   have nb : Below wr.heap.size wr (wr.alloc (.cells #[.int .i64 x.kind, .int .i64 x.id, .slice a2 x.vec.length d2, .int .i64 x.aa, .int .i64 x.seq] 142)) := (Below.refl _ _).alloc (Nat.le_refl _) _
   have L := fu x.kind x.id (.slice a2 x.vec.length d2) x.aa x.seq x.vec _ ((ab.bn R2).ag nb)
   rw [show aK x.kind x.id x.vec x.aa x.seq = wF x from rfl] at L
   have HL := yh L
   have HB := yh (hB.trans (nb.mono hB.size))
   clear R2 hB nb L
   go_wp2_with fail
   clear c0 c1 c2 c3 c4
   refine (uh HL).mono ?_
   generalize hW0 : wr.alloc (.cells #[.int .i64 x.kind, .int .i64 x.id, .slice a2 x.vec.length d2, .int .i64 x.aa, .int .i64 x.seq] 142) = W0 at *
   clear hW0
   rintro e w2 ⟨rfl, hb⟩
   replace HB := bZ HB hb
   clear hb HL
   by_cases hf : wF x = 0
   ·
    have HZ3 := yh (uh HZ2 hf)
    rw [hf]
    clear hf HZ2 HAT
    go_wp2_with fail
    go_roundw
    case rel => exact ⟨k + 1, by omega, by go_num, uh HZ3, uh HB⟩
    case measure => simp [intOf]; omega
   have hd : (wF x != 0) = true := by simpa using hf
   have HE := yh (uh HAT hf)
   clear HAT HZ2 hf
   generalize wF x = c at *
   go_wp2_with fail
   go_ret
   exact ⟨by rw [uh HE]; rfl, uh HB⟩
  obtain rfl : k = ws.length := by omega
  have e0 := eo ws (fun j hj => hz j hj hj)
  have HL := yh (pd _ ws wr ((uh H).ag hB))
  have hf0 : aY ws = 0 := by rw [aY, if_neg (by omega), e0]
  have hor : gY ws = cP [] ws := by rw [gY, hf0]; simp
  rw [hor] at HL
  have HB := yh hB
  have HT : Hid (cm ws = if cP [] ws = false then 6 else 0) := by show cm ws = _; rw [uh HW, e0, if_neg (by simp)]
  clear hB hz e0 hf0 hor H HW
  cases ho : cP [] ws
  ·
   rw [ho] at HL HT
   clear ho
   go_wp2_with fail
   refine (uh HL).mono ?_
   rintro e w2 ⟨rfl, hb⟩
   have HB2 := yh ((uh HB).trans (hb.mono (uh HB).size))
   clear hb HL
   go_wp2_with fail
   go_ret
   exact ⟨by rw [uh HT]; rfl, uh HB2⟩
  rw [ho] at HL HT
  clear ho
  go_wp2_with fail
  refine (uh HL).mono ?_
  rintro e w2 ⟨rfl, hb⟩
  have HB2 := yh ((uh HB).trans (hb.mono (uh HB).size))
  clear hb HL
  go_wp2_with fail
  go_ret
  exact ⟨by rw [uh HT]; rfl, uh HB2⟩
theorem kQ (cs : List Value) (x : bz) (w : World) (h : ab.ax.Reads w cs x) :
  Calls Tryz.prog 228 #[.agg cs.toArray] w fun e w' => e = .returned (.bool (dk x)) ∧ Below w.heap.size w w' := by
 obtain ⟨a4, d4, rfl, R4⟩ := bK h
 have hbig := R4.dK
 clear h R4
 have HB := yh ((Below.refl w.heap.size w).alloc (Nat.le_refl _) (.cells #[.int .i64 x.id, .bool x.up, .int .i64 x.af, .int .i64 x.az, .slice a4 x.writes.length d4, .int .i64 x.sure, .int .i64 x.clean] 79))
 cases d1 : (x.sure == (x.writes.length : Int))
 ·
  have HF : Hid (dk x = false) := by show dk x = false; rw [dk, d1]; rfl
  go_enter Tryz.func228, Tryz.ntmps228
  go_wp2_with fail
  go_ret
  exact ⟨by rw [uh HF]; rfl, uh HB⟩
 cases d2 : (x.clean == 0)
 ·
  have HF : Hid (dk x = false) := by show dk x = false; rw [dk, d1, d2]; rfl
  go_enter Tryz.func228, Tryz.ntmps228
  go_wp2_with fail
  go_ret
  exact ⟨by rw [uh HF]; rfl, uh HB⟩
 cases d3 : (x.az == 0)
 ·
  have HF : Hid (dk x = false) := by show dk x = false; rw [dk, d1, d2, d3]; rfl
  go_enter Tryz.func228, Tryz.ntmps228
  go_wp2_with fail
  go_ret
  exact ⟨by rw [uh HF]; rfl, uh HB⟩
 have HF : Hid (dk x = true) := by show dk x = true; rw [dk, d1, d2, d3]; rfl
 go_enter Tryz.func228, Tryz.ntmps228
 go_wp2_with fail
 go_ret
 exact ⟨by rw [uh HF]; rfl, uh HB⟩
theorem jK (cs : List Value) (x : bz) (w : World) (h : ab.ax.Reads w cs x) :
  Calls Tryz.prog 180 #[.agg cs.toArray] w fun e w' => e = .returned (.int .i64 (aS x)) ∧ Below w.heap.size w w' := by
 have hN := h
 obtain ⟨a4, d4, rfl, R4⟩ := bK h
 have hbig := R4.dK
 have nb : Below w.heap.size w (w.alloc (.cells #[.int .i64 x.id, .bool x.up, .int .i64 x.af, .int .i64 x.az, .slice a4 x.writes.length d4, .int .i64 x.sure, .int .i64 x.clean] 79)) := (Below.refl _ _).alloc (Nat.le_refl _) _
 have bX : aj w.heap.size #[.int .i64 x.id, .bool x.up, .int .i64 x.af, .int .i64 x.az, .slice a4 x.writes.length d4, .int .i64 x.sure, .int .i64 x.clean] 79 (w.alloc (.cells #[.int .i64 x.id, .bool x.up, .int .i64 x.af, .int .i64 x.az, .slice a4 x.writes.length d4, .int .i64 x.sure, .int .i64 x.clean] 79)) w.heap.size := aH (Nat.le_refl _)
 have HT := yh (sr _ x.writes _ (R4.ag nb))
 have HN := yh hN
 have HB := yh nb
 have HX := yh bX
 clear h hN nb bX R4
 go_enter Tryz.func180, Tryz.ntmps180
 go_wp2_with fail
 generalize w.alloc (.cells #[.int .i64 x.id, .bool x.up, .int .i64 x.af, .int .i64 x.az, .slice a4 x.writes.length d4, .int .i64 x.sure, .int .i64 x.clean] 79) = W0 at *
 have x1 := (uh HX).at 1 _ rfl
 have x2 := (uh HX).at 2 _ rfl
 have x3 := (uh HX).at 3 _ rfl
 have x4 := (uh HX).at 4 _ rfl
 have x5 := (uh HX).at 5 _ rfl
 have x6 := (uh HX).at 6 _ rfl
 simp only [ga, gb, gc] at x1 x2 x3 x4 x5 x6
 have xl := (uh HX).lt
 refine (cS x.id W0).mono ?_
 rintro e W1 ⟨rfl, h1⟩
 subst W1
 cases d1 : (decide (1 ≤ x.id) && decide (x.id ≤ 5))
 ·
  have HF := yh (rR d1)
  clear d1
  go_wp2_with fail
  go_ret
  exact ⟨by rw [uh HF]; rfl, uh HB⟩
 go_wp2_with fail
 refine (ea x.af 999 W0).mono ?_
 rintro e W1 ⟨rfl, h1⟩
 subst W1
 cases d2 : (decide (0 ≤ x.af) && decide (x.af ≤ 999))
 ·
  have HF := yh (ly d2)
  clear d1 d2
  go_wp2_with fail
  go_ret
  exact ⟨by rw [uh HF]; rfl, uh HB⟩
 go_wp2_with fail
 refine (ea x.az 9999 W0).mono ?_
 rintro e W1 ⟨rfl, h1⟩
 subst W1
 cases d3 : (decide (0 ≤ x.az) && decide (x.az ≤ 9999))
 ·
  have HF := yh (lz d3)
  clear d1 d2 d3
  go_wp2_with fail
  go_ret
  exact ⟨by rw [uh HF]; rfl, uh HB⟩
 have HF := yh (nE d1 d2 d3)
 clear d1 d2 d3
 go_wp2_with fail
 refine (uh HT).mono ?_
 rintro e W1 ⟨rfl, hb⟩
 have bX1 := (uh HX).au hb
 replace x1 := bX1.at 1 _ rfl
 replace x2 := bX1.at 2 _ rfl
 replace x3 := bX1.at 3 _ rfl
 replace x4 := bX1.at 4 _ rfl
 replace x5 := bX1.at 5 _ rfl
 replace x6 := bX1.at 6 _ rfl
 have x0 := bX1.at 0 _ rfl
 simp only [ga, gb, gc] at x0 x1 x2 x3 x4 x5 x6
 replace xl := bX1.lt
 have HB1 := yh ((uh HB).trans (hb.mono (uh HB).size))
 clear hb bX1 HT HX HB
 by_cases ht : cm x.writes = 0
 ·
  rw [ht]
  have HF1 := yh ((uh HF).trans (if_neg (by simpa using ht)))
  clear HF ht
  go_wp2_with fail
  refine (ea x.sure (x.writes.length : Int) W1).mono ?_
  rintro e W2 ⟨rfl, h1⟩
  subst W2
  cases d4 : (decide (0 ≤ x.sure) && decide (x.sure ≤ (x.writes.length : Int)))
  ·
   have HF2 := yh ((uh HF1).trans (if_neg (by rw [d4]; simp)))
   clear HF1 d4
   go_wp2_with fail
   go_ret
   exact ⟨by rw [uh HF2]; rfl, uh HB1⟩
  go_wp2_with fail
  refine (ea x.clean x.sure W1).mono ?_
  rintro e W2 ⟨rfl, h1⟩
  subst W2
  cases d5 : (decide (0 ≤ x.clean) && decide (x.clean ≤ x.sure))
  ·
   have HF2 := yh ((uh HF1).trans (if_neg (by rw [d5]; simp)))
   clear HF1 d4 d5
   go_wp2_with fail
   go_ret
   exact ⟨by rw [uh HF2]; rfl, uh HB1⟩
  have HF2 := yh ((uh HF1).trans (if_pos ⟨d4, d5⟩))
  clear HF1 d4 d5
  have HD := yh (kQ _ x W1 ((uh HN).ag (uh HB1)))
  cases hu : x.up
  ·
   rw [hu] at x1 HF2 HD
   cases hdn : dk x
   ·
    have HF3 := yh ((uh HF2).trans (if_pos ⟨rfl, hdn⟩))
    rw [hdn] at HD
    clear HF2 hdn hu
    go_wp2_with fail
    refine (uh HD).mono ?_
    rintro e W2 ⟨rfl, hb⟩
    have HB2 := yh ((uh HB1).trans (hb.mono (uh HB1).size))
    clear hb HD
    go_wp2_with fail
    go_ret
    exact ⟨by rw [uh HF3]; rfl, uh HB2⟩
   have HF3 := yh ((uh HF2).trans (if_neg (by simp [hdn])))
   rw [hdn] at HD
   clear HF2 hdn hu
   go_wp2_with fail
   refine (uh HD).mono ?_
   rintro e W2 ⟨rfl, hb⟩
   have HB2 := yh ((uh HB1).trans (hb.mono (uh HB1).size))
   clear hb HD
   go_wp2_with fail
   go_ret
   exact ⟨by rw [uh HF3]; rfl, uh HB2⟩
  rw [hu] at x1 HF2
  have HF3 := yh ((uh HF2).trans (if_neg (by simp)))
  clear HF2 hu HD
  go_wp2_with fail
  go_ret
  exact ⟨by rw [uh HF3]; rfl, uh HB1⟩
 have HF1 := yh ((uh HF).trans (if_pos (by simpa using ht)))
 have hd : (cm x.writes != 0) = true := by simpa using ht
 clear HF ht
 generalize cm x.writes = c at *
 go_wp2_with fail
 go_ret
 exact ⟨by rw [uh HF1]; rfl, uh HB1⟩
theorem pn (cs : List Value) (x : ay) (id : Int) (w : World) (h : ab.aC.Reads w cs x) :
  Calls Tryz.prog 117 #[.agg cs.toArray, .int .i64 id] w fun e w' => e = .returned (.bool (cj x id)) ∧ Below w.heap.size w w' := by
 obtain ⟨a3, d3, a4, d4, a5, d5, a6, d6, rfl, -, R4, -, -⟩ := aG h
 have hbig := R4.dK
 have nb : Below w.heap.size w (w.alloc (.cells #[.int .i64 x.now, .int .i64 x.events, .int .i64 x.chain.af, .slice a3 x.chain.ids.length d3, .slice a4 x.nodes.length d4, .slice a5 x.msgs.length d5, .slice a6 x.ae.length d6] 37)) := (Below.refl _ _).alloc (Nat.le_refl _) _
 have bX : aj 0 #[.int .i64 x.now, .int .i64 x.events, .int .i64 x.chain.af, .slice a3 x.chain.ids.length d3, .slice a4 x.nodes.length d4, .slice a5 x.msgs.length d5, .slice a6 x.ae.length d6] 37 (w.alloc (.cells #[.int .i64 x.now, .int .i64 x.events, .int .i64 x.chain.af, .slice a3 x.chain.ids.length d3, .slice a4 x.nodes.length d4, .slice a5 x.msgs.length d5, .slice a6 x.ae.length d6] 37)) w.heap.size := aH (Nat.zero_le _)
 have z3 := aj.at bX 3 _ rfl
 simp only [ga, gb, gc] at z3
 have HB := yh nb
 clear nb bX R4 h
 show Calls _ _ _ _ fun e w' => e = .returned (.bool (decide (1 ≤ id) && decide (id ≤ (x.nodes.length : Int)))) ∧ _
 cases d1 : decide (1 ≤ id)
 ·
  go_enter Tryz.func117, Tryz.ntmps117
  go_wp2_with fail
  go_ret
  exact ⟨rfl, uh HB⟩
 cases d2 : decide (id ≤ (x.nodes.length : Int)) <;>
 ·
  go_enter Tryz.func117, Tryz.ntmps117
  go_wp2_with fail
  go_ret
  exact ⟨rfl, uh HB⟩
theorem mL (cs : List Value) (x : bH) (id : Int) (w : World) (h : ab.aD.Reads w cs x) :
  Calls Tryz.prog 229 #[.agg cs.toArray, .int .i64 id] w fun e w' => e = .returned (.bool (decide (0 ≤ bL x.ids id))) ∧ Below w.heap.size w w' := by
 obtain ⟨a3, d3, rfl, R3⟩ := bP h
 have nb : Below w.heap.size w (w.alloc (.cells #[.int .i64 x.af, .slice a3 x.ids.length d3] 32)) := (Below.refl _ _).alloc (Nat.le_refl _) _
 have bX : aj 0 #[.int .i64 x.af, .slice a3 x.ids.length d3] 32 (w.alloc (.cells #[.int .i64 x.af, .slice a3 x.ids.length d3] 32)) w.heap.size := aH (Nat.zero_le _)
 have z1 := aj.at bX 1 _ rfl
 simp only [ga, gb, gc] at z1
 have HL := yh (j9 _ x.ids id _ (R3.ag nb))
 have HB := yh nb
 clear nb bX R3 h
 generalize decide (0 ≤ bL x.ids id) = c at *
 go_enter Tryz.func229, Tryz.ntmps229
 go_wp2_with fail
 refine (uh HL).mono ?_
 generalize w.alloc (.cells #[.int .i64 x.af, .slice a3 x.ids.length d3] 32) = w1 at *
 rintro e w2 ⟨rfl, h2⟩
 subst w2
 clear HL z1
 go_wp2_with fail
 go_ret
 exact ⟨rfl, uh HB⟩
theorem mm (k : Nat) (cs : List Value) (x : bz) (w : World) (h : ab.ax.Reads w cs x) (hk : k ≤ 1000) :
  Calls Tryz.prog 181 #[.int .i64 (k : Int), .agg cs.toArray] w fun e w' => e = .returned (.int .i64 (if x.id ≠ (k : Int) + 1 then 1 else 0)) ∧ Below w.heap.size w w' := by
 obtain ⟨a4, d4, rfl, R4⟩ := bK h
 have nb : Below w.heap.size w (w.alloc (.cells #[.int .i64 x.id, .bool x.up, .int .i64 x.af, .int .i64 x.az, .slice a4 x.writes.length d4, .int .i64 x.sure, .int .i64 x.clean] 79)) := (Below.refl _ _).alloc (Nat.le_refl _) _
 have HB := yh nb
 clear nb R4 h
 by_cases hd : x.id = (k : Int) + 1
 ·
  rw [if_neg (by simpa using hd)]
  have hb : (x.id != (k : Int) + 1) = false := by simpa using hd
  have HD := yh hd
  clear hd
  generalize x.id = i at *
  go_enter Tryz.func181, Tryz.ntmps181
  go_wp2_with fail
  go_ret
  exact ⟨rfl, uh HB⟩
 rw [if_pos hd]
 have hb : (x.id != (k : Int) + 1) = true := by simpa using hd
 clear hd
 go_enter Tryz.func181, Tryz.ntmps181
 go_wp2_with fail
 go_ret
 exact ⟨rfl, uh HB⟩
def rM (a q b : Bool) : Int := cond a 7 (cond q (cond b 7 0) 0)
def eV (c : bH) (n : bz) : Int := if c.af < n.af ∨ (n.up = true ∧ 0 ≤ bL c.ids n.id ∧ n.af ≠ c.af) then 7 else 0
theorem lB (us : List Value) (c : bH) (cs : List Value) (x : bz) (w : World) (hc : ab.aD.Reads w us c) (h : ab.ax.Reads w cs x) :
  Calls Tryz.prog 182 #[.agg us.toArray, .agg cs.toArray] w fun e w' => e = .returned (.int .i64 (eV c x)) ∧ Below w.heap.size w w' := by
 obtain ⟨a3, d3, rfl, -⟩ := bP hc
 obtain ⟨a4, d4, rfl, -⟩ := bK h
 have nb1 : Below w.heap.size w (w.alloc (.cells #[.int .i64 c.af, .slice a3 c.ids.length d3] 32)) := (Below.refl _ _).alloc (Nat.le_refl _) _
 have nb : Below w.heap.size w ((w.alloc (.cells #[.int .i64 c.af, .slice a3 c.ids.length d3] 32)).alloc (.cells #[.int .i64 x.id, .bool x.up, .int .i64 x.af, .int .i64 x.az, .slice a4 x.writes.length d4, .int .i64 x.sure, .int .i64 x.clean] 79)) := nb1.alloc (by simp) _
 have bC : aj 0 #[.int .i64 c.af, .slice a3 c.ids.length d3] 32 ((w.alloc (.cells #[.int .i64 c.af, .slice a3 c.ids.length d3] 32)).alloc (.cells #[.int .i64 x.id, .bool x.up, .int .i64 x.af, .int .i64 x.az, .slice a4 x.writes.length d4, .int .i64 x.sure, .int .i64 x.clean] 79)) w.heap.size := (aH (Nat.zero_le _)).grow _
 have bX : aj 0 #[.int .i64 x.id, .bool x.up, .int .i64 x.af, .int .i64 x.az, .slice a4 x.writes.length d4, .int .i64 x.sure, .int .i64 x.clean] 79 ((w.alloc (.cells #[.int .i64 c.af, .slice a3 c.ids.length d3] 32)).alloc (.cells #[.int .i64 x.id, .bool x.up, .int .i64 x.af, .int .i64 x.az, .slice a4 x.writes.length d4, .int .i64 x.sure, .int .i64 x.clean] 79)) (w.heap.size + 1) := bg (Nat.zero_le _) (by simp)
 have HL := yh (mL _ c x.id _ (hc.ag nb))
 have HC := yh bC
 have HX := yh bX
 have HB := yh nb
 have hE : eV c x = rM (decide (c.af < x.af)) (x.up && decide (0 ≤ bL c.ids x.id)) (x.af != c.af) := by
  unfold eV rM
  by_cases e1 : c.af < x.af
  ·
   simp [e1]
  by_cases e2 : (x.up && decide (0 ≤ bL c.ids x.id)) = true
  ·
   simp only [Bool.and_eq_true, decide_eq_true_eq] at e2
   simp [e1, e2.1, e2.2]
  have e3 : ¬ (x.up = true ∧ 0 ≤ bL c.ids x.id ∧ x.af ≠ c.af) := fun q => e2 (by simp [q.1, q.2.1])
  simp only [e1, e3, e2]
  simp
 rw [hE]
 clear hE nb1 nb bC bX hc h
 generalize hu : x.up = u at *
 clear hu
 generalize decide (0 ≤ bL c.ids x.id) = q at *
 cases u
 ·
  simp only [Bool.false_and]
  have z0 := aj.at (uh HC) 0 _ rfl
  have y0 := aj.at (uh HX) 0 _ rfl
  have y1 := aj.at (uh HX) 1 _ rfl
  have y2 := aj.at (uh HX) 2 _ rfl
  simp only [ga, gb, gc] at z0 y0 y1 y2
  cases d1 : decide (c.af < x.af)
  ·
   go_enter Tryz.func182, Tryz.ntmps182
   go_wp2_with fail
   go_ret
   exact ⟨rfl, uh HB⟩
  go_enter Tryz.func182, Tryz.ntmps182
  go_wp2_with fail
  go_ret
  exact ⟨rfl, uh HB⟩
 simp only [Bool.true_and]
 go_enter Tryz.func182, Tryz.ntmps182
 go_upto_region 1 with fail
 generalize (w.alloc (.cells #[.int .i64 c.af, .slice a3 c.ids.length d3] 32)).alloc (.cells #[.int .i64 x.id, .bool true, .int .i64 x.af, .int .i64 x.az, .slice a4 x.writes.length d4, .int .i64 x.sure, .int .i64 x.clean] 79) = w1 at *
 have z0 := aj.at (uh HC) 0 _ rfl
 have z1 := aj.at (uh HC) 1 _ rfl
 have y0 := aj.at (uh HX) 0 _ rfl
 have y1 := aj.at (uh HX) 1 _ rfl
 simp only [ga, gb, gc] at z0 z1 y0 y1
 go_wp2_with fail
 refine (uh HL).mono ?_
 rintro e w2 ⟨rfl, hb⟩
 replace HC := yh ((uh HC).au hb)
 replace HX := yh ((uh HX).au hb)
 replace HB := bZ HB hb
 clear hb HL z0 z1 y0 y1
 have z0 := aj.at (uh HC) 0 _ rfl
 have y2 := aj.at (uh HX) 2 _ rfl
 simp only [ga, gb, gc] at z0 y2
 cases d1 : decide (c.af < x.af)
 ·
  cases q
  ·
   go_wp2_with fail
   go_ret
   exact ⟨by (try rw [d1]); rfl, uh HB⟩
  ·
   cases d2 : (x.af != c.af)
   ·
    go_wp2_with fail
    go_ret
    exact ⟨by (try rw [d1]); (try rw [d2]); rfl, uh HB⟩
   ·
    go_wp2_with fail
    go_ret
    exact ⟨by (try rw [d1]); (try rw [d2]); rfl, uh HB⟩
 ·
  go_wp2_with fail
  go_ret
  exact ⟨by (try rw [d1]); rfl, uh HB⟩
theorem lF (c : bH) {xs : List bz} {k : Nat} (hk : k < xs.length) : ch c k (xs.drop k) = if aS xs[k] ≠ 0 then aS xs[k] else if (if xs[k].id ≠ (k : Int) + 1 then (1 : Int) else 0) ≠ 0 then (if xs[k].id ≠ (k : Int) + 1 then (1 : Int) else 0) else if eV c xs[k] ≠ 0 then eV c xs[k] else ch c (k + 1) (xs.drop (k + 1)) := by
 rw [List.drop_eq_getElem_cons hk, ch]
 by_cases h1 : aS xs[k] ≠ 0
 ·
  rw [if_pos h1, if_pos h1]
 rw [if_neg h1, if_neg h1]
 by_cases h2 : xs[k].id ≠ (k : Int) + 1
 ·
  rw [if_pos h2, if_pos h2, if_pos (show ((1 : Int) ≠ 0) by omega)]
 rw [if_neg h2, if_neg h2, if_neg (show ¬ ((0 : Int) ≠ 0) by omega)]
 by_cases h3 : c.af < xs[k].af ∨ (xs[k].up = true ∧ 0 ≤ bL c.ids xs[k].id ∧ xs[k].af ≠ c.af)
 ·
  have hE : eV c xs[k] = 7 := if_pos h3
  rw [if_pos h3, hE, if_pos (show ((7 : Int) ≠ 0) by omega)]
 have hE : eV c xs[k] = 0 := if_neg h3
 rw [if_neg h3, hE, if_neg (show ¬ ((0 : Int) ≠ 0) by omega)]
def eh (c : bH) (ns : List bz) : Int := if 1 ≤ ns.length ∧ ns.length ≤ 5 then ch c 0 ns else 2
theorem mg (us : List Value) (c : bH) (v : Value) (ns : List bz) (w : World) (hc : ab.aD.Reads w us c) (h : (ab.sl ab.ax).Reads w [v] ns) :
  Calls Tryz.prog 115 #[.agg us.toArray, v] w fun e w' => e = .returned (.int .i64 (eh c ns)) ∧ Below w.heap.size w w' := by
 obtain ⟨a3, d3, rfl, -⟩ := bP hc
 obtain ⟨ao, cap, rfl⟩ := aE h
 have hbig := h.dK
 have nb : Below w.heap.size w (w.alloc (.cells #[.int .i64 c.af, .slice a3 c.ids.length d3] 32)) := (Below.refl _ _).alloc (Nat.le_refl _) _
 have HCH : Hid (aj 0 #[.int .i64 c.af, .slice a3 c.ids.length d3] 32 (w.alloc (.cells #[.int .i64 c.af, .slice a3 c.ids.length d3] 32)) w.heap.size) := aH (Nat.zero_le _)
 have HB := yh nb
 have HK := yh hc
 have H := yh h
 have HP : Hid (eh c ns = if 1 ≤ ns.length ∧ ns.length ≤ 5 then ch c 0 (ns.drop 0) else 2) := rfl
 clear nb hc h
 generalize eh c ns = r at *
 go_enter Tryz.func115, Tryz.ntmps115
 go_wp2_with fail
 go_step3
 go_wp2_with fail
 generalize w.alloc (.cells #[.int .i64 c.af, .slice a3 c.ids.length d3] 32) = w0 at *
 refine (gp (ns.length : Int) w0).mono ?_
 rintro e w1 ⟨rfl, h1⟩
 subst w1
 cases d1 : (decide (1 ≤ (ns.length : Int)) && decide ((ns.length : Int) ≤ 5))
 ·
  replace HP := yh ((uh HP).trans (if_neg (by intro q; rw [decide_eq_true (by omega), decide_eq_true (by omega)] at d1; simp at d1)))
  clear d1
  go_wp2_with fail
  first | go_ret | (rw [Exit.noGoto_ret]; go_ret)
  exact ⟨by rw [uh HP]; rfl, uh HB⟩
 have hn : 1 ≤ ns.length ∧ ns.length ≤ 5 := by simp at d1; omega
 replace HP := yh ((uh HP).trans (if_pos hn))
 have hn5 := hn.2
 clear d1 hn
 go_wp2_with fail
 go_step3
 go_wp2_with fail
 go_loopw [5, 16] (fun f i wr => ∃ k : Nat, k ≤ ns.length ∧ f = .int .i64 0 ∧ i = .int .i64 k ∧ r = ch c k (ns.drop k) ∧ Below w.heap.size w wr ∧ aj 0 #[.int .i64 c.af, .slice a3 c.ids.length d3] 32 wr w.heap.size) (fun _ i _ => ns.length - (intOf i).toNat)
 case atStart => exact ⟨0, Nat.zero_le _, rfl, rfl, uh HP, uh HB, uh HCH⟩
 case round =>
  obtain ⟨k, hk, rfl, rfl, hF, hB, hC⟩ := hrel
  clear HP HB HCH
  by_cases hlt : k < ns.length
  ·
   obtain ⟨b, off, rfl, hbl⟩ := ab.aI (uh H) (by omega)
   obtain ⟨row, hcl, hr⟩ := ab.bm (uh H) hlt
   replace hr := hr.ag hB
   rw [lF c hlt] at hF
   have hdl : decide ((k : Int) < (ns.length : Int)) = true := by simp; omega
   obtain ⟨a4, d4, rfl, -⟩ := bK hr
   have c0 : wr.cell? ⟨b, off + k * 7, none⟩ = some (.int .i64 (ns[k]).id) := (hB.cell (p := ⟨b, off + k * 7, none⟩) hbl).trans (hcl 0 (by decide))
   have c1 : wr.cell? ⟨b, off + k * 7 + 1, none⟩ = some (.bool (ns[k]).up) := (hB.cell (p := ⟨b, off + k * 7 + 1, none⟩) hbl).trans (hcl 1 (by decide))
   have c2 : wr.cell? ⟨b, off + k * 7 + 2, none⟩ = some (.int .i64 (ns[k]).af) := (hB.cell (p := ⟨b, off + k * 7 + 2, none⟩) hbl).trans (hcl 2 (by decide))
   have c3 : wr.cell? ⟨b, off + k * 7 + 3, none⟩ = some (.int .i64 (ns[k]).az) := (hB.cell (p := ⟨b, off + k * 7 + 3, none⟩) hbl).trans (hcl 3 (by decide))
   have c4 : wr.cell? ⟨b, off + k * 7 + 4, none⟩ = some (.slice a4 (ns[k]).writes.length d4) := (hB.cell (p := ⟨b, off + k * 7 + 4, none⟩) hbl).trans (hcl 4 (by decide))
   have c5 : wr.cell? ⟨b, off + k * 7 + 5, none⟩ = some (.int .i64 (ns[k]).sure) := (hB.cell (p := ⟨b, off + k * 7 + 5, none⟩) hbl).trans (hcl 5 (by decide))
   have c6 : wr.cell? ⟨b, off + k * 7 + 6, none⟩ = some (.int .i64 (ns[k]).clean) := (hB.cell (p := ⟨b, off + k * 7 + 6, none⟩) hbl).trans (hcl 6 (by decide))
   have HF := yh hF
   have HR := yh hr
   have HB := yh hB
   have HC := yh hC
   clear hF hr hB hcl hC
   generalize hx : ns[k] = x at *
   clear hx
   have nb : Below wr.heap.size wr (wr.alloc (.cells #[.int .i64 x.id, .bool x.up, .int .i64 x.af, .int .i64 x.az, .slice a4 x.writes.length d4, .int .i64 x.sure, .int .i64 x.clean] 79)) := (Below.refl _ _).alloc (Nat.le_refl _) _
   have HX1 : Hid (aj 0 #[.int .i64 x.id, .bool x.up, .int .i64 x.af, .int .i64 x.az, .slice a4 x.writes.length d4, .int .i64 x.sure, .int .i64 x.clean] 79 (wr.alloc (.cells #[.int .i64 x.id, .bool x.up, .int .i64 x.af, .int .i64 x.az, .slice a4 x.writes.length d4, .int .i64 x.sure, .int .i64 x.clean] 79)) wr.heap.size) := aH (Nat.zero_le _)
   have HC1 := yh ((uh HC).au nb)
   have HR1 := yh ((uh HR).ag nb)
   have HK1 := yh ((uh HK).ag ((uh HB).trans (nb.mono (uh HB).size)))
   have HB1 := yh ((uh HB).trans (nb.mono (uh HB).size))
   clear nb HR HC HB
   go_upto_region 7 with fail
   generalize wr.alloc (.cells #[.int .i64 x.id, .bool x.up, .int .i64 x.af, .int .i64 x.az, .slice a4 x.writes.length d4, .int .i64 x.sure, .int .i64 x.clean] 79) = W1 at *
   clear c0 c1 c2 c3 c4 c5 c6
   have L1 : Hid (∀ W, Below W1.heap.size W1 W → Calls Tryz.prog 180 #[.agg #[.int .i64 x.id, .bool x.up, .int .i64 x.af, .int .i64 x.az, .slice a4 x.writes.length d4, .int .i64 x.sure, .int .i64 x.clean]] W fun e w' => e = .returned (.int .i64 (aS x)) ∧ Below W.heap.size W w') := fun W hW => jK _ x _ ((uh HR1).ag hW)
   have L2 : Hid (∀ W, Below W1.heap.size W1 W → Calls Tryz.prog 181 #[.int .i64 (k : Int), .agg #[.int .i64 x.id, .bool x.up, .int .i64 x.af, .int .i64 x.az, .slice a4 x.writes.length d4, .int .i64 x.sure, .int .i64 x.clean]] W fun e w' => e = .returned (.int .i64 (if x.id ≠ (k : Int) + 1 then (1 : Int) else 0)) ∧ Below W.heap.size W w') := fun W hW => mm k _ x _ ((uh HR1).ag hW) (by omega)
   have L3 : Hid (∀ W, Below W1.heap.size W1 W → Calls Tryz.prog 182 #[.agg #[.int .i64 c.af, .slice a3 c.ids.length d3], .agg #[.int .i64 x.id, .bool x.up, .int .i64 x.af, .int .i64 x.az, .slice a4 x.writes.length d4, .int .i64 x.sure, .int .i64 x.clean]] W fun e w' => e = .returned (.int .i64 (eV c x)) ∧ Below W.heap.size W w') := fun W hW => lB _ c _ x _ ((uh HK1).ag hW) ((uh HR1).ag hW)
   generalize aS x = c1 at *
   generalize (if x.id ≠ (k : Int) + 1 then (1 : Int) else 0) = c2 at *
   generalize eV c x = c3 at *
   refine wZz (fun w' => Below W1.heap.size W1 w') ((Below.refl _ _).drew) (fun zq => ?_)
   generalize W1.drew = wD at zq ⊢
   refine tkJ 0 (v := ?vn0) ?hn0 zq ?rn0
   case hn0 =>
    intro wS hSw
    have bS := (uh HX1).au hSw
    have q0 := aj.at bS 0 _ rfl
    have q1 := aj.at bS 1 _ rfl
    have q2 := aj.at bS 2 _ rfl
    have q3 := aj.at bS 3 _ rfl
    have q4 := aj.at bS 4 _ rfl
    have q5 := aj.at bS 5 _ rfl
    have q6 := aj.at bS 6 _ rfl
    simp only [ga, gb, gc] at q0 q1 q2 q3 q4 q5 q6
    clear bS hSw
    exact fZ
   refine tkH 2 zq ?_
   refine tkJ 3 (v := ?vn3) ?hn3 zq ?rn3
   case hn3 =>
    intro wS hSw
    have bS := (uh HX1).au hSw
    have q0 := aj.at bS 0 _ rfl
    have q1 := aj.at bS 1 _ rfl
    have q2 := aj.at bS 2 _ rfl
    have q3 := aj.at bS 3 _ rfl
    have q4 := aj.at bS 4 _ rfl
    have q5 := aj.at bS 5 _ rfl
    have q6 := aj.at bS 6 _ rfl
    simp only [ga, gb, gc] at q0 q1 q2 q3 q4 q5 q6
    clear bS hSw
    exact fZ
   refine tkJ 5 (v := ?vn5) ?hn5 zq ?rn5
   case hn5 =>
    intro wS hSw
    have bS := (uh HC1).au hSw
    have q0 := aj.at bS 0 _ rfl
    have q1 := aj.at bS 1 _ rfl
    simp only [ga, gb, gc] at q0 q1
    clear bS hSw
    exact fZ
   refine tkJ 6 (v := ?vn6) ?hn6 zq ?rn6
   case hn6 =>
    intro wS hSw
    have bS := (uh HX1).au hSw
    have q0 := aj.at bS 0 _ rfl
    have q1 := aj.at bS 1 _ rfl
    have q2 := aj.at bS 2 _ rfl
    have q3 := aj.at bS 3 _ rfl
    have q4 := aj.at bS 4 _ rfl
    have q5 := aj.at bS 5 _ rfl
    have q6 := aj.at bS 6 _ rfl
    simp only [ga, gb, gc] at q0 q1 q2 q3 q4 q5 q6
    clear bS hSw
    exact fZ
   refine tkH 9 zq ?_
   refine rdH 1 (fun K hK => ?_)
   go_simp
   go_at_call 180
   refine (uh L1 _ zq).mono ?_
   rintro e u1 ⟨rfl, hb1⟩
   have hz1 := hb1.size
   try go_wp2_with fail
   refine hK.out _ _ (zq.trans (hb1.mono zq.size)) (fun zq => ?_)
   clear hK K
   try simp only [Act.put, pz, py, px]
   refine rdH 4 (fun K hK => ?_)
   go_simp
   go_at_call 181
   refine (uh L2 _ zq).mono ?_
   rintro e u2 ⟨rfl, hb2⟩
   have hz2 := hb2.size
   try go_wp2_with fail
   refine hK.out _ _ (zq.trans (hb2.mono zq.size)) (fun zq => ?_)
   clear hK K
   try simp only [Act.put, pz, py, px]
   refine rdH 7 (fun K hK => ?_)
   go_simp
   go_at_call 182
   refine (uh L3 _ zq).mono ?_
   rintro e u3 ⟨rfl, hb3⟩
   have hz3 := hb3.size
   try go_wp2_with fail
   refine hK.out _ _ (zq.trans (hb3.mono zq.size)) (fun zq => ?_)
   clear hK K
   try simp only [Act.put, pz, py, px]
   refine tkH 8 zq ?_
   refine dZ ?_
   have HB5 := yh ((uh HB1).trans (zq.mono (uh HB1).size))
   replace HCH := yh ((uh HC1).au zq)
   clear zq HX1 HC1 HR1 HK1 hb1 hb2 hb3 hz1 hz2 hz3 HB1
   clear L1 L2 L3
   have x0 : ∀ w : World, (Instr.index 208 (.agg #[.int .i64 c1, .int .i64 c2, .int .i64 c3]) (.int .i64 0)).run Tryz.prog w = .ok (.int .i64 c1) w := fun _ => by kernel_rfl
   have x1 : ∀ w : World, (Instr.index 208 (.agg #[.int .i64 c1, .int .i64 c2, .int .i64 c3]) (.int .i64 1)).run Tryz.prog w = .ok (.int .i64 c2) w := fun _ => by kernel_rfl
   have x2 : ∀ w : World, (Instr.index 208 (.agg #[.int .i64 c1, .int .i64 c2, .int .i64 c3]) (.int .i64 2)).run Tryz.prog w = .ok (.int .i64 c3) w := fun _ => by kernel_rfl
   by_cases e1 : c1 = 0
   ·
    subst e1
    by_cases e2 : c2 = 0
    ·
     subst e2
     by_cases e3 : c3 = 0
     ·
      subst e3
      replace HF := yh ((uh HF).trans (by rw [if_neg (by decide), if_neg (by decide), if_neg (by decide)]))
      go_wp2_with fail
      refine wp_loop_rounds 5 ?_
      rw [rounds_succ]
      go_wp2_with fail
      rw [rounds_succ]
      go_wp2_with fail
      rw [rounds_succ]
      go_wp2_with fail
      rw [rounds_succ]
      go_wp2_with fail
      go_roundw
      case rel => exact ⟨k + 1, by omega, rfl, by go_num, uh HF, uh HB5, uh HCH⟩
      case measure => simp [intOf]; omega
     have hd : (c3 != 0) = true := by simpa using e3
     replace HF := yh ((uh HF).trans (by rw [if_neg (by decide), if_neg (by decide), if_pos e3]))
     clear e3
     go_wp2_with fail
     refine wp_loop_rounds 5 ?_
     rw [rounds_succ]
     go_wp2_with fail
     rw [rounds_succ]
     go_wp2_with fail
     rw [rounds_succ]
     go_wp2_with fail
     first | go_ret | (rw [Exit.noGoto_ret]; go_ret)
     exact ⟨by rw [uh HF]; rfl, uh HB5⟩
    have hd : (c2 != 0) = true := by simpa using e2
    replace HF := yh ((uh HF).trans (by rw [if_neg (by decide), if_pos e2]))
    clear e2
    go_wp2_with fail
    refine wp_loop_rounds 5 ?_
    rw [rounds_succ]
    go_wp2_with fail
    rw [rounds_succ]
    go_wp2_with fail
    first | go_ret | (rw [Exit.noGoto_ret]; go_ret)
    exact ⟨by rw [uh HF]; rfl, uh HB5⟩
   have hd : (c1 != 0) = true := by simpa using e1
   replace HF := yh ((uh HF).trans (if_pos e1))
   clear e1
   go_wp2_with fail
   refine wp_loop_rounds 5 ?_
   rw [rounds_succ]
   go_wp2_with fail
   first | go_ret | (rw [Exit.noGoto_ret]; go_ret)
   exact ⟨by rw [uh HF]; rfl, uh HB5⟩
  obtain rfl : k = ns.length := by omega
  rw [List.drop_length] at hF
  have hdl : decide ((ns.length : Int) < (ns.length : Int)) = false := by simp
  have HF := yh hF
  have HB := yh hB
  clear hF hB hC
  go_wp2_with fail
  first | go_ret | (rw [Exit.noGoto_ret]; go_ret)
  exact ⟨by rw [uh HF]; rfl, uh HB⟩
end Go.Proofs.YtecagllmonckgaaGreat
