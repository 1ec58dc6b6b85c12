/-
  Texts of this proof in one: ImplTell, VecOf, ImplDeed, ListC, ImplWOf, ImplWOfA, LayOpen, ImplStory.
  Their conditions stand in their theorems.
-/
import Derived.Test.YtecagllmonckgaaGreatIx06
import Derived.Deep.RegionHeld3
import Derived.Test.YtecagllmonckgaaGreatIx00
import Derived.Test.YtecagllmonckgaaGreatChecked
import Derived.Test.YtecagllmonckgaaGreatIx01
import Derived.Test.YtecagllmonckgaaGreatIx05
import Derived.WalkSmall
import Derived.Outline
import Derived.ProofKit
import Derived.OpenShut
import Derived.Deep.Slices
import Derived.Carry
set_option maxRecDepth 100000
set_option maxHeartbeats 4000000
namespace Go.Proofs.YtecagllmonckgaaGreat
open Go.RowKit
theorem Ext.fP {S : Nat → Prop} {a b : World} (h : Ext S a b) : Ext S a b.drew := ⟨h.os, h.tape, h.output, h.size, h.block⟩
theorem Ext.jc {S : Nat → Prop} {a b : World} (h : Ext S a b) (o : Obj) : Ext S a (b.alloc o) := h.trans (bd ((Below.refl _ _).alloc (Nat.le_refl _) o) S)
theorem lg (k i : Int) (u1 : Option Addr) (u2 u3 : Nat) (s q : Int) (w : World) :
  Calls Tryz.prog 275 #[.agg #[.int .i64 k, .int .i64 i, .slice u1 u2 u3, .int .i64 s, .int .i64 q]] w fun e w' => e = .returned (tick s q) ∧ Below w.heap.size w w' := by
 have HB : Hid (∀ o o', Below w.heap.size w ((w.alloc o).alloc o')) := fun o o' => ((Below.refl _ _).alloc (Nat.le_refl _) _).alloc (by simp) _
 go_enter Tryz.func275, Tryz.ntmps275
 go_wp2_with fail
 refine bodyPost_ret (v := .agg #[.int .i64 s, .int .i64 q]) (by simp [results, Tryz.results275, go_sem]) rfl ?_
 exact ⟨rfl, uh HB _ _⟩
theorem mn {w : World} {p mb N : Nat} {ws : List ai} {v : Value} {rows : List (List Value)} {bls : List (List Nat)} (h : Told w p mb N ws v rows bls) {cs : List Value} {x : ai} {bl : List Nat} (hl : ad.ag.br w cs x bl) (hX : ∀ b ∈ bl, N ≤ b ∧ ∀ o, w.frozen? ⟨b, o, none⟩ = false) (hnd : bl.Nodup) (hNw : N ≤ w.heap.size) (hf : wF x = 0) (hn : ws.length < 1000) :
  Calls Tryz.prog 253 #[.pointer (some ⟨p, 0, none⟩), .agg cs.toArray] w fun e w' => e = .returned (.tuple #[]) ∧ (∃ v' rows' bls', Told w' p mb w'.heap.size (ws ++ [x]) v' rows' bls') ∧ Below mb w w' := by
 obtain ⟨a2, d2, b2, rfl, rfl, -, -, -, k3, k4⟩ := bO.1 hl
 have nb : Below w.heap.size w (w.alloc (.cells #[.int .i64 x.kind, .int .i64 x.id, .slice a2 x.vec.length d2, .int .i64 x.aa, .int .i64 x.seq] 142)) := (Below.refl _ _).alloc (Nat.le_refl _) _
 have hQ0 : al 0 #[.int .i64 x.kind, .int .i64 x.id, .slice a2 x.vec.length d2, .int .i64 x.aa, .int .i64 x.seq] 142 (w.alloc (.cells #[.int .i64 x.kind, .int .i64 x.id, .slice a2 x.vec.length d2, .int .i64 x.aa, .int .i64 x.seq] 142)) w.heap.size := aK (Nat.zero_le _)
 have hT0 := h.af nb
 have hL0 : ad.ag.br (w.alloc (.cells #[.int .i64 x.kind, .int .i64 x.id, .slice a2 x.vec.length d2, .int .i64 x.aa, .int .i64 x.seq] 142)) [.int .i64 x.kind, .int .i64 x.id, .slice a2 x.vec.length d2, .int .i64 x.aa, .int .i64 x.seq] x bl := ad.ag.ar hl fun b hb => nb.block b (ad.ag.lt hl b hb)
 have hpw := h.box.lt
 have hmp := h.lt
 have HNW := yh hNw
 have hF0 : ∀ b ∈ bl, ∀ o, (w.alloc (.cells #[.int .i64 x.kind, .int .i64 x.id, .slice a2 x.vec.length d2, .int .i64 x.aa, .int .i64 x.seq] 142)).frozen? ⟨b, o, none⟩ = false := fun b hb o => (bw (nb.block b (ad.ag.lt hl b hb)) o).trans ((hX b hb).2 o)
 have hBw : Below mb w (w.alloc (.cells #[.int .i64 x.kind, .int .i64 x.id, .slice a2 x.vec.length d2, .int .i64 x.aa, .int .i64 x.seq] 142)) := nb.mono (by omega)
 go_enter Tryz.func253, Tryz.ntmps253
 go_wp2_with fail
 generalize hW0 : w.alloc (.cells #[.int .i64 x.kind, .int .i64 x.id, .slice a2 x.vec.length d2, .int .i64 x.aa, .int .i64 x.seq] 142) = W0 at *
 clear hW0
 have hHD : Ext (fun c => c = p ∨ v.ownBlock = some c) W0 W0.drew := (Ext.refl _ _).fP
 have hTD : Told W0.drew p mb N ws v rows bls := hT0.af (bQ (Below.refl _ _) 1)
 have hLD : ad.ag.br W0.drew [.int .i64 x.kind, .int .i64 x.id, .slice a2 x.vec.length d2, .int .i64 x.aa, .int .i64 x.seq] x bl := hL0
 have hFD : ∀ b ∈ bl, ∀ o, W0.drew.frozen? ⟨b, o, none⟩ = false := hF0
 refine wZz (fun w' => Ext (fun c => c = p ∨ v.ownBlock = some c) W0 w') (Ext.refl _ _).fP (fun zq => ?_)
 generalize W0.drew = wD at zq hTD hLD hHD hFD ⊢
 refine tkH 0 zq ?_
 refine tkH 1 zq ?_
 refine tkH 2 zq ?_
 refine tkH 3 zq ?_
 refine tkJ 5 (v := ?va5) ?ha5 zq ?ra5
 case ha5 =>
  intro wS hSw
  have y0 : wS.cell? ⟨w.heap.size, 0, none⟩ = some (.int .i64 x.kind) := (hQ0.ext hSw (by first | (rintro (e | e); omega; have := h.jr _ e; have := uh HNW; omega) | (intro e; omega) | exact fun e => e)).at 0 _ rfl
  have y1 : wS.cell? ⟨w.heap.size, 1, none⟩ = some (.int .i64 x.id) := (hQ0.ext hSw (by first | (rintro (e | e); omega; have := h.jr _ e; have := uh HNW; omega) | (intro e; omega) | exact fun e => e)).at 1 _ rfl
  have y2 : wS.cell? ⟨w.heap.size, 2, none⟩ = some (.slice a2 x.vec.length d2) := (hQ0.ext hSw (by first | (rintro (e | e); omega; have := h.jr _ e; have := uh HNW; omega) | (intro e; omega) | exact fun e => e)).at 2 _ rfl
  have y3 : wS.cell? ⟨w.heap.size, 3, none⟩ = some (.int .i64 x.aa) := (hQ0.ext hSw (by first | (rintro (e | e); omega; have := h.jr _ e; have := uh HNW; omega) | (intro e; omega) | exact fun e => e)).at 3 _ rfl
  have y4 : wS.cell? ⟨w.heap.size, 4, none⟩ = some (.int .i64 x.seq) := (hQ0.ext hSw (by first | (rintro (e | e); omega; have := h.jr _ e; have := uh HNW; omega) | (intro e; omega) | exact fun e => e)).at 4 _ rfl
  clear hSw
  exact fZ
 refine (fun (REST : ?T) => ?main) ?rest
 case main =>
  refine wpAnyH_ready (rs := [4, 6]) (by kernel_rfl) (by simp) ?_
  refine AllReadyH.cons (o := ⟨some 11, .load 77 (.tmp 10), 77, "l05_session.go:65", #[⟨3, .data⟩], none⟩) rfl (fun K hK => ?first) (AllReadyH.cons (o := ⟨some 13, .buildSlice 77 1 #[(0, .tmp 12)], 77, "l05_session.go:65", #[⟨5, .data⟩], none⟩) rfl (fun K hK => ?second) AllReadyH.nil)
  case first =>
   have y0 : wD.cell? ⟨p, 0, none⟩ = some v := hTD.box.at 0 _ rfl
   have hp : p < wD.heap.size := hTD.box.lt
   have y1 : ∀ o, (wD.alloc o).cell? ⟨p, 0, none⟩ = some v := fun o => (World.cell?_alloc_lt _ _ _ hp).trans y0
   go_simp
   refine hK.out _ _ zq (fun zq => ?_)
   clear hK K
   try simp only [Act.put, pz, py, px]
   refine rdH 6 (fun K hK => ?_)
   go_simp
   refine hK.out _ _ (zq.jc _) (fun zq => ?_)
   clear hK K
   try simp only [Act.put, pz, py, px]
   exact REST
  case second =>
   go_simp
   refine hK.out _ _ (zq.jc _) (fun zq => ?_)
   clear hK K
   try simp only [Act.put, pz, py, px]
   refine rdH 4 (fun K hK => ?_)
   have y0 : wD.cell? ⟨p, 0, none⟩ = some v := hTD.box.at 0 _ rfl
   have hp : p < wD.heap.size := hTD.box.lt
   have y1 : ∀ o, (wD.alloc o).cell? ⟨p, 0, none⟩ = some v := fun o => (World.cell?_alloc_lt _ _ _ hp).trans y0
   go_simp
   refine hK.out _ _ zq (fun zq => ?_)
   clear hK K
   try simp only [Act.put, pz, py, px]
   exact REST
 case rest =>
 replace zq := zq.jc (.cells #[.int .i64 x.kind, .int .i64 x.id, .slice a2 x.vec.length d2, .int .i64 x.aa, .int .i64 x.seq] 142)
 refine rdH 7 (fun K hK => ?_)
 refine dV hTD.grow (row := [.int .i64 x.kind, .int .i64 x.id, .slice a2 x.vec.length d2, .int .i64 x.aa, .int .i64 x.seq]) (x := x) (bl := bl) hLD (fun c hc e => by have h1 := (hX c hc).1; have h2 := hTD.jr c e; omega) rfl _ _ rfl rfl rfl (by omega) (by have := hTD.box.lt; omega) ?_
 rintro g5 cp5 w5 hG5 hb5 hE5 hl5 hz5 hor5
 refine hK.out _ _ ((hHD.trans (hE5.mono (fun k _ h => Or.inr h)))) (fun zq => ?_)
 clear hK K
 try simp only [Act.put, pz, py, px]
 refine tkH 8 zq ?_
 refine tkH 9 zq ?_
 refine rdH 10 (fun K hK => ?_)
 have hb6 : al 0 (cG v mb (aB ws)) 237 w5 p := hTD.box.ext hE5 (fun e => by have := (hTD.grow.own.lt p e).1; omega)
 have c6 : w5.cell? ⟨p, 0, none⟩ = some v := hb6.at 0 _ rfl
 have f6 := hb6.soft 0
 have l6 := hb6.lt
 go_simp
 refine hK.out _ _ ((hHD.trans (hE5.mono (fun k _ h => Or.inr h))).setCell ⟨p, 0, none⟩ _ (Or.inl rfl)) (fun zq => ?_)
 clear hK K
 try simp only [Act.put, pz, py, px]
 refine dZ ?_
 have hnf : (bls ++ [bl]).flatten = bls.flatten ++ bl := by simp
 have hT6 := hTD.added hG5 hE5 (by
  intro b hb
  rw [hnf] at hb
  rcases List.mem_append.1 hb with hb | hb
  ·
   exact ⟨(hTD.sub b hb).1, fun o => (bw (hE5.block b (hTD.grow.sub_lt b hb) (fun e => hTD.grow.off b hb e)) o).trans ((hTD.sub b hb).2 o)⟩
  ·
   refine ⟨by have := (hX b hb).1; have := hTD.pN; omega, fun o => (bw (hE5.block b (ad.ag.lt hLD b hb) (fun e => by have := hTD.jr b e; have := (hX b hb).1; omega)) o).trans (hFD b hb o)⟩) (by
  rw [hnf, List.nodup_append]
  exact ⟨hTD.nd, hnd, fun b hb c hc e => by have := hTD.mh b hb; have := (hX c hc).1; omega⟩)
 have hQ6 : al 0 #[.int .i64 x.kind, .int .i64 x.id, .slice a2 x.vec.length d2, .int .i64 x.aa, .int .i64 x.seq] 142 (w5.setCell ⟨p, 0, none⟩ (.slice (some ⟨g5, 0, none⟩) (ws.length + 1) cp5)) w.heap.size := hQ0.ext zq (by rintro (e | e); omega; have := h.jr _ e; omega)
 have hB6 : Below mb w (w5.setCell ⟨p, 0, none⟩ (.slice (some ⟨g5, 0, none⟩) (ws.length + 1) cp5)) := hBw.trans (zq.below (by have := hBw.size; omega) (by rintro c hc (e | e); omega; have := (h.grow.own.lt c e).1; omega))
 clear zq hTD hLD hHD hFD hG5 hE5 hb5 hl5 hz5 hor5 hT0 hL0 hF0 hQ0 hBw h hl hX hnd nb hnf
 generalize w5.setCell ⟨p, 0, none⟩ (.slice (some ⟨g5, 0, none⟩) (ws.length + 1) cp5) = w6 at hT6 hQ6 hB6 ⊢
 have y0 : w6.cell? ⟨w.heap.size, 0, none⟩ = some (.int .i64 x.kind) := hQ6.at 0 _ rfl
 have y1 : w6.cell? ⟨w.heap.size, 1, none⟩ = some (.int .i64 x.id) := hQ6.at 1 _ rfl
 have y2 : w6.cell? ⟨w.heap.size, 2, none⟩ = some (.slice a2 x.vec.length d2) := hQ6.at 2 _ rfl
 have y3 : w6.cell? ⟨w.heap.size, 3, none⟩ = some (.int .i64 x.aa) := hQ6.at 3 _ rfl
 have y4 : w6.cell? ⟨w.heap.size, 4, none⟩ = some (.int .i64 x.seq) := hQ6.at 4 _ rfl
 go_wp2_with fail
 clear y0 y1 y2 y3 y4
 refine (lg _ _ _ _ _ _ _ w6).mono ?_
 rintro e w7 ⟨rfl, hb7⟩
 have nb8 : Below w6.heap.size w6 (w7.alloc (.cells #[.int .i64 x.aa, .int .i64 x.seq] 117)) := hb7.alloc hb7.size _
 have hT8 := hT6.af nb8
 have hQ8 := hQ6.ar nb8
 have hB8 := hB6.trans (nb8.mono (by have := hT6.lt; have := hT6.box.lt; omega))
 have hR8 : al 0 #[.int .i64 x.aa, .int .i64 x.seq] 117 (w7.alloc (.cells #[.int .i64 x.aa, .int .i64 x.seq] 117)) w7.heap.size := aK (Nat.zero_le _)
 have hrp : mb < w7.heap.size := by have := hT6.lt; have := hT6.box.lt; have := hb7.size; omega
 simp only [tick]
 go_wp2_with fail
 clear hT6 hQ6 hB6 hb7 nb8
 generalize w7.alloc (.cells #[.int .i64 x.aa, .int .i64 x.seq] 117) = w8 at *
 generalize w7.heap.size = r at *
 have hT9 : bP w8.drew p mb _ ws.length (ws ++ [x]) (aB ws) (fun s q => bf ws s q) (.slice (some ⟨g5, 0, none⟩) (ws.length + 1) cp5) (rows ++ [[.int .i64 x.kind, .int .i64 x.id, .slice a2 x.vec.length d2, .int .i64 x.aa, .int .i64 x.seq]]) (bls ++ [bl]) := hT8.af (bQ (Below.refl _ _) 1)
 have hQ9 : al 0 #[.int .i64 x.kind, .int .i64 x.id, .slice a2 x.vec.length d2, .int .i64 x.aa, .int .i64 x.seq] 142 w8.drew w.heap.size := hQ8
 have hR9 : al 0 #[.int .i64 x.aa, .int .i64 x.seq] 117 w8.drew r := hR8
 have hB9 : Below mb w w8.drew := hB8.drew
 obtain ⟨bs, hbs⟩ : ∃ bs, bs = decide (bf ws x.aa x.seq ≠ 0) := ⟨_, rfl⟩
 have HBS := yh hbs
 clear hbs
 refine wZz (fun w' => Ext (fun _ => False) w8 w') (Ext.refl _ _).fP (fun zq => ?_)
 generalize w8.drew = w9 at zq hT9 hQ9 hR9 hB9 ⊢
 refine tkH 0 zq ?_
 refine tkH 1 zq ?_
 refine tkH 2 zq ?_
 refine tkJ 3 (v := ?vc3) ?hc3 zq ?rc3
 case hc3 =>
  intro wS hSw
  have z1 : wS.cell? ⟨p, 1, none⟩ = some (.map (some mb)) := (hT8.box.ext hSw (fun e => e)).at 1 _ rfl
  have k0 : wS.cell? ⟨r, 0, none⟩ = some (.int .i64 x.aa) := (hR8.ext hSw (fun e => e)).at 0 _ rfl
  have k1 : wS.cell? ⟨r, 1, none⟩ = some (.int .i64 x.seq) := (hR8.ext hSw (fun e => e)).at 1 _ rfl
  clear hSw
  exact fZ
 refine tkJ 4 (v := ?vc4) ?hc4 zq ?rc4
 case hc4 =>
  intro wS hSw
  have z1 : wS.cell? ⟨p, 1, none⟩ = some (.map (some mb)) := (hT8.box.ext hSw (fun e => e)).at 1 _ rfl
  have k0 : wS.cell? ⟨r, 0, none⟩ = some (.int .i64 x.aa) := (hR8.ext hSw (fun e => e)).at 0 _ rfl
  have k1 : wS.cell? ⟨r, 1, none⟩ = some (.int .i64 x.seq) := (hR8.ext hSw (fun e => e)).at 1 _ rfl
  clear hSw
  exact fZ
 refine tkJ 5 (v := ?vc5) ?hc5 zq ?rc5
 case hc5 =>
  intro wS hSw
  have hlk := (hT8.seen.ext hSw (fun e => e)).look k3 k4
  simp only [tick] at hlk
  rw [← uh HBS] at hlk
  clear hSw
  exact fZ
 refine tkH 6 zq ?_
 refine tkH 7 zq ?_
 refine tkH 8 zq ?_
 refine tkH 9 zq ?_
 refine tkH 10 zq ?_
 refine dZ ?_
 clear zq hT8 hQ8 hR8 hB8
 obtain ⟨b1, b9, q1, q9⟩ := iV hf
 have hs9 : x.aa.toNat < 10 := by omega
 have hsi : (x.aa.toNat : Int) = x.aa := by omega
 have i1 : (0 : Int) ≤ x.aa := by omega
 have i2 : x.aa < 10 := by omega
 have hlast : ∀ j : Int, (if j = (x.aa.toNat : Int) then (if aB ws x.aa < x.seq then x.seq else aB ws x.aa) else aB ws j) = aB (ws ++ [x]) j := by
  intro j
  rw [fb, hsi, show (if aB ws x.aa < x.seq then x.seq else aB ws x.aa) = max (aB ws x.aa) x.seq by split <;> omega]
  by_cases e : j = x.aa
  ·
   rw [if_pos e, if_pos e.symm, e]
  rw [if_neg e, if_neg (fun h => e h.symm)]
 have hlen : Hid ((ws ++ [x]).length = ws.length + 1) := by show (ws ++ [x]).length = ws.length + 1; simp
 have HLAST := yh hlast
 clear hlast
 by_cases hsn : bf ws x.aa x.seq = 0
 ·
  obtain rfl : bs = false := by rw [uh HBS]; simpa using hsn
  have hseen : ∀ s q : Int, (if s = x.aa ∧ q = x.seq then ws.length + 1 else bf ws s q) = bf (ws ++ [x]) s q := by
   intro s q
   rw [fu]
   by_cases e : s = x.aa ∧ q = x.seq
   ·
    rw [if_pos e, e.1, e.2, hsn, if_pos rfl, if_pos ⟨rfl, rfl⟩]
   rw [if_neg e]
   by_cases h0 : bf ws s q = 0
   ·
    rw [if_pos h0, if_neg (fun h => e ⟨h.1.symm, h.2.symm⟩), h0]
   rw [if_neg h0]
  have HSEEN := yh hseen
  clear HBS hseen hsn
  go_wp2_with fail
  have hT10 : bP w9.drew p mb _ ws.length (ws ++ [x]) (aB ws) (fun s q => bf ws s q) (.slice (some ⟨g5, 0, none⟩) (ws.length + 1) cp5) (rows ++ [[.int .i64 x.kind, .int .i64 x.id, .slice a2 x.vec.length d2, .int .i64 x.aa, .int .i64 x.seq]]) (bls ++ [bl]) := hT9.af (bQ (Below.refl _ _) 1)
  have hQ10 : al 0 #[.int .i64 x.kind, .int .i64 x.id, .slice a2 x.vec.length d2, .int .i64 x.aa, .int .i64 x.seq] 142 w9.drew w.heap.size := hQ9
  have hB10 : Below mb w w9.drew := hB9.drew
  refine wZz (fun w' => Ext (fun c => c = mb) w9 w') (Ext.refl _ _).fP (fun zq => ?_)
  generalize w9.drew = wE at zq hT10 hQ10 hB10 ⊢
  refine tkH 0 zq ?_
  refine tkH 1 zq ?_
  refine tkH 2 zq ?_
  refine tkJ 3 (v := ?ve3) ?he3 zq ?re3
  case he3 =>
   intro wS hSw
   have z1 : wS.cell? ⟨p, 1, none⟩ = some (.map (some mb)) := (hT9.box.ext hSw (by have := hT9.lt; have := hrp; omega)).at 1 _ rfl
   have k0 : wS.cell? ⟨r, 0, none⟩ = some (.int .i64 x.aa) := (hR9.ext hSw (by have := hT9.lt; have := hrp; omega)).at 0 _ rfl
   have k1 : wS.cell? ⟨r, 1, none⟩ = some (.int .i64 x.seq) := (hR9.ext hSw (by have := hT9.lt; have := hrp; omega)).at 1 _ rfl
   have z0 : wS.cell? ⟨p, 0, none⟩ = some (.slice (some ⟨g5, 0, none⟩) (ws.length + 1) cp5) := (hT9.box.ext hSw (by have := hT9.lt; omega)).at 0 _ rfl
   clear hSw
   exact fZ
  refine tkJ 4 (v := ?ve4) ?he4 zq ?re4
  case he4 =>
   intro wS hSw
   have z1 : wS.cell? ⟨p, 1, none⟩ = some (.map (some mb)) := (hT9.box.ext hSw (by have := hT9.lt; have := hrp; omega)).at 1 _ rfl
   have k0 : wS.cell? ⟨r, 0, none⟩ = some (.int .i64 x.aa) := (hR9.ext hSw (by have := hT9.lt; have := hrp; omega)).at 0 _ rfl
   have k1 : wS.cell? ⟨r, 1, none⟩ = some (.int .i64 x.seq) := (hR9.ext hSw (by have := hT9.lt; have := hrp; omega)).at 1 _ rfl
   have z0 : wS.cell? ⟨p, 0, none⟩ = some (.slice (some ⟨g5, 0, none⟩) (ws.length + 1) cp5) := (hT9.box.ext hSw (by have := hT9.lt; omega)).at 0 _ rfl
   clear hSw
   exact fZ
  refine tkH 5 zq ?_
  refine tkH 6 zq ?_
  refine tkH 7 zq ?_
  refine tkJ 8 (v := ?ve8) ?he8 zq ?re8
  case he8 =>
   intro wS hSw
   have z1 : wS.cell? ⟨p, 1, none⟩ = some (.map (some mb)) := (hT9.box.ext hSw (by have := hT9.lt; have := hrp; omega)).at 1 _ rfl
   have k0 : wS.cell? ⟨r, 0, none⟩ = some (.int .i64 x.aa) := (hR9.ext hSw (by have := hT9.lt; have := hrp; omega)).at 0 _ rfl
   have k1 : wS.cell? ⟨r, 1, none⟩ = some (.int .i64 x.seq) := (hR9.ext hSw (by have := hT9.lt; have := hrp; omega)).at 1 _ rfl
   have z0 : wS.cell? ⟨p, 0, none⟩ = some (.slice (some ⟨g5, 0, none⟩) (ws.length + 1) cp5) := (hT9.box.ext hSw (by have := hT9.lt; omega)).at 0 _ rfl
   clear hSw
   exact fZ
  refine tkH 9 zq ?_
  refine rdH 10 (fun K hK => ?_)
  obtain ⟨w12, hrun, hTk, hE12⟩ := hT10.seen.put (by omega) k3 k4 (m := ws.length + 1) (by omega) (bF (by omega))
  simp only [tick] at hrun
  have hrun2 : (Instr.mapUpdate 234 (.map (some mb)) (.agg #[.int .i64 x.aa, .int .i64 x.seq]) (.int .i64 ((ws.length : Int) + 1))).run Tryz.prog wE = .ok () w12 := by simpa using hrun
  clear hrun
  go_simp
  refine hK.out _ _ (zq.trans hE12) (fun zq => ?_)
  clear hK K
  try simp only [Act.put, pz, py, px]
  refine dZ ?_
  have hT12 := (hT10.marked hE12 hTk)
  have hQ12 := hQ10.ext hE12 (by omega)
  have hB12 := hB10.trans (hE12.below (by have := hT10.lt; have := hT10.box.lt; omega) (by intro c hc e; omega))
  clear zq hT9 hQ9 hR9 hB9 hT10 hQ10 hB10 hE12 hTk
  go_wp2_with fail
  have hTG : bP w12.drew p mb _ (ws.length + 1) (ws ++ [x]) (aB ws) _ (.slice (some ⟨g5, 0, none⟩) (ws.length + 1) cp5) (rows ++ [[.int .i64 x.kind, .int .i64 x.id, .slice a2 x.vec.length d2, .int .i64 x.aa, .int .i64 x.seq]]) (bls ++ [bl]) := hT12.af (bQ (Below.refl _ _) 1)
  have hBG : Below mb w w12.drew := hB12.drew
  refine wZz (fun w' => Ext (fun c => c = p) w12 w') (Ext.refl _ _).fP (fun zq => ?_)
  generalize w12.drew = wG at zq hTG hBG ⊢
  refine tkH 0 zq ?_
  refine tkH 1 zq ?_
  refine tkJ 2 (v := ?vf2) ?hf2 zq ?rf2
  case hf2 =>
   intro wS hSw
   have y3 : wS.cell? ⟨w.heap.size, 3, none⟩ = some (.int .i64 x.aa) := (hQ12.ext hSw (by omega)).at 3 _ rfl
   have y4 : wS.cell? ⟨w.heap.size, 4, none⟩ = some (.int .i64 x.seq) := (hQ12.ext hSw (by omega)).at 4 _ rfl
   clear hSw
   exact fZ
  refine tkH 3 zq ?_
  refine tkH 4 zq ?_
  refine tkJ 5 (v := ?vf5) ?hf5 zq ?rf5
  case hf5 =>
   intro wS hSw
   have y3 : wS.cell? ⟨w.heap.size, 3, none⟩ = some (.int .i64 x.aa) := (hQ12.ext hSw (by omega)).at 3 _ rfl
   have y4 : wS.cell? ⟨w.heap.size, 4, none⟩ = some (.int .i64 x.seq) := (hQ12.ext hSw (by omega)).at 4 _ rfl
   clear hSw
   exact fZ
  refine tkH 6 zq ?_
  refine tkH 7 zq ?_
  refine tkH 8 zq ?_
  refine tkH 10 zq ?_
  refine tkJ 11 (v := ?vf11) ?hf11 zq ?rf11
  case hf11 =>
   intro wS hSw
   have y3 : wS.cell? ⟨w.heap.size, 3, none⟩ = some (.int .i64 x.aa) := (hQ12.ext hSw (by omega)).at 3 _ rfl
   have y4 : wS.cell? ⟨w.heap.size, 4, none⟩ = some (.int .i64 x.seq) := (hQ12.ext hSw (by omega)).at 4 _ rfl
   clear hSw
   exact fZ
  refine tkH 13 zq ?_
  refine tkH 14 zq ?_
  refine rdH 9 (fun K hK => ?_)
  have zl : wG.cell? ⟨p, 2 + x.aa.toNat, none⟩ = some (.int .i64 (aB ws x.aa)) := by
   have := hTG.box.at _ _ (dw (.slice (some ⟨g5, 0, none⟩) (ws.length + 1) cp5) mb (aB ws) x.aa.toNat hs9)
   rwa [hsi] at this
  go_simp
  refine hK.out _ _ zq (fun zq => ?_)
  clear hK K
  try simp only [Act.put, pz, py, px]
  refine tkH 12 zq ?_
  refine tkH 15 zq ?_
  refine rdH 16 (fun K hK => ?_)
  have zl : wG.cell? ⟨p, 2 + x.aa.toNat, none⟩ = some (.int .i64 (aB ws x.aa)) := by
   have := hTG.box.at _ _ (dw (.slice (some ⟨g5, 0, none⟩) (ws.length + 1) cp5) mb (aB ws) x.aa.toNat hs9)
   rwa [hsi] at this
  have f6 := hTG.box.soft (2 + x.aa.toNat)
  have l6 := hTG.box.lt
  go_simp
  refine hK.out _ _ (zq.setCell ⟨p, 2 + x.aa.toNat, none⟩ _ rfl) (fun zq => ?_)
  clear hK K
  try simp only [Act.put, pz, py, px]
  refine dZ ?_
  have hTZ := ((hTG.ki x.aa.toNat hs9 ((if aB ws x.aa < x.seq then x.seq else aB ws x.aa))).same (Nat.le_of_eq (uh hlen).symm) (uh HLAST) (uh HSEEN)).top
  have hBZ : Below mb w (wG.setCell ⟨p, 2 + x.aa.toNat, none⟩ (.int .i64 ((if aB ws x.aa < x.seq then x.seq else aB ws x.aa)))) := hBG.setCell (by simp; omega) _
  clear zq hTG hBG
  generalize wG.setCell ⟨p, 2 + x.aa.toNat, none⟩ (.int .i64 (if aB ws x.aa < x.seq then x.seq else aB ws x.aa)) = wZ at hTZ hBZ ⊢
  go_wp2_with fail
  all_goals
   refine bodyPost_end (v := .tuple #[]) (by simp [results, Tryz.results253, go_sem]) rfl ?_
   exact ⟨rfl, ⟨_, _, _, hTZ⟩, hBZ⟩
 obtain rfl : bs = true := by rw [uh HBS]; simpa using hsn
 have hseen : ∀ s q : Int, bf ws s q = bf (ws ++ [x]) s q := by
  intro s q
  rw [fu]
  split
  ·
   rename_i e
   rw [if_neg]
   ·
    exact e
   rintro ⟨rfl, rfl⟩
   exact hsn e
  rfl
 have HSEEN := yh hseen
 clear HBS hseen hsn
 go_wp2_with fail
 have hTG : bP w9.drew p mb _ ws.length (ws ++ [x]) (aB ws) (fun s q => bf ws s q) (.slice (some ⟨g5, 0, none⟩) (ws.length + 1) cp5) (rows ++ [[.int .i64 x.kind, .int .i64 x.id, .slice a2 x.vec.length d2, .int .i64 x.aa, .int .i64 x.seq]]) (bls ++ [bl]) := hT9.af (bQ (Below.refl _ _) 1)
 have hBG : Below mb w w9.drew := hB9.drew
 refine wZz (fun w' => Ext (fun c => c = p) w9 w') (Ext.refl _ _).fP (fun zq => ?_)
 generalize w9.drew = wG at zq hTG hBG ⊢
 refine tkH 0 zq ?_
 refine tkH 1 zq ?_
 refine tkJ 2 (v := ?vg2) ?hg2 zq ?rg2
 case hg2 =>
  intro wS hSw
  have y3 : wS.cell? ⟨w.heap.size, 3, none⟩ = some (.int .i64 x.aa) := (hQ9.ext hSw (by omega)).at 3 _ rfl
  have y4 : wS.cell? ⟨w.heap.size, 4, none⟩ = some (.int .i64 x.seq) := (hQ9.ext hSw (by omega)).at 4 _ rfl
  clear hSw
  exact fZ
 refine tkH 3 zq ?_
 refine tkH 4 zq ?_
 refine tkJ 5 (v := ?vg5) ?hg5 zq ?rg5
 case hg5 =>
  intro wS hSw
  have y3 : wS.cell? ⟨w.heap.size, 3, none⟩ = some (.int .i64 x.aa) := (hQ9.ext hSw (by omega)).at 3 _ rfl
  have y4 : wS.cell? ⟨w.heap.size, 4, none⟩ = some (.int .i64 x.seq) := (hQ9.ext hSw (by omega)).at 4 _ rfl
  clear hSw
  exact fZ
 refine tkH 6 zq ?_
 refine tkH 7 zq ?_
 refine tkH 8 zq ?_
 refine tkH 10 zq ?_
 refine tkJ 11 (v := ?vg11) ?hg11 zq ?rg11
 case hg11 =>
  intro wS hSw
  have y3 : wS.cell? ⟨w.heap.size, 3, none⟩ = some (.int .i64 x.aa) := (hQ9.ext hSw (by omega)).at 3 _ rfl
  have y4 : wS.cell? ⟨w.heap.size, 4, none⟩ = some (.int .i64 x.seq) := (hQ9.ext hSw (by omega)).at 4 _ rfl
  clear hSw
  exact fZ
 refine tkH 13 zq ?_
 refine tkH 14 zq ?_
 refine rdH 9 (fun K hK => ?_)
 have zl : wG.cell? ⟨p, 2 + x.aa.toNat, none⟩ = some (.int .i64 (aB ws x.aa)) := by
  have := hTG.box.at _ _ (dw (.slice (some ⟨g5, 0, none⟩) (ws.length + 1) cp5) mb (aB ws) x.aa.toNat hs9)
  rwa [hsi] at this
 go_simp
 refine hK.out _ _ zq (fun zq => ?_)
 clear hK K
 try simp only [Act.put, pz, py, px]
 refine tkH 12 zq ?_
 refine tkH 15 zq ?_
 refine rdH 16 (fun K hK => ?_)
 have zl : wG.cell? ⟨p, 2 + x.aa.toNat, none⟩ = some (.int .i64 (aB ws x.aa)) := by
  have := hTG.box.at _ _ (dw (.slice (some ⟨g5, 0, none⟩) (ws.length + 1) cp5) mb (aB ws) x.aa.toNat hs9)
  rwa [hsi] at this
 have f6 := hTG.box.soft (2 + x.aa.toNat)
 have l6 := hTG.box.lt
 go_simp
 refine hK.out _ _ (zq.setCell ⟨p, 2 + x.aa.toNat, none⟩ _ rfl) (fun zq => ?_)
 clear hK K
 try simp only [Act.put, pz, py, px]
 refine dZ ?_
 have hTZ := ((hTG.ki x.aa.toNat hs9 ((if aB ws x.aa < x.seq then x.seq else aB ws x.aa))).same (n' := (ws ++ [x]).length) (by rw [uh hlen]; omega) (uh HLAST) (uh HSEEN)).top
 have hBZ : Below mb w (wG.setCell ⟨p, 2 + x.aa.toNat, none⟩ (.int .i64 ((if aB ws x.aa < x.seq then x.seq else aB ws x.aa)))) := hBG.setCell (by simp; omega) _
 clear zq hTG hBG
 generalize wG.setCell ⟨p, 2 + x.aa.toNat, none⟩ (.int .i64 (if aB ws x.aa < x.seq then x.seq else aB ws x.aa)) = wZ at hTZ hBZ ⊢
 go_wp2_with fail
 all_goals
  refine bodyPost_end (v := .tuple #[]) (by simp [results, Tryz.results253, go_sem]) rfl ?_
  exact ⟨rfl, ⟨_, _, _, hTZ⟩, hBZ⟩
def eh (x y z : Int) : Value := .agg #[.int .i64 x, .int .i64 y, .int .i64 z]
theorem bh.three {w : World} {v : Value} {zs : List Int} (h : bh w v zs) (h3 : zs.length = 3) :
  ∃ b off cap x y z, zs = [x, y, z] ∧ v = .slice (some ⟨b, off, none⟩) 3 cap ∧ b < w.heap.size ∧ w.cell? ⟨b, off, none⟩ = some (.int .i64 x) ∧ w.cell? ⟨b, off + 1, none⟩ = some (.int .i64 y) ∧ w.cell? ⟨b, off + 2, none⟩ = some (.int .i64 z) := by
 obtain ⟨ao, cap, rfl, hwf, hc⟩ := h
 match zs, h3 with
 | [x, y, z], _ =>
  obtain ⟨b, off, rfl, hc1⟩ := hc (by simp)
  have c0 := hc1 0 (by simp)
  have c1 := hc1 1 (by simp)
  have c2 := hc1 2 (by simp)
  exact ⟨b, off, cap, x, y, z, rfl, rfl, World.block_lt_of_cell? _ _ c0, c0, c1, c2⟩
theorem gv (v : Value) (zs : List Int) (w : World) (h : bh w v zs) (hf : aJ zs ≠ 0) :
  Calls Tryz.prog 263 #[v] w fun e w' => e = .returned (.tuple #[eh 0 0 0, .int .i64 (aJ zs)]) ∧ Below w.heap.size w w' := by
 go_enter Tryz.func263, Tryz.ntmps263
 go_wp2_with fail
 refine (fY v zs _ (h.af (((Below.refl _ _).alloc (Nat.le_refl _) _).alloc (by simp) _))).mono ?_
 rintro e w' ⟨rfl, rfl⟩
 have hne : (aJ zs != 0) = true := by rw [bne_iff_ne]; exact hf
 go_wp2_with fail
 refine bodyPost_ret (v := .tuple #[eh 0 0 0, .int .i64 (aJ zs)]) (by simp [results, Tryz.results263, go_sem, eh]) rfl ⟨rfl, ?_⟩
 exact ((Below.refl _ _).alloc (Nat.le_refl _) _).alloc (by simp) _
theorem fy (b off cap : Nat) (x y z : Int) (w : World) (hbl : b < w.heap.size) (c0 : w.cell? ⟨b, off, none⟩ = some (.int .i64 x)) (c1 : w.cell? ⟨b, off + 1, none⟩ = some (.int .i64 y)) (c2 : w.cell? ⟨b, off + 2, none⟩ = some (.int .i64 z))
  (h : bh w (.slice (some ⟨b, off, none⟩) 3 cap) [x, y, z]) (hf : aJ [x, y, z] = 0) :
  Calls Tryz.prog 263 #[.slice (some ⟨b, off, none⟩) 3 cap] w fun e w' => e = .returned (.tuple #[eh x y z, .int .i64 0]) ∧ Below w.heap.size w w' := by
 go_enter Tryz.func263, Tryz.ntmps263
 go_wp2_with fail
 refine (fY _ [x, y, z] _ (h.af (((Below.refl _ _).alloc (Nat.le_refl _) _).alloc (by simp) _))).mono ?_
 rintro e w' ⟨rfl, rfl⟩
 rw [hf]
 clear h hf
 go_wp2_with fail
 refine wp_loop_rounds 4 ?_
 rw [rounds_succ]
 go_wp2
 rw [rounds_succ]
 go_wp2
 rw [rounds_succ]
 go_wp2
 rw [rounds_succ]
 go_wp2
 refine bodyPost_ret (v := .tuple #[eh x y z, .int .i64 0]) (by simp [results, Tryz.results263, go_sem, eh]) rfl ⟨rfl, ?_⟩
 exact ((Below.refl _ _).alloc (Nat.le_refl _) _).alloc (by simp) _
theorem ic (v : Value) (x y z : Int) (w : World) (h : bh w v [x, y, z]) (hf : aJ [x, y, z] = 0) :
  Calls Tryz.prog 263 #[v] w fun e w' => e = .returned (.tuple #[eh x y z, .int .i64 0]) ∧ Below w.heap.size w w' := by
 obtain ⟨b, off, cap, x', y', z', he, rfl, hbl, c0, c1, c2⟩ := h.three rfl
 simp only [List.cons.injEq, and_true] at he
 obtain ⟨rfl, rfl, rfl⟩ := he
 exact fy b off cap x y z w hbl c0 c1 c2 h hf
def lH (x y z : Int) : Value := .iface 298 (.agg #[.int .i64 x, .int .i64 y, .int .i64 z])
def kq : Value := .iface 294 (.agg #[])
def fR (k : Int) (zs : List Int) : Value := if k = 1 then lH (zs.getD 0 0) (zs.getD 1 0) (zs.getD 2 0) else kq
def dT (k i : Int) (zs : List Int) (s q : Int) : Value := if ak k i zs s q = 0 then fR k zs else .nilIface
def j6 (i s q : Int) : Prop := (1 ≤ i ∧ i ≤ 999) ∧ (1 ≤ s ∧ s ≤ 9) ∧ 1 ≤ q ∧ q ≤ 999
theorem gh {i s q : Int} (h : j6 i s q) : bT i s q = true := by
 obtain ⟨⟨a, b⟩, ⟨c, d⟩, e, f⟩ := h
 simp [bT, a, b, c, d, e, f]
theorem eR {i s q : Int} (h : ¬ j6 i s q) : bT i s q = false := by
 rw [Bool.eq_false_iff]
 intro hb
 simp only [bT, Bool.and_eq_true, decide_eq_true_eq] at hb
 exact h ⟨hb.1, hb.2.1, hb.2.2⟩
theorem fS {k i s q : Int} {zs : List Int} (hk : cl k zs.length = true) (h : ¬ j6 i s q) : ak k i zs s q = 3 := by
 rw [ak, hk, if_pos rfl, eR h]; rfl
theorem iC {i s q : Int} (h : j6 i s q) : ak 2 i [] s q = 0 := by
 rw [ak, show cl 2 ([] : List Int).length = true from rfl, if_pos rfl, gh h]; rfl
theorem kt {k i s q : Int} {zs : List Int} (hk : cl k zs.length = true) (h : j6 i s q) : ak k i zs s q = if k = 1 then aJ zs else 0 := by
 rw [ak, hk, if_pos rfl, gh h, if_pos rfl]
def bV (w w' : World) (e : Ending) (k i : Int) (zs : List Int) (s q : Int) : Prop := e = .returned (.tuple #[dT k i zs s q, .int .i64 (ak k i zs s q)]) ∧ Below w.heap.size w w'
theorem bz {w w' : World} {k i s q c : Int} {zs : List Int} (hc : ak k i zs s q = c) (h0 : c ≠ 0) (hb : Below w.heap.size w w') : bV w w' (.returned (.tuple #[.nilIface, .int .i64 c])) k i zs s q := by
 refine ⟨?_, hb⟩
 rw [dT, hc, if_neg h0]
theorem eE {w w' : World} {k i s q : Int} {zs : List Int} {v : Value} (hc : ak k i zs s q = 0) (hv : v = fR k zs) (hb : Below w.heap.size w w') : bV w w' (.returned (.tuple #[v, .int .i64 0])) k i zs s q := by
 refine ⟨?_, hb⟩
 rw [dT, hc, if_pos rfl, hv]
theorem ey (n : Int) (w : World) : Calls Tryz.prog 123 #[.int .i64 n] w fun e w' => e = .returned (.bool (decide (1 ≤ n) && decide (n ≤ 999))) ∧ w' = w := by
 by_cases h1 : 1 ≤ n
 ·
  have d1 : decide (1 ≤ n) = true := by simpa using h1
  rw [d1]
  cases d2 : decide (n ≤ 999) <;>
  ·
   go_enter Tryz.func123, Tryz.ntmps123
   go_wp2
   go_ret
   exact ⟨rfl, rfl⟩
 have d1 : decide (1 ≤ n) = false := by simpa using h1
 rw [d1]
 go_enter Tryz.func123, Tryz.ntmps123
 go_wp2
 go_ret
 exact ⟨rfl, rfl⟩
theorem ca (n : Int) (w : World) : Calls Tryz.prog 216 #[.int .i64 n] w fun e w' => e = .returned (.bool (decide (1 ≤ n) && decide (n ≤ 9))) ∧ w' = w := by
 by_cases h1 : 1 ≤ n
 ·
  have d1 : decide (1 ≤ n) = true := by simpa using h1
  rw [d1]
  cases d2 : decide (n ≤ 9) <;>
  ·
   go_enter Tryz.func216, Tryz.ntmps216
   go_wp2
   go_ret
   exact ⟨rfl, rfl⟩
 have d1 : decide (1 ≤ n) = false := by simpa using h1
 rw [d1]
 go_enter Tryz.func216, Tryz.ntmps216
 go_wp2
 go_ret
 exact ⟨rfl, rfl⟩
theorem fo (n : Int) (w : World) : Calls Tryz.prog 217 #[.int .i64 n] w fun e w' => e = .returned (.bool (decide (1 ≤ n) && decide (n ≤ 999))) ∧ w' = w := by
 by_cases h1 : 1 ≤ n
 ·
  have d1 : decide (1 ≤ n) = true := by simpa using h1
  rw [d1]
  cases d2 : decide (n ≤ 999) <;>
  ·
   go_enter Tryz.func217, Tryz.ntmps217
   go_wp2
   go_ret
   exact ⟨rfl, rfl⟩
 have d1 : decide (1 ≤ n) = false := by simpa using h1
 rw [d1]
 go_enter Tryz.func217, Tryz.ntmps217
 go_wp2
 go_ret
 exact ⟨rfl, rfl⟩
theorem fe (i : Int) (ao : Option Addr) (cap : Nat) (s q : Int) (zs : List Int) (w : World) (hb : ¬ j6 i s q) :
  Calls Tryz.prog 236 #[.agg #[.int .i64 1, .int .i64 i, .slice ao zs.length cap, .int .i64 s, .int .i64 q]] w fun e w' => bV w w' e 1 i zs s q := by
 have HB : Hid (∀ o, Below w.heap.size w (w.alloc o)) := fun o => (Below.refl _ _).alloc (Nat.le_refl _) o
 have HF : Hid (ak 1 i zs s q = 3) := fS rfl hb
 have hbb := eR hb
 unfold bT at hbb
 clear hb
 cases dI : (decide (1 ≤ i) && decide (i ≤ 999)) with
 | false =>
  clear hbb
  go_enter Tryz.func236, Tryz.ntmps236
  go_wp2_with fail
  refine (ey i _).mono ?_
  rintro e w1 ⟨rfl, rfl⟩
  rw [dI]
  go_wp2_with fail
  go_ret2
  exact bz (uh HF) (by omega) (uh HB _)
 | true =>
  cases dS : (decide (1 ≤ s) && decide (s ≤ 9)) with
  | false =>
   clear hbb
   go_enter Tryz.func236, Tryz.ntmps236
   go_wp2_with fail
   refine (ey i _).mono ?_
   rintro e w1 ⟨rfl, rfl⟩
   rw [dI]
   go_wp2_with fail
   refine (ca s _).mono ?_
   rintro e w1 ⟨rfl, rfl⟩
   rw [dS]
   go_wp2_with fail
   go_ret2
   exact bz (uh HF) (by omega) (uh HB _)
  | true =>
   have dQ : (decide (1 ≤ q) && decide (q ≤ 999)) = false := by rw [dI, dS] at hbb; simpa using hbb
   clear hbb
   go_enter Tryz.func236, Tryz.ntmps236
   go_wp2_with fail
   refine (ey i _).mono ?_
   rintro e w1 ⟨rfl, rfl⟩
   rw [dI]
   go_wp2_with fail
   refine (ca s _).mono ?_
   rintro e w1 ⟨rfl, rfl⟩
   rw [dS]
   go_wp2_with fail
   refine (fo q _).mono ?_
   rintro e w1 ⟨rfl, rfl⟩
   rw [dQ]
   go_wp2_with fail
   go_ret2
   exact bz (uh HF) (by omega) (uh HB _)
theorem eL (i : Int) (ao : Option Addr) (cap : Nat) (s q : Int) (w : World) (hb : ¬ j6 i s q) :
  Calls Tryz.prog 236 #[.agg #[.int .i64 2, .int .i64 i, .slice ao 0 cap, .int .i64 s, .int .i64 q]] w fun e w' => bV w w' e 2 i [] s q := by
 have HB : Hid (∀ o, Below w.heap.size w (w.alloc o)) := fun o => (Below.refl _ _).alloc (Nat.le_refl _) o
 have HF : Hid (ak 2 i [] s q = 3) := fS rfl hb
 have hbb := eR hb
 unfold bT at hbb
 clear hb
 cases dI : (decide (1 ≤ i) && decide (i ≤ 999)) with
 | false =>
  clear hbb
  go_enter Tryz.func236, Tryz.ntmps236
  go_wp2_with fail
  refine (ey i _).mono ?_
  rintro e w1 ⟨rfl, rfl⟩
  rw [dI]
  go_wp2_with fail
  go_ret2
  exact bz (uh HF) (by omega) (uh HB _)
 | true =>
  cases dS : (decide (1 ≤ s) && decide (s ≤ 9)) with
  | false =>
   clear hbb
   go_enter Tryz.func236, Tryz.ntmps236
   go_wp2_with fail
   refine (ey i _).mono ?_
   rintro e w1 ⟨rfl, rfl⟩
   rw [dI]
   go_wp2_with fail
   refine (ca s _).mono ?_
   rintro e w1 ⟨rfl, rfl⟩
   rw [dS]
   go_wp2_with fail
   go_ret2
   exact bz (uh HF) (by omega) (uh HB _)
  | true =>
   have dQ : (decide (1 ≤ q) && decide (q ≤ 999)) = false := by rw [dI, dS] at hbb; simpa using hbb
   clear hbb
   go_enter Tryz.func236, Tryz.ntmps236
   go_wp2_with fail
   refine (ey i _).mono ?_
   rintro e w1 ⟨rfl, rfl⟩
   rw [dI]
   go_wp2_with fail
   refine (ca s _).mono ?_
   rintro e w1 ⟨rfl, rfl⟩
   rw [dS]
   go_wp2_with fail
   refine (fo q _).mono ?_
   rintro e w1 ⟨rfl, rfl⟩
   rw [dQ]
   go_wp2_with fail
   go_ret2
   exact bz (uh HF) (by omega) (uh HB _)
theorem ij (i : Int) (ao : Option Addr) (cap : Nat) (s q : Int) (w : World) (hb : j6 i s q) :
  Calls Tryz.prog 236 #[.agg #[.int .i64 2, .int .i64 i, .slice ao 0 cap, .int .i64 s, .int .i64 q]] w fun e w' => bV w w' e 2 i [] s q := by
 have HB : Hid (∀ o, Below w.heap.size w (w.alloc o)) := fun o => (Below.refl _ _).alloc (Nat.le_refl _) o
 have HF : Hid (ak 2 i [] s q = 0) := iC hb
 obtain ⟨⟨i1, i2⟩, ⟨s1, s2⟩, q1, q2⟩ := hb
 have dI : (decide (1 ≤ i) && decide (i ≤ 999)) = true := by simp [i1, i2]
 have dS : (decide (1 ≤ s) && decide (s ≤ 9)) = true := by simp [s1, s2]
 have dQ : (decide (1 ≤ q) && decide (q ≤ 999)) = true := by simp [q1, q2]
 go_enter Tryz.func236, Tryz.ntmps236
 go_wp2_with fail
 refine (ey i _).mono ?_
 rintro e w1 ⟨rfl, rfl⟩
 rw [dI]
 go_wp2_with fail
 refine (ca s _).mono ?_
 rintro e w1 ⟨rfl, rfl⟩
 rw [dS]
 go_wp2_with fail
 refine (fo q _).mono ?_
 rintro e w1 ⟨rfl, rfl⟩
 rw [dQ]
 go_wp2_with fail
 go_ret2
 exact eE (uh HF) rfl (uh HB _)
theorem gK (i : Int) (ao : Option Addr) (cap n : Nat) (s q : Int) (zs : List Int) (w : World) (hn : zs.length = n + 1) :
  Calls Tryz.prog 236 #[.agg #[.int .i64 2, .int .i64 i, .slice ao (n + 1) cap, .int .i64 s, .int .i64 q]] w fun e w' => bV w w' e 2 i zs s q := by
 have B0 : ∀ o, Below w.heap.size w (w.alloc o) := fun o => (Below.refl _ _).alloc (Nat.le_refl _) o
 have HB := yh B0
 have hF : ak 2 i zs s q = 1 := by
  have : cl 2 zs.length = false := by simp [cl]; omega
  rw [ak, this]; rfl
 have HF := yh hF
 clear B0 hF hn
 go_enter Tryz.func236, Tryz.ntmps236
 go_wp2
 go_ret2
 exact bz (uh HF) (by omega) (uh HB _)
theorem iw (k i : Int) (ao : Option Addr) (cap : Nat) (s q : Int) (zs : List Int) (w : World) (h1 : k ≠ 1) (h2 : k ≠ 2) :
  Calls Tryz.prog 236 #[.agg #[.int .i64 k, .int .i64 i, .slice ao zs.length cap, .int .i64 s, .int .i64 q]] w fun e w' => bV w w' e k i zs s q := by
 have B0 : ∀ o, Below w.heap.size w (w.alloc o) := fun o => (Below.refl _ _).alloc (Nat.le_refl _) o
 have HB := yh B0
 have hF : ak k i zs s q = 1 := by
  have : cl k zs.length = false := by simp [cl]; omega
  rw [ak, this]; rfl
 have HF := yh hF
 clear B0 hF
 go_enter Tryz.func236, Tryz.ntmps236
 go_wp2
 go_ret2
 exact bz (uh HF) (by omega) (uh HB _)
theorem gk (v : Value) (zs : List Int) (w : World) (h : bh w v zs) :
  Calls Tryz.prog 263 #[v] w fun e w' => e = .returned (.tuple #[if aJ zs = 0 then eh (zs.getD 0 0) (zs.getD 1 0) (zs.getD 2 0) else eh 0 0 0, .int .i64 (aJ zs)]) ∧ Below w.heap.size w w' := by
 by_cases hf : aJ zs = 0
 ·
  obtain ⟨hl, -⟩ := dD hf
  match zs, hl with
  | [x, y, z], _ =>
   rw [if_pos hf]
   refine (ic v x y z w h hf).mono ?_
   rintro e w' ⟨rfl, hb⟩
   exact ⟨by rw [hf]; rfl, hb⟩
 rw [if_neg hf]
 exact gv v zs w h hf
theorem iE (i : Int) (ao : Option Addr) (cap : Nat) (s q : Int) (zs : List Int) (w : World) (h : bh w (.slice ao zs.length cap) zs) (hb : j6 i s q) :
  Calls Tryz.prog 236 #[.agg #[.int .i64 1, .int .i64 i, .slice ao zs.length cap, .int .i64 s, .int .i64 q]] w fun e w' => bV w w' e 1 i zs s q := by
 have B0 : Below w.heap.size w (w.alloc (.cells #[.int .i64 1, .int .i64 i, .slice ao zs.length cap, .int .i64 s, .int .i64 q] 142)) := (Below.refl _ _).alloc (Nat.le_refl _) _
 have HB := yh B0
 have H := yh (h.af B0)
 clear h B0
 have HF : Hid (ak 1 i zs s q = aJ zs) := kt rfl hb
 obtain ⟨⟨i1, i2⟩, ⟨s1, s2⟩, q1, q2⟩ := hb
 have dI : (decide (1 ≤ i) && decide (i ≤ 999)) = true := by simp [i1, i2]
 have dS : (decide (1 ≤ s) && decide (s ≤ 9)) = true := by simp [s1, s2]
 have dQ : (decide (1 ≤ q) && decide (q ≤ 999)) = true := by simp [q1, q2]
 go_enter Tryz.func236, Tryz.ntmps236
 go_wp2_with fail
 refine (ey i _).mono ?_
 rintro e w1 ⟨rfl, rfl⟩
 rw [dI]
 go_wp2_with fail
 refine (ca s _).mono ?_
 rintro e w1 ⟨rfl, rfl⟩
 rw [dS]
 go_wp2_with fail
 refine (fo q _).mono ?_
 rintro e w1 ⟨rfl, rfl⟩
 rw [dQ]
 go_wp2_with fail
 refine (gk _ zs _ (uh H)).mono ?_
 rintro e w1 ⟨rfl, hb1⟩
 have HB1 := yh ((uh HB).trans (hb1.mono (uh HB).size))
 have hz : w.heap.size ≤ w1.heap.size := (uh HB1).size
 clear HB hb1 H
 generalize hV : aJ zs = F at *
 by_cases hf : F = 0
 ·
  subst hf
  rw [if_pos rfl]
  simp only [eh]
  go_wp2_with fail
  go_ret2
  refine eE (uh HF) ?_ ?_
  ·
   rw [fR, if_pos rfl]; rfl
  exact (uh HB1).alloc hz _
 rw [if_neg hf]
 have hd : (F != 0) = true := by rw [bne_iff_ne]; exact hf
 have HN := yh hf
 clear hf
 simp only [eh]
 go_wp2_with fail
 go_ret2
 exact bz (uh HF) (uh HN) ((uh HB1).alloc hz _)
theorem ix (k i : Int) (v : Value) (s q : Int) (zs : List Int) (w : World) (h : bh w v zs) :
  Calls Tryz.prog 236 #[.agg #[.int .i64 k, .int .i64 i, v, .int .i64 s, .int .i64 q]] w fun e w' => bV w w' e k i zs s q := by
 have h' := h
 obtain ⟨ao, cap, rfl, -⟩ := h'
 by_cases h1 : k = 1
 ·
  subst h1
  by_cases hb : j6 i s q
  ·
   exact iE i ao cap s q zs w h hb
  exact fe i ao cap s q zs w hb
 by_cases h2 : k = 2
 ·
  subst h2
  rcases Nat.eq_zero_or_pos zs.length with h0 | h0
  ·
   obtain rfl : zs = [] := List.eq_nil_of_length_eq_zero h0
   by_cases hb : j6 i s q
   ·
    exact ij i ao cap s q w hb
   exact eL i ao cap s q w hb
  obtain ⟨n, hn⟩ : ∃ n, zs.length = n + 1 := ⟨zs.length - 1, by omega⟩
  rw [hn]
  exact gK i ao cap n s q zs w hn
 exact iw k i ao cap s q zs w h1 h2
theorem kI (x y z : Int) (w : World) :
  Calls Tryz.prog 243 #[eh x y z] w fun e w' => e = .returned (.slice (some ⟨w.heap.size + 1, 0, none⟩) 3 3) ∧
   (w.alloc (.cells #[.int .i64 x, .int .i64 y, .int .i64 z] 272)).alloc (.cells #[.int .i64 x, .int .i64 y, .int .i64 z] 2) = w' := by
 have hmk : ∀ w : World, (Instr.makeSlice 22 (.int .i64 3) (.int .i64 3)).run Tryz.prog w = .ok (.slice (some ⟨w.heap.size, 0, none⟩) 3 3) (w.alloc (.cells #[.int .i64 0, .int .i64 0, .int .i64 0] 2)) := fun _ => by kernel_rfl
 have i0 : ∀ w : World, (Instr.index 272 (.agg #[.int .i64 x, .int .i64 y, .int .i64 z]) (.int .i64 0)).run Tryz.prog w = .ok (.int .i64 x) w := fun _ => by kernel_rfl
 have i1 : ∀ w : World, (Instr.index 272 (.agg #[.int .i64 x, .int .i64 y, .int .i64 z]) (.int .i64 1)).run Tryz.prog w = .ok (.int .i64 y) w := fun _ => by kernel_rfl
 have i2 : ∀ w : World, (Instr.index 272 (.agg #[.int .i64 x, .int .i64 y, .int .i64 z]) (.int .i64 2)).run Tryz.prog w = .ok (.int .i64 z) w := fun _ => by kernel_rfl
 simp only [eh]
 go_enter Tryz.func243, Tryz.ntmps243
 go_wp2
 refine wp_loop_rounds 4 ?_
 rw [rounds_succ]
 go_wp2
 rw [rounds_succ]
 go_wp2
 rw [rounds_succ]
 go_wp2
 rw [rounds_succ]
 go_wp2
 go_ret
 exact ⟨rfl, rfl⟩
theorem j4 (v : Value) (w : World) : (Instr.typeAssert (.iface 294 v) 259 298 true).run Tryz.prog w = .ok (.tuple #[.agg #[.int .i64 0, .int .i64 0, .int .i64 0], .bool false]) w := by kernel_rfl
theorem jV (v : Value) (w : World) : (Instr.typeAssert (.iface 294 v) 259 294 true).run Tryz.prog w = .ok (.tuple #[v, .bool true]) w := by kernel_rfl
theorem gp (i s q : Int) (w : World) :
  Calls Tryz.prog 254 #[kq, .int .i64 i, .int .i64 s, .int .i64 q] w fun e w' => e = .returned (.agg #[.int .i64 2, .int .i64 i, .slice none 0 0, .int .i64 s, .int .i64 q]) ∧ Below w.heap.size w w' := by
 have a1 := j4
 have a2 := jV
 have HB : Hid (∀ o o' o'', Below w.heap.size w (((w.alloc o).alloc o').alloc o'')) := fun o o' o'' => (((Below.refl _ _).alloc (Nat.le_refl _) _).alloc (by simp) _).alloc (by simp; omega) _
 simp only [kq] at *
 go_enter Tryz.func254, Tryz.ntmps254
 go_wp2_with fail
 refine bodyPost_ret (v := .agg #[.int .i64 2, .int .i64 i, .slice none 0 0, .int .i64 s, .int .i64 q]) (by simp [results, Tryz.results254, go_sem]) rfl ?_
 exact ⟨rfl, uh HB _ _ _⟩
theorem kh (v : Value) (w : World) : (Instr.typeAssert (.iface 298 v) 259 298 true).run Tryz.prog w = .ok (.tuple #[v, .bool true]) w := by kernel_rfl
theorem kZ (x y z : Int) (w : World) :
  Calls Tryz.prog 243 #[.agg #[.int .i64 x, .int .i64 y, .int .i64 z]] w fun e w' => ∃ a c, e = .returned (.slice a 3 c) ∧ w'.ownsRow w.heap.size 2 1 (.slice a 3 c) 3 [.int .i64 x, .int .i64 y, .int .i64 z] ∧ Below w.heap.size w w' := by
 refine (kI x y z w).mono ?_
 rintro e w' ⟨rfl, rfl⟩
 exact ⟨_, _, rfl, km (W := w.alloc (.cells #[.int .i64 x, .int .i64 y, .int .i64 z] 272)) (base := w.heap.size) (T := 2) (by simp) (by simp), ((Below.refl _ _).alloc (Nat.le_refl _) _).alloc (by simp) _⟩
theorem lX {w w1 : World} {sx : Nat} {u : Value} {xs : List Value} {B : Nat} {vs : List Value} (hsx : w.heap.size < sx) (hB : sx < B) (O : w1.ownsRow B 2 1 u 3 xs) (hb : Below w.heap.size w w1) :
  (bb (w1.setCell ⟨sx, 2, none⟩ u) w.heap.size 0 vs).ownsRow B 2 1 u 3 xs ∧ Below w.heap.size w (bb (w1.setCell ⟨sx, 2, none⟩ u) w.heap.size 0 vs) := by
 have h1 := dW (a := ⟨sx, 2, none⟩) O (by simpa using hB) u
 have h2 : Below w.heap.size w (w1.setCell ⟨sx, 2, none⟩ u) := hb.setCell (by simp; omega) _
 refine ⟨?_, bH h2 _ _ _ (Nat.le_refl _)⟩
 have : ∀ (l : List Value) (i : Nat) (W : World), W.ownsRow B 2 1 u 3 xs → (bb W w.heap.size i l).ownsRow B 2 1 u 3 xs := by
  intro l
  induction l with
  | nil => intro i W h; exact h
  | cons v l ih => intro i W h; exact ih (i + 1) _ (dW (a := ⟨w.heap.size, i, none⟩) h (by simp; omega) v)
 exact this vs 0 _ h1
theorem hY (x y z i s q : Int) (w : World) :
  Calls Tryz.prog 254 #[lH x y z, .int .i64 i, .int .i64 s, .int .i64 q] w fun e w' => ∃ a c, e = .returned (.agg #[.int .i64 1, .int .i64 i, .slice a 3 c, .int .i64 s, .int .i64 q]) ∧ w'.ownsRow w.heap.size 2 1 (.slice a 3 c) 3 [.int .i64 x, .int .i64 y, .int .i64 z] ∧ Below w.heap.size w w' := by
 have a1 := kh
 have L := yh (fun W => kZ x y z W)
 simp only [lH] at *
 go_enter Tryz.func254, Tryz.ntmps254
 go_wp2_with fail
 obtain ⟨W, hW⟩ : ∃ W, W = ((w.alloc (.cells #[.int .i64 0, .int .i64 0, .slice none 0 0, .int .i64 0, .int .i64 0] 142)).alloc (.cells #[.int .i64 1, .int .i64 i, .slice none 0 0, .int .i64 s, .int .i64 q] 142)).alloc (.cells #[.int .i64 x, .int .i64 y, .int .i64 z] 298) := ⟨_, rfl⟩
 have n1 : Below w.heap.size w (w.alloc (.cells #[.int .i64 0, .int .i64 0, .slice none 0 0, .int .i64 0, .int .i64 0] 142)) := (Below.refl _ _).alloc (Nat.le_refl _) _
 have bR : al 0 #[.int .i64 0, .int .i64 0, .slice none 0 0, .int .i64 0, .int .i64 0] 142 W w.heap.size := by rw [hW]; exact ((aK (Nat.zero_le _)).grow _).grow _
 have bX : al 0 #[.int .i64 1, .int .i64 i, .slice none 0 0, .int .i64 s, .int .i64 q] 142 W (w.heap.size + 1) := by rw [hW]; exact (aU (by omega) (by simp)).grow _
 have HB : Hid (Below w.heap.size w W) := by rw [hW]; exact (n1.alloc (by simp) _).alloc (by simp; omega) _
 rw [← hW]
 clear hW n1
 refine (uh L _).mono ?_
 rintro e w1 ⟨a, c, rfl, O, hb⟩
 have hsx : w.heap.size < w.heap.size + 1 := by omega
 generalize w.heap.size + 1 = sx at *
 have hX := bX.lt
 replace bR := bR.ar hb
 replace bX := bX.ar hb
 replace HB := bZ HB hb
 have x0 := bX.at 0 _ rfl
 have x1 := bX.at 1 _ rfl
 have x2 := bX.at 2 _ rfl
 have x3 := bX.at 3 _ rfl
 have x4 := bX.at 4 _ rfl
 have xf := bX.soft
 have xl := bX.lt
 have r0 := bR.at 0 _ rfl
 have r1 := bR.at 1 _ rfl
 have r2 := bR.at 2 _ rfl
 have r3 := bR.at 3 _ rfl
 have r4 := bR.at 4 _ rfl
 have rf := bR.soft
 have rl := bR.lt
 have HO := yh O
 clear bR bX hb O L
 simp only [ga, gb, gc] at x0 x1 x2 x3 x4 r0 r1 r2 r3 r4
 go_wp2_with fail
 refine bodyPost_ret (v := .agg #[.int .i64 1, .int .i64 i, .slice a 3 c, .int .i64 s, .int .i64 q]) (by simp [results, Tryz.results254, go_sem, r0, r1, r2, r3, r4]) rfl ?_
 obtain ⟨s1, s2⟩ := lX (vs := [.int .i64 1, .int .i64 i, .slice a 3 c, .int .i64 s, .int .i64 q]) hsx hX (uh HO) (uh HB)
 exact ⟨a, c, rfl, ky (by omega) s1, s2⟩
theorem ku (x : ai) (w : World) (hf : wF x = 0) :
  Calls Tryz.prog 254 #[fR x.kind x.vec, .int .i64 x.id, .int .i64 x.aa, .int .i64 x.seq] w fun e w' => ∃ cs, e = .returned (.agg cs.toArray) ∧ ad.ag.aT w' cs x w.heap.size w'.heap.size ∧ Below w.heap.size w w' := by
 obtain ⟨kd, id, vec, ss, sq⟩ := x
 obtain ⟨hi, hs, hq, hk⟩ := cx hf
 simp only at hi hs hq hk
 have w1 : (Lit.int .i64 id).wf = true := bF (by omega)
 have w3 : (Lit.int .i64 ss).wf = true := bF (by omega)
 have w4 : (Lit.int .i64 sq).wf = true := bF (by omega)
 rcases hk with ⟨rfl, hv⟩ | ⟨rfl, hv⟩
 ·
  obtain ⟨hl, hb⟩ := dD hv
  match vec, hl with
  | [p, q, r], _ =>
   refine (hY p q r id ss sq w).mono ?_
   rintro e w' ⟨a, c, rfl, hO, hb2⟩
   have hO2 := ad.jf (zs := [p, q, r]) (fun z hz => bF (by have h0 := hb 0 (by decide); have h1 := hb 1 (by decide); have h2 := hb 2 (by decide); simp at h0 h1 h2 hz; omega)) (by simp) hO
   obtain ⟨bl, O, hr⟩ := hO2
   exact ⟨_, rfl, ⟨bl, eH (x := ⟨1, id, [p, q, r], ss, sq⟩) O (show (Lit.int .i64 1).wf = true by decide) w1 w3 w4 O.2.1, hr⟩, hb2⟩
 subst hv
 refine (gp id ss sq w).mono ?_
 rintro e w' ⟨rfl, hb2⟩
 exact ⟨_, rfl, ⟨[], eH (x := ⟨2, id, [], ss, sq⟩) (c2 := [.slice none 0 0]) ⟨⟨none, 0, rfl, by simp, Or.inl ⟨rfl, rfl⟩⟩, by simp, by simp⟩ (show (Lit.int .i64 2).wf = true by decide) w1 w3 w4 (by simp), by simp⟩, hb2⟩
end Go.Proofs.YtecagllmonckgaaGreat

namespace Go.Proofs.YtecagllmonckgaaGreat
open Go.RowKit Go.ChangeShapes Go.WideShapes
def da {α : Type} (A : ad α) (t : TypeId) : Prop :=
 ∀ {H : Type} (enc : TypeId × Value → H) (W : World) (base : Nat) (spare : Nat → Bool) (held : Bool) (fuel : Nat) (cs : List Value) (x : DataW H × List MemPlace), DataW.trod enc Tryz.prog W base spare held fuel t cs = some x → ∃ y, A.Reads W cs y
theorem ay {α β : Type} {A : ad α} {B : ad β} {W : World} {c1 c2 : List Value} {x : α} {y : β} (h : A.Reads W c1 x) (k : B.Reads W c2 y) : (ad.pair A B).Reads W (c1 ++ c2) (x, y) := by
 obtain ⟨b1, h⟩ := h
 obtain ⟨b2, k⟩ := k
 exact ⟨b1 ++ b2, c1, c2, b1, b2, rfl, rfl, h, k⟩
theorem aH {t : TypeId} (ht : Tryz.prog.underlying t = some (.int .i64)) : da ad.int t := by
 intro H enc W base spare held fuel cs x h
 obtain ⟨n, rfl, -, hw⟩ := DataW.trod_int ht h
 exact ⟨n, [], rfl, hw, rfl⟩
theorem iQ {t : TypeId} (ht : Tryz.prog.underlying t = some .bool) : da ad.bool t := by
 intro H enc W base spare held fuel cs x h
 obtain ⟨b, rfl, -⟩ := DataW.trod_bool ht h
 exact ⟨b, [], rfl, rfl⟩
theorem cg {α : Type} {A : ad α} {t e : TypeId} (ht : Tryz.prog.underlying t = some (.slice e)) (hn : Tryz.prog.cellsOf e = A.n) (h0 : 0 < A.n) (h : da A e) : da (ad.sl A) t := by
 intro H enc W base spare held fuel cs x hx
 rcases Go.Deep.open_slice ht hx with ⟨rfl, -⟩ | ⟨a, len, cap, m, n, D, Pl, rfl, hb, hl, hm, hmm, -, hel⟩
 ·
  exact ⟨[], [], none, 0, rfl, ⟨Nat.le_refl _, by simp⟩, Or.inl ⟨rfl, rfl⟩⟩
 have hlm : len ≤ m := by rw [hmm]; split <;> omega
 rw [hn] at hel
 have each : ∀ i, i < len → ∃ q : List Value × α, (∀ j, j < A.n → W.cell? (a.add (i * A.n + j)) = q.1[j]?) ∧ q.1.length = A.n ∧ A.Reads W q.1 q.2 := by
  intro i hi
  obtain ⟨cs', h1, h2⟩ := hel i (by omega)
  obtain ⟨-, hlen, hc⟩ := World.cells?_some h1
  obtain ⟨y, hy⟩ := h enc W base spare held n cs' _ h2
  refine ⟨(cs', y), fun j hj => ?_, hlen, hy⟩
  have := hc j hj
  rw [Addr.add_add] at this
  exact this
 by_cases hp : 0 < len
 ·
  obtain ⟨b, off, spot⟩ := a
  obtain ⟨q0, c0, l0, -⟩ := each 0 hp
  have hc0 := c0 0 h0
  have hs0 : ∃ v, W.cell? ((⟨b, off, spot⟩ : Addr).add (0 * A.n + 0)) = some v := ⟨_, hc0.trans (List.getElem?_eq_getElem (by omega))⟩
  obtain ⟨v0, hv0⟩ := hs0
  have hspot : spot = none := by simpa [Addr.add] using World.cell?_spot hv0
  subst hspot
  have hbl : b < W.heap.size := by
   have := World.block_lt_of_cell? _ _ hv0
   simpa [Addr.add] using this
  have pick : ∃ f : (i : Nat) → i < len → List Value × α, ∀ i (hi : i < len), (∀ j, j < A.n → W.cell? ((⟨b, off, none⟩ : Addr).add (i * A.n + j)) = (f i hi).1[j]?) ∧ (f i hi).1.length = A.n ∧ A.Reads W (f i hi).1 (f i hi).2 :=
   ⟨fun i hi => Classical.choose (each i hi), fun i hi => Classical.choose_spec (each i hi)⟩
  obtain ⟨f, hf⟩ := pick
  have pick2 : ∃ g : (i : Nat) → i < len → List Nat, ∀ i (hi : i < len), A.br W (f i hi).1 (f i hi).2 (g i hi) :=
   ⟨fun i hi => Classical.choose (hf i hi).2.2, fun i hi => Classical.choose_spec (hf i hi).2.2⟩
  obtain ⟨g, hg⟩ := pick2
  refine ⟨(List.finRange len).map (fun i => (f i.1 i.2).2), b :: ((List.finRange len).map (fun i => g i.1 i.2)).flatten, some ⟨b, off, none⟩, cap, by simp, ⟨by simpa using hl, by simp; unfold maxLen at hm; omega⟩, Or.inr ⟨b, off, (List.finRange len).map (fun i => (f i.1 i.2).1), (List.finRange len).map (fun i => g i.1 i.2), rfl, hbl, rfl, by simp, by simp, fun j h1 h2 h3 => ?_⟩⟩
  have hj : j < len := by simpa using h1
  refine ⟨fun k hk => ?_, ?_⟩
  ·
   have := (hf j hj).1 k hk
   rw [Addr.add_lit] at this
   simpa [Nat.add_assoc] using this
  simpa using hg j hj
 obtain rfl : len = 0 := by omega
 exact ⟨[], [], some a, cap, rfl, ⟨hl, by simp⟩, Or.inl ⟨rfl, rfl⟩⟩
theorem gQ {α : Type} {A : ad α} {t : TypeId} (O : da A t) {H : Type} {enc : TypeId × Value → H} {W : World} {base : Nat} {spare : Nat → Bool} {held : Bool} {cs : Array Value} {d : DataW H} {p : List MemPlace}
  (h : DataW.Trod enc Tryz.prog W base spare held t (.agg cs) d p) : ∃ y, A.Reads W cs.toList y := by
 obtain ⟨fuel, hf⟩ := h
 exact O enc W base spare held fuel _ _ (by simpa [Value.cells] using hf)
end Go.Proofs.YtecagllmonckgaaGreat

namespace Go.Proofs.YtecagllmonckgaaGreat
open Go.RowKit
def kv (w w' : World) (e : Ending) (ws : List ai) : Prop := ∃ r, e = .returned (.tuple #[r, .int .i64 (aD ws)]) ∧ (aD ws = 0 → r = .pointer (some ⟨w.heap.size + 1, 0, none⟩) ∧ ∃ v rows bls, Told w' (w.heap.size + 1) w.heap.size w'.heap.size ws v rows bls) ∧ (aD ws ≠ 0 → r = .pointer none) ∧ Below w.heap.size w w'
theorem fs (w : World) : Told ((w.alloc (.map #[] 0)).alloc (.cells #[.slice none 0 0, .map (some w.heap.size), .int .i64 0, .int .i64 0, .int .i64 0, .int .i64 0, .int .i64 0, .int .i64 0, .int .i64 0, .int .i64 0, .int .i64 0, .int .i64 0] 237)) (w.heap.size + 1) w.heap.size ((w.alloc (.map #[] 0)).alloc (.cells #[.slice none 0 0, .map (some w.heap.size), .int .i64 0, .int .i64 0, .int .i64 0, .int .i64 0, .int .i64 0, .int .i64 0, .int .i64 0, .int .i64 0, .int .i64 0, .int .i64 0] 237)).heap.size [] (.slice none 0 0) [] [] := j8 w
theorem jM (b off cap : Nat) (ws : List ai) (w : World) (h : (ad.sl ad.ag).Reads w [.slice (some ⟨b, off, none⟩) ws.length cap] ws) (hbl : b < w.heap.size) (hn : ws.length ≤ 200) :
  Calls Tryz.prog 215 #[.slice (some ⟨b, off, none⟩) ws.length cap] w fun e w' => kv w w' e ws := by
 have HW : Hid (aD ws = ba ws) := by show aD ws = ba ws; rw [aD, if_neg (by omega)]
 have H := yh h
 clear h
 have HT0 := yh (fs w)
 have HB0 := yh (((Below.refl w.heap.size w).alloc (Nat.le_refl _) (.map #[] 0)).alloc (by simp) (.cells #[.slice none 0 0, .map (some w.heap.size), .int .i64 0, .int .i64 0, .int .i64 0, .int .i64 0, .int .i64 0, .int .i64 0, .int .i64 0, .int .i64 0, .int .i64 0, .int .i64 0] 237))
 have hmk := @run_makeMap Tryz.prog
 go_enter Tryz.func215, Tryz.ntmps215
 go_wp2_with fail
 clear hmk
 generalize (w.alloc (.map #[] 0)).alloc (.cells #[.slice none 0 0, .map (some w.heap.size), .int .i64 0, .int .i64 0, .int .i64 0, .int .i64 0, .int .i64 0, .int .i64 0, .int .i64 0, .int .i64 0, .int .i64 0, .int .i64 0] 237) = W1 at *
 go_loopw [17] (fun i wr => ∃ k : Nat, k ≤ ws.length ∧ i = .int .i64 k ∧ (∀ j (hj : j < ws.length), j < k → wF ws[j] = 0) ∧ (∃ v rows bls, Told wr (w.heap.size + 1) w.heap.size wr.heap.size (ws.take k) v rows bls) ∧ Below w.heap.size w wr) (fun i _ => ws.length - (intOf i).toNat)
 case atStart => exact ⟨0, Nat.zero_le _, rfl, fun j _ hj => by omega, ⟨_, _, _, uh HT0⟩, uh HB0⟩
 case round =>
  obtain ⟨k, hk, rfl, hz, ⟨v, rows, bls, hT⟩, hB⟩ := hrel
  clear HT0 HB0
  by_cases hlt : k < ws.length
  ·
   obtain ⟨row, hc, hr⟩ := ad.aY (uh H) hlt
   replace hr := hr.af hB
   obtain ⟨a2, d2, rfl, R2⟩ := aQ hr
   have c0 : wr.cell? ⟨b, off + k * 5, none⟩ = some (.int .i64 (ws[k]).kind) := (hB.cell (p := ⟨b, off + k * 5, none⟩) hbl).trans (hc 0 (by decide))
   have c1 : wr.cell? ⟨b, off + k * 5 + 1, none⟩ = some (.int .i64 (ws[k]).id) := (hB.cell (p := ⟨b, off + k * 5 + 1, none⟩) hbl).trans (hc 1 (by decide))
   have c2 : wr.cell? ⟨b, off + k * 5 + 2, none⟩ = some (.slice a2 (ws[k]).vec.length d2) := (hB.cell (p := ⟨b, off + k * 5 + 2, none⟩) hbl).trans (hc 2 (by decide))
   have c3 : wr.cell? ⟨b, off + k * 5 + 3, none⟩ = some (.int .i64 (ws[k]).aa) := (hB.cell (p := ⟨b, off + k * 5 + 3, none⟩) hbl).trans (hc 3 (by decide))
   have c4 : wr.cell? ⟨b, off + k * 5 + 4, none⟩ = some (.int .i64 (ws[k]).seq) := (hB.cell (p := ⟨b, off + k * 5 + 4, none⟩) hbl).trans (hc 4 (by decide))
   have HZ := yh hz
   have HST : Hid (ws.take (k + 1) = ws.take k ++ [ws[k]]) := List.take_succ_eq_append_getElem hlt
   have HAT : Hid (wF ws[k] ≠ 0 → aD ws = wF ws[k]) := fun hn => (uh HW).trans (ef ws k hlt hz hn)
   have HZ2 : Hid (wF ws[k] = 0 → ∀ j (hj : j < ws.length), j < k + 1 → wF ws[j] = 0) := by
    intro h0 j hj hjk
    by_cases hjk2 : j < k
    ·
     exact uh HZ j hj hjk2
    obtain rfl : j = k := by omega
    exact h0
   have HLK : Hid ((ws.take k).length = k) := by show (ws.take k).length = k; rw [List.length_take]; omega
   clear hc hr hz HZ
   generalize hx : ws[k] = x at *
   clear hx
   have hbr : b < wr.heap.size := Nat.lt_of_lt_of_le hbl hB.size
   have nb : Below wr.heap.size wr (wr.alloc (.cells #[.int .i64 x.kind, .int .i64 x.id, .slice a2 x.vec.length d2, .int .i64 x.aa, .int .i64 x.seq] 142)) := (Below.refl _ _).alloc (Nat.le_refl _) _
   have bI : al wr.heap.size #[.int .i64 x.kind, .int .i64 x.id, .slice a2 x.vec.length d2, .int .i64 x.aa, .int .i64 x.seq] 142 (wr.alloc (.cells #[.int .i64 x.kind, .int .i64 x.id, .slice a2 x.vec.length d2, .int .i64 x.aa, .int .i64 x.seq] 142)) wr.heap.size := aK (Nat.le_refl _)
   have L := ix x.kind x.id (.slice a2 x.vec.length d2) x.aa x.seq x.vec _ ((ad.bt R2).af nb)
   simp only [bV] at L
   rw [show ak x.kind x.id x.vec x.aa x.seq = wF x from rfl] at L
   have HL := yh L
   have HT := yh (hT.af nb)
   have HB := yh (hB.trans (nb.mono hB.size))
   have HBI := yh bI
   have HZW : Hid (w.heap.size ≤ wr.heap.size) := hB.size
   clear R2 hT hB nb bI L
   go_wp2_with fail
   clear c0 c1 c2 c3 c4
   refine (uh HL).mono ?_
   generalize hW0 : wr.alloc (.cells #[.int .i64 x.kind, .int .i64 x.id, .slice a2 x.vec.length d2, .int .i64 x.aa, .int .i64 x.seq] 142) = W0 at *
   clear hW0
   rintro e w2 ⟨rfl, hb⟩
   replace HT := yh ((uh HT).af hb)
   replace HBI := yh ((uh HBI).ar hb)
   replace HB := bZ HB hb
   clear hb HL
   by_cases hf : wF x = 0
   ·
    rw [hf, show dT x.kind x.id x.vec x.aa x.seq = fR x.kind x.vec from if_pos hf]
    have hb1 : w2.cell? ⟨wr.heap.size, 1, none⟩ = some (.int .i64 x.id) := (uh HBI).at 1 _ rfl
    have hb3 : w2.cell? ⟨wr.heap.size, 3, none⟩ = some (.int .i64 x.aa) := (uh HBI).at 3 _ rfl
    have hb4 : w2.cell? ⟨wr.heap.size, 4, none⟩ = some (.int .i64 x.seq) := (uh HBI).at 4 _ rfl
    have hbl1 : wr.heap.size < w2.heap.size := (uh HBI).lt
    have HZ3 := yh (uh HZ2 hf)
    have HL := yh (ku x w2 hf)
    have HF := yh hf
    generalize hdv : fR x.kind x.vec = dv at *
    clear hf hdv HZ2 HAT HBI
    go_wp2_with fail
    refine (uh HL).mono ?_
    rintro e w3 ⟨cs, rfl, ⟨bl, hO, hr⟩, hb3⟩
    have hT3 := (uh HT).af hb3
    replace HB := bZ HB hb3
    have HC := yh (mn (hT3.raise (Nat.le_trans (Nat.le_of_lt hbl1) (Nat.le_refl w2.heap.size))) hO.1 (fun c hc => ⟨(hr c hc).1, hO.2.2 c hc⟩) hO.2.1 hb3.size (uh HF) (by rw [uh HLK]; omega))
    rw [← uh HST] at HC
    clear hO hr hb3 HL HT hT3 HF hb1 hb4 hbl1
    go_wp2_with fail
    refine (uh HC).mono ?_
    rintro e w4 ⟨rfl, ⟨v4, rows4, bls4, hT4⟩, hb4⟩
    have HT4 := yh hT4
    have HB4 := yh ((uh HB).trans hb4)
    clear hT4 hb4 HC HB
    go_wp2_with fail
    go_roundw
    case rel => exact ⟨k + 1, by omega, by go_num, uh HZ3, ⟨_, _, _, uh HT4⟩, uh HB4⟩
    case measure => simp [intOf]; omega
   have hd : (wF x != 0) = true := by simpa using hf
   have HG := yh (uh HAT hf)
   have HF := yh hf
   generalize hdr : dT x.kind x.id x.vec x.aa x.seq = dr at *
   clear hf hdr HZ2 HAT HST HT HBI
   go_wp2_with fail
   refine bodyPost_ret (v := .tuple #[.pointer none, .int .i64 (wF x)]) (by simp [results, Tryz.results215, go_sem]) rfl ?_
   exact ⟨.pointer none, by rw [uh HG], fun e => absurd ((uh HG).symm.trans e) (uh HF), fun _ => rfl, uh HB⟩
  obtain rfl : k = ws.length := by omega
  have HG : Hid (aD ws = 0) := (uh HW).trans (cI ws fun j hj => hz j hj hj)
  rw [List.take_length] at hT
  have HT := yh hT
  have HB := yh hB
  clear hT hB hz H HW
  go_wp2_with fail
  refine bodyPost_ret (v := .tuple #[.pointer (some ⟨w.heap.size + 1, 0, none⟩), .int .i64 0]) (by simp [results, Tryz.results215, go_sem]) rfl ?_
  exact ⟨.pointer (some ⟨w.heap.size + 1, 0, none⟩), by rw [uh HG], fun _ => ⟨rfl, _, _, _, uh HT⟩, fun e => absurd (uh HG) e, uh HB⟩
theorem gw (v : Value) (ws : List ai) (w : World) (h : (ad.sl ad.ag).Reads w [v] ws) :
  Calls Tryz.prog 215 #[v] w fun e w' => kv w w' e ws := by
 obtain ⟨ao, cap, rfl⟩ := aC h
 by_cases hn : ws.length ≤ 200
 ·
  by_cases hp : 0 < ws.length
  ·
   obtain ⟨b, off, rfl, hbl⟩ := ad.aI h hp
   exact jM b off cap ws w h hbl hn
  obtain rfl : ws = [] := List.eq_nil_of_length_eq_zero (by omega)
  clear h hn hp
  have HT0 := yh (fs w)
  have HB0 := yh (((Below.refl w.heap.size w).alloc (Nat.le_refl _) (.map #[] 0)).alloc (by simp) (.cells #[.slice none 0 0, .map (some w.heap.size), .int .i64 0, .int .i64 0, .int .i64 0, .int .i64 0, .int .i64 0, .int .i64 0, .int .i64 0, .int .i64 0, .int .i64 0, .int .i64 0] 237))
  have hmk := @run_makeMap Tryz.prog
  go_enter Tryz.func215, Tryz.ntmps215
  go_wp2_with fail
  clear hmk
  refine wp_loop_rounds 1 ?_
  rw [rounds_succ]
  go_wp2_with fail
  refine bodyPost_ret (v := .tuple #[.pointer (some ⟨w.heap.size + 1, 0, none⟩), .int .i64 0]) (by simp [results, Tryz.results215, go_sem]) rfl ?_
  exact ⟨.pointer (some ⟨w.heap.size + 1, 0, none⟩), rfl, fun _ => ⟨rfl, _, _, _, uh HT0⟩, fun e => absurd rfl e, uh HB0⟩
 have e : aD ws = 2 := by rw [aD, if_pos (by omega)]
 have HG := yh e
 have hd : decide ((200 : Int) < (ws.length : Int)) = true := by simp; omega
 clear h e
 go_enter Tryz.func215, Tryz.ntmps215
 go_wp2_with fail
 refine bodyPost_ret (v := .tuple #[.pointer none, .int .i64 2]) (by simp [results, Tryz.results215, go_sem]) rfl ?_
 exact ⟨.pointer none, by rw [uh HG], fun e => absurd ((uh HG).symm.trans e) (by decide), fun _ => rfl, Below.refl _ _⟩
end Go.Proofs.YtecagllmonckgaaGreat
