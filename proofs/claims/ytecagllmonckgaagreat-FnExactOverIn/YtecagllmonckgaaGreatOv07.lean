/-
  Texts of this proof in one: AppWrite, ImplTell, VecOf, ImplDeed, ListC, ImplWOf, ImplWOfA, LayOpen.
  Their conditions stand in their theorems.
-/
import Derived.Test.YtecagllmonckgaaGreatChecked
import Derived.Test.YtecagllmonckgaaGreatOv01
import Derived.Test.YtecagllmonckgaaGreatOv06
import Derived.Test.YtecagllmonckgaaGreatOv00
import Derived.Deep.RegionHeld3
import Derived.Test.YtecagllmonckgaaGreatOv05
import Derived.WalkSmall
import Derived.Outline
import Derived.ProofKit
import Derived.OpenShut
import Derived.Deep.Slices
set_option maxRecDepth 100000
set_option maxHeartbeats 4000000
namespace Go.Proofs.YtecagllmonckgaaGreat
open Go.RowKit
theorem dC : (Tryz.prog.info? 142).map (fun i => (i.zero, i.size, i.bytes)) = some (some (.agg #[.int .i64 0, .int .i64 0, .slice none 0 0, .int .i64 0, .int .i64 0]), 5, 56) := by kernel_rfl
theorem fB {w : World} {row : List Value} {x : aj} {bl : List Nat} (h : ad.ag.bo w row x bl) : (∀ u ∈ row, u.oneCell' = true) ∧ row.length = 1 * 5 := by
 obtain ⟨_, _, _, rfl, -⟩ := bH.1 h
 simp [Value.oneCell']
theorem gW {w1 : World} {base : Nat} {v : Value} {rows : List (List Value)} {xs : List aj} {bls : List (List Nat)} (hG : dj ad.ag w1 base 142 v rows xs bls) {row : List Value} {x : aj} {bl : List Nat} (hl : ad.ag.bo w1 row x bl) (hbl : ∀ b ∈ bl, v.ownBlock ≠ some b) {ops : Array Oper} {rest : List Oper} {o : Oper} {a : Act} {Q : Exit → Act → World → Prop} (hgd : o.guard = none) (s y : Operand)
  (ho : o.op = .call { callee := .builtin .append, args := #[s, y], argTypes := #[77, 77] }) (hs : a.eval s = v) (hy : a.eval y = .slice (some ⟨w1.heap.size, 0, none⟩) 1 1) (hn : xs.length + 1 ≤ 100000000) (hbase : base ≤ w1.heap.size)
  (h : ∀ g cap w', dj ad.ag w' base 142 (.slice (some ⟨g, 0, none⟩) (xs.length + 1) cap) (rows ++ [row]) (xs ++ [x]) (bls ++ [bl]) → Below base w1 w' → Ext (fun q => v.ownBlock = some q) w1 w' → g < w'.heap.size → w1.heap.size ≤ w'.heap.size → (v.ownBlock = some g ∨ w1.heap.size ≤ g) → wpList Tryz.prog ops Q rest (a.put o.dst (.slice (some ⟨g, 0, none⟩) (xs.length + 1) cap)) w') :
  wpList Tryz.prog ops Q (o :: rest) a (w1.alloc (.cells row.toArray 142)) := by
 obtain ⟨i0, hi0, hz0, hz1, hz2⟩ := info_parts dC
 obtain ⟨h1, hlen⟩ := fB hl
 refine wpList_append_lies _ hgd s y 77 ho base 142 i0 _ 5 56 Tryz.underlying77 hi0 hz0 hz1 hz2 rfl (by omega) v xs.length rows.flatten hs (hG.own.alloc _) ⟨w1.heap.size, 0, none⟩ 1 1 row hy hlen (World.news_of_block (cs := row.toArray) (t := 142) (fr := (0, 0)) (heap_alloc_new w1 _)) h1 (by omega) (by unfold maxLen; omega) (by omega) (by simp; omega) (w1.alloc (.cells row.toArray 142)).heap.size rfl ?_
 intro g cap w' h2 h3 h4 h5
 have hg := dX h3
 have hbw : Below base w1 w' := (Below.refl _ _).grown hg hbase (fun j hj => (hG.own.lt j hj).1)
 have hor : v.ownBlock = some g ∨ w1.heap.size ≤ g := by
  rcases h4 with h4 | h4
  ·
   exact Or.inl h4
  exact Or.inr (by rw [h4]; simp)
 exact h g cap w' (hG.snoc hl hbl h2 hg hor) hbw ⟨hbw.os, hbw.tape, hbw.output, hbw.size, fun k hk hn => hg.block k hk (fun e => hn e.symm)⟩ h5 hbw.size hor
theorem dD {w1 : World} {base : Nat} {v : Value} {rows : List (List Value)} {xs : List aj} {bls : List (List Nat)} (hG : dj ad.ag w1 base 142 v rows xs bls) {row : List Value} {x : aj} {bl : List Nat} (hl : ad.ag.bo w1 row x bl) (hbl : ∀ b ∈ bl, v.ownBlock ≠ some b) {ops : Array Oper} {o : Oper} {a : Act} {K : Act → World → Prop} {Q : Exit → Act → World → Prop} {E : Prop} (hgd : o.guard = none) (s y : Operand)
  (ho : o.op = .call { callee := .builtin .append, args := #[s, y], argTypes := #[77, 77] }) (hs : a.eval s = v) (hy : a.eval y = .slice (some ⟨w1.heap.size, 0, none⟩) 1 1) (hn : xs.length + 1 ≤ 100000000) (hbase : base ≤ w1.heap.size)
  (h : ∀ g cap w', dj ad.ag w' base 142 (.slice (some ⟨g, 0, none⟩) (xs.length + 1) cap) (rows ++ [row]) (xs ++ [x]) (bls ++ [bl]) → Below base w1 w' → Ext (fun q => v.ownBlock = some q) w1 w' → g < w'.heap.size → w1.heap.size ≤ w'.heap.size → (v.ownBlock = some g ∨ w1.heap.size ≤ g) → K (a.put o.dst (.slice (some ⟨g, 0, none⟩) (xs.length + 1) cap)) w') :
  if Region.wanted o (yielded ops a.tmps) = true then Oper.wp Tryz.prog o a (w1.alloc (.cells row.toArray 142)) K Q else E := by
 obtain ⟨i0, hi0, hz0, hz1, hz2⟩ := info_parts dC
 obtain ⟨h1, hlen⟩ := fB hl
 refine step_append_lies _ hgd s y 77 ho base 142 i0 _ 5 56 Tryz.underlying77 hi0 hz0 hz1 hz2 rfl (by omega) v xs.length rows.flatten hs (hG.own.alloc _) ⟨w1.heap.size, 0, none⟩ 1 1 row hy hlen (World.news_of_block (cs := row.toArray) (t := 142) (fr := (0, 0)) (heap_alloc_new w1 _)) h1 (by omega) (by unfold maxLen; omega) (by omega) (by simp; omega) (w1.alloc (.cells row.toArray 142)).heap.size rfl ?_
 intro g cap w' h2 h3 h4 h5
 have hg := dX h3
 have hbw : Below base w1 w' := (Below.refl _ _).grown hg hbase (fun j hj => (hG.own.lt j hj).1)
 have hor : v.ownBlock = some g ∨ w1.heap.size ≤ g := by
  rcases h4 with h4 | h4
  ·
   exact Or.inl h4
  exact Or.inr (by rw [h4]; simp)
 exact h g cap w' (hG.snoc hl hbl h2 hg hor) hbw ⟨hbw.os, hbw.tape, hbw.output, hbw.size, fun k hk hn => hg.block k hk (fun e => hn e.symm)⟩ h5 hbw.size hor
theorem Ext.fE {S : Nat → Prop} {a b : World} (h : Ext S a b) : Ext S a b.drew := ⟨h.os, h.tape, h.output, h.size, h.block⟩
theorem Ext.hJ {S : Nat → Prop} {a b : World} (h : Ext S a b) (o : Obj) : Ext S a (b.alloc o) := h.trans (bj ((Below.refl _ _).alloc (Nat.le_refl _) o) S)
theorem kk (k i : Int) (u1 : Option Addr) (u2 u3 : Nat) (s q : Int) (w : World) :
  Calls Tryz.prog 275 #[.agg #[.int .i64 k, .int .i64 i, .slice u1 u2 u3, .int .i64 s, .int .i64 q]] w fun e w' => e = .returned (tick s q) ∧ Below w.heap.size w w' := by
 have HB : Hid (∀ o o', Below w.heap.size w ((w.alloc o).alloc o')) := fun o o' => ((Below.refl _ _).alloc (Nat.le_refl _) _).alloc (by simp) _
 go_enter Tryz.func275, Tryz.ntmps275
 go_wp2_with fail
 refine bodyPost_ret (v := .agg #[.int .i64 s, .int .i64 q]) (by simp [results, Tryz.results275, go_sem]) rfl ?_
 exact ⟨rfl, uh HB _ _⟩
theorem lr {w : World} {p mb N : Nat} {ws : List aj} {v : Value} {rows : List (List Value)} {bls : List (List Nat)} (h : Told w p mb N ws v rows bls) {cs : List Value} {x : aj} {bl : List Nat} (hl : ad.ag.bo w cs x bl) (hX : ∀ b ∈ bl, N ≤ b ∧ ∀ o, w.frozen? ⟨b, o, none⟩ = false) (hnd : bl.Nodup) (hNw : N ≤ w.heap.size) (hf : wF x = 0) (hn : ws.length < 1000) :
  Calls Tryz.prog 253 #[.pointer (some ⟨p, 0, none⟩), .agg cs.toArray] w fun e w' => e = .returned (.tuple #[]) ∧ (∃ v' rows' bls', Told w' p mb w'.heap.size (ws ++ [x]) v' rows' bls') ∧ Below mb w w' := by
 obtain ⟨a2, d2, b2, rfl, rfl, -, -, -, k3, k4⟩ := bH.1 hl
 have nb : Below w.heap.size w (w.alloc (.cells #[.int .i64 x.kind, .int .i64 x.id, .slice a2 x.vec.length d2, .int .i64 x.aa, .int .i64 x.seq] 142)) := (Below.refl _ _).alloc (Nat.le_refl _) _
 have hQ0 : aA 0 #[.int .i64 x.kind, .int .i64 x.id, .slice a2 x.vec.length d2, .int .i64 x.aa, .int .i64 x.seq] 142 (w.alloc (.cells #[.int .i64 x.kind, .int .i64 x.id, .slice a2 x.vec.length d2, .int .i64 x.aa, .int .i64 x.seq] 142)) w.heap.size := aM (Nat.zero_le _)
 have hT0 := h.ae nb
 have hL0 : ad.ag.bo (w.alloc (.cells #[.int .i64 x.kind, .int .i64 x.id, .slice a2 x.vec.length d2, .int .i64 x.aa, .int .i64 x.seq] 142)) [.int .i64 x.kind, .int .i64 x.id, .slice a2 x.vec.length d2, .int .i64 x.aa, .int .i64 x.seq] x bl := ad.ag.al hl fun b hb => nb.block b (ad.ag.lt hl b hb)
 have hpw := h.box.lt
 have hmp := h.lt
 have HNW := yh hNw
 have hF0 : ∀ b ∈ bl, ∀ o, (w.alloc (.cells #[.int .i64 x.kind, .int .i64 x.id, .slice a2 x.vec.length d2, .int .i64 x.aa, .int .i64 x.seq] 142)).frozen? ⟨b, o, none⟩ = false := fun b hb o => (bq (nb.block b (ad.ag.lt hl b hb)) o).trans ((hX b hb).2 o)
 have hBw : Below mb w (w.alloc (.cells #[.int .i64 x.kind, .int .i64 x.id, .slice a2 x.vec.length d2, .int .i64 x.aa, .int .i64 x.seq] 142)) := nb.mono (by omega)
 go_enter Tryz.func253, Tryz.ntmps253
 go_wp2_with fail
 generalize hW0 : w.alloc (.cells #[.int .i64 x.kind, .int .i64 x.id, .slice a2 x.vec.length d2, .int .i64 x.aa, .int .i64 x.seq] 142) = W0 at *
 clear hW0
 have hHD : Ext (fun c => c = p ∨ v.ownBlock = some c) W0 W0.drew := (Ext.refl _ _).fE
 have hTD : Told W0.drew p mb N ws v rows bls := hT0.ae (bW (Below.refl _ _) 1)
 have hLD : ad.ag.bo W0.drew [.int .i64 x.kind, .int .i64 x.id, .slice a2 x.vec.length d2, .int .i64 x.aa, .int .i64 x.seq] x bl := hL0
 have hFD : ∀ b ∈ bl, ∀ o, W0.drew.frozen? ⟨b, o, none⟩ = false := hF0
 refine wZz (fun w' => Ext (fun c => c = p ∨ v.ownBlock = some c) W0 w') (Ext.refl _ _).fE (fun zq => ?_)
 generalize W0.drew = wD at zq hTD hLD hHD hFD ⊢
 refine tkH 0 zq ?_
 refine tkH 1 zq ?_
 refine tkH 2 zq ?_
 refine tkH 3 zq ?_
 refine tkJ 5 (v := ?va5) ?ha5 zq ?ra5
 case ha5 =>
  intro wS hSw
  have y0 : wS.cell? ⟨w.heap.size, 0, none⟩ = some (.int .i64 x.kind) := (hQ0.ext hSw (by first | (rintro (e | e); omega; have := h.iP _ e; have := uh HNW; omega) | (intro e; omega) | exact fun e => e)).at 0 _ rfl
  have y1 : wS.cell? ⟨w.heap.size, 1, none⟩ = some (.int .i64 x.id) := (hQ0.ext hSw (by first | (rintro (e | e); omega; have := h.iP _ e; have := uh HNW; omega) | (intro e; omega) | exact fun e => e)).at 1 _ rfl
  have y2 : wS.cell? ⟨w.heap.size, 2, none⟩ = some (.slice a2 x.vec.length d2) := (hQ0.ext hSw (by first | (rintro (e | e); omega; have := h.iP _ e; have := uh HNW; omega) | (intro e; omega) | exact fun e => e)).at 2 _ rfl
  have y3 : wS.cell? ⟨w.heap.size, 3, none⟩ = some (.int .i64 x.aa) := (hQ0.ext hSw (by first | (rintro (e | e); omega; have := h.iP _ e; have := uh HNW; omega) | (intro e; omega) | exact fun e => e)).at 3 _ rfl
  have y4 : wS.cell? ⟨w.heap.size, 4, none⟩ = some (.int .i64 x.seq) := (hQ0.ext hSw (by first | (rintro (e | e); omega; have := h.iP _ e; have := uh HNW; omega) | (intro e; omega) | exact fun e => e)).at 4 _ rfl
  clear hSw
  exact fZ
 refine (fun (REST : ?T) => ?main) ?rest
 case main =>
  refine wpAnyH_ready (rs := [4, 6]) (by kernel_rfl) (by simp) ?_
  refine AllReadyH.cons (o := ⟨some 11, .load 77 (.tmp 10), 77, "l05_session.go:65", #[⟨3, .data⟩], none⟩) rfl (fun K hK => ?first) (AllReadyH.cons (o := ⟨some 13, .buildSlice 77 1 #[(0, .tmp 12)], 77, "l05_session.go:65", #[⟨5, .data⟩], none⟩) rfl (fun K hK => ?second) AllReadyH.nil)
  case first =>
   have y0 : wD.cell? ⟨p, 0, none⟩ = some v := hTD.box.at 0 _ rfl
   have hp : p < wD.heap.size := hTD.box.lt
   have y1 : ∀ o, (wD.alloc o).cell? ⟨p, 0, none⟩ = some v := fun o => (World.cell?_alloc_lt _ _ _ hp).trans y0
   go_simp
   refine hK.out _ _ zq (fun zq => ?_)
   clear hK K
   try simp only [Act.put, pz, py, px]
   refine rdH 6 (fun K hK => ?_)
   go_simp
   refine hK.out _ _ (zq.hJ _) (fun zq => ?_)
   clear hK K
   try simp only [Act.put, pz, py, px]
   exact REST
  case second =>
   go_simp
   refine hK.out _ _ (zq.hJ _) (fun zq => ?_)
   clear hK K
   try simp only [Act.put, pz, py, px]
   refine rdH 4 (fun K hK => ?_)
   have y0 : wD.cell? ⟨p, 0, none⟩ = some v := hTD.box.at 0 _ rfl
   have hp : p < wD.heap.size := hTD.box.lt
   have y1 : ∀ o, (wD.alloc o).cell? ⟨p, 0, none⟩ = some v := fun o => (World.cell?_alloc_lt _ _ _ hp).trans y0
   go_simp
   refine hK.out _ _ zq (fun zq => ?_)
   clear hK K
   try simp only [Act.put, pz, py, px]
   exact REST
 case rest =>
 replace zq := zq.hJ (.cells #[.int .i64 x.kind, .int .i64 x.id, .slice a2 x.vec.length d2, .int .i64 x.aa, .int .i64 x.seq] 142)
 refine rdH 7 (fun K hK => ?_)
 refine dD hTD.grow (row := [.int .i64 x.kind, .int .i64 x.id, .slice a2 x.vec.length d2, .int .i64 x.aa, .int .i64 x.seq]) (x := x) (bl := bl) hLD (fun c hc e => by have h1 := (hX c hc).1; have h2 := hTD.iP c e; omega) rfl _ _ rfl rfl rfl (by omega) (by have := hTD.box.lt; omega) ?_
 rintro g5 cp5 w5 hG5 hb5 hE5 hl5 hz5 hor5
 refine hK.out _ _ ((hHD.trans (hE5.mono (fun k _ h => Or.inr h)))) (fun zq => ?_)
 clear hK K
 try simp only [Act.put, pz, py, px]
 refine tkH 8 zq ?_
 refine tkH 9 zq ?_
 refine rdH 10 (fun K hK => ?_)
 have hb6 : aA 0 (cy v mb (az ws)) 237 w5 p := hTD.box.ext hE5 (fun e => by have := (hTD.grow.own.lt p e).1; omega)
 have c6 : w5.cell? ⟨p, 0, none⟩ = some v := hb6.at 0 _ rfl
 have f6 := hb6.soft 0
 have l6 := hb6.lt
 go_simp
 refine hK.out _ _ ((hHD.trans (hE5.mono (fun k _ h => Or.inr h))).setCell ⟨p, 0, none⟩ _ (Or.inl rfl)) (fun zq => ?_)
 clear hK K
 try simp only [Act.put, pz, py, px]
 refine dZ ?_
 have hnf : (bls ++ [bl]).flatten = bls.flatten ++ bl := by simp
 have hT6 := hTD.added hG5 hE5 (by
  intro b hb
  rw [hnf] at hb
  rcases List.mem_append.1 hb with hb | hb
  ·
   exact ⟨(hTD.sub b hb).1, fun o => (bq (hE5.block b (hTD.grow.sub_lt b hb) (fun e => hTD.grow.off b hb e)) o).trans ((hTD.sub b hb).2 o)⟩
  ·
   refine ⟨by have := (hX b hb).1; have := hTD.pN; omega, fun o => (bq (hE5.block b (ad.ag.lt hLD b hb) (fun e => by have := hTD.iP b e; have := (hX b hb).1; omega)) o).trans (hFD b hb o)⟩) (by
  rw [hnf, List.nodup_append]
  exact ⟨hTD.nd, hnd, fun b hb c hc e => by have := hTD.ln b hb; have := (hX c hc).1; omega⟩)
 have hQ6 : aA 0 #[.int .i64 x.kind, .int .i64 x.id, .slice a2 x.vec.length d2, .int .i64 x.aa, .int .i64 x.seq] 142 (w5.setCell ⟨p, 0, none⟩ (.slice (some ⟨g5, 0, none⟩) (ws.length + 1) cp5)) w.heap.size := hQ0.ext zq (by rintro (e | e); omega; have := h.iP _ e; omega)
 have hB6 : Below mb w (w5.setCell ⟨p, 0, none⟩ (.slice (some ⟨g5, 0, none⟩) (ws.length + 1) cp5)) := hBw.trans (zq.below (by have := hBw.size; omega) (by rintro c hc (e | e); omega; have := (h.grow.own.lt c e).1; omega))
 clear zq hTD hLD hHD hFD hG5 hE5 hb5 hl5 hz5 hor5 hT0 hL0 hF0 hQ0 hBw h hl hX hnd nb hnf
 generalize w5.setCell ⟨p, 0, none⟩ (.slice (some ⟨g5, 0, none⟩) (ws.length + 1) cp5) = w6 at hT6 hQ6 hB6 ⊢
 have y0 : w6.cell? ⟨w.heap.size, 0, none⟩ = some (.int .i64 x.kind) := hQ6.at 0 _ rfl
 have y1 : w6.cell? ⟨w.heap.size, 1, none⟩ = some (.int .i64 x.id) := hQ6.at 1 _ rfl
 have y2 : w6.cell? ⟨w.heap.size, 2, none⟩ = some (.slice a2 x.vec.length d2) := hQ6.at 2 _ rfl
 have y3 : w6.cell? ⟨w.heap.size, 3, none⟩ = some (.int .i64 x.aa) := hQ6.at 3 _ rfl
 have y4 : w6.cell? ⟨w.heap.size, 4, none⟩ = some (.int .i64 x.seq) := hQ6.at 4 _ rfl
 go_wp2_with fail
 clear y0 y1 y2 y3 y4
 refine (kk _ _ _ _ _ _ _ w6).mono ?_
 rintro e w7 ⟨rfl, hb7⟩
 have nb8 : Below w6.heap.size w6 (w7.alloc (.cells #[.int .i64 x.aa, .int .i64 x.seq] 117)) := hb7.alloc hb7.size _
 have hT8 := hT6.ae nb8
 have hQ8 := hQ6.al nb8
 have hB8 := hB6.trans (nb8.mono (by have := hT6.lt; have := hT6.box.lt; omega))
 have hR8 : aA 0 #[.int .i64 x.aa, .int .i64 x.seq] 117 (w7.alloc (.cells #[.int .i64 x.aa, .int .i64 x.seq] 117)) w7.heap.size := aM (Nat.zero_le _)
 have hrp : mb < w7.heap.size := by have := hT6.lt; have := hT6.box.lt; have := hb7.size; omega
 simp only [tick]
 go_wp2_with fail
 clear hT6 hQ6 hB6 hb7 nb8
 generalize w7.alloc (.cells #[.int .i64 x.aa, .int .i64 x.seq] 117) = w8 at *
 generalize w7.heap.size = r at *
 have hT9 : bG w8.drew p mb _ ws.length (ws ++ [x]) (az ws) (fun s q => cD ws s q) (.slice (some ⟨g5, 0, none⟩) (ws.length + 1) cp5) (rows ++ [[.int .i64 x.kind, .int .i64 x.id, .slice a2 x.vec.length d2, .int .i64 x.aa, .int .i64 x.seq]]) (bls ++ [bl]) := hT8.ae (bW (Below.refl _ _) 1)
 have hQ9 : aA 0 #[.int .i64 x.kind, .int .i64 x.id, .slice a2 x.vec.length d2, .int .i64 x.aa, .int .i64 x.seq] 142 w8.drew w.heap.size := hQ8
 have hR9 : aA 0 #[.int .i64 x.aa, .int .i64 x.seq] 117 w8.drew r := hR8
 have hB9 : Below mb w w8.drew := hB8.drew
 obtain ⟨bs, hbs⟩ : ∃ bs, bs = decide (cD ws x.aa x.seq ≠ 0) := ⟨_, rfl⟩
 have HBS := yh hbs
 clear hbs
 refine wZz (fun w' => Ext (fun _ => False) w8 w') (Ext.refl _ _).fE (fun zq => ?_)
 generalize w8.drew = w9 at zq hT9 hQ9 hR9 hB9 ⊢
 refine tkH 0 zq ?_
 refine tkH 1 zq ?_
 refine tkH 2 zq ?_
 refine tkJ 3 (v := ?vc3) ?hc3 zq ?rc3
 case hc3 =>
  intro wS hSw
  have z1 : wS.cell? ⟨p, 1, none⟩ = some (.map (some mb)) := (hT8.box.ext hSw (fun e => e)).at 1 _ rfl
  have k0 : wS.cell? ⟨r, 0, none⟩ = some (.int .i64 x.aa) := (hR8.ext hSw (fun e => e)).at 0 _ rfl
  have k1 : wS.cell? ⟨r, 1, none⟩ = some (.int .i64 x.seq) := (hR8.ext hSw (fun e => e)).at 1 _ rfl
  clear hSw
  exact fZ
 refine tkJ 4 (v := ?vc4) ?hc4 zq ?rc4
 case hc4 =>
  intro wS hSw
  have z1 : wS.cell? ⟨p, 1, none⟩ = some (.map (some mb)) := (hT8.box.ext hSw (fun e => e)).at 1 _ rfl
  have k0 : wS.cell? ⟨r, 0, none⟩ = some (.int .i64 x.aa) := (hR8.ext hSw (fun e => e)).at 0 _ rfl
  have k1 : wS.cell? ⟨r, 1, none⟩ = some (.int .i64 x.seq) := (hR8.ext hSw (fun e => e)).at 1 _ rfl
  clear hSw
  exact fZ
 refine tkJ 5 (v := ?vc5) ?hc5 zq ?rc5
 case hc5 =>
  intro wS hSw
  have hlk := (hT8.seen.ext hSw (fun e => e)).look k3 k4
  simp only [tick] at hlk
  rw [← uh HBS] at hlk
  clear hSw
  exact fZ
 refine tkH 6 zq ?_
 refine tkH 7 zq ?_
 refine tkH 8 zq ?_
 refine tkH 9 zq ?_
 refine tkH 10 zq ?_
 refine dZ ?_
 clear zq hT8 hQ8 hR8 hB8
 obtain ⟨b1, b9, q1, q9⟩ := iv hf
 have hs9 : x.aa.toNat < 10 := by omega
 have hsi : (x.aa.toNat : Int) = x.aa := by omega
 have i1 : (0 : Int) ≤ x.aa := by omega
 have i2 : x.aa < 10 := by omega
 have hlast : ∀ j : Int, (if j = (x.aa.toNat : Int) then (if az ws x.aa < x.seq then x.seq else az ws x.aa) else az ws j) = az (ws ++ [x]) j := by
  intro j
  rw [eB, hsi, show (if az ws x.aa < x.seq then x.seq else az ws x.aa) = max (az ws x.aa) x.seq by split <;> omega]
  by_cases e : j = x.aa
  ·
   rw [if_pos e, if_pos e.symm, e]
  rw [if_neg e, if_neg (fun h => e h.symm)]
 have hlen : Hid ((ws ++ [x]).length = ws.length + 1) := by show (ws ++ [x]).length = ws.length + 1; simp
 have HLAST := yh hlast
 clear hlast
 by_cases hsn : cD ws x.aa x.seq = 0
 ·
  obtain rfl : bs = false := by rw [uh HBS]; simpa using hsn
  have hseen : ∀ s q : Int, (if s = x.aa ∧ q = x.seq then ws.length + 1 else cD ws s q) = cD (ws ++ [x]) s q := by
   intro s q
   rw [eR]
   by_cases e : s = x.aa ∧ q = x.seq
   ·
    rw [if_pos e, e.1, e.2, hsn, if_pos rfl, if_pos ⟨rfl, rfl⟩]
   rw [if_neg e]
   by_cases h0 : cD ws s q = 0
   ·
    rw [if_pos h0, if_neg (fun h => e ⟨h.1.symm, h.2.symm⟩), h0]
   rw [if_neg h0]
  have HSEEN := yh hseen
  clear HBS hseen hsn
  go_wp2_with fail
  have hT10 : bG w9.drew p mb _ ws.length (ws ++ [x]) (az ws) (fun s q => cD ws s q) (.slice (some ⟨g5, 0, none⟩) (ws.length + 1) cp5) (rows ++ [[.int .i64 x.kind, .int .i64 x.id, .slice a2 x.vec.length d2, .int .i64 x.aa, .int .i64 x.seq]]) (bls ++ [bl]) := hT9.ae (bW (Below.refl _ _) 1)
  have hQ10 : aA 0 #[.int .i64 x.kind, .int .i64 x.id, .slice a2 x.vec.length d2, .int .i64 x.aa, .int .i64 x.seq] 142 w9.drew w.heap.size := hQ9
  have hB10 : Below mb w w9.drew := hB9.drew
  refine wZz (fun w' => Ext (fun c => c = mb) w9 w') (Ext.refl _ _).fE (fun zq => ?_)
  generalize w9.drew = wE at zq hT10 hQ10 hB10 ⊢
  refine tkH 0 zq ?_
  refine tkH 1 zq ?_
  refine tkH 2 zq ?_
  refine tkJ 3 (v := ?ve3) ?he3 zq ?re3
  case he3 =>
   intro wS hSw
   have z1 : wS.cell? ⟨p, 1, none⟩ = some (.map (some mb)) := (hT9.box.ext hSw (by have := hT9.lt; have := hrp; omega)).at 1 _ rfl
   have k0 : wS.cell? ⟨r, 0, none⟩ = some (.int .i64 x.aa) := (hR9.ext hSw (by have := hT9.lt; have := hrp; omega)).at 0 _ rfl
   have k1 : wS.cell? ⟨r, 1, none⟩ = some (.int .i64 x.seq) := (hR9.ext hSw (by have := hT9.lt; have := hrp; omega)).at 1 _ rfl
   have z0 : wS.cell? ⟨p, 0, none⟩ = some (.slice (some ⟨g5, 0, none⟩) (ws.length + 1) cp5) := (hT9.box.ext hSw (by have := hT9.lt; omega)).at 0 _ rfl
   clear hSw
   exact fZ
  refine tkJ 4 (v := ?ve4) ?he4 zq ?re4
  case he4 =>
   intro wS hSw
   have z1 : wS.cell? ⟨p, 1, none⟩ = some (.map (some mb)) := (hT9.box.ext hSw (by have := hT9.lt; have := hrp; omega)).at 1 _ rfl
   have k0 : wS.cell? ⟨r, 0, none⟩ = some (.int .i64 x.aa) := (hR9.ext hSw (by have := hT9.lt; have := hrp; omega)).at 0 _ rfl
   have k1 : wS.cell? ⟨r, 1, none⟩ = some (.int .i64 x.seq) := (hR9.ext hSw (by have := hT9.lt; have := hrp; omega)).at 1 _ rfl
   have z0 : wS.cell? ⟨p, 0, none⟩ = some (.slice (some ⟨g5, 0, none⟩) (ws.length + 1) cp5) := (hT9.box.ext hSw (by have := hT9.lt; omega)).at 0 _ rfl
   clear hSw
   exact fZ
  refine tkH 5 zq ?_
  refine tkH 6 zq ?_
  refine tkH 7 zq ?_
  refine tkJ 8 (v := ?ve8) ?he8 zq ?re8
  case he8 =>
   intro wS hSw
   have z1 : wS.cell? ⟨p, 1, none⟩ = some (.map (some mb)) := (hT9.box.ext hSw (by have := hT9.lt; have := hrp; omega)).at 1 _ rfl
   have k0 : wS.cell? ⟨r, 0, none⟩ = some (.int .i64 x.aa) := (hR9.ext hSw (by have := hT9.lt; have := hrp; omega)).at 0 _ rfl
   have k1 : wS.cell? ⟨r, 1, none⟩ = some (.int .i64 x.seq) := (hR9.ext hSw (by have := hT9.lt; have := hrp; omega)).at 1 _ rfl
   have z0 : wS.cell? ⟨p, 0, none⟩ = some (.slice (some ⟨g5, 0, none⟩) (ws.length + 1) cp5) := (hT9.box.ext hSw (by have := hT9.lt; omega)).at 0 _ rfl
   clear hSw
   exact fZ
  refine tkH 9 zq ?_
  refine rdH 10 (fun K hK => ?_)
  obtain ⟨w12, hrun, hTk, hE12⟩ := hT10.seen.put (by omega) k3 k4 (m := ws.length + 1) (by omega) (bY (by omega))
  simp only [tick] at hrun
  have hrun2 : (Instr.mapUpdate 234 (.map (some mb)) (.agg #[.int .i64 x.aa, .int .i64 x.seq]) (.int .i64 ((ws.length : Int) + 1))).run Tryz.prog wE = .ok () w12 := by simpa using hrun
  clear hrun
  go_simp
  refine hK.out _ _ (zq.trans hE12) (fun zq => ?_)
  clear hK K
  try simp only [Act.put, pz, py, px]
  refine dZ ?_
  have hT12 := (hT10.marked hE12 hTk)
  have hQ12 := hQ10.ext hE12 (by omega)
  have hB12 := hB10.trans (hE12.below (by have := hT10.lt; have := hT10.box.lt; omega) (by intro c hc e; omega))
  clear zq hT9 hQ9 hR9 hB9 hT10 hQ10 hB10 hE12 hTk
  go_wp2_with fail
  have hTG : bG w12.drew p mb _ (ws.length + 1) (ws ++ [x]) (az ws) _ (.slice (some ⟨g5, 0, none⟩) (ws.length + 1) cp5) (rows ++ [[.int .i64 x.kind, .int .i64 x.id, .slice a2 x.vec.length d2, .int .i64 x.aa, .int .i64 x.seq]]) (bls ++ [bl]) := hT12.ae (bW (Below.refl _ _) 1)
  have hBG : Below mb w w12.drew := hB12.drew
  refine wZz (fun w' => Ext (fun c => c = p) w12 w') (Ext.refl _ _).fE (fun zq => ?_)
  generalize w12.drew = wG at zq hTG hBG ⊢
  refine tkH 0 zq ?_
  refine tkH 1 zq ?_
  refine tkJ 2 (v := ?vf2) ?hf2 zq ?rf2
  case hf2 =>
   intro wS hSw
   have y3 : wS.cell? ⟨w.heap.size, 3, none⟩ = some (.int .i64 x.aa) := (hQ12.ext hSw (by omega)).at 3 _ rfl
   have y4 : wS.cell? ⟨w.heap.size, 4, none⟩ = some (.int .i64 x.seq) := (hQ12.ext hSw (by omega)).at 4 _ rfl
   clear hSw
   exact fZ
  refine tkH 3 zq ?_
  refine tkH 4 zq ?_
  refine tkJ 5 (v := ?vf5) ?hf5 zq ?rf5
  case hf5 =>
   intro wS hSw
   have y3 : wS.cell? ⟨w.heap.size, 3, none⟩ = some (.int .i64 x.aa) := (hQ12.ext hSw (by omega)).at 3 _ rfl
   have y4 : wS.cell? ⟨w.heap.size, 4, none⟩ = some (.int .i64 x.seq) := (hQ12.ext hSw (by omega)).at 4 _ rfl
   clear hSw
   exact fZ
  refine tkH 6 zq ?_
  refine tkH 7 zq ?_
  refine tkH 8 zq ?_
  refine tkH 10 zq ?_
  refine tkJ 11 (v := ?vf11) ?hf11 zq ?rf11
  case hf11 =>
   intro wS hSw
   have y3 : wS.cell? ⟨w.heap.size, 3, none⟩ = some (.int .i64 x.aa) := (hQ12.ext hSw (by omega)).at 3 _ rfl
   have y4 : wS.cell? ⟨w.heap.size, 4, none⟩ = some (.int .i64 x.seq) := (hQ12.ext hSw (by omega)).at 4 _ rfl
   clear hSw
   exact fZ
  refine tkH 13 zq ?_
  refine tkH 14 zq ?_
  refine rdH 9 (fun K hK => ?_)
  have zl : wG.cell? ⟨p, 2 + x.aa.toNat, none⟩ = some (.int .i64 (az ws x.aa)) := by
   have := hTG.box.at _ _ (db (.slice (some ⟨g5, 0, none⟩) (ws.length + 1) cp5) mb (az ws) x.aa.toNat hs9)
   rwa [hsi] at this
  go_simp
  refine hK.out _ _ zq (fun zq => ?_)
  clear hK K
  try simp only [Act.put, pz, py, px]
  refine tkH 12 zq ?_
  refine tkH 15 zq ?_
  refine rdH 16 (fun K hK => ?_)
  have zl : wG.cell? ⟨p, 2 + x.aa.toNat, none⟩ = some (.int .i64 (az ws x.aa)) := by
   have := hTG.box.at _ _ (db (.slice (some ⟨g5, 0, none⟩) (ws.length + 1) cp5) mb (az ws) x.aa.toNat hs9)
   rwa [hsi] at this
  have f6 := hTG.box.soft (2 + x.aa.toNat)
  have l6 := hTG.box.lt
  go_simp
  refine hK.out _ _ (zq.setCell ⟨p, 2 + x.aa.toNat, none⟩ _ rfl) (fun zq => ?_)
  clear hK K
  try simp only [Act.put, pz, py, px]
  refine dZ ?_
  have hTZ := ((hTG.jU x.aa.toNat hs9 ((if az ws x.aa < x.seq then x.seq else az ws x.aa))).same (Nat.le_of_eq (uh hlen).symm) (uh HLAST) (uh HSEEN)).top
  have hBZ : Below mb w (wG.setCell ⟨p, 2 + x.aa.toNat, none⟩ (.int .i64 ((if az ws x.aa < x.seq then x.seq else az ws x.aa)))) := hBG.setCell (by simp; omega) _
  clear zq hTG hBG
  generalize wG.setCell ⟨p, 2 + x.aa.toNat, none⟩ (.int .i64 (if az ws x.aa < x.seq then x.seq else az ws x.aa)) = wZ at hTZ hBZ ⊢
  go_wp2_with fail
  all_goals
   refine bodyPost_end (v := .tuple #[]) (by simp [results, Tryz.results253, go_sem]) rfl ?_
   exact ⟨rfl, ⟨_, _, _, hTZ⟩, hBZ⟩
 obtain rfl : bs = true := by rw [uh HBS]; simpa using hsn
 have hseen : ∀ s q : Int, cD ws s q = cD (ws ++ [x]) s q := by
  intro s q
  rw [eR]
  split
  ·
   rename_i e
   rw [if_neg]
   ·
    exact e
   rintro ⟨rfl, rfl⟩
   exact hsn e
  rfl
 have HSEEN := yh hseen
 clear HBS hseen hsn
 go_wp2_with fail
 have hTG : bG w9.drew p mb _ ws.length (ws ++ [x]) (az ws) (fun s q => cD ws s q) (.slice (some ⟨g5, 0, none⟩) (ws.length + 1) cp5) (rows ++ [[.int .i64 x.kind, .int .i64 x.id, .slice a2 x.vec.length d2, .int .i64 x.aa, .int .i64 x.seq]]) (bls ++ [bl]) := hT9.ae (bW (Below.refl _ _) 1)
 have hBG : Below mb w w9.drew := hB9.drew
 refine wZz (fun w' => Ext (fun c => c = p) w9 w') (Ext.refl _ _).fE (fun zq => ?_)
 generalize w9.drew = wG at zq hTG hBG ⊢
 refine tkH 0 zq ?_
 refine tkH 1 zq ?_
 refine tkJ 2 (v := ?vg2) ?hg2 zq ?rg2
 case hg2 =>
  intro wS hSw
  have y3 : wS.cell? ⟨w.heap.size, 3, none⟩ = some (.int .i64 x.aa) := (hQ9.ext hSw (by omega)).at 3 _ rfl
  have y4 : wS.cell? ⟨w.heap.size, 4, none⟩ = some (.int .i64 x.seq) := (hQ9.ext hSw (by omega)).at 4 _ rfl
  clear hSw
  exact fZ
 refine tkH 3 zq ?_
 refine tkH 4 zq ?_
 refine tkJ 5 (v := ?vg5) ?hg5 zq ?rg5
 case hg5 =>
  intro wS hSw
  have y3 : wS.cell? ⟨w.heap.size, 3, none⟩ = some (.int .i64 x.aa) := (hQ9.ext hSw (by omega)).at 3 _ rfl
  have y4 : wS.cell? ⟨w.heap.size, 4, none⟩ = some (.int .i64 x.seq) := (hQ9.ext hSw (by omega)).at 4 _ rfl
  clear hSw
  exact fZ
 refine tkH 6 zq ?_
 refine tkH 7 zq ?_
 refine tkH 8 zq ?_
 refine tkH 10 zq ?_
 refine tkJ 11 (v := ?vg11) ?hg11 zq ?rg11
 case hg11 =>
  intro wS hSw
  have y3 : wS.cell? ⟨w.heap.size, 3, none⟩ = some (.int .i64 x.aa) := (hQ9.ext hSw (by omega)).at 3 _ rfl
  have y4 : wS.cell? ⟨w.heap.size, 4, none⟩ = some (.int .i64 x.seq) := (hQ9.ext hSw (by omega)).at 4 _ rfl
  clear hSw
  exact fZ
 refine tkH 13 zq ?_
 refine tkH 14 zq ?_
 refine rdH 9 (fun K hK => ?_)
 have zl : wG.cell? ⟨p, 2 + x.aa.toNat, none⟩ = some (.int .i64 (az ws x.aa)) := by
  have := hTG.box.at _ _ (db (.slice (some ⟨g5, 0, none⟩) (ws.length + 1) cp5) mb (az ws) x.aa.toNat hs9)
  rwa [hsi] at this
 go_simp
 refine hK.out _ _ zq (fun zq => ?_)
 clear hK K
 try simp only [Act.put, pz, py, px]
 refine tkH 12 zq ?_
 refine tkH 15 zq ?_
 refine rdH 16 (fun K hK => ?_)
 have zl : wG.cell? ⟨p, 2 + x.aa.toNat, none⟩ = some (.int .i64 (az ws x.aa)) := by
  have := hTG.box.at _ _ (db (.slice (some ⟨g5, 0, none⟩) (ws.length + 1) cp5) mb (az ws) x.aa.toNat hs9)
  rwa [hsi] at this
 have f6 := hTG.box.soft (2 + x.aa.toNat)
 have l6 := hTG.box.lt
 go_simp
 refine hK.out _ _ (zq.setCell ⟨p, 2 + x.aa.toNat, none⟩ _ rfl) (fun zq => ?_)
 clear hK K
 try simp only [Act.put, pz, py, px]
 refine dZ ?_
 have hTZ := ((hTG.jU x.aa.toNat hs9 ((if az ws x.aa < x.seq then x.seq else az ws x.aa))).same (n' := (ws ++ [x]).length) (by rw [uh hlen]; omega) (uh HLAST) (uh HSEEN)).top
 have hBZ : Below mb w (wG.setCell ⟨p, 2 + x.aa.toNat, none⟩ (.int .i64 ((if az ws x.aa < x.seq then x.seq else az ws x.aa)))) := hBG.setCell (by simp; omega) _
 clear zq hTG hBG
 generalize wG.setCell ⟨p, 2 + x.aa.toNat, none⟩ (.int .i64 (if az ws x.aa < x.seq then x.seq else az ws x.aa)) = wZ at hTZ hBZ ⊢
 go_wp2_with fail
 all_goals
  refine bodyPost_end (v := .tuple #[]) (by simp [results, Tryz.results253, go_sem]) rfl ?_
  exact ⟨rfl, ⟨_, _, _, hTZ⟩, hBZ⟩
def dR (x y z : Int) : Value := .agg #[.int .i64 x, .int .i64 y, .int .i64 z]
theorem bh.three {w : World} {v : Value} {zs : List Int} (h : bh w v zs) (h3 : zs.length = 3) :
  ∃ b off cap x y z, zs = [x, y, z] ∧ v = .slice (some ⟨b, off, none⟩) 3 cap ∧ b < w.heap.size ∧ w.cell? ⟨b, off, none⟩ = some (.int .i64 x) ∧ w.cell? ⟨b, off + 1, none⟩ = some (.int .i64 y) ∧ w.cell? ⟨b, off + 2, none⟩ = some (.int .i64 z) := by
 obtain ⟨ao, cap, rfl, hwf, hc⟩ := h
 match zs, h3 with
 | [x, y, z], _ =>
  obtain ⟨b, off, rfl, hc1⟩ := hc (by simp)
  have c0 := hc1 0 (by simp)
  have c1 := hc1 1 (by simp)
  have c2 := hc1 2 (by simp)
  exact ⟨b, off, cap, x, y, z, rfl, rfl, World.block_lt_of_cell? _ _ c0, c0, c1, c2⟩
theorem fN (v : Value) (zs : List Int) (w : World) (h : bh w v zs) (hf : aG zs ≠ 0) :
  Calls Tryz.prog 263 #[v] w fun e w' => e = .returned (.tuple #[dR 0 0 0, .int .i64 (aG zs)]) ∧ Below w.heap.size w w' := by
 go_enter Tryz.func263, Tryz.ntmps263
 go_wp2_with fail
 refine (fD v zs _ (h.ae (((Below.refl _ _).alloc (Nat.le_refl _) _).alloc (by simp) _))).mono ?_
 rintro e w' ⟨rfl, rfl⟩
 have hne : (aG zs != 0) = true := by rw [bne_iff_ne]; exact hf
 go_wp2_with fail
 refine bodyPost_ret (v := .tuple #[dR 0 0 0, .int .i64 (aG zs)]) (by simp [results, Tryz.results263, go_sem, dR]) rfl ⟨rfl, ?_⟩
 exact ((Below.refl _ _).alloc (Nat.le_refl _) _).alloc (by simp) _
theorem eX (b off cap : Nat) (x y z : Int) (w : World) (hbl : b < w.heap.size) (c0 : w.cell? ⟨b, off, none⟩ = some (.int .i64 x)) (c1 : w.cell? ⟨b, off + 1, none⟩ = some (.int .i64 y)) (c2 : w.cell? ⟨b, off + 2, none⟩ = some (.int .i64 z))
  (h : bh w (.slice (some ⟨b, off, none⟩) 3 cap) [x, y, z]) (hf : aG [x, y, z] = 0) :
  Calls Tryz.prog 263 #[.slice (some ⟨b, off, none⟩) 3 cap] w fun e w' => e = .returned (.tuple #[dR x y z, .int .i64 0]) ∧ Below w.heap.size w w' := by
 go_enter Tryz.func263, Tryz.ntmps263
 go_wp2_with fail
 refine (fD _ [x, y, z] _ (h.ae (((Below.refl _ _).alloc (Nat.le_refl _) _).alloc (by simp) _))).mono ?_
 rintro e w' ⟨rfl, rfl⟩
 rw [hf]
 clear h hf
 go_wp2_with fail
 refine wp_loop_rounds 4 ?_
 rw [rounds_succ]
 go_wp2
 rw [rounds_succ]
 go_wp2
 rw [rounds_succ]
 go_wp2
 rw [rounds_succ]
 go_wp2
 refine bodyPost_ret (v := .tuple #[dR x y z, .int .i64 0]) (by simp [results, Tryz.results263, go_sem, dR]) rfl ⟨rfl, ?_⟩
 exact ((Below.refl _ _).alloc (Nat.le_refl _) _).alloc (by simp) _
theorem gm (v : Value) (x y z : Int) (w : World) (h : bh w v [x, y, z]) (hf : aG [x, y, z] = 0) :
  Calls Tryz.prog 263 #[v] w fun e w' => e = .returned (.tuple #[dR x y z, .int .i64 0]) ∧ Below w.heap.size w w' := by
 obtain ⟨b, off, cap, x', y', z', he, rfl, hbl, c0, c1, c2⟩ := h.three rfl
 simp only [List.cons.injEq, and_true] at he
 obtain ⟨rfl, rfl, rfl⟩ := he
 exact eX b off cap x y z w hbl c0 c1 c2 h hf
def lb (x y z : Int) : Value := .iface 298 (.agg #[.int .i64 x, .int .i64 y, .int .i64 z])
def j8 : Value := .iface 294 (.agg #[])
def fC (k : Int) (zs : List Int) : Value := if k = 1 then lb (zs.getD 0 0) (zs.getD 1 0) (zs.getD 2 0) else j8
def dH (k i : Int) (zs : List Int) (s q : Int) : Value := if ai k i zs s q = 0 then fC k zs else .nilIface
def jS (i s q : Int) : Prop := (1 ≤ i ∧ i ≤ 999) ∧ (1 ≤ s ∧ s ≤ 9) ∧ 1 ≤ q ∧ q ≤ 999
theorem fz {i s q : Int} (h : jS i s q) : bM i s q = true := by
 obtain ⟨⟨a, b⟩, ⟨c, d⟩, e, f⟩ := h
 simp [bM, a, b, c, d, e, f]
theorem eY {i s q : Int} (h : ¬ jS i s q) : bM i s q = false := by
 rw [Bool.eq_false_iff]
 intro hb
 simp only [bM, Bool.and_eq_true, decide_eq_true_eq] at hb
 exact h ⟨hb.1, hb.2.1, hb.2.2⟩
theorem fF {k i s q : Int} {zs : List Int} (hk : cc k zs.length = true) (h : ¬ jS i s q) : ai k i zs s q = 3 := by
 rw [ai, hk, if_pos rfl, eY h]; rfl
theorem hY {i s q : Int} (h : jS i s q) : ai 2 i [] s q = 0 := by
 rw [ai, show cc 2 ([] : List Int).length = true from rfl, if_pos rfl, fz h]; rfl
theorem j6 {k i s q : Int} {zs : List Int} (hk : cc k zs.length = true) (h : jS i s q) : ai k i zs s q = if k = 1 then aG zs else 0 := by
 rw [ai, hk, if_pos rfl, fz h, if_pos rfl]
def bO (w w' : World) (e : Ending) (k i : Int) (zs : List Int) (s q : Int) : Prop := e = .returned (.tuple #[dH k i zs s q, .int .i64 (ai k i zs s q)]) ∧ Below w.heap.size w w'
theorem bt {w w' : World} {k i s q c : Int} {zs : List Int} (hc : ai k i zs s q = c) (h0 : c ≠ 0) (hb : Below w.heap.size w w') : bO w w' (.returned (.tuple #[.nilIface, .int .i64 c])) k i zs s q := by
 refine ⟨?_, hb⟩
 rw [dH, hc, if_neg h0]
theorem ef {w w' : World} {k i s q : Int} {zs : List Int} {v : Value} (hc : ai k i zs s q = 0) (hv : v = fC k zs) (hb : Below w.heap.size w w') : bO w w' (.returned (.tuple #[v, .int .i64 0])) k i zs s q := by
 refine ⟨?_, hb⟩
 rw [dH, hc, if_pos rfl, hv]
theorem ek (n : Int) (w : World) : Calls Tryz.prog 123 #[.int .i64 n] w fun e w' => e = .returned (.bool (decide (1 ≤ n) && decide (n ≤ 999))) ∧ w' = w := by
 by_cases h1 : 1 ≤ n
 ·
  have d1 : decide (1 ≤ n) = true := by simpa using h1
  rw [d1]
  cases d2 : decide (n ≤ 999) <;>
  ·
   go_enter Tryz.func123, Tryz.ntmps123
   go_wp2
   go_ret
   exact ⟨rfl, rfl⟩
 have d1 : decide (1 ≤ n) = false := by simpa using h1
 rw [d1]
 go_enter Tryz.func123, Tryz.ntmps123
 go_wp2
 go_ret
 exact ⟨rfl, rfl⟩
theorem cd (n : Int) (w : World) : Calls Tryz.prog 216 #[.int .i64 n] w fun e w' => e = .returned (.bool (decide (1 ≤ n) && decide (n ≤ 9))) ∧ w' = w := by
 by_cases h1 : 1 ≤ n
 ·
  have d1 : decide (1 ≤ n) = true := by simpa using h1
  rw [d1]
  cases d2 : decide (n ≤ 9) <;>
  ·
   go_enter Tryz.func216, Tryz.ntmps216
   go_wp2
   go_ret
   exact ⟨rfl, rfl⟩
 have d1 : decide (1 ≤ n) = false := by simpa using h1
 rw [d1]
 go_enter Tryz.func216, Tryz.ntmps216
 go_wp2
 go_ret
 exact ⟨rfl, rfl⟩
theorem fQ (n : Int) (w : World) : Calls Tryz.prog 217 #[.int .i64 n] w fun e w' => e = .returned (.bool (decide (1 ≤ n) && decide (n ≤ 999))) ∧ w' = w := by
 by_cases h1 : 1 ≤ n
 ·
  have d1 : decide (1 ≤ n) = true := by simpa using h1
  rw [d1]
  cases d2 : decide (n ≤ 999) <;>
  ·
   go_enter Tryz.func217, Tryz.ntmps217
   go_wp2
   go_ret
   exact ⟨rfl, rfl⟩
 have d1 : decide (1 ≤ n) = false := by simpa using h1
 rw [d1]
 go_enter Tryz.func217, Tryz.ntmps217
 go_wp2
 go_ret
 exact ⟨rfl, rfl⟩
theorem fa (i : Int) (ao : Option Addr) (cap : Nat) (s q : Int) (zs : List Int) (w : World) (hb : ¬ jS i s q) :
  Calls Tryz.prog 236 #[.agg #[.int .i64 1, .int .i64 i, .slice ao zs.length cap, .int .i64 s, .int .i64 q]] w fun e w' => bO w w' e 1 i zs s q := by
 have HB : Hid (∀ o, Below w.heap.size w (w.alloc o)) := fun o => (Below.refl _ _).alloc (Nat.le_refl _) o
 have HF : Hid (ai 1 i zs s q = 3) := fF rfl hb
 have hbb := eY hb
 unfold bM at hbb
 clear hb
 cases dI : (decide (1 ≤ i) && decide (i ≤ 999)) with
 | false =>
  clear hbb
  go_enter Tryz.func236, Tryz.ntmps236
  go_wp2_with fail
  refine (ek i _).mono ?_
  rintro e w1 ⟨rfl, rfl⟩
  rw [dI]
  go_wp2_with fail
  go_ret2
  exact bt (uh HF) (by omega) (uh HB _)
 | true =>
  cases dS : (decide (1 ≤ s) && decide (s ≤ 9)) with
  | false =>
   clear hbb
   go_enter Tryz.func236, Tryz.ntmps236
   go_wp2_with fail
   refine (ek i _).mono ?_
   rintro e w1 ⟨rfl, rfl⟩
   rw [dI]
   go_wp2_with fail
   refine (cd s _).mono ?_
   rintro e w1 ⟨rfl, rfl⟩
   rw [dS]
   go_wp2_with fail
   go_ret2
   exact bt (uh HF) (by omega) (uh HB _)
  | true =>
   have dQ : (decide (1 ≤ q) && decide (q ≤ 999)) = false := by rw [dI, dS] at hbb; simpa using hbb
   clear hbb
   go_enter Tryz.func236, Tryz.ntmps236
   go_wp2_with fail
   refine (ek i _).mono ?_
   rintro e w1 ⟨rfl, rfl⟩
   rw [dI]
   go_wp2_with fail
   refine (cd s _).mono ?_
   rintro e w1 ⟨rfl, rfl⟩
   rw [dS]
   go_wp2_with fail
   refine (fQ q _).mono ?_
   rintro e w1 ⟨rfl, rfl⟩
   rw [dQ]
   go_wp2_with fail
   go_ret2
   exact bt (uh HF) (by omega) (uh HB _)
theorem er (i : Int) (ao : Option Addr) (cap : Nat) (s q : Int) (w : World) (hb : ¬ jS i s q) :
  Calls Tryz.prog 236 #[.agg #[.int .i64 2, .int .i64 i, .slice ao 0 cap, .int .i64 s, .int .i64 q]] w fun e w' => bO w w' e 2 i [] s q := by
 have HB : Hid (∀ o, Below w.heap.size w (w.alloc o)) := fun o => (Below.refl _ _).alloc (Nat.le_refl _) o
 have HF : Hid (ai 2 i [] s q = 3) := fF rfl hb
 have hbb := eY hb
 unfold bM at hbb
 clear hb
 cases dI : (decide (1 ≤ i) && decide (i ≤ 999)) with
 | false =>
  clear hbb
  go_enter Tryz.func236, Tryz.ntmps236
  go_wp2_with fail
  refine (ek i _).mono ?_
  rintro e w1 ⟨rfl, rfl⟩
  rw [dI]
  go_wp2_with fail
  go_ret2
  exact bt (uh HF) (by omega) (uh HB _)
 | true =>
  cases dS : (decide (1 ≤ s) && decide (s ≤ 9)) with
  | false =>
   clear hbb
   go_enter Tryz.func236, Tryz.ntmps236
   go_wp2_with fail
   refine (ek i _).mono ?_
   rintro e w1 ⟨rfl, rfl⟩
   rw [dI]
   go_wp2_with fail
   refine (cd s _).mono ?_
   rintro e w1 ⟨rfl, rfl⟩
   rw [dS]
   go_wp2_with fail
   go_ret2
   exact bt (uh HF) (by omega) (uh HB _)
  | true =>
   have dQ : (decide (1 ≤ q) && decide (q ≤ 999)) = false := by rw [dI, dS] at hbb; simpa using hbb
   clear hbb
   go_enter Tryz.func236, Tryz.ntmps236
   go_wp2_with fail
   refine (ek i _).mono ?_
   rintro e w1 ⟨rfl, rfl⟩
   rw [dI]
   go_wp2_with fail
   refine (cd s _).mono ?_
   rintro e w1 ⟨rfl, rfl⟩
   rw [dS]
   go_wp2_with fail
   refine (fQ q _).mono ?_
   rintro e w1 ⟨rfl, rfl⟩
   rw [dQ]
   go_wp2_with fail
   go_ret2
   exact bt (uh HF) (by omega) (uh HB _)
theorem gN (i : Int) (ao : Option Addr) (cap : Nat) (s q : Int) (w : World) (hb : jS i s q) :
  Calls Tryz.prog 236 #[.agg #[.int .i64 2, .int .i64 i, .slice ao 0 cap, .int .i64 s, .int .i64 q]] w fun e w' => bO w w' e 2 i [] s q := by
 have HB : Hid (∀ o, Below w.heap.size w (w.alloc o)) := fun o => (Below.refl _ _).alloc (Nat.le_refl _) o
 have HF : Hid (ai 2 i [] s q = 0) := hY hb
 obtain ⟨⟨i1, i2⟩, ⟨s1, s2⟩, q1, q2⟩ := hb
 have dI : (decide (1 ≤ i) && decide (i ≤ 999)) = true := by simp [i1, i2]
 have dS : (decide (1 ≤ s) && decide (s ≤ 9)) = true := by simp [s1, s2]
 have dQ : (decide (1 ≤ q) && decide (q ≤ 999)) = true := by simp [q1, q2]
 go_enter Tryz.func236, Tryz.ntmps236
 go_wp2_with fail
 refine (ek i _).mono ?_
 rintro e w1 ⟨rfl, rfl⟩
 rw [dI]
 go_wp2_with fail
 refine (cd s _).mono ?_
 rintro e w1 ⟨rfl, rfl⟩
 rw [dS]
 go_wp2_with fail
 refine (fQ q _).mono ?_
 rintro e w1 ⟨rfl, rfl⟩
 rw [dQ]
 go_wp2_with fail
 go_ret2
 exact ef (uh HF) rfl (uh HB _)
theorem gj (i : Int) (ao : Option Addr) (cap n : Nat) (s q : Int) (zs : List Int) (w : World) (hn : zs.length = n + 1) :
  Calls Tryz.prog 236 #[.agg #[.int .i64 2, .int .i64 i, .slice ao (n + 1) cap, .int .i64 s, .int .i64 q]] w fun e w' => bO w w' e 2 i zs s q := by
 have B0 : ∀ o, Below w.heap.size w (w.alloc o) := fun o => (Below.refl _ _).alloc (Nat.le_refl _) o
 have HB := yh B0
 have hF : ai 2 i zs s q = 1 := by
  have : cc 2 zs.length = false := by simp [cc]; omega
  rw [ai, this]; rfl
 have HF := yh hF
 clear B0 hF hn
 go_enter Tryz.func236, Tryz.ntmps236
 go_wp2
 go_ret2
 exact bt (uh HF) (by omega) (uh HB _)
theorem gP (k i : Int) (ao : Option Addr) (cap : Nat) (s q : Int) (zs : List Int) (w : World) (h1 : k ≠ 1) (h2 : k ≠ 2) :
  Calls Tryz.prog 236 #[.agg #[.int .i64 k, .int .i64 i, .slice ao zs.length cap, .int .i64 s, .int .i64 q]] w fun e w' => bO w w' e k i zs s q := by
 have B0 : ∀ o, Below w.heap.size w (w.alloc o) := fun o => (Below.refl _ _).alloc (Nat.le_refl _) o
 have HB := yh B0
 have hF : ai k i zs s q = 1 := by
  have : cc k zs.length = false := by simp [cc]; omega
  rw [ai, this]; rfl
 have HF := yh hF
 clear B0 hF
 go_enter Tryz.func236, Tryz.ntmps236
 go_wp2
 go_ret2
 exact bt (uh HF) (by omega) (uh HB _)
theorem fM (v : Value) (zs : List Int) (w : World) (h : bh w v zs) :
  Calls Tryz.prog 263 #[v] w fun e w' => e = .returned (.tuple #[if aG zs = 0 then dR (zs.getD 0 0) (zs.getD 1 0) (zs.getD 2 0) else dR 0 0 0, .int .i64 (aG zs)]) ∧ Below w.heap.size w w' := by
 by_cases hf : aG zs = 0
 ·
  obtain ⟨hl, -⟩ := dm hf
  match zs, hl with
  | [x, y, z], _ =>
   rw [if_pos hf]
   refine (gm v x y z w h hf).mono ?_
   rintro e w' ⟨rfl, hb⟩
   exact ⟨by rw [hf]; rfl, hb⟩
 rw [if_neg hf]
 exact fN v zs w h hf
theorem ik (i : Int) (ao : Option Addr) (cap : Nat) (s q : Int) (zs : List Int) (w : World) (h : bh w (.slice ao zs.length cap) zs) (hb : jS i s q) :
  Calls Tryz.prog 236 #[.agg #[.int .i64 1, .int .i64 i, .slice ao zs.length cap, .int .i64 s, .int .i64 q]] w fun e w' => bO w w' e 1 i zs s q := by
 have B0 : Below w.heap.size w (w.alloc (.cells #[.int .i64 1, .int .i64 i, .slice ao zs.length cap, .int .i64 s, .int .i64 q] 142)) := (Below.refl _ _).alloc (Nat.le_refl _) _
 have HB := yh B0
 have H := yh (h.ae B0)
 clear h B0
 have HF : Hid (ai 1 i zs s q = aG zs) := j6 rfl hb
 obtain ⟨⟨i1, i2⟩, ⟨s1, s2⟩, q1, q2⟩ := hb
 have dI : (decide (1 ≤ i) && decide (i ≤ 999)) = true := by simp [i1, i2]
 have dS : (decide (1 ≤ s) && decide (s ≤ 9)) = true := by simp [s1, s2]
 have dQ : (decide (1 ≤ q) && decide (q ≤ 999)) = true := by simp [q1, q2]
 go_enter Tryz.func236, Tryz.ntmps236
 go_wp2_with fail
 refine (ek i _).mono ?_
 rintro e w1 ⟨rfl, rfl⟩
 rw [dI]
 go_wp2_with fail
 refine (cd s _).mono ?_
 rintro e w1 ⟨rfl, rfl⟩
 rw [dS]
 go_wp2_with fail
 refine (fQ q _).mono ?_
 rintro e w1 ⟨rfl, rfl⟩
 rw [dQ]
 go_wp2_with fail
 refine (fM _ zs _ (uh H)).mono ?_
 rintro e w1 ⟨rfl, hb1⟩
 have HB1 := yh ((uh HB).trans (hb1.mono (uh HB).size))
 have hz : w.heap.size ≤ w1.heap.size := (uh HB1).size
 clear HB hb1 H
 generalize hV : aG zs = F at *
 by_cases hf : F = 0
 ·
  subst hf
  rw [if_pos rfl]
  simp only [dR]
  go_wp2_with fail
  go_ret2
  refine ef (uh HF) ?_ ?_
  ·
   rw [fC, if_pos rfl]; rfl
  exact (uh HB1).alloc hz _
 rw [if_neg hf]
 have hd : (F != 0) = true := by rw [bne_iff_ne]; exact hf
 have HN := yh hf
 clear hf
 simp only [dR]
 go_wp2_with fail
 go_ret2
 exact bt (uh HF) (uh HN) ((uh HB1).alloc hz _)
theorem gp (k i : Int) (v : Value) (s q : Int) (zs : List Int) (w : World) (h : bh w v zs) :
  Calls Tryz.prog 236 #[.agg #[.int .i64 k, .int .i64 i, v, .int .i64 s, .int .i64 q]] w fun e w' => bO w w' e k i zs s q := by
 have h' := h
 obtain ⟨ao, cap, rfl, -⟩ := h'
 by_cases h1 : k = 1
 ·
  subst h1
  by_cases hb : jS i s q
  ·
   exact ik i ao cap s q zs w h hb
  exact fa i ao cap s q zs w hb
 by_cases h2 : k = 2
 ·
  subst h2
  rcases Nat.eq_zero_or_pos zs.length with h0 | h0
  ·
   obtain rfl : zs = [] := List.eq_nil_of_length_eq_zero h0
   by_cases hb : jS i s q
   ·
    exact gN i ao cap s q w hb
   exact er i ao cap s q w hb
  obtain ⟨n, hn⟩ : ∃ n, zs.length = n + 1 := ⟨zs.length - 1, by omega⟩
  rw [hn]
  exact gj i ao cap n s q zs w hn
 exact gP k i ao cap s q zs w h1 h2
theorem ka (x y z : Int) (w : World) :
  Calls Tryz.prog 243 #[dR x y z] w fun e w' => e = .returned (.slice (some ⟨w.heap.size + 1, 0, none⟩) 3 3) ∧
   (w.alloc (.cells #[.int .i64 x, .int .i64 y, .int .i64 z] 272)).alloc (.cells #[.int .i64 x, .int .i64 y, .int .i64 z] 2) = w' := by
 have hmk : ∀ w : World, (Instr.makeSlice 22 (.int .i64 3) (.int .i64 3)).run Tryz.prog w = .ok (.slice (some ⟨w.heap.size, 0, none⟩) 3 3) (w.alloc (.cells #[.int .i64 0, .int .i64 0, .int .i64 0] 2)) := fun _ => by kernel_rfl
 have i0 : ∀ w : World, (Instr.index 272 (.agg #[.int .i64 x, .int .i64 y, .int .i64 z]) (.int .i64 0)).run Tryz.prog w = .ok (.int .i64 x) w := fun _ => by kernel_rfl
 have i1 : ∀ w : World, (Instr.index 272 (.agg #[.int .i64 x, .int .i64 y, .int .i64 z]) (.int .i64 1)).run Tryz.prog w = .ok (.int .i64 y) w := fun _ => by kernel_rfl
 have i2 : ∀ w : World, (Instr.index 272 (.agg #[.int .i64 x, .int .i64 y, .int .i64 z]) (.int .i64 2)).run Tryz.prog w = .ok (.int .i64 z) w := fun _ => by kernel_rfl
 simp only [dR]
 go_enter Tryz.func243, Tryz.ntmps243
 go_wp2
 refine wp_loop_rounds 4 ?_
 rw [rounds_succ]
 go_wp2
 rw [rounds_succ]
 go_wp2
 rw [rounds_succ]
 go_wp2
 rw [rounds_succ]
 go_wp2
 go_ret
 exact ⟨rfl, rfl⟩
theorem js (v : Value) (w : World) : (Instr.typeAssert (.iface 294 v) 259 298 true).run Tryz.prog w = .ok (.tuple #[.agg #[.int .i64 0, .int .i64 0, .int .i64 0], .bool false]) w := by kernel_rfl
theorem jJ (v : Value) (w : World) : (Instr.typeAssert (.iface 294 v) 259 294 true).run Tryz.prog w = .ok (.tuple #[v, .bool true]) w := by kernel_rfl
theorem fO (i s q : Int) (w : World) :
  Calls Tryz.prog 254 #[j8, .int .i64 i, .int .i64 s, .int .i64 q] w fun e w' => e = .returned (.agg #[.int .i64 2, .int .i64 i, .slice none 0 0, .int .i64 s, .int .i64 q]) ∧ Below w.heap.size w w' := by
 have a1 := js
 have a2 := jJ
 have HB : Hid (∀ o o' o'', Below w.heap.size w (((w.alloc o).alloc o').alloc o'')) := fun o o' o'' => (((Below.refl _ _).alloc (Nat.le_refl _) _).alloc (by simp) _).alloc (by simp; omega) _
 simp only [j8] at *
 go_enter Tryz.func254, Tryz.ntmps254
 go_wp2_with fail
 refine bodyPost_ret (v := .agg #[.int .i64 2, .int .i64 i, .slice none 0 0, .int .i64 s, .int .i64 q]) (by simp [results, Tryz.results254, go_sem]) rfl ?_
 exact ⟨rfl, uh HB _ _ _⟩
theorem jX (v : Value) (w : World) : (Instr.typeAssert (.iface 298 v) 259 298 true).run Tryz.prog w = .ok (.tuple #[v, .bool true]) w := by kernel_rfl
theorem ks (x y z : Int) (w : World) :
  Calls Tryz.prog 243 #[.agg #[.int .i64 x, .int .i64 y, .int .i64 z]] w fun e w' => ∃ a c, e = .returned (.slice a 3 c) ∧ w'.ownsRow w.heap.size 2 1 (.slice a 3 c) 3 [.int .i64 x, .int .i64 y, .int .i64 z] ∧ Below w.heap.size w w' := by
 refine (ka x y z w).mono ?_
 rintro e w' ⟨rfl, rfl⟩
 exact ⟨_, _, rfl, jE (W := w.alloc (.cells #[.int .i64 x, .int .i64 y, .int .i64 z] 272)) (base := w.heap.size) (T := 2) (by simp) (by simp), ((Below.refl _ _).alloc (Nat.le_refl _) _).alloc (by simp) _⟩
theorem k8 {w w1 : World} {sx : Nat} {u : Value} {xs : List Value} {B : Nat} {vs : List Value} (hsx : w.heap.size < sx) (hB : sx < B) (O : w1.ownsRow B 2 1 u 3 xs) (hb : Below w.heap.size w w1) :
  (ba (w1.setCell ⟨sx, 2, none⟩ u) w.heap.size 0 vs).ownsRow B 2 1 u 3 xs ∧ Below w.heap.size w (ba (w1.setCell ⟨sx, 2, none⟩ u) w.heap.size 0 vs) := by
 have h1 := dJ (a := ⟨sx, 2, none⟩) O (by simpa using hB) u
 have h2 : Below w.heap.size w (w1.setCell ⟨sx, 2, none⟩ u) := hb.setCell (by simp; omega) _
 refine ⟨?_, bK h2 _ _ _ (Nat.le_refl _)⟩
 have : ∀ (l : List Value) (i : Nat) (W : World), W.ownsRow B 2 1 u 3 xs → (ba W w.heap.size i l).ownsRow B 2 1 u 3 xs := by
  intro l
  induction l with
  | nil => intro i W h; exact h
  | cons v l ih => intro i W h; exact ih (i + 1) _ (dJ (a := ⟨w.heap.size, i, none⟩) h (by simp; omega) v)
 exact this vs 0 _ h1
theorem gU (x y z i s q : Int) (w : World) :
  Calls Tryz.prog 254 #[lb x y z, .int .i64 i, .int .i64 s, .int .i64 q] w fun e w' => ∃ a c, e = .returned (.agg #[.int .i64 1, .int .i64 i, .slice a 3 c, .int .i64 s, .int .i64 q]) ∧ w'.ownsRow w.heap.size 2 1 (.slice a 3 c) 3 [.int .i64 x, .int .i64 y, .int .i64 z] ∧ Below w.heap.size w w' := by
 have a1 := jX
 have L := yh (fun W => ks x y z W)
 simp only [lb] at *
 go_enter Tryz.func254, Tryz.ntmps254
 go_wp2_with fail
 obtain ⟨W, hW⟩ : ∃ W, W = ((w.alloc (.cells #[.int .i64 0, .int .i64 0, .slice none 0 0, .int .i64 0, .int .i64 0] 142)).alloc (.cells #[.int .i64 1, .int .i64 i, .slice none 0 0, .int .i64 s, .int .i64 q] 142)).alloc (.cells #[.int .i64 x, .int .i64 y, .int .i64 z] 298) := ⟨_, rfl⟩
 have n1 : Below w.heap.size w (w.alloc (.cells #[.int .i64 0, .int .i64 0, .slice none 0 0, .int .i64 0, .int .i64 0] 142)) := (Below.refl _ _).alloc (Nat.le_refl _) _
 have bR : aA 0 #[.int .i64 0, .int .i64 0, .slice none 0 0, .int .i64 0, .int .i64 0] 142 W w.heap.size := by rw [hW]; exact ((aM (Nat.zero_le _)).grow _).grow _
 have bX : aA 0 #[.int .i64 1, .int .i64 i, .slice none 0 0, .int .i64 s, .int .i64 q] 142 W (w.heap.size + 1) := by rw [hW]; exact (aT (by omega) (by simp)).grow _
 have HB : Hid (Below w.heap.size w W) := by rw [hW]; exact (n1.alloc (by simp) _).alloc (by simp; omega) _
 rw [← hW]
 clear hW n1
 refine (uh L _).mono ?_
 rintro e w1 ⟨a, c, rfl, O, hb⟩
 have hsx : w.heap.size < w.heap.size + 1 := by omega
 generalize w.heap.size + 1 = sx at *
 have hX := bX.lt
 replace bR := bR.al hb
 replace bX := bX.al hb
 replace HB := bZ HB hb
 have x0 := bX.at 0 _ rfl
 have x1 := bX.at 1 _ rfl
 have x2 := bX.at 2 _ rfl
 have x3 := bX.at 3 _ rfl
 have x4 := bX.at 4 _ rfl
 have xf := bX.soft
 have xl := bX.lt
 have r0 := bR.at 0 _ rfl
 have r1 := bR.at 1 _ rfl
 have r2 := bR.at 2 _ rfl
 have r3 := bR.at 3 _ rfl
 have r4 := bR.at 4 _ rfl
 have rf := bR.soft
 have rl := bR.lt
 have HO := yh O
 clear bR bX hb O L
 simp only [ga, gb, gc] at x0 x1 x2 x3 x4 r0 r1 r2 r3 r4
 go_wp2_with fail
 refine bodyPost_ret (v := .agg #[.int .i64 1, .int .i64 i, .slice a 3 c, .int .i64 s, .int .i64 q]) (by simp [results, Tryz.results254, go_sem, r0, r1, r2, r3, r4]) rfl ?_
 obtain ⟨s1, s2⟩ := k8 (vs := [.int .i64 1, .int .i64 i, .slice a 3 c, .int .i64 s, .int .i64 q]) hsx hX (uh HO) (uh HB)
 exact ⟨a, c, rfl, jz (by omega) s1, s2⟩
theorem jr (x : aj) (w : World) (hf : wF x = 0) :
  Calls Tryz.prog 254 #[fC x.kind x.vec, .int .i64 x.id, .int .i64 x.aa, .int .i64 x.seq] w fun e w' => ∃ cs, e = .returned (.agg cs.toArray) ∧ ad.ag.aU w' cs x w.heap.size w'.heap.size ∧ Below w.heap.size w w' := by
 obtain ⟨kd, id, vec, ss, sq⟩ := x
 obtain ⟨hi, hs, hq, hk⟩ := cP hf
 simp only at hi hs hq hk
 have w1 : (Lit.int .i64 id).wf = true := bY (by omega)
 have w3 : (Lit.int .i64 ss).wf = true := bY (by omega)
 have w4 : (Lit.int .i64 sq).wf = true := bY (by omega)
 rcases hk with ⟨rfl, hv⟩ | ⟨rfl, hv⟩
 ·
  obtain ⟨hl, hb⟩ := dm hv
  match vec, hl with
  | [p, q, r], _ =>
   refine (gU p q r id ss sq w).mono ?_
   rintro e w' ⟨a, c, rfl, hO, hb2⟩
   have hO2 := ad.iH (zs := [p, q, r]) (fun z hz => bY (by have h0 := hb 0 (by decide); have h1 := hb 1 (by decide); have h2 := hb 2 (by decide); simp at h0 h1 h2 hz; omega)) (by simp) hO
   obtain ⟨bl, O, hr⟩ := hO2
   exact ⟨_, rfl, ⟨bl, ee (x := ⟨1, id, [p, q, r], ss, sq⟩) O (show (Lit.int .i64 1).wf = true by decide) w1 w3 w4 O.2.1, hr⟩, hb2⟩
 subst hv
 refine (fO id ss sq w).mono ?_
 rintro e w' ⟨rfl, hb2⟩
 exact ⟨_, rfl, ⟨[], ee (x := ⟨2, id, [], ss, sq⟩) (c2 := [.slice none 0 0]) ⟨⟨none, 0, rfl, by simp, Or.inl ⟨rfl, rfl⟩⟩, by simp, by simp⟩ (show (Lit.int .i64 2).wf = true by decide) w1 w3 w4 (by simp), by simp⟩, hb2⟩
end Go.Proofs.YtecagllmonckgaaGreat

namespace Go.Proofs.YtecagllmonckgaaGreat
open Go.RowKit Go.ChangeShapes Go.WideShapes
def cQ {α : Type} (A : ad α) (t : TypeId) : Prop :=
 ∀ {H : Type} (enc : TypeId × Value → H) (W : World) (base : Nat) (spare : Nat → Bool) (held : Bool) (fuel : Nat) (cs : List Value) (x : DataW H × List MemPlace), DataW.trod enc Tryz.prog W base spare held fuel t cs = some x → ∃ y, A.Reads W cs y
theorem ay {α β : Type} {A : ad α} {B : ad β} {W : World} {c1 c2 : List Value} {x : α} {y : β} (h : A.Reads W c1 x) (k : B.Reads W c2 y) : (ad.pair A B).Reads W (c1 ++ c2) (x, y) := by
 obtain ⟨b1, h⟩ := h
 obtain ⟨b2, k⟩ := k
 exact ⟨b1 ++ b2, c1, c2, b1, b2, rfl, rfl, h, k⟩
theorem aF {t : TypeId} (ht : Tryz.prog.underlying t = some (.int .i64)) : cQ ad.int t := by
 intro H enc W base spare held fuel cs x h
 obtain ⟨n, rfl, -, hw⟩ := DataW.trod_int ht h
 exact ⟨n, [], rfl, hw, rfl⟩
theorem hL {t : TypeId} (ht : Tryz.prog.underlying t = some .bool) : cQ ad.bool t := by
 intro H enc W base spare held fuel cs x h
 obtain ⟨b, rfl, -⟩ := DataW.trod_bool ht h
 exact ⟨b, [], rfl, rfl⟩
theorem cb {α : Type} {A : ad α} {t e : TypeId} (ht : Tryz.prog.underlying t = some (.slice e)) (hn : Tryz.prog.cellsOf e = A.n) (h0 : 0 < A.n) (h : cQ A e) : cQ (ad.sl A) t := by
 intro H enc W base spare held fuel cs x hx
 rcases Go.Deep.open_slice ht hx with ⟨rfl, -⟩ | ⟨a, len, cap, m, n, D, Pl, rfl, hb, hl, hm, hmm, -, hel⟩
 ·
  exact ⟨[], [], none, 0, rfl, ⟨Nat.le_refl _, by simp⟩, Or.inl ⟨rfl, rfl⟩⟩
 have hlm : len ≤ m := by rw [hmm]; split <;> omega
 rw [hn] at hel
 have each : ∀ i, i < len → ∃ q : List Value × α, (∀ j, j < A.n → W.cell? (a.add (i * A.n + j)) = q.1[j]?) ∧ q.1.length = A.n ∧ A.Reads W q.1 q.2 := by
  intro i hi
  obtain ⟨cs', h1, h2⟩ := hel i (by omega)
  obtain ⟨-, hlen, hc⟩ := World.cells?_some h1
  obtain ⟨y, hy⟩ := h enc W base spare held n cs' _ h2
  refine ⟨(cs', y), fun j hj => ?_, hlen, hy⟩
  have := hc j hj
  rw [Addr.add_add] at this
  exact this
 by_cases hp : 0 < len
 ·
  obtain ⟨b, off, spot⟩ := a
  obtain ⟨q0, c0, l0, -⟩ := each 0 hp
  have hc0 := c0 0 h0
  have hs0 : ∃ v, W.cell? ((⟨b, off, spot⟩ : Addr).add (0 * A.n + 0)) = some v := ⟨_, hc0.trans (List.getElem?_eq_getElem (by omega))⟩
  obtain ⟨v0, hv0⟩ := hs0
  have hspot : spot = none := by simpa [Addr.add] using World.cell?_spot hv0
  subst hspot
  have hbl : b < W.heap.size := by
   have := World.block_lt_of_cell? _ _ hv0
   simpa [Addr.add] using this
  have pick : ∃ f : (i : Nat) → i < len → List Value × α, ∀ i (hi : i < len), (∀ j, j < A.n → W.cell? ((⟨b, off, none⟩ : Addr).add (i * A.n + j)) = (f i hi).1[j]?) ∧ (f i hi).1.length = A.n ∧ A.Reads W (f i hi).1 (f i hi).2 :=
   ⟨fun i hi => Classical.choose (each i hi), fun i hi => Classical.choose_spec (each i hi)⟩
  obtain ⟨f, hf⟩ := pick
  have pick2 : ∃ g : (i : Nat) → i < len → List Nat, ∀ i (hi : i < len), A.bo W (f i hi).1 (f i hi).2 (g i hi) :=
   ⟨fun i hi => Classical.choose (hf i hi).2.2, fun i hi => Classical.choose_spec (hf i hi).2.2⟩
  obtain ⟨g, hg⟩ := pick2
  refine ⟨(List.finRange len).map (fun i => (f i.1 i.2).2), b :: ((List.finRange len).map (fun i => g i.1 i.2)).flatten, some ⟨b, off, none⟩, cap, by simp, ⟨by simpa using hl, by simp; unfold maxLen at hm; omega⟩, Or.inr ⟨b, off, (List.finRange len).map (fun i => (f i.1 i.2).1), (List.finRange len).map (fun i => g i.1 i.2), rfl, hbl, rfl, by simp, by simp, fun j h1 h2 h3 => ?_⟩⟩
  have hj : j < len := by simpa using h1
  refine ⟨fun k hk => ?_, ?_⟩
  ·
   have := (hf j hj).1 k hk
   rw [Addr.add_lit] at this
   simpa [Nat.add_assoc] using this
  simpa using hg j hj
 obtain rfl : len = 0 := by omega
 exact ⟨[], [], some a, cap, rfl, ⟨hl, by simp⟩, Or.inl ⟨rfl, rfl⟩⟩
theorem gR {α : Type} {A : ad α} {t : TypeId} (O : cQ A t) {H : Type} {enc : TypeId × Value → H} {W : World} {base : Nat} {spare : Nat → Bool} {held : Bool} {cs : Array Value} {d : DataW H} {p : List MemPlace}
  (h : DataW.Trod enc Tryz.prog W base spare held t (.agg cs) d p) : ∃ y, A.Reads W cs.toList y := by
 obtain ⟨fuel, hf⟩ := h
 exact O enc W base spare held fuel _ _ (by simpa [Value.cells] using hf)
end Go.Proofs.YtecagllmonckgaaGreat
