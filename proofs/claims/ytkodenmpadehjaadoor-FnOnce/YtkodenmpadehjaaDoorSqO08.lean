/-
  tell of the program's story: one write more; where it was seen stays where it was; nothing else is written.
  Condition: fewer than 1000 writes, and one without a fault.
-/
import Derived.Test.YtkodenmpadehjaaDoorSqO07
import Derived.Test.YtkodenmpadehjaaDoorSqO04
import Derived.Deep.RegionHeld3

namespace Go.Proofs.YtkodenmpadehjaaDoor
open Go.RowKit

theorem Ext.drew3 {S : Nat → Prop} {a b : World} (h : Ext S a b) : Ext S a b.drew := ⟨h.os, h.tape, h.output, h.size, h.block⟩
theorem Ext.alloc1 {S : Nat → Prop} {a b : World} (h : Ext S a b) (o : Obj) : Ext S a (b.alloc o) := h.trans (ext_of_below ((Below.refl _ _).alloc (Nat.le_refl _) o) S)

set_option maxRecDepth 10000 in
theorem ticketC (k i : Int) (u1 : Option Addr) (u2 u3 : Nat) (s q : Int) (w : World) :
    Calls Tryd.prog 32 #[.agg #[.int .i64 k, .int .i64 i, .slice u1 u2 u3, .int .i64 s, .int .i64 q]] w fun e w' => e = .returned (tick s q) ∧ Below w.heap.size w w' := by
  have HB : Hid (∀ o o', Below w.heap.size w ((w.alloc o).alloc o')) := fun o o' => ((Below.refl _ _).alloc (Nat.le_refl _) _).alloc (by simp) _
  go_enter Tryd.func32, Tryd.ntmps32
  go_wp2_with fail
  refine bodyPost_ret (v := .agg #[.int .i64 s, .int .i64 q]) (by simp [results, Tryd.results32, go_sem]) rfl ?_
  exact ⟨rfl, unhide HB _ _⟩

set_option maxRecDepth 100000 in
set_option maxHeartbeats 4000000 in
theorem tellC {w : World} {p mb N : Nat} {ws : List DWrite} {v : Value} {rows : List (List Value)} {bls : List (List Nat)} (h : Told w p mb N ws v rows bls) {cs : List Value} {x : DWrite} {bl : List Nat} (hl : Lay.tWrite.lies w cs x bl) (hX : ∀ b ∈ bl, N ≤ b ∧ ∀ o, w.frozen? ⟨b, o, none⟩ = false) (hnd : bl.Nodup) (hNw : N ≤ w.heap.size) (hf : wF x = 0) (hn : ws.length < 1000) :
    Calls Tryd.prog 35 #[.pointer (some ⟨p, 0, none⟩), .agg cs.toArray] w fun e w' => e = .returned (.tuple #[]) ∧ (∃ v' rows' bls', Told w' p mb w'.heap.size (ws ++ [x]) v' rows' bls') ∧ Below mb w w' := by
  obtain ⟨a2, d2, b2, rfl, rfl, -, -, -, k3, k4⟩ := lies_Write.1 hl
  have nb : Below w.heap.size w (w.alloc (.cells #[.int .i64 x.kind, .int .i64 x.id, .slice a2 x.vec.length d2, .int .i64 x.session, .int .i64 x.seq] 27)) := (Below.refl _ _).alloc (Nat.le_refl _) _
  have hQ0 : Box 0 #[.int .i64 x.kind, .int .i64 x.id, .slice a2 x.vec.length d2, .int .i64 x.session, .int .i64 x.seq] 27 (w.alloc (.cells #[.int .i64 x.kind, .int .i64 x.id, .slice a2 x.vec.length d2, .int .i64 x.session, .int .i64 x.seq] 27)) w.heap.size := newBox (Nat.zero_le _)
  have hT0 := h.later nb
  have hL0 : Lay.tWrite.lies (w.alloc (.cells #[.int .i64 x.kind, .int .i64 x.id, .slice a2 x.vec.length d2, .int .i64 x.session, .int .i64 x.seq] 27)) [.int .i64 x.kind, .int .i64 x.id, .slice a2 x.vec.length d2, .int .i64 x.session, .int .i64 x.seq] x bl := Lay.tWrite.keep hl fun b hb => nb.block b (Lay.tWrite.lt hl b hb)
  have hpw := h.box.lt
  have hmp := h.lt
  have HNW := hide hNw
  have hF0 : ∀ b ∈ bl, ∀ o, (w.alloc (.cells #[.int .i64 x.kind, .int .i64 x.id, .slice a2 x.vec.length d2, .int .i64 x.session, .int .i64 x.seq] 27)).frozen? ⟨b, o, none⟩ = false := fun b hb o => (frozen_of_block (nb.block b (Lay.tWrite.lt hl b hb)) o).trans ((hX b hb).2 o)
  have hBw : Below mb w (w.alloc (.cells #[.int .i64 x.kind, .int .i64 x.id, .slice a2 x.vec.length d2, .int .i64 x.session, .int .i64 x.seq] 27)) := nb.mono (by omega)
  go_enter Tryd.func35, Tryd.ntmps35
  go_wp2_with fail
  generalize hW0 : w.alloc (.cells #[.int .i64 x.kind, .int .i64 x.id, .slice a2 x.vec.length d2, .int .i64 x.session, .int .i64 x.seq] 27) = W0 at *
  clear hW0
  have hHD : Ext (fun c => c = p ∨ v.ownBlock = some c) W0 W0.drew := (Ext.refl _ _).drew3
  have hTD : Told W0.drew p mb N ws v rows bls := hT0.later (below_drawn (Below.refl _ _) 1)
  have hLD : Lay.tWrite.lies W0.drew [.int .i64 x.kind, .int .i64 x.id, .slice a2 x.vec.length d2, .int .i64 x.session, .int .i64 x.seq] x bl := hL0
  have hFD : ∀ b ∈ bl, ∀ o, W0.drew.frozen? ⟨b, o, none⟩ = false := hF0
  refine wp_region_noPanic ?_
  refine wp_region_held_drew (S := fun w' => Ext (fun c => c = p ∨ v.ownBlock = some c) W0 w') (by kernel_rfl) (Ext.refl _ _).drew3 (fun hHeld => ?_)
  generalize W0.drew = wD at hHeld hTD hLD hHD hFD ⊢
  refine wpAnyH_take (i := 0) (oi := { dst := some 7, op := Go.Op.move (Go.Operand.tmp 0), type := 60, pos := "l05_session.go:65", after := #[], guard := none }) (v := ?va0) rfl (by kernel_rfl) (by kernel_rfl) (by kernel_rfl) (fun _ _ _ h => h) (Or.inl ⟨by rfl, ?ha0⟩) hHeld ?ra0
  case ha0 =>
    intro wS hSw
    (try dsimp only at hSw)
    go_simp
    try with_reducible rfl
  case ra0 =>
  simp only [Act.put, List.setIfInBounds_toArray, List.set_cons_zero, List.set_cons_succ]
  refine wpAnyH_take (i := 1) (oi := { dst := some 8, op := Go.Op.move (Go.Operand.tmp 0), type := 60, pos := "l05_session.go:65", after := #[], guard := none }) (v := ?va1) rfl (by kernel_rfl) (by kernel_rfl) (by kernel_rfl) (fun _ _ _ h => h) (Or.inl ⟨by rfl, ?ha1⟩) hHeld ?ra1
  case ha1 =>
    intro wS hSw
    (try dsimp only at hSw)
    go_simp
    try with_reducible rfl
  case ra1 =>
  simp only [Act.put, List.setIfInBounds_toArray, List.set_cons_zero, List.set_cons_succ]
  refine wpAnyH_take (i := 2) (oi := { dst := some 9, op := Go.Op.nilCheck (Go.Operand.tmp 8), type := 0, pos := "l05_session.go:65", after := #[{ on := 1, ground := Go.Ground.data }], guard := none }) (v := ?va2) rfl (by kernel_rfl) (by kernel_rfl) (by kernel_rfl) (fun _ _ _ h => h) (Or.inl ⟨by rfl, ?ha2⟩) hHeld ?ra2
  case ha2 =>
    intro wS hSw
    (try dsimp only at hSw)
    go_simp
    try with_reducible rfl
  case ra2 =>
  simp only [Act.put, List.setIfInBounds_toArray, List.set_cons_zero, List.set_cons_succ]
  refine wpAnyH_take (i := 3) (oi := { dst := some 10, op := Go.Op.fieldAddr 71 (Go.Operand.tmp 9) 0, type := 0, pos := "l05_session.go:65", after := #[{ on := 2, ground := Go.Ground.data }], guard := none }) (v := ?va3) rfl (by kernel_rfl) (by kernel_rfl) (by kernel_rfl) (fun _ _ _ h => h) (Or.inl ⟨by rfl, ?ha3⟩) hHeld ?ra3
  case ha3 =>
    intro wS hSw
    (try dsimp only at hSw)
    go_simp
    try with_reducible rfl
  case ra3 =>
  simp only [Act.put, List.setIfInBounds_toArray, List.set_cons_zero, List.set_cons_succ]
  refine wpAnyH_take (i := 5) (oi := { dst := some 12, op := Go.Op.load 27 (Go.Operand.tmp 3), type := 27, pos := "l05_session.go:65", after := #[], guard := none }) (v := ?va5) rfl (by kernel_rfl) (by kernel_rfl) (by kernel_rfl) (fun _ _ _ h => h) (Or.inl ⟨by rfl, ?ha5⟩) hHeld ?ra5
  case ha5 =>
    intro wS hSw
    have y0 : wS.cell? ⟨w.heap.size, 0, none⟩ = some (.int .i64 x.kind) := (hQ0.ext hSw (by first | (rintro (e | e); omega; have := h.hiV _ e; have := unhide HNW; omega) | (intro e; omega) | exact fun e => e)).at 0 _ rfl
    have y1 : wS.cell? ⟨w.heap.size, 1, none⟩ = some (.int .i64 x.id) := (hQ0.ext hSw (by first | (rintro (e | e); omega; have := h.hiV _ e; have := unhide HNW; omega) | (intro e; omega) | exact fun e => e)).at 1 _ rfl
    have y2 : wS.cell? ⟨w.heap.size, 2, none⟩ = some (.slice a2 x.vec.length d2) := (hQ0.ext hSw (by first | (rintro (e | e); omega; have := h.hiV _ e; have := unhide HNW; omega) | (intro e; omega) | exact fun e => e)).at 2 _ rfl
    have y3 : wS.cell? ⟨w.heap.size, 3, none⟩ = some (.int .i64 x.session) := (hQ0.ext hSw (by first | (rintro (e | e); omega; have := h.hiV _ e; have := unhide HNW; omega) | (intro e; omega) | exact fun e => e)).at 3 _ rfl
    have y4 : wS.cell? ⟨w.heap.size, 4, none⟩ = some (.int .i64 x.seq) := (hQ0.ext hSw (by first | (rintro (e | e); omega; have := h.hiV _ e; have := unhide HNW; omega) | (intro e; omega) | exact fun e => e)).at 4 _ rfl
    clear hSw
    (try dsimp only at hSw)
    go_simp
    try with_reducible rfl
  case ra5 =>
  simp only [Act.put, List.setIfInBounds_toArray, List.set_cons_zero, List.set_cons_succ]
  refine (fun (REST : ?T) => ?main) ?rest
  case main =>
    refine wpAnyH_ready (rs := [4, 6]) (by kernel_rfl) (by simp) ?_
    refine AllReadyH.cons (o := { dst := some 11, op := Go.Op.load 24 (Go.Operand.tmp 10), type := 24, pos := "l05_session.go:65", after := #[{ on := 3, ground := Go.Ground.data }], guard := none }) rfl (fun K hK => ?first) (AllReadyH.cons (o := { dst := some 13, op := Go.Op.buildSlice 24 1 #[(0, Go.Operand.tmp 12)], type := 24, pos := "l05_session.go:65", after := #[{ on := 5, ground := Go.Ground.data }], guard := none }) rfl (fun K hK => ?second) AllReadyH.nil)
    case first =>
      have y0 : wD.cell? ⟨p, 0, none⟩ = some v := hTD.box.at 0 _ rfl
      have hp : p < wD.heap.size := hTD.box.lt
      have y1 : ∀ o, (wD.alloc o).cell? ⟨p, 0, none⟩ = some v := fun o => (World.cell?_alloc_lt _ _ _ hp).trans y0
      go_simp
      refine hK.out _ _ hHeld (fun hHeld => ?_)
      clear hK K
      try simp only [Act.put, List.setIfInBounds_toArray, List.set_cons_zero, List.set_cons_succ]
      refine wpAnyH_ready (rs := [6]) (by kernel_rfl) (by simp) ?_
      refine AllReadyH.cons (o := { dst := some 13, op := Go.Op.buildSlice 24 1 #[(0, Go.Operand.tmp 12)], type := 24, pos := "l05_session.go:65", after := #[{ on := 5, ground := Go.Ground.data }], guard := none }) rfl (fun K hK => ?_) AllReadyH.nil
      go_simp
      refine hK.out _ _ (hHeld.alloc1 _) (fun hHeld => ?_)
      clear hK K
      try simp only [Act.put, List.setIfInBounds_toArray, List.set_cons_zero, List.set_cons_succ]
      exact REST
    case second =>
      go_simp
      refine hK.out _ _ (hHeld.alloc1 _) (fun hHeld => ?_)
      clear hK K
      try simp only [Act.put, List.setIfInBounds_toArray, List.set_cons_zero, List.set_cons_succ]
      refine wpAnyH_ready (rs := [4]) (by kernel_rfl) (by simp) ?_
      refine AllReadyH.cons (o := { dst := some 11, op := Go.Op.load 24 (Go.Operand.tmp 10), type := 24, pos := "l05_session.go:65", after := #[{ on := 3, ground := Go.Ground.data }], guard := none }) rfl (fun K hK => ?_) AllReadyH.nil
      have y0 : wD.cell? ⟨p, 0, none⟩ = some v := hTD.box.at 0 _ rfl
      have hp : p < wD.heap.size := hTD.box.lt
      have y1 : ∀ o, (wD.alloc o).cell? ⟨p, 0, none⟩ = some v := fun o => (World.cell?_alloc_lt _ _ _ hp).trans y0
      go_simp
      refine hK.out _ _ hHeld (fun hHeld => ?_)
      clear hK K
      try simp only [Act.put, List.setIfInBounds_toArray, List.set_cons_zero, List.set_cons_succ]
      exact REST
  case rest =>
  replace hHeld := hHeld.alloc1 (.cells #[.int .i64 x.kind, .int .i64 x.id, .slice a2 x.vec.length d2, .int .i64 x.session, .int .i64 x.seq] 27)
  refine wpAnyH_ready (rs := [7]) (by kernel_rfl) (by simp) ?_
  refine AllReadyH.cons (o := { dst := some 14, op := Go.Op.call { callee := Go.Callee.builtin Go.Builtin.append, args := #[Go.Operand.tmp 11, Go.Operand.tmp 13], argTypes := #[24, 24] }, type := 24, pos := "l05_session.go:65", after := #[{ on := 4, ground := Go.Ground.data }, { on := 6, ground := Go.Ground.data }], guard := none }) rfl (fun K hK => ?_) AllReadyH.nil
  refine step_append_Write hTD.grow (row := [.int .i64 x.kind, .int .i64 x.id, .slice a2 x.vec.length d2, .int .i64 x.session, .int .i64 x.seq]) (x := x) (bl := bl) hLD (fun c hc e => by have h1 := (hX c hc).1; have h2 := hTD.hiV c e; omega) rfl _ _ rfl rfl rfl (by omega) (by have := hTD.box.lt; omega) ?_
  rintro g5 cp5 w5 hG5 hb5 hE5 hl5 hz5 hor5
  refine hK.out _ _ ((hHD.trans (hE5.mono (fun k _ h => Or.inr h)))) (fun hHeld => ?_)
  clear hK K
  try simp only [Act.put, List.setIfInBounds_toArray, List.set_cons_zero, List.set_cons_succ]
  refine wpAnyH_take (i := 8) (oi := { dst := some 15, op := Go.Op.nilCheck (Go.Operand.tmp 7), type := 0, pos := "l05_session.go:65", after := #[{ on := 0, ground := Go.Ground.data }, { on := 0, ground := Go.Ground.phase }, { on := 1, ground := Go.Ground.phase }, { on := 2, ground := Go.Ground.phase }, { on := 3, ground := Go.Ground.phase }, { on := 4, ground := Go.Ground.phase }, { on := 5, ground := Go.Ground.phase }, { on := 6, ground := Go.Ground.phase }, { on := 7, ground := Go.Ground.phase }], guard := none }) (v := ?va8) rfl (by kernel_rfl) (by kernel_rfl) (by kernel_rfl) (fun _ _ _ h => h) (Or.inl ⟨by rfl, ?ha8⟩) hHeld ?ra8
  case ha8 =>
    intro wS hSw
    (try dsimp only at hSw)
    go_simp
    try with_reducible rfl
  case ra8 =>
  simp only [Act.put, List.setIfInBounds_toArray, List.set_cons_zero, List.set_cons_succ]
  refine wpAnyH_take (i := 9) (oi := { dst := some 16, op := Go.Op.fieldAddr 71 (Go.Operand.tmp 15) 0, type := 0, pos := "l05_session.go:65", after := #[{ on := 8, ground := Go.Ground.data }, { on := 0, ground := Go.Ground.phase }, { on := 1, ground := Go.Ground.phase }, { on := 2, ground := Go.Ground.phase }, { on := 3, ground := Go.Ground.phase }, { on := 4, ground := Go.Ground.phase }, { on := 5, ground := Go.Ground.phase }, { on := 6, ground := Go.Ground.phase }, { on := 7, ground := Go.Ground.phase }], guard := none }) (v := ?va9) rfl (by kernel_rfl) (by kernel_rfl) (by kernel_rfl) (fun _ _ _ h => h) (Or.inl ⟨by rfl, ?ha9⟩) hHeld ?ra9
  case ha9 =>
    intro wS hSw
    (try dsimp only at hSw)
    go_simp
    try with_reducible rfl
  case ra9 =>
  simp only [Act.put, List.setIfInBounds_toArray, List.set_cons_zero, List.set_cons_succ]
  refine wpAnyH_ready (rs := [10]) (by kernel_rfl) (by simp) ?_
  refine AllReadyH.cons (o := { dst := none, op := Go.Op.store 24 (Go.Operand.tmp 16) (Go.Operand.tmp 14), type := 0, pos := "l05_session.go:65", after := #[{ on := 9, ground := Go.Ground.data }, { on := 7, ground := Go.Ground.data }, { on := 7, ground := Go.Ground.chain }, { on := 0, ground := Go.Ground.phase }, { on := 1, ground := Go.Ground.phase }, { on := 2, ground := Go.Ground.phase }, { on := 3, ground := Go.Ground.phase }, { on := 4, ground := Go.Ground.phase }, { on := 5, ground := Go.Ground.phase }, { on := 6, ground := Go.Ground.phase }, { on := 7, ground := Go.Ground.phase }], guard := none }) rfl (fun K hK => ?_) AllReadyH.nil
  have hb6 : Box 0 (tcells v mb (lastI ws)) 71 w5 p := hTD.box.ext hE5 (fun e => by have := (hTD.grow.own.lt p e).1; omega)
  have c6 : w5.cell? ⟨p, 0, none⟩ = some v := hb6.at 0 _ rfl
  have f6 := hb6.soft 0
  have l6 := hb6.lt
  go_simp
  refine hK.out _ _ ((hHD.trans (hE5.mono (fun k _ h => Or.inr h))).setCell ⟨p, 0, none⟩ _ (Or.inl rfl)) (fun hHeld => ?_)
  clear hK K
  try simp only [Act.put, List.setIfInBounds_toArray, List.set_cons_zero, List.set_cons_succ]
  refine wpAnyH_done (by kernel_rfl) ?_ _
  refine NoPanic.normal ?_
  have hnf : (bls ++ [bl]).flatten = bls.flatten ++ bl := by simp
  have hT6 := hTD.added hG5 hE5 (by
    intro b hb
    rw [hnf] at hb
    rcases List.mem_append.1 hb with hb | hb
    · exact ⟨(hTD.sub b hb).1, fun o => (frozen_of_block (hE5.block b (hTD.grow.sub_lt b hb) (fun e => hTD.grow.off b hb e)) o).trans ((hTD.sub b hb).2 o)⟩
    · refine ⟨by have := (hX b hb).1; have := hTD.pN; omega, fun o => (frozen_of_block (hE5.block b (Lay.tWrite.lt hLD b hb) (fun e => by have := hTD.hiV b e; have := (hX b hb).1; omega)) o).trans (hFD b hb o)⟩) (by
    rw [hnf, List.nodup_append]
    exact ⟨hTD.nd, hnd, fun b hb c hc e => by have := hTD.hiB b hb; have := (hX c hc).1; omega⟩)
  have hQ6 : Box 0 #[.int .i64 x.kind, .int .i64 x.id, .slice a2 x.vec.length d2, .int .i64 x.session, .int .i64 x.seq] 27 (w5.setCell ⟨p, 0, none⟩ (.slice (some ⟨g5, 0, none⟩) (ws.length + 1) cp5)) w.heap.size := hQ0.ext hHeld (by rintro (e | e); omega; have := h.hiV _ e; omega)
  have hB6 : Below mb w (w5.setCell ⟨p, 0, none⟩ (.slice (some ⟨g5, 0, none⟩) (ws.length + 1) cp5)) := hBw.trans (hHeld.below (by have := hBw.size; omega) (by rintro c hc (e | e); omega; have := (h.grow.own.lt c e).1; omega))
  clear hHeld hTD hLD hHD hFD hG5 hE5 hb5 hl5 hz5 hor5 hT0 hL0 hF0 hQ0 hBw h hl hX hnd nb hnf
  generalize w5.setCell ⟨p, 0, none⟩ (.slice (some ⟨g5, 0, none⟩) (ws.length + 1) cp5) = w6 at hT6 hQ6 hB6 ⊢
  have y0 : w6.cell? ⟨w.heap.size, 0, none⟩ = some (.int .i64 x.kind) := hQ6.at 0 _ rfl
  have y1 : w6.cell? ⟨w.heap.size, 1, none⟩ = some (.int .i64 x.id) := hQ6.at 1 _ rfl
  have y2 : w6.cell? ⟨w.heap.size, 2, none⟩ = some (.slice a2 x.vec.length d2) := hQ6.at 2 _ rfl
  have y3 : w6.cell? ⟨w.heap.size, 3, none⟩ = some (.int .i64 x.session) := hQ6.at 3 _ rfl
  have y4 : w6.cell? ⟨w.heap.size, 4, none⟩ = some (.int .i64 x.seq) := hQ6.at 4 _ rfl
  go_wp2_with fail
  clear y0 y1 y2 y3 y4
  refine (ticketC _ _ _ _ _ _ _ w6).mono ?_
  rintro e w7 ⟨rfl, hb7⟩
  have nb8 : Below w6.heap.size w6 (w7.alloc (.cells #[.int .i64 x.session, .int .i64 x.seq] 73)) := hb7.alloc hb7.size _
  have hT8 := hT6.later nb8
  have hQ8 := hQ6.keep nb8
  have hB8 := hB6.trans (nb8.mono (by have := hT6.lt; have := hT6.box.lt; omega))
  have hR8 : Box 0 #[.int .i64 x.session, .int .i64 x.seq] 73 (w7.alloc (.cells #[.int .i64 x.session, .int .i64 x.seq] 73)) w7.heap.size := newBox (Nat.zero_le _)
  have hrp : mb < w7.heap.size := by have := hT6.lt; have := hT6.box.lt; have := hb7.size; omega
  simp only [tick]
  go_wp2_with fail
  clear hT6 hQ6 hB6 hb7 nb8
  generalize w7.alloc (.cells #[.int .i64 x.session, .int .i64 x.seq] 73) = w8 at *
  generalize w7.heap.size = r at *
  have hT9 : Told0 w8.drew p mb _ ws.length (ws ++ [x]) (lastI ws) (fun s q => seenI ws s q) (.slice (some ⟨g5, 0, none⟩) (ws.length + 1) cp5) (rows ++ [[.int .i64 x.kind, .int .i64 x.id, .slice a2 x.vec.length d2, .int .i64 x.session, .int .i64 x.seq]]) (bls ++ [bl]) := hT8.later (below_drawn (Below.refl _ _) 1)
  have hQ9 : Box 0 #[.int .i64 x.kind, .int .i64 x.id, .slice a2 x.vec.length d2, .int .i64 x.session, .int .i64 x.seq] 27 w8.drew w.heap.size := hQ8
  have hR9 : Box 0 #[.int .i64 x.session, .int .i64 x.seq] 73 w8.drew r := hR8
  have hB9 : Below mb w w8.drew := hB8.drew
  obtain ⟨bs, hbs⟩ : ∃ bs, bs = decide (seenI ws x.session x.seq ≠ 0) := ⟨_, rfl⟩
  have HBS := hide hbs
  clear hbs
  refine wp_region_noPanic ?_
  refine wp_region_held_drew (S := fun w' => Ext (fun _ => False) w8 w') (by kernel_rfl) (Ext.refl _ _).drew3 (fun hHeld => ?_)
  generalize w8.drew = w9 at hHeld hT9 hQ9 hR9 hB9 ⊢
  refine wpAnyH_take (i := 0) (oi := { dst := some 20, op := Go.Op.move (Go.Operand.tmp 0), type := 60, pos := "l05_session.go:67", after := #[], guard := none }) (v := ?vc0) rfl (by kernel_rfl) (by kernel_rfl) (by kernel_rfl) (fun _ _ _ h => h) (Or.inl ⟨by rfl, ?hc0⟩) hHeld ?rc0
  case hc0 =>
    intro wS hSw
    (try dsimp only at hSw)
    go_simp
    try with_reducible rfl
  case rc0 =>
  simp only [Act.put, List.setIfInBounds_toArray, List.set_cons_zero, List.set_cons_succ]
  refine wpAnyH_take (i := 1) (oi := { dst := some 21, op := Go.Op.nilCheck (Go.Operand.tmp 20), type := 0, pos := "l05_session.go:67", after := #[{ on := 0, ground := Go.Ground.data }], guard := none }) (v := ?vc1) rfl (by kernel_rfl) (by kernel_rfl) (by kernel_rfl) (fun _ _ _ h => h) (Or.inl ⟨by rfl, ?hc1⟩) hHeld ?rc1
  case hc1 =>
    intro wS hSw
    (try dsimp only at hSw)
    go_simp
    try with_reducible rfl
  case rc1 =>
  simp only [Act.put, List.setIfInBounds_toArray, List.set_cons_zero, List.set_cons_succ]
  refine wpAnyH_take (i := 2) (oi := { dst := some 22, op := Go.Op.fieldAddr 71 (Go.Operand.tmp 21) 1, type := 0, pos := "l05_session.go:67", after := #[{ on := 1, ground := Go.Ground.data }], guard := none }) (v := ?vc2) rfl (by kernel_rfl) (by kernel_rfl) (by kernel_rfl) (fun _ _ _ h => h) (Or.inl ⟨by rfl, ?hc2⟩) hHeld ?rc2
  case hc2 =>
    intro wS hSw
    (try dsimp only at hSw)
    go_simp
    try with_reducible rfl
  case rc2 =>
  simp only [Act.put, List.setIfInBounds_toArray, List.set_cons_zero, List.set_cons_succ]
  refine wpAnyH_take (i := 3) (oi := { dst := some 23, op := Go.Op.load 68 (Go.Operand.tmp 22), type := 68, pos := "l05_session.go:67", after := #[{ on := 2, ground := Go.Ground.data }], guard := none }) (v := ?vc3) rfl (by kernel_rfl) (by kernel_rfl) (by kernel_rfl) (fun _ _ _ h => h) (Or.inl ⟨by rfl, ?hc3⟩) hHeld ?rc3
  case hc3 =>
    intro wS hSw
    have z1 : wS.cell? ⟨p, 1, none⟩ = some (.map (some mb)) := (hT8.box.ext hSw (fun e => e)).at 1 _ rfl
    have k0 : wS.cell? ⟨r, 0, none⟩ = some (.int .i64 x.session) := (hR8.ext hSw (fun e => e)).at 0 _ rfl
    have k1 : wS.cell? ⟨r, 1, none⟩ = some (.int .i64 x.seq) := (hR8.ext hSw (fun e => e)).at 1 _ rfl
    clear hSw
    (try dsimp only at hSw)
    go_simp
    try with_reducible rfl
  case rc3 =>
  simp only [Act.put, List.setIfInBounds_toArray, List.set_cons_zero, List.set_cons_succ]
  refine wpAnyH_take (i := 4) (oi := { dst := some 24, op := Go.Op.load 73 (Go.Operand.tmp 4), type := 73, pos := "l05_session.go:67", after := #[], guard := none }) (v := ?vc4) rfl (by kernel_rfl) (by kernel_rfl) (by kernel_rfl) (fun _ _ _ h => h) (Or.inl ⟨by rfl, ?hc4⟩) hHeld ?rc4
  case hc4 =>
    intro wS hSw
    have z1 : wS.cell? ⟨p, 1, none⟩ = some (.map (some mb)) := (hT8.box.ext hSw (fun e => e)).at 1 _ rfl
    have k0 : wS.cell? ⟨r, 0, none⟩ = some (.int .i64 x.session) := (hR8.ext hSw (fun e => e)).at 0 _ rfl
    have k1 : wS.cell? ⟨r, 1, none⟩ = some (.int .i64 x.seq) := (hR8.ext hSw (fun e => e)).at 1 _ rfl
    clear hSw
    (try dsimp only at hSw)
    go_simp
    try with_reducible rfl
  case rc4 =>
  simp only [Act.put, List.setIfInBounds_toArray, List.set_cons_zero, List.set_cons_succ]
  refine wpAnyH_take (i := 5) (oi := { dst := some 25, op := Go.Op.lookup 68 (Go.Operand.tmp 23) (Go.Operand.tmp 24) true, type := 67, pos := "l05_session.go:67", after := #[{ on := 3, ground := Go.Ground.data }, { on := 4, ground := Go.Ground.data }], guard := none }) (v := ?vc5) rfl (by kernel_rfl) (by kernel_rfl) (by kernel_rfl) (fun _ _ _ h => h) (Or.inl ⟨by rfl, ?hc5⟩) hHeld ?rc5
  case hc5 =>
    intro wS hSw
    have hlk := (hT8.seen.ext hSw (fun e => e)).look k3 k4
    simp only [tick] at hlk
    rw [← unhide HBS] at hlk
    clear hSw
    (try dsimp only at hSw)
    go_simp
    try with_reducible rfl
  case rc5 =>
  simp only [Act.put, List.setIfInBounds_toArray, List.set_cons_zero, List.set_cons_succ]
  refine wpAnyH_take (i := 6) (oi := { dst := some 19, op := Go.Op.move (Go.Operand.tmp 25), type := 67, pos := "l05_session.go:67", after := #[{ on := 5, ground := Go.Ground.data }], guard := none }) (v := ?vc6) rfl (by kernel_rfl) (by kernel_rfl) (by kernel_rfl) (fun _ _ _ h => h) (Or.inl ⟨by rfl, ?hc6⟩) hHeld ?rc6
  case hc6 =>
    intro wS hSw
    (try dsimp only at hSw)
    go_simp
    try with_reducible rfl
  case rc6 =>
  simp only [Act.put, List.setIfInBounds_toArray, List.set_cons_zero, List.set_cons_succ]
  refine wpAnyH_take (i := 7) (oi := { dst := some 26, op := Go.Op.extract (Go.Operand.tmp 19) 0, type := 2, pos := "l05_session.go:67", after := #[{ on := 6, ground := Go.Ground.data }], guard := none }) (v := ?vc7) rfl (by kernel_rfl) (by kernel_rfl) (by kernel_rfl) (fun _ _ _ h => h) (Or.inl ⟨by rfl, ?hc7⟩) hHeld ?rc7
  case hc7 =>
    intro wS hSw
    (try dsimp only at hSw)
    go_simp
    try with_reducible rfl
  case rc7 =>
  simp only [Act.put, List.setIfInBounds_toArray, List.set_cons_zero, List.set_cons_succ]
  refine wpAnyH_take (i := 8) (oi := { dst := some 27, op := Go.Op.extract (Go.Operand.tmp 19) 1, type := 4, pos := "l05_session.go:67", after := #[{ on := 6, ground := Go.Ground.data }, { on := 9, ground := Go.Ground.gcOnly Go.Departure.lateStores }], guard := none }) (v := ?vc8) rfl (by kernel_rfl) (by kernel_rfl) (by kernel_rfl) (fun _ _ _ h => h) (Or.inl ⟨by rfl, ?hc8⟩) hHeld ?rc8
  case hc8 =>
    intro wS hSw
    (try dsimp only at hSw)
    go_simp
    try with_reducible rfl
  case rc8 =>
  simp only [Act.put, List.setIfInBounds_toArray, List.set_cons_zero, List.set_cons_succ]
  refine wpAnyH_take (i := 9) (oi := { dst := some 5, op := Go.Op.assign (Go.Operand.tmp 26), type := 2, pos := "l05_session.go:67", after := #[{ on := 7, ground := Go.Ground.data }, { on := 0, ground := Go.Ground.phase }, { on := 1, ground := Go.Ground.phase }, { on := 2, ground := Go.Ground.phase }, { on := 3, ground := Go.Ground.phase }, { on := 4, ground := Go.Ground.phase }, { on := 5, ground := Go.Ground.phase }, { on := 6, ground := Go.Ground.phase }, { on := 7, ground := Go.Ground.phase }, { on := 8, ground := Go.Ground.textOnly Go.Departure.lateStores }], guard := none }) (v := ?vc9) rfl (by kernel_rfl) (by kernel_rfl) (by kernel_rfl) (fun _ _ _ h => h) (Or.inl ⟨by rfl, ?hc9⟩) hHeld ?rc9
  case hc9 =>
    intro wS hSw
    (try dsimp only at hSw)
    go_simp
    try with_reducible rfl
  case rc9 =>
  simp only [Act.put, List.setIfInBounds_toArray, List.set_cons_zero, List.set_cons_succ]
  refine wpAnyH_take (i := 10) (oi := { dst := some 6, op := Go.Op.assign (Go.Operand.tmp 27), type := 4, pos := "l05_session.go:67", after := #[{ on := 8, ground := Go.Ground.data }, { on := 9, ground := Go.Ground.chain }, { on := 0, ground := Go.Ground.phase }, { on := 1, ground := Go.Ground.phase }, { on := 2, ground := Go.Ground.phase }, { on := 3, ground := Go.Ground.phase }, { on := 4, ground := Go.Ground.phase }, { on := 5, ground := Go.Ground.phase }, { on := 6, ground := Go.Ground.phase }, { on := 7, ground := Go.Ground.phase }, { on := 8, ground := Go.Ground.phase }, { on := 9, ground := Go.Ground.phase }], guard := none }) (v := ?vc10) rfl (by kernel_rfl) (by kernel_rfl) (by kernel_rfl) (fun _ _ _ h => h) (Or.inl ⟨by rfl, ?hc10⟩) hHeld ?rc10
  case hc10 =>
    intro wS hSw
    (try dsimp only at hSw)
    go_simp
    try with_reducible rfl
  case rc10 =>
  simp only [Act.put, List.setIfInBounds_toArray, List.set_cons_zero, List.set_cons_succ]
  refine wpAnyH_done (by kernel_rfl) ?_ _
  refine NoPanic.normal ?_
  clear hHeld hT8 hQ8 hR8 hB8
  obtain ⟨b1, b9, q1, q9⟩ := wF_seq hf
  have hs9 : x.session.toNat < 10 := by omega
  have hsi : (x.session.toNat : Int) = x.session := by omega
  have i1 : (0 : Int) ≤ x.session := by omega
  have i2 : x.session < 10 := by omega
  have hlast : ∀ j : Int, (if j = (x.session.toNat : Int) then (if lastI ws x.session < x.seq then x.seq else lastI ws x.session) else lastI ws j) = lastI (ws ++ [x]) j := by
    intro j
    rw [lastI_snoc, hsi, show (if lastI ws x.session < x.seq then x.seq else lastI ws x.session) = max (lastI ws x.session) x.seq by split <;> omega]
    by_cases e : j = x.session
    · rw [if_pos e, if_pos e.symm, e]
    · rw [if_neg e, if_neg (fun h => e h.symm)]
  have hlen : Hid ((ws ++ [x]).length = ws.length + 1) := by show (ws ++ [x]).length = ws.length + 1; simp
  have HLAST := hide hlast
  clear hlast
  by_cases hsn : seenI ws x.session x.seq = 0
  · obtain rfl : bs = false := by rw [unhide HBS]; simpa using hsn
    have hseen : ∀ s q : Int, (if s = x.session ∧ q = x.seq then ws.length + 1 else seenI ws s q) = seenI (ws ++ [x]) s q := by
      intro s q
      rw [seenI_snoc]
      by_cases e : s = x.session ∧ q = x.seq
      · rw [if_pos e, e.1, e.2, hsn, if_pos rfl, if_pos ⟨rfl, rfl⟩]
      · rw [if_neg e]
        by_cases h0 : seenI ws s q = 0
        · rw [if_pos h0, if_neg (fun h => e ⟨h.1.symm, h.2.symm⟩), h0]
        · rw [if_neg h0]
    have HSEEN := hide hseen
    clear HBS hseen hsn
    go_wp2_with fail
    have hT10 : Told0 w9.drew p mb _ ws.length (ws ++ [x]) (lastI ws) (fun s q => seenI ws s q) (.slice (some ⟨g5, 0, none⟩) (ws.length + 1) cp5) (rows ++ [[.int .i64 x.kind, .int .i64 x.id, .slice a2 x.vec.length d2, .int .i64 x.session, .int .i64 x.seq]]) (bls ++ [bl]) := hT9.later (below_drawn (Below.refl _ _) 1)
    have hQ10 : Box 0 #[.int .i64 x.kind, .int .i64 x.id, .slice a2 x.vec.length d2, .int .i64 x.session, .int .i64 x.seq] 27 w9.drew w.heap.size := hQ9
    have hB10 : Below mb w w9.drew := hB9.drew
    refine wp_region_noPanic ?_
    refine wp_region_held_drew (S := fun w' => Ext (fun c => c = mb) w9 w') (by kernel_rfl) (Ext.refl _ _).drew3 (fun hHeld => ?_)
    generalize w9.drew = wE at hHeld hT10 hQ10 hB10 ⊢
    refine wpAnyH_take (i := 0) (oi := { dst := some 30, op := Go.Op.move (Go.Operand.tmp 0), type := 60, pos := "l05_session.go:68", after := #[], guard := none }) (v := ?ve0) rfl (by kernel_rfl) (by kernel_rfl) (by kernel_rfl) (fun _ _ _ h => h) (Or.inl ⟨by rfl, ?he0⟩) hHeld ?re0
    case he0 =>
      intro wS hSw
      (try dsimp only at hSw)
      go_simp
      try with_reducible rfl
    case re0 =>
    simp only [Act.put, List.setIfInBounds_toArray, List.set_cons_zero, List.set_cons_succ]
    refine wpAnyH_take (i := 1) (oi := { dst := some 31, op := Go.Op.nilCheck (Go.Operand.tmp 30), type := 0, pos := "l05_session.go:68", after := #[{ on := 0, ground := Go.Ground.data }], guard := none }) (v := ?ve1) rfl (by kernel_rfl) (by kernel_rfl) (by kernel_rfl) (fun _ _ _ h => h) (Or.inl ⟨by rfl, ?he1⟩) hHeld ?re1
    case he1 =>
      intro wS hSw
      (try dsimp only at hSw)
      go_simp
      try with_reducible rfl
    case re1 =>
    simp only [Act.put, List.setIfInBounds_toArray, List.set_cons_zero, List.set_cons_succ]
    refine wpAnyH_take (i := 2) (oi := { dst := some 32, op := Go.Op.fieldAddr 71 (Go.Operand.tmp 31) 1, type := 0, pos := "l05_session.go:68", after := #[{ on := 1, ground := Go.Ground.data }], guard := none }) (v := ?ve2) rfl (by kernel_rfl) (by kernel_rfl) (by kernel_rfl) (fun _ _ _ h => h) (Or.inl ⟨by rfl, ?he2⟩) hHeld ?re2
    case he2 =>
      intro wS hSw
      (try dsimp only at hSw)
      go_simp
      try with_reducible rfl
    case re2 =>
    simp only [Act.put, List.setIfInBounds_toArray, List.set_cons_zero, List.set_cons_succ]
    refine wpAnyH_take (i := 3) (oi := { dst := some 33, op := Go.Op.load 68 (Go.Operand.tmp 32), type := 68, pos := "l05_session.go:68", after := #[{ on := 2, ground := Go.Ground.data }], guard := none }) (v := ?ve3) rfl (by kernel_rfl) (by kernel_rfl) (by kernel_rfl) (fun _ _ _ h => h) (Or.inl ⟨by rfl, ?he3⟩) hHeld ?re3
    case he3 =>
      intro wS hSw
      have z1 : wS.cell? ⟨p, 1, none⟩ = some (.map (some mb)) := (hT9.box.ext hSw (by have := hT9.lt; have := hrp; omega)).at 1 _ rfl
      have k0 : wS.cell? ⟨r, 0, none⟩ = some (.int .i64 x.session) := (hR9.ext hSw (by have := hT9.lt; have := hrp; omega)).at 0 _ rfl
      have k1 : wS.cell? ⟨r, 1, none⟩ = some (.int .i64 x.seq) := (hR9.ext hSw (by have := hT9.lt; have := hrp; omega)).at 1 _ rfl
      have z0 : wS.cell? ⟨p, 0, none⟩ = some (.slice (some ⟨g5, 0, none⟩) (ws.length + 1) cp5) := (hT9.box.ext hSw (by have := hT9.lt; omega)).at 0 _ rfl
      clear hSw
      (try dsimp only at hSw)
      go_simp
      try with_reducible rfl
    case re3 =>
    simp only [Act.put, List.setIfInBounds_toArray, List.set_cons_zero, List.set_cons_succ]
    refine wpAnyH_take (i := 4) (oi := { dst := some 34, op := Go.Op.load 73 (Go.Operand.tmp 4), type := 73, pos := "l05_session.go:68", after := #[], guard := none }) (v := ?ve4) rfl (by kernel_rfl) (by kernel_rfl) (by kernel_rfl) (fun _ _ _ h => h) (Or.inl ⟨by rfl, ?he4⟩) hHeld ?re4
    case he4 =>
      intro wS hSw
      have z1 : wS.cell? ⟨p, 1, none⟩ = some (.map (some mb)) := (hT9.box.ext hSw (by have := hT9.lt; have := hrp; omega)).at 1 _ rfl
      have k0 : wS.cell? ⟨r, 0, none⟩ = some (.int .i64 x.session) := (hR9.ext hSw (by have := hT9.lt; have := hrp; omega)).at 0 _ rfl
      have k1 : wS.cell? ⟨r, 1, none⟩ = some (.int .i64 x.seq) := (hR9.ext hSw (by have := hT9.lt; have := hrp; omega)).at 1 _ rfl
      have z0 : wS.cell? ⟨p, 0, none⟩ = some (.slice (some ⟨g5, 0, none⟩) (ws.length + 1) cp5) := (hT9.box.ext hSw (by have := hT9.lt; omega)).at 0 _ rfl
      clear hSw
      (try dsimp only at hSw)
      go_simp
      try with_reducible rfl
    case re4 =>
    simp only [Act.put, List.setIfInBounds_toArray, List.set_cons_zero, List.set_cons_succ]
    refine wpAnyH_take (i := 5) (oi := { dst := some 35, op := Go.Op.move (Go.Operand.tmp 0), type := 60, pos := "l05_session.go:68", after := #[], guard := none }) (v := ?ve5) rfl (by kernel_rfl) (by kernel_rfl) (by kernel_rfl) (fun _ _ _ h => h) (Or.inl ⟨by rfl, ?he5⟩) hHeld ?re5
    case he5 =>
      intro wS hSw
      (try dsimp only at hSw)
      go_simp
      try with_reducible rfl
    case re5 =>
    simp only [Act.put, List.setIfInBounds_toArray, List.set_cons_zero, List.set_cons_succ]
    refine wpAnyH_take (i := 6) (oi := { dst := some 36, op := Go.Op.nilCheck (Go.Operand.tmp 35), type := 0, pos := "l05_session.go:68", after := #[{ on := 5, ground := Go.Ground.data }], guard := none }) (v := ?ve6) rfl (by kernel_rfl) (by kernel_rfl) (by kernel_rfl) (fun _ _ _ h => h) (Or.inl ⟨by rfl, ?he6⟩) hHeld ?re6
    case he6 =>
      intro wS hSw
      (try dsimp only at hSw)
      go_simp
      try with_reducible rfl
    case re6 =>
    simp only [Act.put, List.setIfInBounds_toArray, List.set_cons_zero, List.set_cons_succ]
    refine wpAnyH_take (i := 7) (oi := { dst := some 37, op := Go.Op.fieldAddr 71 (Go.Operand.tmp 36) 0, type := 0, pos := "l05_session.go:68", after := #[{ on := 6, ground := Go.Ground.data }], guard := none }) (v := ?ve7) rfl (by kernel_rfl) (by kernel_rfl) (by kernel_rfl) (fun _ _ _ h => h) (Or.inl ⟨by rfl, ?he7⟩) hHeld ?re7
    case he7 =>
      intro wS hSw
      (try dsimp only at hSw)
      go_simp
      try with_reducible rfl
    case re7 =>
    simp only [Act.put, List.setIfInBounds_toArray, List.set_cons_zero, List.set_cons_succ]
    refine wpAnyH_take (i := 8) (oi := { dst := some 38, op := Go.Op.load 24 (Go.Operand.tmp 37), type := 24, pos := "l05_session.go:68", after := #[{ on := 7, ground := Go.Ground.data }], guard := none }) (v := ?ve8) rfl (by kernel_rfl) (by kernel_rfl) (by kernel_rfl) (fun _ _ _ h => h) (Or.inl ⟨by rfl, ?he8⟩) hHeld ?re8
    case he8 =>
      intro wS hSw
      have z1 : wS.cell? ⟨p, 1, none⟩ = some (.map (some mb)) := (hT9.box.ext hSw (by have := hT9.lt; have := hrp; omega)).at 1 _ rfl
      have k0 : wS.cell? ⟨r, 0, none⟩ = some (.int .i64 x.session) := (hR9.ext hSw (by have := hT9.lt; have := hrp; omega)).at 0 _ rfl
      have k1 : wS.cell? ⟨r, 1, none⟩ = some (.int .i64 x.seq) := (hR9.ext hSw (by have := hT9.lt; have := hrp; omega)).at 1 _ rfl
      have z0 : wS.cell? ⟨p, 0, none⟩ = some (.slice (some ⟨g5, 0, none⟩) (ws.length + 1) cp5) := (hT9.box.ext hSw (by have := hT9.lt; omega)).at 0 _ rfl
      clear hSw
      (try dsimp only at hSw)
      go_simp
      try with_reducible rfl
    case re8 =>
    simp only [Act.put, List.setIfInBounds_toArray, List.set_cons_zero, List.set_cons_succ]
    refine wpAnyH_take (i := 9) (oi := { dst := some 39, op := Go.Op.call { callee := Go.Callee.builtin Go.Builtin.len, args := #[Go.Operand.tmp 38], argTypes := #[24] }, type := 3, pos := "l05_session.go:68", after := #[{ on := 8, ground := Go.Ground.data }], guard := none }) (v := ?ve9) rfl (by kernel_rfl) (by kernel_rfl) (by kernel_rfl) (fun _ _ _ h => h) (Or.inl ⟨by rfl, ?he9⟩) hHeld ?re9
    case he9 =>
      intro wS hSw
      (try dsimp only at hSw)
      go_simp
      try with_reducible rfl
    case re9 =>
    simp only [Act.put, List.setIfInBounds_toArray, List.set_cons_zero, List.set_cons_succ]
    refine wpAnyH_ready (rs := [10]) (by kernel_rfl) (by simp) ?_
    refine AllReadyH.cons (o := { dst := none, op := Go.Op.mapUpdate 68 (Go.Operand.tmp 33) (Go.Operand.tmp 34) (Go.Operand.tmp 39), type := 0, pos := "l05_session.go:68", after := #[{ on := 3, ground := Go.Ground.data }, { on := 4, ground := Go.Ground.data }, { on := 9, ground := Go.Ground.data }, { on := 0, ground := Go.Ground.phase }, { on := 1, ground := Go.Ground.phase }, { on := 2, ground := Go.Ground.phase }, { on := 3, ground := Go.Ground.phase }, { on := 4, ground := Go.Ground.phase }, { on := 5, ground := Go.Ground.phase }, { on := 6, ground := Go.Ground.phase }, { on := 7, ground := Go.Ground.phase }, { on := 8, ground := Go.Ground.phase }, { on := 9, ground := Go.Ground.phase }], guard := none }) rfl (fun K hK => ?_) AllReadyH.nil
    obtain ⟨w12, hrun, hTk, hE12⟩ := hT10.seen.put (by omega) k3 k4 (m := ws.length + 1) (by omega) (wf_of_bd (by omega))
    simp only [tick] at hrun
    have hrun2 : (Instr.mapUpdate 68 (.map (some mb)) (.agg #[.int .i64 x.session, .int .i64 x.seq]) (.int .i64 ((ws.length : Int) + 1))).run Tryd.prog wE = .ok () w12 := by simpa using hrun
    clear hrun
    go_simp
    refine hK.out _ _ (hHeld.trans hE12) (fun hHeld => ?_)
    clear hK K
    try simp only [Act.put, List.setIfInBounds_toArray, List.set_cons_zero, List.set_cons_succ]
    refine wpAnyH_done (by kernel_rfl) ?_ _
    refine NoPanic.normal ?_
    have hT12 := (hT10.marked hE12 hTk)
    have hQ12 := hQ10.ext hE12 (by omega)
    have hB12 := hB10.trans (hE12.below (by have := hT10.lt; have := hT10.box.lt; omega) (by intro c hc e; omega))
    clear hHeld hT9 hQ9 hR9 hB9 hT10 hQ10 hB10 hE12 hTk
    go_wp2_with fail
    have hTG : Told0 w12.drew p mb _ (ws.length + 1) (ws ++ [x]) (lastI ws) _ (.slice (some ⟨g5, 0, none⟩) (ws.length + 1) cp5) (rows ++ [[.int .i64 x.kind, .int .i64 x.id, .slice a2 x.vec.length d2, .int .i64 x.session, .int .i64 x.seq]]) (bls ++ [bl]) := hT12.later (below_drawn (Below.refl _ _) 1)
    have hBG : Below mb w w12.drew := hB12.drew
    refine wp_region_noPanic ?_
    refine wp_region_held_drew (S := fun w' => Ext (fun c => c = p) w12 w') (by kernel_rfl) (Ext.refl _ _).drew3 (fun hHeld => ?_)
    generalize w12.drew = wG at hHeld hTG hBG ⊢
    refine wpAnyH_take (i := 0) (oi := { dst := some 40, op := Go.Op.move (Go.Operand.tmp 0), type := 60, pos := "l05_session.go:70", after := #[], guard := none }) (v := ?vf0) rfl (by kernel_rfl) (by kernel_rfl) (by kernel_rfl) (fun _ _ _ h => h) (Or.inl ⟨by rfl, ?hf0⟩) hHeld ?rf0
    case hf0 =>
      intro wS hSw
      (try dsimp only at hSw)
      go_simp
      try with_reducible rfl
    case rf0 =>
    simp only [Act.put, List.setIfInBounds_toArray, List.set_cons_zero, List.set_cons_succ]
    refine wpAnyH_take (i := 1) (oi := { dst := some 41, op := Go.Op.fieldAddr 27 (Go.Operand.tmp 3) 3, type := 0, pos := "l05_session.go:70", after := #[], guard := none }) (v := ?vf1) rfl (by kernel_rfl) (by kernel_rfl) (by kernel_rfl) (fun _ _ _ h => h) (Or.inl ⟨by rfl, ?hf1⟩) hHeld ?rf1
    case hf1 =>
      intro wS hSw
      (try dsimp only at hSw)
      go_simp
      try with_reducible rfl
    case rf1 =>
    simp only [Act.put, List.setIfInBounds_toArray, List.set_cons_zero, List.set_cons_succ]
    refine wpAnyH_take (i := 2) (oi := { dst := some 42, op := Go.Op.load 2 (Go.Operand.tmp 41), type := 2, pos := "l05_session.go:70", after := #[{ on := 1, ground := Go.Ground.data }], guard := none }) (v := ?vf2) rfl (by kernel_rfl) (by kernel_rfl) (by kernel_rfl) (fun _ _ _ h => h) (Or.inl ⟨by rfl, ?hf2⟩) hHeld ?rf2
    case hf2 =>
      intro wS hSw
      have y3 : wS.cell? ⟨w.heap.size, 3, none⟩ = some (.int .i64 x.session) := (hQ12.ext hSw (by omega)).at 3 _ rfl
      have y4 : wS.cell? ⟨w.heap.size, 4, none⟩ = some (.int .i64 x.seq) := (hQ12.ext hSw (by omega)).at 4 _ rfl
      clear hSw
      (try dsimp only at hSw)
      go_simp
      try with_reducible rfl
    case rf2 =>
    simp only [Act.put, List.setIfInBounds_toArray, List.set_cons_zero, List.set_cons_succ]
    refine wpAnyH_take (i := 3) (oi := { dst := some 43, op := Go.Op.move (Go.Operand.tmp 0), type := 60, pos := "l05_session.go:70", after := #[], guard := none }) (v := ?vf3) rfl (by kernel_rfl) (by kernel_rfl) (by kernel_rfl) (fun _ _ _ h => h) (Or.inl ⟨by rfl, ?hf3⟩) hHeld ?rf3
    case hf3 =>
      intro wS hSw
      (try dsimp only at hSw)
      go_simp
      try with_reducible rfl
    case rf3 =>
    simp only [Act.put, List.setIfInBounds_toArray, List.set_cons_zero, List.set_cons_succ]
    refine wpAnyH_take (i := 4) (oi := { dst := some 44, op := Go.Op.fieldAddr 27 (Go.Operand.tmp 3) 3, type := 0, pos := "l05_session.go:70", after := #[], guard := none }) (v := ?vf4) rfl (by kernel_rfl) (by kernel_rfl) (by kernel_rfl) (fun _ _ _ h => h) (Or.inl ⟨by rfl, ?hf4⟩) hHeld ?rf4
    case hf4 =>
      intro wS hSw
      (try dsimp only at hSw)
      go_simp
      try with_reducible rfl
    case rf4 =>
    simp only [Act.put, List.setIfInBounds_toArray, List.set_cons_zero, List.set_cons_succ]
    refine wpAnyH_take (i := 5) (oi := { dst := some 45, op := Go.Op.load 2 (Go.Operand.tmp 44), type := 2, pos := "l05_session.go:70", after := #[{ on := 4, ground := Go.Ground.data }], guard := none }) (v := ?vf5) rfl (by kernel_rfl) (by kernel_rfl) (by kernel_rfl) (fun _ _ _ h => h) (Or.inl ⟨by rfl, ?hf5⟩) hHeld ?rf5
    case hf5 =>
      intro wS hSw
      have y3 : wS.cell? ⟨w.heap.size, 3, none⟩ = some (.int .i64 x.session) := (hQ12.ext hSw (by omega)).at 3 _ rfl
      have y4 : wS.cell? ⟨w.heap.size, 4, none⟩ = some (.int .i64 x.seq) := (hQ12.ext hSw (by omega)).at 4 _ rfl
      clear hSw
      (try dsimp only at hSw)
      go_simp
      try with_reducible rfl
    case rf5 =>
    simp only [Act.put, List.setIfInBounds_toArray, List.set_cons_zero, List.set_cons_succ]
    refine wpAnyH_take (i := 6) (oi := { dst := some 46, op := Go.Op.nilCheck (Go.Operand.tmp 43), type := 0, pos := "l05_session.go:70", after := #[{ on := 3, ground := Go.Ground.data }], guard := none }) (v := ?vf6) rfl (by kernel_rfl) (by kernel_rfl) (by kernel_rfl) (fun _ _ _ h => h) (Or.inl ⟨by rfl, ?hf6⟩) hHeld ?rf6
    case hf6 =>
      intro wS hSw
      (try dsimp only at hSw)
      go_simp
      try with_reducible rfl
    case rf6 =>
    simp only [Act.put, List.setIfInBounds_toArray, List.set_cons_zero, List.set_cons_succ]
    refine wpAnyH_take (i := 7) (oi := { dst := some 47, op := Go.Op.fieldAddr 71 (Go.Operand.tmp 46) 2, type := 0, pos := "l05_session.go:70", after := #[{ on := 6, ground := Go.Ground.data }], guard := none }) (v := ?vf7) rfl (by kernel_rfl) (by kernel_rfl) (by kernel_rfl) (fun _ _ _ h => h) (Or.inl ⟨by rfl, ?hf7⟩) hHeld ?rf7
    case hf7 =>
      intro wS hSw
      (try dsimp only at hSw)
      go_simp
      try with_reducible rfl
    case rf7 =>
    simp only [Act.put, List.setIfInBounds_toArray, List.set_cons_zero, List.set_cons_succ]
    refine wpAnyH_take (i := 8) (oi := { dst := some 48, op := Go.Op.indexAddr 69 (Go.Operand.tmp 47) (Go.Operand.tmp 45), type := 0, pos := "l05_session.go:70", after := #[{ on := 7, ground := Go.Ground.data }, { on := 5, ground := Go.Ground.data }], guard := none }) (v := ?vf8) rfl (by kernel_rfl) (by kernel_rfl) (by kernel_rfl) (fun _ _ _ h => h) (Or.inl ⟨by rfl, ?hf8⟩) hHeld ?rf8
    case hf8 =>
      intro wS hSw
      (try dsimp only at hSw)
      go_simp
      try with_reducible rfl
    case rf8 =>
    simp only [Act.put, List.setIfInBounds_toArray, List.set_cons_zero, List.set_cons_succ]
    refine wpAnyH_take (i := 10) (oi := { dst := some 50, op := Go.Op.fieldAddr 27 (Go.Operand.tmp 3) 4, type := 0, pos := "l05_session.go:70", after := #[], guard := none }) (v := ?vf10) rfl (by kernel_rfl) (by kernel_rfl) (by kernel_rfl) (fun _ _ _ h => h) (Or.inl ⟨by rfl, ?hf10⟩) hHeld ?rf10
    case hf10 =>
      intro wS hSw
      (try dsimp only at hSw)
      go_simp
      try with_reducible rfl
    case rf10 =>
    simp only [Act.put, List.setIfInBounds_toArray, List.set_cons_zero, List.set_cons_succ]
    refine wpAnyH_take (i := 11) (oi := { dst := some 51, op := Go.Op.load 2 (Go.Operand.tmp 50), type := 2, pos := "l05_session.go:70", after := #[{ on := 10, ground := Go.Ground.data }], guard := none }) (v := ?vf11) rfl (by kernel_rfl) (by kernel_rfl) (by kernel_rfl) (fun _ _ _ h => h) (Or.inl ⟨by rfl, ?hf11⟩) hHeld ?rf11
    case hf11 =>
      intro wS hSw
      have y3 : wS.cell? ⟨w.heap.size, 3, none⟩ = some (.int .i64 x.session) := (hQ12.ext hSw (by omega)).at 3 _ rfl
      have y4 : wS.cell? ⟨w.heap.size, 4, none⟩ = some (.int .i64 x.seq) := (hQ12.ext hSw (by omega)).at 4 _ rfl
      clear hSw
      (try dsimp only at hSw)
      go_simp
      try with_reducible rfl
    case rf11 =>
    simp only [Act.put, List.setIfInBounds_toArray, List.set_cons_zero, List.set_cons_succ]
    refine wpAnyH_take (i := 13) (oi := { dst := some 53, op := Go.Op.nilCheck (Go.Operand.tmp 40), type := 0, pos := "l05_session.go:70", after := #[{ on := 0, ground := Go.Ground.data }], guard := none }) (v := ?vf13) rfl (by kernel_rfl) (by kernel_rfl) (by kernel_rfl) (fun _ _ _ h => h) (Or.inl ⟨by rfl, ?hf13⟩) hHeld ?rf13
    case hf13 =>
      intro wS hSw
      (try dsimp only at hSw)
      go_simp
      try with_reducible rfl
    case rf13 =>
    simp only [Act.put, List.setIfInBounds_toArray, List.set_cons_zero, List.set_cons_succ]
    refine wpAnyH_take (i := 14) (oi := { dst := some 54, op := Go.Op.fieldAddr 71 (Go.Operand.tmp 53) 2, type := 0, pos := "l05_session.go:70", after := #[{ on := 13, ground := Go.Ground.data }], guard := none }) (v := ?vf14) rfl (by kernel_rfl) (by kernel_rfl) (by kernel_rfl) (fun _ _ _ h => h) (Or.inl ⟨by rfl, ?hf14⟩) hHeld ?rf14
    case hf14 =>
      intro wS hSw
      (try dsimp only at hSw)
      go_simp
      try with_reducible rfl
    case rf14 =>
    simp only [Act.put, List.setIfInBounds_toArray, List.set_cons_zero, List.set_cons_succ]
    refine wpAnyH_ready (rs := [9]) (by kernel_rfl) (by simp) ?_
    refine AllReadyH.cons (o := { dst := some 49, op := Go.Op.load 2 (Go.Operand.tmp 48), type := 2, pos := "l05_session.go:70", after := #[{ on := 8, ground := Go.Ground.data }], guard := none }) rfl (fun K hK => ?_) AllReadyH.nil
    have zl : wG.cell? ⟨p, 2 + x.session.toNat, none⟩ = some (.int .i64 (lastI ws x.session)) := by
      have := hTG.box.at _ _ (tcells_at (.slice (some ⟨g5, 0, none⟩) (ws.length + 1) cp5) mb (lastI ws) x.session.toNat hs9)
      rwa [hsi] at this
    go_simp
    refine hK.out _ _ hHeld (fun hHeld => ?_)
    clear hK K
    try simp only [Act.put, List.setIfInBounds_toArray, List.set_cons_zero, List.set_cons_succ]
    refine wpAnyH_take (i := 12) (oi := { dst := some 52, op := Go.Op.call { callee := Go.Callee.builtin Go.Builtin.max, args := #[Go.Operand.tmp 49, Go.Operand.tmp 51], argTypes := #[2, 2] }, type := 2, pos := "l05_session.go:70", after := #[{ on := 9, ground := Go.Ground.data }, { on := 11, ground := Go.Ground.data }], guard := none }) (v := ?vf12) rfl (by kernel_rfl) (by kernel_rfl) (by kernel_rfl) (fun _ _ _ h => h) (Or.inl ⟨by rfl, ?hf12⟩) hHeld ?rf12
    case hf12 =>
      intro wS hSw
      (try dsimp only at hSw)
      go_simp
      try with_reducible rfl
    case rf12 =>
    simp only [Act.put, List.setIfInBounds_toArray, List.set_cons_zero, List.set_cons_succ]
    refine wpAnyH_take (i := 15) (oi := { dst := some 55, op := Go.Op.indexAddr 69 (Go.Operand.tmp 54) (Go.Operand.tmp 42), type := 0, pos := "l05_session.go:70", after := #[{ on := 14, ground := Go.Ground.data }, { on := 2, ground := Go.Ground.data }, { on := 0, ground := Go.Ground.phase }, { on := 1, ground := Go.Ground.phase }, { on := 2, ground := Go.Ground.phase }, { on := 3, ground := Go.Ground.phase }, { on := 4, ground := Go.Ground.phase }, { on := 5, ground := Go.Ground.phase }, { on := 6, ground := Go.Ground.phase }, { on := 7, ground := Go.Ground.phase }, { on := 8, ground := Go.Ground.phase }, { on := 9, ground := Go.Ground.phase }, { on := 10, ground := Go.Ground.phase }, { on := 11, ground := Go.Ground.phase }, { on := 12, ground := Go.Ground.phase }], guard := none }) (v := ?vf15) rfl (by kernel_rfl) (by kernel_rfl) (by kernel_rfl) (fun _ _ _ h => h) (Or.inl ⟨by rfl, ?hf15⟩) hHeld ?rf15
    case hf15 =>
      intro wS hSw
      (try dsimp only at hSw)
      go_simp
      try with_reducible rfl
    case rf15 =>
    simp only [Act.put, List.setIfInBounds_toArray, List.set_cons_zero, List.set_cons_succ]
    refine wpAnyH_ready (rs := [16]) (by kernel_rfl) (by simp) ?_
    refine AllReadyH.cons (o := { dst := none, op := Go.Op.store 2 (Go.Operand.tmp 55) (Go.Operand.tmp 52), type := 0, pos := "l05_session.go:70", after := #[{ on := 15, ground := Go.Ground.data }, { on := 12, ground := Go.Ground.data }, { on := 0, ground := Go.Ground.phase }, { on := 1, ground := Go.Ground.phase }, { on := 2, ground := Go.Ground.phase }, { on := 3, ground := Go.Ground.phase }, { on := 4, ground := Go.Ground.phase }, { on := 5, ground := Go.Ground.phase }, { on := 6, ground := Go.Ground.phase }, { on := 7, ground := Go.Ground.phase }, { on := 8, ground := Go.Ground.phase }, { on := 9, ground := Go.Ground.phase }, { on := 10, ground := Go.Ground.phase }, { on := 11, ground := Go.Ground.phase }, { on := 12, ground := Go.Ground.phase }], guard := none }) rfl (fun K hK => ?_) AllReadyH.nil
    have zl : wG.cell? ⟨p, 2 + x.session.toNat, none⟩ = some (.int .i64 (lastI ws x.session)) := by
      have := hTG.box.at _ _ (tcells_at (.slice (some ⟨g5, 0, none⟩) (ws.length + 1) cp5) mb (lastI ws) x.session.toNat hs9)
      rwa [hsi] at this
    have f6 := hTG.box.soft (2 + x.session.toNat)
    have l6 := hTG.box.lt
    go_simp
    refine hK.out _ _ (hHeld.setCell ⟨p, 2 + x.session.toNat, none⟩ _ rfl) (fun hHeld => ?_)
    clear hK K
    try simp only [Act.put, List.setIfInBounds_toArray, List.set_cons_zero, List.set_cons_succ]
    refine wpAnyH_done (by kernel_rfl) ?_ _
    refine NoPanic.normal ?_
    have hTZ := ((hTG.lasted x.session.toNat hs9 ((if lastI ws x.session < x.seq then x.seq else lastI ws x.session))).same (Nat.le_of_eq (unhide hlen).symm) (unhide HLAST) (unhide HSEEN)).top
    have hBZ : Below mb w (wG.setCell ⟨p, 2 + x.session.toNat, none⟩ (.int .i64 ((if lastI ws x.session < x.seq then x.seq else lastI ws x.session)))) := hBG.setCell (by simp; omega) _
    clear hHeld hTG hBG
    generalize wG.setCell ⟨p, 2 + x.session.toNat, none⟩ (.int .i64 (if lastI ws x.session < x.seq then x.seq else lastI ws x.session)) = wZ at hTZ hBZ ⊢
    go_wp2_with fail
    all_goals
      refine bodyPost_end (v := .tuple #[]) (by simp [results, Tryd.results35, go_sem]) rfl ?_
      exact ⟨rfl, ⟨_, _, _, hTZ⟩, hBZ⟩
  · obtain rfl : bs = true := by rw [unhide HBS]; simpa using hsn
    have hseen : ∀ s q : Int, seenI ws s q = seenI (ws ++ [x]) s q := by
      intro s q
      rw [seenI_snoc]
      split
      · rename_i e
        rw [if_neg]
        · exact e
        · rintro ⟨rfl, rfl⟩
          exact hsn e
      · rfl
    have HSEEN := hide hseen
    clear HBS hseen hsn
    go_wp2_with fail
    have hTG : Told0 w9.drew p mb _ ws.length (ws ++ [x]) (lastI ws) (fun s q => seenI ws s q) (.slice (some ⟨g5, 0, none⟩) (ws.length + 1) cp5) (rows ++ [[.int .i64 x.kind, .int .i64 x.id, .slice a2 x.vec.length d2, .int .i64 x.session, .int .i64 x.seq]]) (bls ++ [bl]) := hT9.later (below_drawn (Below.refl _ _) 1)
    have hBG : Below mb w w9.drew := hB9.drew
    refine wp_region_noPanic ?_
    refine wp_region_held_drew (S := fun w' => Ext (fun c => c = p) w9 w') (by kernel_rfl) (Ext.refl _ _).drew3 (fun hHeld => ?_)
    generalize w9.drew = wG at hHeld hTG hBG ⊢
    refine wpAnyH_take (i := 0) (oi := { dst := some 40, op := Go.Op.move (Go.Operand.tmp 0), type := 60, pos := "l05_session.go:70", after := #[], guard := none }) (v := ?vg0) rfl (by kernel_rfl) (by kernel_rfl) (by kernel_rfl) (fun _ _ _ h => h) (Or.inl ⟨by rfl, ?hg0⟩) hHeld ?rg0
    case hg0 =>
      intro wS hSw
      (try dsimp only at hSw)
      go_simp
      try with_reducible rfl
    case rg0 =>
    simp only [Act.put, List.setIfInBounds_toArray, List.set_cons_zero, List.set_cons_succ]
    refine wpAnyH_take (i := 1) (oi := { dst := some 41, op := Go.Op.fieldAddr 27 (Go.Operand.tmp 3) 3, type := 0, pos := "l05_session.go:70", after := #[], guard := none }) (v := ?vg1) rfl (by kernel_rfl) (by kernel_rfl) (by kernel_rfl) (fun _ _ _ h => h) (Or.inl ⟨by rfl, ?hg1⟩) hHeld ?rg1
    case hg1 =>
      intro wS hSw
      (try dsimp only at hSw)
      go_simp
      try with_reducible rfl
    case rg1 =>
    simp only [Act.put, List.setIfInBounds_toArray, List.set_cons_zero, List.set_cons_succ]
    refine wpAnyH_take (i := 2) (oi := { dst := some 42, op := Go.Op.load 2 (Go.Operand.tmp 41), type := 2, pos := "l05_session.go:70", after := #[{ on := 1, ground := Go.Ground.data }], guard := none }) (v := ?vg2) rfl (by kernel_rfl) (by kernel_rfl) (by kernel_rfl) (fun _ _ _ h => h) (Or.inl ⟨by rfl, ?hg2⟩) hHeld ?rg2
    case hg2 =>
      intro wS hSw
      have y3 : wS.cell? ⟨w.heap.size, 3, none⟩ = some (.int .i64 x.session) := (hQ9.ext hSw (by omega)).at 3 _ rfl
      have y4 : wS.cell? ⟨w.heap.size, 4, none⟩ = some (.int .i64 x.seq) := (hQ9.ext hSw (by omega)).at 4 _ rfl
      clear hSw
      (try dsimp only at hSw)
      go_simp
      try with_reducible rfl
    case rg2 =>
    simp only [Act.put, List.setIfInBounds_toArray, List.set_cons_zero, List.set_cons_succ]
    refine wpAnyH_take (i := 3) (oi := { dst := some 43, op := Go.Op.move (Go.Operand.tmp 0), type := 60, pos := "l05_session.go:70", after := #[], guard := none }) (v := ?vg3) rfl (by kernel_rfl) (by kernel_rfl) (by kernel_rfl) (fun _ _ _ h => h) (Or.inl ⟨by rfl, ?hg3⟩) hHeld ?rg3
    case hg3 =>
      intro wS hSw
      (try dsimp only at hSw)
      go_simp
      try with_reducible rfl
    case rg3 =>
    simp only [Act.put, List.setIfInBounds_toArray, List.set_cons_zero, List.set_cons_succ]
    refine wpAnyH_take (i := 4) (oi := { dst := some 44, op := Go.Op.fieldAddr 27 (Go.Operand.tmp 3) 3, type := 0, pos := "l05_session.go:70", after := #[], guard := none }) (v := ?vg4) rfl (by kernel_rfl) (by kernel_rfl) (by kernel_rfl) (fun _ _ _ h => h) (Or.inl ⟨by rfl, ?hg4⟩) hHeld ?rg4
    case hg4 =>
      intro wS hSw
      (try dsimp only at hSw)
      go_simp
      try with_reducible rfl
    case rg4 =>
    simp only [Act.put, List.setIfInBounds_toArray, List.set_cons_zero, List.set_cons_succ]
    refine wpAnyH_take (i := 5) (oi := { dst := some 45, op := Go.Op.load 2 (Go.Operand.tmp 44), type := 2, pos := "l05_session.go:70", after := #[{ on := 4, ground := Go.Ground.data }], guard := none }) (v := ?vg5) rfl (by kernel_rfl) (by kernel_rfl) (by kernel_rfl) (fun _ _ _ h => h) (Or.inl ⟨by rfl, ?hg5⟩) hHeld ?rg5
    case hg5 =>
      intro wS hSw
      have y3 : wS.cell? ⟨w.heap.size, 3, none⟩ = some (.int .i64 x.session) := (hQ9.ext hSw (by omega)).at 3 _ rfl
      have y4 : wS.cell? ⟨w.heap.size, 4, none⟩ = some (.int .i64 x.seq) := (hQ9.ext hSw (by omega)).at 4 _ rfl
      clear hSw
      (try dsimp only at hSw)
      go_simp
      try with_reducible rfl
    case rg5 =>
    simp only [Act.put, List.setIfInBounds_toArray, List.set_cons_zero, List.set_cons_succ]
    refine wpAnyH_take (i := 6) (oi := { dst := some 46, op := Go.Op.nilCheck (Go.Operand.tmp 43), type := 0, pos := "l05_session.go:70", after := #[{ on := 3, ground := Go.Ground.data }], guard := none }) (v := ?vg6) rfl (by kernel_rfl) (by kernel_rfl) (by kernel_rfl) (fun _ _ _ h => h) (Or.inl ⟨by rfl, ?hg6⟩) hHeld ?rg6
    case hg6 =>
      intro wS hSw
      (try dsimp only at hSw)
      go_simp
      try with_reducible rfl
    case rg6 =>
    simp only [Act.put, List.setIfInBounds_toArray, List.set_cons_zero, List.set_cons_succ]
    refine wpAnyH_take (i := 7) (oi := { dst := some 47, op := Go.Op.fieldAddr 71 (Go.Operand.tmp 46) 2, type := 0, pos := "l05_session.go:70", after := #[{ on := 6, ground := Go.Ground.data }], guard := none }) (v := ?vg7) rfl (by kernel_rfl) (by kernel_rfl) (by kernel_rfl) (fun _ _ _ h => h) (Or.inl ⟨by rfl, ?hg7⟩) hHeld ?rg7
    case hg7 =>
      intro wS hSw
      (try dsimp only at hSw)
      go_simp
      try with_reducible rfl
    case rg7 =>
    simp only [Act.put, List.setIfInBounds_toArray, List.set_cons_zero, List.set_cons_succ]
    refine wpAnyH_take (i := 8) (oi := { dst := some 48, op := Go.Op.indexAddr 69 (Go.Operand.tmp 47) (Go.Operand.tmp 45), type := 0, pos := "l05_session.go:70", after := #[{ on := 7, ground := Go.Ground.data }, { on := 5, ground := Go.Ground.data }], guard := none }) (v := ?vg8) rfl (by kernel_rfl) (by kernel_rfl) (by kernel_rfl) (fun _ _ _ h => h) (Or.inl ⟨by rfl, ?hg8⟩) hHeld ?rg8
    case hg8 =>
      intro wS hSw
      (try dsimp only at hSw)
      go_simp
      try with_reducible rfl
    case rg8 =>
    simp only [Act.put, List.setIfInBounds_toArray, List.set_cons_zero, List.set_cons_succ]
    refine wpAnyH_take (i := 10) (oi := { dst := some 50, op := Go.Op.fieldAddr 27 (Go.Operand.tmp 3) 4, type := 0, pos := "l05_session.go:70", after := #[], guard := none }) (v := ?vg10) rfl (by kernel_rfl) (by kernel_rfl) (by kernel_rfl) (fun _ _ _ h => h) (Or.inl ⟨by rfl, ?hg10⟩) hHeld ?rg10
    case hg10 =>
      intro wS hSw
      (try dsimp only at hSw)
      go_simp
      try with_reducible rfl
    case rg10 =>
    simp only [Act.put, List.setIfInBounds_toArray, List.set_cons_zero, List.set_cons_succ]
    refine wpAnyH_take (i := 11) (oi := { dst := some 51, op := Go.Op.load 2 (Go.Operand.tmp 50), type := 2, pos := "l05_session.go:70", after := #[{ on := 10, ground := Go.Ground.data }], guard := none }) (v := ?vg11) rfl (by kernel_rfl) (by kernel_rfl) (by kernel_rfl) (fun _ _ _ h => h) (Or.inl ⟨by rfl, ?hg11⟩) hHeld ?rg11
    case hg11 =>
      intro wS hSw
      have y3 : wS.cell? ⟨w.heap.size, 3, none⟩ = some (.int .i64 x.session) := (hQ9.ext hSw (by omega)).at 3 _ rfl
      have y4 : wS.cell? ⟨w.heap.size, 4, none⟩ = some (.int .i64 x.seq) := (hQ9.ext hSw (by omega)).at 4 _ rfl
      clear hSw
      (try dsimp only at hSw)
      go_simp
      try with_reducible rfl
    case rg11 =>
    simp only [Act.put, List.setIfInBounds_toArray, List.set_cons_zero, List.set_cons_succ]
    refine wpAnyH_take (i := 13) (oi := { dst := some 53, op := Go.Op.nilCheck (Go.Operand.tmp 40), type := 0, pos := "l05_session.go:70", after := #[{ on := 0, ground := Go.Ground.data }], guard := none }) (v := ?vg13) rfl (by kernel_rfl) (by kernel_rfl) (by kernel_rfl) (fun _ _ _ h => h) (Or.inl ⟨by rfl, ?hg13⟩) hHeld ?rg13
    case hg13 =>
      intro wS hSw
      (try dsimp only at hSw)
      go_simp
      try with_reducible rfl
    case rg13 =>
    simp only [Act.put, List.setIfInBounds_toArray, List.set_cons_zero, List.set_cons_succ]
    refine wpAnyH_take (i := 14) (oi := { dst := some 54, op := Go.Op.fieldAddr 71 (Go.Operand.tmp 53) 2, type := 0, pos := "l05_session.go:70", after := #[{ on := 13, ground := Go.Ground.data }], guard := none }) (v := ?vg14) rfl (by kernel_rfl) (by kernel_rfl) (by kernel_rfl) (fun _ _ _ h => h) (Or.inl ⟨by rfl, ?hg14⟩) hHeld ?rg14
    case hg14 =>
      intro wS hSw
      (try dsimp only at hSw)
      go_simp
      try with_reducible rfl
    case rg14 =>
    simp only [Act.put, List.setIfInBounds_toArray, List.set_cons_zero, List.set_cons_succ]
    refine wpAnyH_ready (rs := [9]) (by kernel_rfl) (by simp) ?_
    refine AllReadyH.cons (o := { dst := some 49, op := Go.Op.load 2 (Go.Operand.tmp 48), type := 2, pos := "l05_session.go:70", after := #[{ on := 8, ground := Go.Ground.data }], guard := none }) rfl (fun K hK => ?_) AllReadyH.nil
    have zl : wG.cell? ⟨p, 2 + x.session.toNat, none⟩ = some (.int .i64 (lastI ws x.session)) := by
      have := hTG.box.at _ _ (tcells_at (.slice (some ⟨g5, 0, none⟩) (ws.length + 1) cp5) mb (lastI ws) x.session.toNat hs9)
      rwa [hsi] at this
    go_simp
    refine hK.out _ _ hHeld (fun hHeld => ?_)
    clear hK K
    try simp only [Act.put, List.setIfInBounds_toArray, List.set_cons_zero, List.set_cons_succ]
    refine wpAnyH_take (i := 12) (oi := { dst := some 52, op := Go.Op.call { callee := Go.Callee.builtin Go.Builtin.max, args := #[Go.Operand.tmp 49, Go.Operand.tmp 51], argTypes := #[2, 2] }, type := 2, pos := "l05_session.go:70", after := #[{ on := 9, ground := Go.Ground.data }, { on := 11, ground := Go.Ground.data }], guard := none }) (v := ?vg12) rfl (by kernel_rfl) (by kernel_rfl) (by kernel_rfl) (fun _ _ _ h => h) (Or.inl ⟨by rfl, ?hg12⟩) hHeld ?rg12
    case hg12 =>
      intro wS hSw
      (try dsimp only at hSw)
      go_simp
      try with_reducible rfl
    case rg12 =>
    simp only [Act.put, List.setIfInBounds_toArray, List.set_cons_zero, List.set_cons_succ]
    refine wpAnyH_take (i := 15) (oi := { dst := some 55, op := Go.Op.indexAddr 69 (Go.Operand.tmp 54) (Go.Operand.tmp 42), type := 0, pos := "l05_session.go:70", after := #[{ on := 14, ground := Go.Ground.data }, { on := 2, ground := Go.Ground.data }, { on := 0, ground := Go.Ground.phase }, { on := 1, ground := Go.Ground.phase }, { on := 2, ground := Go.Ground.phase }, { on := 3, ground := Go.Ground.phase }, { on := 4, ground := Go.Ground.phase }, { on := 5, ground := Go.Ground.phase }, { on := 6, ground := Go.Ground.phase }, { on := 7, ground := Go.Ground.phase }, { on := 8, ground := Go.Ground.phase }, { on := 9, ground := Go.Ground.phase }, { on := 10, ground := Go.Ground.phase }, { on := 11, ground := Go.Ground.phase }, { on := 12, ground := Go.Ground.phase }], guard := none }) (v := ?vg15) rfl (by kernel_rfl) (by kernel_rfl) (by kernel_rfl) (fun _ _ _ h => h) (Or.inl ⟨by rfl, ?hg15⟩) hHeld ?rg15
    case hg15 =>
      intro wS hSw
      (try dsimp only at hSw)
      go_simp
      try with_reducible rfl
    case rg15 =>
    simp only [Act.put, List.setIfInBounds_toArray, List.set_cons_zero, List.set_cons_succ]
    refine wpAnyH_ready (rs := [16]) (by kernel_rfl) (by simp) ?_
    refine AllReadyH.cons (o := { dst := none, op := Go.Op.store 2 (Go.Operand.tmp 55) (Go.Operand.tmp 52), type := 0, pos := "l05_session.go:70", after := #[{ on := 15, ground := Go.Ground.data }, { on := 12, ground := Go.Ground.data }, { on := 0, ground := Go.Ground.phase }, { on := 1, ground := Go.Ground.phase }, { on := 2, ground := Go.Ground.phase }, { on := 3, ground := Go.Ground.phase }, { on := 4, ground := Go.Ground.phase }, { on := 5, ground := Go.Ground.phase }, { on := 6, ground := Go.Ground.phase }, { on := 7, ground := Go.Ground.phase }, { on := 8, ground := Go.Ground.phase }, { on := 9, ground := Go.Ground.phase }, { on := 10, ground := Go.Ground.phase }, { on := 11, ground := Go.Ground.phase }, { on := 12, ground := Go.Ground.phase }], guard := none }) rfl (fun K hK => ?_) AllReadyH.nil
    have zl : wG.cell? ⟨p, 2 + x.session.toNat, none⟩ = some (.int .i64 (lastI ws x.session)) := by
      have := hTG.box.at _ _ (tcells_at (.slice (some ⟨g5, 0, none⟩) (ws.length + 1) cp5) mb (lastI ws) x.session.toNat hs9)
      rwa [hsi] at this
    have f6 := hTG.box.soft (2 + x.session.toNat)
    have l6 := hTG.box.lt
    go_simp
    refine hK.out _ _ (hHeld.setCell ⟨p, 2 + x.session.toNat, none⟩ _ rfl) (fun hHeld => ?_)
    clear hK K
    try simp only [Act.put, List.setIfInBounds_toArray, List.set_cons_zero, List.set_cons_succ]
    refine wpAnyH_done (by kernel_rfl) ?_ _
    refine NoPanic.normal ?_
    have hTZ := ((hTG.lasted x.session.toNat hs9 ((if lastI ws x.session < x.seq then x.seq else lastI ws x.session))).same (n' := (ws ++ [x]).length) (by rw [unhide hlen]; omega) (unhide HLAST) (unhide HSEEN)).top
    have hBZ : Below mb w (wG.setCell ⟨p, 2 + x.session.toNat, none⟩ (.int .i64 ((if lastI ws x.session < x.seq then x.seq else lastI ws x.session)))) := hBG.setCell (by simp; omega) _
    clear hHeld hTG hBG
    generalize wG.setCell ⟨p, 2 + x.session.toNat, none⟩ (.int .i64 (if lastI ws x.session < x.seq then x.seq else lastI ws x.session)) = wZ at hTZ hBZ ⊢
    go_wp2_with fail
    all_goals
      refine bodyPost_end (v := .tuple #[]) (by simp [results, Tryd.results35, go_sem]) rfl ?_
      exact ⟨rfl, ⟨_, _, _, hTZ⟩, hBZ⟩

end Go.Proofs.YtkodenmpadehjaaDoor
