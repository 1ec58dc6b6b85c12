/-
  Texts of this proof in one: SpecLast5, SpecSess, SpecOnce, NodeKit, AppWrite, SpecWCopy, NodeEqs, RowIn, SpecNodeF, SpecNCopy, SpecNCopyG, SpecWC.
  Their conditions stand in their theorems.
-/
import Derived.Test.YtoanimpijfijgaaGreatAk05
import Derived.Test.YtoanimpijfijgaaGreatAk01
import Derived.Test.YtoanimpijfijgaaGreatAk00
import Derived.Deep.RegionHeld3
import Derived.Test.YtoanimpijfijgaaGreatChecked
import Derived.Test.YtoanimpijfijgaaGreatAk04
import Derived.Deep.CutRange
set_option maxRecDepth 100000
set_option maxHeartbeats 4000000
namespace Go.Proofs.YtoanimpijfijgaaGreat
open Go.RowKit
theorem l1MaxC (x y : Int) (w : World) : Calls Tryz.prog 323 #[.int .i64 x, .int .i64 y] w fun e w' => e = .returned (.int .i64 (max x y)) ∧ w' = w := by
 by_cases h : y < x
 ·
  have d : decide (y < x) = true := by simpa using h
  have e : max x y = x := by omega
  rw [e]
  go_enter Tryz.func323, Tryz.ntmps323
  go_wp2
  go_ret
  exact ⟨rfl, rfl⟩
 have d : decide (y < x) = false := by simpa using h
 have e : max x y = y := by omega
 rw [e]
 go_enter Tryz.func323, Tryz.ntmps323
 go_wp2
 go_ret
 exact ⟨rfl, rfl⟩
theorem l5Last_pos (b off cap : Nat) (ws : List DWrite) (s : Int) (w : World) (h : (Lay.sl Lay.tWrite).Reads w [.slice (some ⟨b, off, none⟩) ws.length cap] ws) (hbl : b < w.heap.size) (hn : ws.length ≤ 10000000) :
  Calls Tryz.prog 310 #[.slice (some ⟨b, off, none⟩) ws.length cap, .int .i64 s] w fun e w' => e = .returned (.int .i64 (lastI ws s)) ∧ w' = w := by
 have H := yh h
 clear h
 go_enter Tryz.func310, Tryz.ntmps310
 go_wp2_with fail
 go_loop [5, 6] (fun m i => ∃ k : Nat, k ≤ ws.length ∧ i = .int .i64 k ∧ m = .int .i64 (lastI (ws.take k) s)) (fun _ i => ws.length - (intOf i).toNat)
 case atStart => exact ⟨0, Nat.zero_le _, rfl, rfl⟩
 case round =>
  obtain ⟨k, hk, rfl, rfl⟩ := hrel
  by_cases hlt : k < ws.length
  ·
   obtain ⟨row, hc, hr⟩ := Lay.row_at (uh H) hlt
   obtain ⟨a2, d2, rfl, R2⟩ := open_Write hr
   have c3 : w.cell? ⟨b, off + k * 5 + 3, none⟩ = some (.int .i64 (ws[k]).session) := hc 3 (by decide)
   have c4 : w.cell? ⟨b, off + k * 5 + 4, none⟩ = some (.int .i64 (ws[k]).seq) := hc 4 (by decide)
   have HT := yh (lastI_take ws k hlt s)
   clear hc hr R2
   generalize hx : ws[k] = x at *
   clear hx
   by_cases hs : x.session = s
   ·
    have ds : (x.session == s) = true := by simpa using hs
    have HL := yh (fun W => l1MaxC (lastI (ws.take k) s) x.seq W)
    have HT2 : Hid (lastI (ws.take (k + 1)) s = max (lastI (ws.take k) s) x.seq) := by
     have := uh HT
     rw [if_pos hs] at this
     exact this
    clear HT hs
    generalize hl : lastI (ws.take k) s = l at *
    clear hl
    go_wp2_with fail
    refine (uh HL _).mono ?_
    rintro e w2 ⟨rfl, rfl⟩
    go_wp2_with fail
    go_round
    case rel => exact ⟨k + 1, by omega, by go_num, by rw [uh HT2]⟩
    case measure => simp [intOf]; omega
   have ds : (x.session == s) = false := by simpa using hs
   have HT2 : Hid (lastI (ws.take (k + 1)) s = lastI (ws.take k) s) := by
    have := uh HT
    rw [if_neg hs] at this
    exact this
   clear HT hs
   go_wp2_with fail
   go_round
   case rel => exact ⟨k + 1, by omega, by go_num, by rw [uh HT2]⟩
   case measure => simp [intOf]; omega
  obtain rfl : k = ws.length := by omega
  rw [List.take_length]
  clear H
  go_wp2_with fail
  go_ret
  exact ⟨rfl, rfl⟩
theorem l5LastC (v : Value) (ws : List DWrite) (s : Int) (w : World) (h : (Lay.sl Lay.tWrite).Reads w [v] ws) (hn : ws.length ≤ 10000000) :
  Calls Tryz.prog 310 #[v, .int .i64 s] w fun e w' => e = .returned (.int .i64 (lastI ws s)) ∧ w' = w := by
 obtain ⟨ao, cap, rfl⟩ := open_sl h
 by_cases hp : 0 < ws.length
 ·
  obtain ⟨b, off, rfl, hbl⟩ := Lay.sl_addr h hp
  exact l5Last_pos b off cap ws s w h hbl hn
 obtain rfl : ws = [] := List.eq_nil_of_length_eq_zero (by omega)
 clear h hn hp
 go_enter Tryz.func310, Tryz.ntmps310
 go_wp2_with fail
 refine wp_loop_rounds 1 ?_
 rw [rounds_succ]
 go_wp2_with fail
 go_ret
 exact ⟨rfl, rfl⟩
theorem sl_take {α : Type} {A : Lay α} {w : World} {xs : List α} {b off cap : Nat} (h : (Lay.sl A).Reads w [.slice (some ⟨b, off, none⟩) xs.length cap] xs) (k : Nat) (hk : k ≤ xs.length) : (Lay.sl A).Reads w [.slice (some ⟨b, off, none⟩) k cap] (xs.take k) := by
 have hl : (xs.take k).length = k := by rw [List.length_take]; omega
 obtain ⟨bl, ao, cap', he, ⟨h1, h2⟩, hor⟩ := h
 simp only [List.cons.injEq, Value.slice.injEq, true_and, and_true] at he
 obtain ⟨rfl, rfl⟩ := he
 rcases hor with ⟨rfl, -⟩ | ⟨b', off', rows, bls, he, hb, -, n1, n2, hj⟩
 ·
  obtain rfl : k = 0 := by simpa using hk
  exact ⟨[], _, _, rfl, ⟨by simp, by simp⟩, Or.inl ⟨rfl, rfl⟩⟩
 simp only [Option.some.injEq, Addr.mk.injEq, and_true] at he
 obtain ⟨rfl, rfl⟩ := he
 refine ⟨b :: (bls.take k).flatten, _, _, by rw [hl], ⟨by omega, by omega⟩, Or.inr ⟨b, off, rows.take k, bls.take k, rfl, hb, rfl, by simp [n1], by simp [n2], fun j q1 q2 q3 => ?_⟩⟩
 simp only [List.getElem_take]
 rw [List.length_take] at q1 q2 q3
 exact hj j (by omega) (by omega) (by omega)
theorem l5Once_pos (b off cap : Nat) (ws : List DWrite) (w : World) (h : (Lay.sl Lay.tWrite).Reads w [.slice (some ⟨b, off, none⟩) ws.length cap] ws) (hn : ws.length ≤ 10000000) :
  Calls Tryz.prog 286 #[.slice (some ⟨b, off, none⟩) ws.length cap] w fun e w' => e = .returned (.bool (onceB [] ws)) ∧ Below w.heap.size w w' := by
 have H := yh h
 have hcap : ws.length ≤ cap := by obtain ⟨bl, ao, cap', he, ⟨h1, h2⟩, hor⟩ := h; simp only [List.cons.injEq, Value.slice.injEq, true_and, and_true] at he; omega
 clear h
 go_enter Tryz.func286, Tryz.ntmps286
 go_wp2_with fail
 go_loopw [3] (fun i wr => ∃ k : Nat, k ≤ ws.length ∧ i = .int .i64 k ∧ (∀ j (hj : j < ws.length), j < k → lastI ([] ++ ws.take j) (ws[j]).session < (ws[j]).seq) ∧ Below w.heap.size w wr) (fun i _ => ws.length - (intOf i).toNat)
 case atStart => exact ⟨0, Nat.zero_le _, rfl, fun j _ hj => by omega, Below.refl _ _⟩
 case round =>
  obtain ⟨k, hk, rfl, hz, hB⟩ := hrel
  by_cases hlt : k < ws.length
  ·
   obtain ⟨row, hc, hr⟩ := Lay.row_at ((uh H).later hB) hlt
   obtain ⟨a2, d2, rfl, R2⟩ := open_Write hr
   have c3 : wr.cell? ⟨b, off + k * 5 + 3, none⟩ = some (.int .i64 (ws[k]).session) := hc 3 (by decide)
   have c4 : wr.cell? ⟨b, off + k * 5 + 4, none⟩ = some (.int .i64 (ws[k]).seq) := hc 4 (by decide)
   have HP : Hid ((Lay.sl Lay.tWrite).Reads wr.drew [.slice (some ⟨b, off, none⟩) k cap] (ws.take k)) := sl_take ((uh H).later hB.drew) k hk
   have HAT : Hid ((ws[k]).seq ≤ lastI (ws.take k) (ws[k]).session → onceB [] ws = false) := fun he => onceB_at ws [] k hlt (by simpa using he)
   have HZ2 : Hid (lastI (ws.take k) (ws[k]).session < (ws[k]).seq → ∀ j (hj : j < ws.length), j < k + 1 → lastI ([] ++ ws.take j) (ws[j]).session < (ws[j]).seq) := by
    intro h0 j hj hjk
    by_cases hjk2 : j < k
    ·
     exact hz j hj hjk2
    obtain rfl : j = k := by omega
    simpa using h0
   have HB := yh hB
   clear hc hr R2 hz hB
   generalize hx : ws[k] = x at *
   clear hx
   have c3 : wr.drew.cell? ⟨b, off + k * 5 + 3, none⟩ = some (.int .i64 x.session) := c3
   have c4 : wr.drew.cell? ⟨b, off + k * 5 + 4, none⟩ = some (.int .i64 x.seq) := c4
   have i1 : (0 : Int) ≤ (k : Int) := by omega
   have i2 : (k : Int) < (ws.length : Int) := by omega
   have i3 : (k : Int) ≤ (cap : Int) := by omega
   go_wp2_with fail
   refine wp_region_noPanic ?_
   refine wp_region_held_drew (S := fun w' => w' = wr.drew) (by kernel_rfl) rfl (fun zq => ?_)
   refine tkH 0 zq ?_
   refine tkH 1 zq ?_
   refine tkJ 2 (v := ?v2) ?h2 zq ?r2
   case h2 =>
    intro wS hSw
    have y3 : wS.cell? ⟨b, off + k * 5 + 3, none⟩ = some (.int .i64 x.session) := by rw [hSw]; exact c3
    have y4 : wS.cell? ⟨b, off + k * 5 + 4, none⟩ = some (.int .i64 x.seq) := by rw [hSw]; exact c4
    clear hSw
    (try dsimp only at hSw)
    go_simp
    try with_reducible rfl
   refine tkH 3 zq ?_
   refine tkH 4 zq ?_
   refine tkJ 5 (v := ?v5) ?h5 zq ?r5
   case h5 =>
    intro wS hSw
    have y3 : wS.cell? ⟨b, off + k * 5 + 3, none⟩ = some (.int .i64 x.session) := by rw [hSw]; exact c3
    have y4 : wS.cell? ⟨b, off + k * 5 + 4, none⟩ = some (.int .i64 x.seq) := by rw [hSw]; exact c4
    clear hSw
    (try dsimp only at hSw)
    go_simp
    try with_reducible rfl
   refine tkH 6 zq ?_
   refine tkJ 7 (v := ?v7) ?h7 zq ?r7
   case h7 =>
    intro wS hSw
    have y3 : wS.cell? ⟨b, off + k * 5 + 3, none⟩ = some (.int .i64 x.session) := by rw [hSw]; exact c3
    have y4 : wS.cell? ⟨b, off + k * 5 + 4, none⟩ = some (.int .i64 x.seq) := by rw [hSw]; exact c4
    clear hSw
    (try dsimp only at hSw)
    go_simp
    try with_reducible rfl
   refine tkH 9 zq ?_
   refine tkH 10 zq ?_
   refine tkJ 11 (v := ?v11) ?h11 zq ?r11
   case h11 =>
    intro wS hSw
    have y3 : wS.cell? ⟨b, off + k * 5 + 3, none⟩ = some (.int .i64 x.session) := by rw [hSw]; exact c3
    have y4 : wS.cell? ⟨b, off + k * 5 + 4, none⟩ = some (.int .i64 x.seq) := by rw [hSw]; exact c4
    clear hSw
    (try dsimp only at hSw)
    go_simp
    try with_reducible rfl
   refine tkH 12 zq ?_
   refine tkJ 13 (v := ?v13) ?h13 zq ?r13
   case h13 =>
    intro wS hSw
    have y3 : wS.cell? ⟨b, off + k * 5 + 3, none⟩ = some (.int .i64 x.session) := by rw [hSw]; exact c3
    have y4 : wS.cell? ⟨b, off + k * 5 + 4, none⟩ = some (.int .i64 x.seq) := by rw [hSw]; exact c4
    clear hSw
    (try dsimp only at hSw)
    go_simp
    try with_reducible rfl
   refine rdH 8 (fun K hK => ?_)
   go_simp
   go_at_call 310
   refine (l5LastC _ (ws.take k) x.session _ (uh HP) (by rw [List.length_take]; omega)).mono ?_
   rintro e w3 ⟨rfl, rfl⟩
   try go_wp2_with fail
   refine hK.out _ _ rfl (fun zq => ?_)
   clear hK K
   try simp only [Act.put, pz, py, px]
   refine tkH 14 zq ?_
   refine wpAnyH_done (by kernel_rfl) ?_ _
   refine NoPanic.normal ?_
   clear zq c3 c4
   by_cases hq : x.seq ≤ lastI (ws.take k) x.session
   ·
    have hd : decide (x.seq ≤ lastI (ws.take k) x.session) = true := by simpa using hq
    have HG := yh (uh HAT hq)
    have HB2 := yh (uh HB).drew
    clear hq HAT HZ2 HP
    rw [hd]
    go_wp2_with fail
    go_ret
    exact ⟨by rw [uh HG]; first | done | rfl, uh HB2⟩
   ·
    have hd : decide (x.seq ≤ lastI (ws.take k) x.session) = false := by simpa using hq
    have HZ := yh (uh HZ2 (by omega))
    have HB2 := yh (uh HB).drew
    clear hq HAT HZ2 HP
    rw [hd]
    go_wp2_with fail
    go_roundw
    case rel => exact ⟨k + 1, by omega, by go_num, uh HZ, uh HB2⟩
    case measure => simp [intOf]; omega
  obtain rfl : k = ws.length := by omega
  have HG : Hid (onceB [] ws = true) := onceB_all ws [] fun j hj => hz j hj hj
  have HB := yh hB
  clear H hz hB
  go_wp2_with fail
  go_ret
  exact ⟨by rw [uh HG]; first | done | rfl, uh HB⟩
theorem l5OnceC (v : Value) (ws : List DWrite) (w : World) (h : (Lay.sl Lay.tWrite).Reads w [v] ws) (hn : ws.length ≤ 10000000) :
  Calls Tryz.prog 286 #[v] w fun e w' => e = .returned (.bool (onceB [] ws)) ∧ Below w.heap.size w w' := by
 obtain ⟨ao, cap, rfl⟩ := open_sl h
 by_cases hp : 0 < ws.length
 ·
  obtain ⟨b, off, rfl, -⟩ := Lay.sl_addr h hp
  exact l5Once_pos b off cap ws w h hn
 obtain rfl : ws = [] := List.eq_nil_of_length_eq_zero (by omega)
 clear h hn hp
 go_enter Tryz.func286, Tryz.ntmps286
 go_wp2_with fail
 refine wp_loop_rounds 1 ?_
 rw [rounds_succ]
 go_wp2_with fail
 go_ret
 exact ⟨rfl, Below.refl _ _⟩
end Go.Proofs.YtoanimpijfijgaaGreat

namespace Go.Proofs.YtoanimpijfijgaaGreat
end Go.Proofs.YtoanimpijfijgaaGreat

namespace Go.Proofs.YtoanimpijfijgaaGreat
open Go.RowKit
theorem infoAppWrite : (Tryz.prog.info? 87).map (fun i => (i.zero, i.size, i.bytes)) = some (some (.agg #[.int .i64 0, .int .i64 0, .slice none 0 0, .int .i64 0, .int .i64 0]), 5, 56) := by kernel_rfl
theorem one_Write {w : World} {row : List Value} {x : DWrite} {bl : List Nat} (h : Lay.tWrite.lies w row x bl) : (∀ u ∈ row, u.oneCell' = true) ∧ row.length = 1 * 5 := by
 obtain ⟨_, _, _, rfl, -⟩ := lies_Write.1 h
 simp [Value.oneCell']
theorem wpList_append_Write {w1 : World} {base : Nat} {v : Value} {rows : List (List Value)} {xs : List DWrite} {bls : List (List Nat)} (hG : Grow Lay.tWrite w1 base 87 v rows xs bls) {row : List Value} {x : DWrite} {bl : List Nat} (hl : Lay.tWrite.lies w1 row x bl) (hbl : ∀ b ∈ bl, v.ownBlock ≠ some b) {ops : Array Oper} {rest : List Oper} {o : Oper} {a : Act} {Q : Exit → Act → World → Prop} (hgd : o.guard = none) (s y : Operand)
  (ho : o.op = .call { callee := .builtin .append, args := #[s, y], argTypes := #[82, 82] }) (hs : a.eval s = v) (hy : a.eval y = .slice (some ⟨w1.heap.size, 0, none⟩) 1 1) (hn : xs.length + 1 ≤ 100000000) (hbase : base ≤ w1.heap.size)
  (h : ∀ g cap w', Grow Lay.tWrite w' base 87 (.slice (some ⟨g, 0, none⟩) (xs.length + 1) cap) (rows ++ [row]) (xs ++ [x]) (bls ++ [bl]) → Below base w1 w' → Ext (fun q => v.ownBlock = some q) w1 w' → g < w'.heap.size → w1.heap.size ≤ w'.heap.size → (v.ownBlock = some g ∨ w1.heap.size ≤ g) → wpList Tryz.prog ops Q rest (a.put o.dst (.slice (some ⟨g, 0, none⟩) (xs.length + 1) cap)) w') :
  wpList Tryz.prog ops Q (o :: rest) a (w1.alloc (.cells row.toArray 87)) := by
 obtain ⟨i0, hi0, hz0, hz1, hz2⟩ := info_parts infoAppWrite
 obtain ⟨h1, hlen⟩ := one_Write hl
 refine wpList_append_lies _ hgd s y 82 ho base 87 i0 _ 5 56 Tryz.underlying82 hi0 hz0 hz1 hz2 rfl (by omega) v xs.length rows.flatten hs (hG.own.alloc _) ⟨w1.heap.size, 0, none⟩ 1 1 row hy hlen (World.news_of_block (cs := row.toArray) (t := 87) (fr := (0, 0)) (heap_alloc_new w1 _)) h1 (by omega) (by unfold maxLen; omega) (by omega) (by simp; omega) (w1.alloc (.cells row.toArray 87)).heap.size rfl ?_
 intro g cap w' h2 h3 h4 h5
 have hg := grown_alloc h3
 have hbw : Below base w1 w' := (Below.refl _ _).grown hg hbase (fun j hj => (hG.own.lt j hj).1)
 have hor : v.ownBlock = some g ∨ w1.heap.size ≤ g := by
  rcases h4 with h4 | h4
  ·
   exact Or.inl h4
  exact Or.inr (by rw [h4]; simp)
 exact h g cap w' (hG.snoc hl hbl h2 hg hor) hbw ⟨hbw.os, hbw.tape, hbw.output, hbw.size, fun k hk hn => hg.block k hk (fun e => hn e.symm)⟩ h5 hbw.size hor
theorem step_append_Write {w1 : World} {base : Nat} {v : Value} {rows : List (List Value)} {xs : List DWrite} {bls : List (List Nat)} (hG : Grow Lay.tWrite w1 base 87 v rows xs bls) {row : List Value} {x : DWrite} {bl : List Nat} (hl : Lay.tWrite.lies w1 row x bl) (hbl : ∀ b ∈ bl, v.ownBlock ≠ some b) {ops : Array Oper} {o : Oper} {a : Act} {K : Act → World → Prop} {Q : Exit → Act → World → Prop} {E : Prop} (hgd : o.guard = none) (s y : Operand)
  (ho : o.op = .call { callee := .builtin .append, args := #[s, y], argTypes := #[82, 82] }) (hs : a.eval s = v) (hy : a.eval y = .slice (some ⟨w1.heap.size, 0, none⟩) 1 1) (hn : xs.length + 1 ≤ 100000000) (hbase : base ≤ w1.heap.size)
  (h : ∀ g cap w', Grow Lay.tWrite w' base 87 (.slice (some ⟨g, 0, none⟩) (xs.length + 1) cap) (rows ++ [row]) (xs ++ [x]) (bls ++ [bl]) → Below base w1 w' → Ext (fun q => v.ownBlock = some q) w1 w' → g < w'.heap.size → w1.heap.size ≤ w'.heap.size → (v.ownBlock = some g ∨ w1.heap.size ≤ g) → K (a.put o.dst (.slice (some ⟨g, 0, none⟩) (xs.length + 1) cap)) w') :
  if Region.wanted o (yielded ops a.tmps) = true then Oper.wp Tryz.prog o a (w1.alloc (.cells row.toArray 87)) K Q else E := by
 obtain ⟨i0, hi0, hz0, hz1, hz2⟩ := info_parts infoAppWrite
 obtain ⟨h1, hlen⟩ := one_Write hl
 refine step_append_lies _ hgd s y 82 ho base 87 i0 _ 5 56 Tryz.underlying82 hi0 hz0 hz1 hz2 rfl (by omega) v xs.length rows.flatten hs (hG.own.alloc _) ⟨w1.heap.size, 0, none⟩ 1 1 row hy hlen (World.news_of_block (cs := row.toArray) (t := 87) (fr := (0, 0)) (heap_alloc_new w1 _)) h1 (by omega) (by unfold maxLen; omega) (by omega) (by simp; omega) (w1.alloc (.cells row.toArray 87)).heap.size rfl ?_
 intro g cap w' h2 h3 h4 h5
 have hg := grown_alloc h3
 have hbw : Below base w1 w' := (Below.refl _ _).grown hg hbase (fun j hj => (hG.own.lt j hj).1)
 have hor : v.ownBlock = some g ∨ w1.heap.size ≤ g := by
  rcases h4 with h4 | h4
  ·
   exact Or.inl h4
  exact Or.inr (by rw [h4]; simp)
 exact h g cap w' (hG.snoc hl hbl h2 hg hor) hbw ⟨hbw.os, hbw.tape, hbw.output, hbw.size, fun k hk hn => hg.block k hk (fun e => hn e.symm)⟩ h5 hbw.size hor
theorem wcopy_pos (b off cap : Nat) (ws : List DWrite) (w : World) (h : (Lay.sl Lay.tWrite).Reads w [.slice (some ⟨b, off, none⟩) ws.length cap] ws) (hbl : b < w.heap.size) (hn : ws.length ≤ 10000000) (hv : ∀ x ∈ ws, x.vec.length ≤ 100000000) :
  Calls Tryz.prog 93 #[.slice (some ⟨b, off, none⟩) ws.length cap] w fun e w' => ∃ v', e = .returned v' ∧ (∃ rows bls, Grow Lay.tWrite w' w.heap.size 87 v' rows ws bls ∧ ∀ c ∈ bls.flatten, w.heap.size ≤ c) ∧ Below w.heap.size w w' := by
 have H := yh h
 have HV := yh hv
 clear h hv
 have HG0 : Hid (Grow Lay.tWrite (w.alloc (.cells #[] 87)) w.heap.size 87 (.slice (some ⟨w.heap.size, 0, none⟩) 0 0) [] [] []) := Grow.nil (World.ownsRow_lit w #[] 0 (Nat.le_refl _) (Nat.zero_le _) rfl)
 have HB0 := yh ((Below.refl w.heap.size w).alloc (Nat.le_refl _) (.cells #[] 87))
 go_enter Tryz.func93, Tryz.ntmps93
 go_wp2_with fail
 go_loopw [3, 4] (fun v i wr => ∃ (k : Nat) (rows : List (List Value)) (bls : List (List Nat)), k ≤ ws.length ∧ i = .int .i64 k ∧ Grow Lay.tWrite wr w.heap.size 87 v rows (ws.take k) bls ∧ (∀ c ∈ bls.flatten, w.heap.size ≤ c) ∧ Below w.heap.size w wr) (fun _ i _ => ws.length - (intOf i).toNat)
 case atStart => exact ⟨0, [], [], Nat.zero_le _, rfl, uh HG0, by simp, uh HB0⟩
 case round =>
  obtain ⟨k, rows, bls, hk, rfl, hG, hSB, hB⟩ := hrel
  have HSB := yh hSB
  clear HG0 HB0 hSB
  by_cases hlt : k < ws.length
  ·
   obtain ⟨row, hc, hr⟩ := Lay.row_at ((uh H).later hB) hlt
   have hr2 := hr
   obtain ⟨a2, d2, rfl, R2⟩ := open_Write hr
   have c0 : wr.cell? ⟨b, off + k * 5, none⟩ = some (.int .i64 (ws[k]).kind) := hc 0 (by decide)
   have c1 : wr.cell? ⟨b, off + k * 5 + 1, none⟩ = some (.int .i64 (ws[k]).id) := hc 1 (by decide)
   have c2 : wr.cell? ⟨b, off + k * 5 + 2, none⟩ = some (.slice a2 (ws[k]).vec.length d2) := hc 2 (by decide)
   have c3 : wr.cell? ⟨b, off + k * 5 + 3, none⟩ = some (.int .i64 (ws[k]).session) := hc 3 (by decide)
   have c4 : wr.cell? ⟨b, off + k * 5 + 4, none⟩ = some (.int .i64 (ws[k]).seq) := hc 4 (by decide)
   have HWF : Hid ((Lit.int .i64 (ws[k]).kind).wf = true ∧ (Lit.int .i64 (ws[k]).id).wf = true ∧ (Lit.int .i64 (ws[k]).session).wf = true ∧ (Lit.int .i64 (ws[k]).seq).wf = true) := by
    obtain ⟨_, hq⟩ := hr2
    obtain ⟨_, _, _, _, _, q0, q1, _, q3, q4⟩ := lies_Write.1 hq
    exact ⟨q0, q1, q3, q4⟩
   have HT : Hid (ws.take (k + 1) = ws.take k ++ [ws[k]]) := List.take_succ_eq_append_getElem hlt
   have HLn : Hid ((ws.take k).length = k) := by show (ws.take k).length = k; rw [List.length_take]; omega
   have HN := yh (uh HV ws[k] (List.getElem_mem hlt))
   clear hc hr hr2
   generalize hx : ws[k] = x at *
   clear hx
   have hbr : b < wr.heap.size := Nat.lt_of_lt_of_le hbl hB.size
   have nb : Below wr.heap.size wr (wr.alloc (.cells #[.int .i64 x.kind, .int .i64 x.id, .slice a2 x.vec.length d2, .int .i64 x.session, .int .i64 x.seq] 87)) := (Below.refl _ _).alloc (Nat.le_refl _) _
   have bI : Box 0 #[.int .i64 x.kind, .int .i64 x.id, .slice a2 x.vec.length d2, .int .i64 x.session, .int .i64 x.seq] 87 (wr.alloc (.cells #[.int .i64 x.kind, .int .i64 x.id, .slice a2 x.vec.length d2, .int .i64 x.session, .int .i64 x.seq] 87)) wr.heap.size := newBox (Nat.zero_le _)
   have HRW := yh (Lay.ints_reads R2).wf
   have HL := yh (l1Ints _ x.vec _ ((Lay.ints_reads R2).later nb) (uh HN))
   have HG := yh (hG.later nb)
   have HB := yh (hB.trans (nb.mono hB.size))
   have HBI := yh bI
   have HZW : Hid (w.heap.size ≤ wr.heap.size) := hB.size
   have HOW : Hid (∀ c, u3.ownBlock = some c → c < wr.heap.size) := fun c hc => (hG.own.lt c hc).2
   have HSL : Hid (∀ c ∈ bls.flatten, c < wr.heap.size) := fun c hc => hG.sub_lt c hc
   clear R2 hG hB nb bI
   go_wp2_with fail
   clear c0 c1 c2 c3 c4
   refine (uh HL).mono ?_
   generalize hW0 : wr.alloc (.cells #[.int .i64 x.kind, .int .i64 x.id, .slice a2 x.vec.length d2, .int .i64 x.session, .int .i64 x.seq] 87) = W0 at *
   clear hW0
   rintro e w2 ⟨v2, rfl, hO, hb⟩
   have hO2 := Lay.ownInts (uh HRW) (by have := uh HN; omega) hO
   obtain ⟨ao2, cp2, rfl⟩ := open_sl hO2.reads
   obtain ⟨bl2, ⟨hl2, -, -⟩, hr2⟩ := hO2
   have bI2 := (uh HBI).keep hb
   have hZ0 : wr.heap.size < W0.heap.size := (uh HBI).lt
   have z0 : w2.cell? ⟨wr.heap.size, 0, none⟩ = some (.int .i64 x.kind) := bI2.at 0 _ rfl
   have z1 : w2.cell? ⟨wr.heap.size, 1, none⟩ = some (.int .i64 x.id) := bI2.at 1 _ rfl
   have z2 : w2.cell? ⟨wr.heap.size, 2, none⟩ = some (.slice a2 x.vec.length d2) := bI2.at 2 _ rfl
   have z3 : w2.cell? ⟨wr.heap.size, 3, none⟩ = some (.int .i64 x.session) := bI2.at 3 _ rfl
   have z4 : w2.cell? ⟨wr.heap.size, 4, none⟩ = some (.int .i64 x.seq) := bI2.at 4 _ rfl
   have f2 := bI2.soft 2
   have l2 := bI2.lt
   have hE : Ext (fun c => c = wr.heap.size) w2 (w2.setCell ⟨wr.heap.size, 2, none⟩ (.slice ao2 x.vec.length cp2)) := (Ext.refl (fun c => c = wr.heap.size) w2).setCell ⟨wr.heap.size, 2, none⟩ _ rfl
   have hl3 : Lay.tWrite.lies (w2.setCell ⟨wr.heap.size, 2, none⟩ (.slice ao2 x.vec.length cp2)) [.int .i64 x.kind, .int .i64 x.id, .slice ao2 x.vec.length cp2, .int .i64 x.session, .int .i64 x.seq] x bl2 := lies_Write.2 ⟨ao2, cp2, bl2, rfl, rfl, (uh HWF).1, (uh HWF).2.1, (Lay.sl Lay.int).keep hl2 (fun c hc => hE.block c ((Lay.sl Lay.int).lt hl2 c hc) (by have := (hr2 c hc).1; omega)), (uh HWF).2.2.1, (uh HWF).2.2.2⟩
   have hG2 := (uh HG).later hb
   have hoff : ∀ c ∈ bl2, u3.ownBlock ≠ some c := fun c hc e => by have h1 := (hr2 c hc).1; have h2 := uh HOW c e; omega
   have HB3 : Hid (Below w.heap.size w (w2.setCell ⟨wr.heap.size, 2, none⟩ (.slice ao2 x.vec.length cp2))) := ((uh HB).trans (hb.mono (uh HB).size)).setCell (by simpa using uh HZW) _
   have hG3 : Grow Lay.tWrite (w2.setCell ⟨wr.heap.size, 2, none⟩ (.slice ao2 x.vec.length cp2)) w.heap.size 87 u3 rows (ws.take k) bls := hG2.kept (by
    obtain ⟨h1, h2⟩ := hG2.own
    refine ⟨h1, ?_⟩
    rcases h2 with h2 | ⟨gb, cap', cur, hv, hg, hh, r⟩
    ·
     exact Or.inl h2
    ·
     exact Or.inr ⟨gb, cap', cur, hv, hg, (hE.block gb (lt_of_block hh) (by have := uh HOW gb (by rw [hv]; rfl); omega)).trans hh, r⟩) (fun c hc => hE.block c (hG2.sub_lt c hc) (fun e => by
    have := uh HSL c hc
    omega))
   have hZ3 : w.heap.size ≤ (w2.setCell ⟨wr.heap.size, 2, none⟩ (.slice ao2 x.vec.length cp2)).heap.size := (uh HB3).size
   have hK : (ws.take k).length + 1 ≤ 100000000 := by rw [uh HLn]; omega
   have y0 : (w2.setCell ⟨wr.heap.size, 2, none⟩ (.slice ao2 x.vec.length cp2)).cell? ⟨wr.heap.size, 0, none⟩ = some (.int .i64 x.kind) := (bI2.set 2 _).at 0 _ rfl
   have y1 : (w2.setCell ⟨wr.heap.size, 2, none⟩ (.slice ao2 x.vec.length cp2)).cell? ⟨wr.heap.size, 1, none⟩ = some (.int .i64 x.id) := (bI2.set 2 _).at 1 _ rfl
   have y2 : (w2.setCell ⟨wr.heap.size, 2, none⟩ (.slice ao2 x.vec.length cp2)).cell? ⟨wr.heap.size, 2, none⟩ = some (.slice ao2 x.vec.length cp2) := (bI2.set 2 _).at 2 _ rfl
   have y3 : (w2.setCell ⟨wr.heap.size, 2, none⟩ (.slice ao2 x.vec.length cp2)).cell? ⟨wr.heap.size, 3, none⟩ = some (.int .i64 x.session) := (bI2.set 2 _).at 3 _ rfl
   have y4 : (w2.setCell ⟨wr.heap.size, 2, none⟩ (.slice ao2 x.vec.length cp2)).cell? ⟨wr.heap.size, 4, none⟩ = some (.int .i64 x.seq) := (bI2.set 2 _).at 4 _ rfl
   have HSB5 : Hid (∀ c ∈ (bls ++ [bl2]).flatten, w.heap.size ≤ c) := by
    intro c hc
    rw [List.flatten_append] at hc
    rcases List.mem_append.1 hc with hc | hc
    ·
     exact uh HSB c hc
    have h1 := (hr2 c (by simpa using hc)).1
    have h2 := uh HZW
    omega
   clear z0 z1 z3 z4 bI2 hE hG2 hl2 hO HG HL HB HBI HRW HN HWF hb hr2 hZ0
   go_upto_region 7 with fail
   generalize w2.setCell ⟨wr.heap.size, 2, none⟩ (.slice ao2 x.vec.length cp2) = W3 at *
   go_wp2_with (at_builtin; refine wpList_append_Write hG3 hl3 hoff rfl _ _ rfl rfl rfl hK hZ3 ?_)
   intro g5 cap5 w5 hG5 hb5 hE5 hg5 hz5 hor5
   have HG5 := yh hG5
   have HB5 := yh ((uh HB3).trans hb5)
   clear hG3 hl3 hoff hZ3 hK hG5 hb5 hE5 hg5 hz5 hor5 HB3 y0 y1 y2 y3 y4 z2 f2 l2
   go_wp2_with fail
   go_roundw
   case rel =>
    have hg := uh HG5
    rw [← uh HT] at hg
    try rw [uh HLn] at hg
    exact ⟨k + 1, _, _, by omega, by go_num, hg, uh HSB5, uh HB5⟩
   case measure => simp [intOf]; omega
  obtain rfl : k = ws.length := by omega
  rw [List.take_length] at hG
  have HG := yh hG
  have HB := yh hB
  clear hG hB H
  go_wp2_with fail
  go_ret
  exact ⟨_, rfl, ⟨_, _, uh HG, uh HSB⟩, uh HB⟩
theorem wcopyC (v : Value) (ws : List DWrite) (w : World) (h : (Lay.sl Lay.tWrite).Reads w [v] ws) (hn : ws.length ≤ 10000000) (hv : ∀ x ∈ ws, x.vec.length ≤ 100000000) :
  Calls Tryz.prog 93 #[v] w fun e w' => ∃ v', e = .returned v' ∧ (∃ rows bls, Grow Lay.tWrite w' w.heap.size 87 v' rows ws bls ∧ ∀ c ∈ bls.flatten, w.heap.size ≤ c) ∧ Below w.heap.size w w' := by
 obtain ⟨ao, cap, rfl⟩ := open_sl h
 by_cases hp : 0 < ws.length
 ·
  obtain ⟨b, off, rfl, hbl⟩ := Lay.sl_addr h hp
  exact wcopy_pos b off cap ws w h hbl hn hv
 obtain rfl : ws = [] := List.eq_nil_of_length_eq_zero (by omega)
 clear h hp hn hv
 have HB := yh ((Below.refl w.heap.size w).alloc (Nat.le_refl _) (.cells #[] 87))
 have HG : Hid (Grow Lay.tWrite (w.alloc (.cells #[] 87)) w.heap.size 87 (.slice (some ⟨w.heap.size, 0, none⟩) 0 0) [] [] []) := Grow.nil (World.ownsRow_lit w #[] 0 (Nat.le_refl _) (Nat.zero_le _) rfl)
 go_enter Tryz.func93, Tryz.ntmps93
 go_wp2_with fail
 refine wp_loop_rounds 1 ?_
 rw [rounds_succ]
 go_wp2_with fail
 go_ret
 exact ⟨_, rfl, ⟨_, _, uh HG, by simp⟩, uh HB⟩
def takenF (ws : List DWrite) : Int := if 40 < ws.length then 2 else if wsFrom ws ≠ 0 then wsFrom ws else if onceB [] ws = false then 6 else 0
def downB (x : DNode) : Bool := (x.sure == (x.writes.length : Int)) && (x.clean == 0 && x.lease == 0)
theorem nf_id {x : DNode} (h : (decide (1 ≤ x.id) && decide (x.id ≤ 5)) = false) : nodeFault x = 3 := by
 simp only [Bool.and_eq_false_iff, decide_eq_false_iff_not] at h
 rw [nodeFault, if_neg (by omega)]
theorem nf_epoch {x : DNode} (h : (decide (0 ≤ x.epoch) && decide (x.epoch ≤ 999)) = false) : nodeFault x = 3 := by
 simp only [Bool.and_eq_false_iff, decide_eq_false_iff_not] at h
 rw [nodeFault, if_neg (by omega)]
theorem nf_lease {x : DNode} (h : (decide (0 ≤ x.lease) && decide (x.lease ≤ 9999)) = false) : nodeFault x = 3 := by
 simp only [Bool.and_eq_false_iff, decide_eq_false_iff_not] at h
 rw [nodeFault, if_neg (by omega)]
theorem nf_rest {x : DNode} (h1 : (decide (1 ≤ x.id) && decide (x.id ≤ 5)) = true) (h2 : (decide (0 ≤ x.epoch) && decide (x.epoch ≤ 999)) = true) (h3 : (decide (0 ≤ x.lease) && decide (x.lease ≤ 9999)) = true) :
  nodeFault x = if takenF x.writes ≠ 0 then takenF x.writes else if (decide (0 ≤ x.sure) && decide (x.sure ≤ (x.writes.length : Int))) = true ∧ (decide (0 ≤ x.clean) && decide (x.clean ≤ x.sure)) = true then (if x.up = false ∧ downB x = false then 1 else 0) else 3 := by
 simp only [Bool.and_eq_true, decide_eq_true_eq] at *
 rw [nodeFault, if_pos (by omega), takenF]
 by_cases q1 : 40 < x.writes.length
 ·
  simp only [if_pos q1]; rfl
 simp only [if_neg q1]
 by_cases q2 : wsFrom x.writes ≠ 0
 ·
  simp only [if_pos q2]
 simp only [if_neg q2]
 by_cases q3 : onceB [] x.writes = false
 ·
  simp only [if_pos q3]; rfl
 simp only [if_neg q3]
 rw [if_neg (by simp : ¬ ((0 : Int) ≠ 0))]
 have e1 : (0 ≤ x.sure ∧ x.sure ≤ (x.writes.length : Int) ∧ 0 ≤ x.clean ∧ x.clean ≤ x.sure) ↔ ((0 ≤ x.sure ∧ x.sure ≤ (x.writes.length : Int)) ∧ 0 ≤ x.clean ∧ x.clean ≤ x.sure) := by constructor <;> (intro h; omega)
 have e2 : ¬ (x.sure = (x.writes.length : Int) ∧ x.clean = 0 ∧ x.lease = 0) ↔ downB x = false := by
  unfold downB
  rw [← Bool.not_eq_true]
  simp
 simp only [e1, e2]
structure RowIn (cs : Array Value) (w : World) (b o : Nat) : Prop where
 lt : b < w.heap.size
 cells : ∀ (i : Nat) (v : Value), cs[i]? = some v → w.cell? ⟨b, o + i, none⟩ = some v
variable {cs : Array Value} {w w' : World} {b o : Nat}
theorem RowIn.at (h : RowIn cs w b o) (i : Nat) (v : Value) (hi : cs[i]? = some v) : w.cell? ⟨b, o + i, none⟩ = some v := h.cells i v hi
theorem RowIn.keep (h : RowIn cs w b o) (hb : Below w.heap.size w w') : RowIn cs w' b o := ⟨Nat.lt_of_lt_of_le h.lt hb.size, fun i v hi => (hb.cell (p := ⟨b, o + i, none⟩) h.lt).trans (h.cells i v hi)⟩
theorem RowIn.drew (h : RowIn cs w b o) : RowIn cs w.drew b o := ⟨h.lt, h.cells⟩
theorem RowIn.ofRow {α : Type} {A : Lay α} {off k : Nat} {row : List Value} (hc : ∀ m, m < A.n → w.cell? ⟨b, off + k * A.n + m, none⟩ = row[m]?) (hl : row.length = A.n) (hb : b < w.heap.size) : RowIn row.toArray w b (off + k * A.n) := ⟨hb, fun i v hi => by
 have h1 : row[i]? = some v := by simpa using hi
 have h2 : i < A.n := by
  rw [← hl]
  rcases Nat.lt_or_ge i row.length with q | q
  ·
   exact q
  rw [List.getElem?_eq_none q] at h1; simp at h1
 rw [hc i h2, h1]⟩
theorem nodeC (x : Int) (w : World) : Calls Tryz.prog 174 #[.int .i64 x] w fun e w' => e = .returned (.bool (decide (1 ≤ x) && decide (x ≤ 5))) ∧ w' = w := by
 go_enter Tryz.func174, Tryz.ntmps174
 go_wp2_with fail
 refine (inC x 1 5 _).mono ?_
 rintro e w1 ⟨rfl, rfl⟩
 go_wp2_with fail
 go_ret
 exact ⟨rfl, rfl⟩
theorem l9FaultO (b o : Nat) (a4 : Option Addr) (d4 : Nat) (x : DNode) (w : World) (hX : RowIn #[.int .i64 x.id, .bool x.up, .int .i64 x.epoch, .int .i64 x.lease, .slice a4 x.writes.length d4, .int .i64 x.sure, .int .i64 x.clean] w b o) (R4 : (Lay.sl Lay.tWrite).Reads w [.slice a4 x.writes.length d4] x.writes) :
  Calls Tryz.prog 243 #[.pointer (some ⟨b, o, none⟩)] w fun e w' => e = .returned (.int .i64 (nodeFault x)) ∧ Below w.heap.size w w' := by
 have hbig := R4.big
 have x0 := hX.at 0 _ rfl
 have x2 := hX.at 2 _ rfl
 have x3 := hX.at 3 _ rfl
 have x4 := hX.at 4 _ rfl
 simp only [List.getElem_toArray, List.getElem_cons_zero, List.getElem_cons_succ, Nat.add_zero] at x0 x2 x3 x4
 have xl := hX.lt
 have HX := yh hX
 have H4 := yh R4
 clear hX R4
 go_enter Tryz.func243, Tryz.ntmps243
 go_wp2_with fail
 refine (nodeC x.id w).mono ?_
 rintro e w1 ⟨rfl, h1⟩
 subst w1
 cases d1 : (decide (1 ≤ x.id) && decide (x.id ≤ 5))
 ·
  have HF := yh (nf_id d1)
  clear d1
  go_wp2_with fail
  go_ret
  exact ⟨by rw [uh HF]; rfl, Below.refl _ _⟩
 go_wp2_with fail
 refine (inC x.epoch 0 999 w).mono ?_
 rintro e w1 ⟨rfl, h1⟩
 subst w1
 cases d2 : (decide (0 ≤ x.epoch) && decide (x.epoch ≤ 999))
 ·
  have HF := yh (nf_epoch d2)
  clear d1 d2
  go_wp2_with fail
  go_ret
  exact ⟨by rw [uh HF]; rfl, Below.refl _ _⟩
 go_wp2_with fail
 refine (inC x.lease 0 9999 w).mono ?_
 rintro e w1 ⟨rfl, h1⟩
 subst w1
 cases d3 : (decide (0 ≤ x.lease) && decide (x.lease ≤ 9999))
 ·
  have HF := yh (nf_lease d3)
  clear d1 d2 d3
  go_wp2_with fail
  go_ret
  exact ⟨by rw [uh HF]; rfl, Below.refl _ _⟩
 have HF := yh (nf_rest d1 d2 d3)
 clear d1 d2 d3
 by_cases hn : 40 < x.writes.length
 ·
  have ht : takenF x.writes = 2 := by rw [takenF, if_pos hn]
  have HF1 := yh ((uh HF).trans (if_pos (by rw [ht]; decide)))
  rw [ht] at HF1
  have hd : decide ((40 : Int) < (x.writes.length : Int)) = true := by simp; omega
  clear HF ht
  go_wp2_with fail
  go_ret
  exact ⟨by rw [uh HF1]; rfl, Below.refl _ _⟩
 have hn2 : x.writes.length ≤ 40 := by omega
 have HW := yh (specWrites _ x.writes w (uh H4))
 have hwf : writesF x.writes = wsFrom x.writes := by rw [writesF, if_neg (by omega)]
 rw [hwf] at HW
 clear hwf
 go_wp2_with fail
 refine (uh HW).mono ?_
 rintro e w1 ⟨rfl, hb1⟩
 subst w1
 by_cases hs : wsFrom x.writes = 0
 ·
  rw [hs]
  have HO := yh (l5OnceC _ x.writes w (uh H4) (by omega))
  have HT : Hid (takenF x.writes = if onceB [] x.writes = false then 6 else 0) := by show takenF x.writes = _; rw [takenF, if_neg hn, if_neg (by simpa using hs)]
  clear HW hs hn
  cases ho : onceB [] x.writes
  ·
   rw [ho] at HO HT
   have HT6 : Hid (takenF x.writes = 6) := uh HT
   have HF1 := yh ((uh HF).trans (if_pos (by rw [uh HT6]; decide)))
   rw [uh HT6] at HF1
   clear ho HT HF HT6
   go_wp2_with fail
   refine (uh HO).mono ?_
   rintro e w2 ⟨rfl, hb⟩
   have HB := yh hb
   clear hb HO
   go_wp2_with fail
   go_ret
   exact ⟨by rw [uh HF1]; rfl, uh HB⟩
  rw [ho] at HO HT
  have HT0 : Hid (takenF x.writes = 0) := uh HT
  have HF1 := yh ((uh HF).trans (if_neg (by rw [uh HT0]; decide)))
  clear ho HT HF HT0
  go_wp2_with fail
  refine (uh HO).mono ?_
  rintro e w2 ⟨rfl, hb⟩
  have HB := yh hb
  have hX2 := (uh HX).keep hb
  have hl2 := hX2.lt
  clear hb HO x0 x2 x3 x4 xl HX H4
  go_wp2_with fail
  cases q4 : (decide (0 ≤ x.sure) && decide (x.sure ≤ (x.writes.length : Int)))
  ·
   have HF2 := yh ((uh HF1).trans (if_neg (by rw [q4]; simp)))
   clear HF1
   refine wp_region_noPanic ?_
   refine wp_region_held_drew (S := fun w' => w' = w2.drew) (by kernel_rfl) rfl (fun zq => ?_)
   refine tkH 0 zq ?_
   refine tkH 1 zq ?_
   refine tkH 2 zq ?_
   refine tkJ 3 (v := ?va3) ?ha3 zq ?ra3
   case ha3 =>
    intro wS hSw
    have y5 : wS.cell? ⟨b, o + 5, none⟩ = some (.int .i64 x.sure) := by rw [hSw]; exact hX2.at 5 _ rfl
    clear hSw
    (try dsimp only at hSw)
    go_simp
    try with_reducible rfl
   refine tkH 4 zq ?_
   refine tkH 5 zq ?_
   refine tkH 6 zq ?_
   refine tkJ 7 (v := ?va7) ?ha7 zq ?ra7
   case ha7 =>
    intro wS hSw
    have y4 : wS.cell? ⟨b, o + 4, none⟩ = some (.slice a4 x.writes.length d4) := by rw [hSw]; exact hX2.at 4 _ rfl
    clear hSw
    (try dsimp only at hSw)
    go_simp
    try with_reducible rfl
   refine tkH 8 zq ?_
   refine rdH 9 (fun K hK => ?_)
   go_simp
   go_at_call 64
   refine (inC x.sure 0 (x.writes.length : Int) _).mono ?_
   rintro e w3 ⟨rfl, rfl⟩
   rw [q4]
   try go_wp2_with fail
   refine hK.out _ _ rfl (fun zq => ?_)
   clear hK K
   try simp only [Act.put, pz, py, px]
   refine tkH 10 zq ?_
   refine tkH 11 zq ?_
   refine skH 12 zq ?_
   refine skH 13 zq ?_
   refine skH 14 zq ?_
   refine skH 15 zq ?_
   refine skH 16 zq ?_
   refine skH 17 zq ?_
   refine skH 18 zq ?_
   refine skH 19 zq ?_
   refine skH 20 zq ?_
   refine skH 21 zq ?_
   refine tkH 22 zq ?_
   refine wpAnyH_done (by kernel_rfl) ?_ _
   refine NoPanic.normal ?_
   clear zq
   go_wp2_with fail
   go_ret
   exact ⟨by rw [uh HF2]; rfl, (uh HB).drew⟩
  cases q5 : (decide (0 ≤ x.clean) && decide (x.clean ≤ x.sure))
  ·
   have HF2 := yh ((uh HF1).trans (if_neg (by rw [q5]; simp)))
   clear HF1
   refine wp_region_noPanic ?_
   refine wp_region_held_drew (S := fun w' => w' = w2.drew) (by kernel_rfl) rfl (fun zq => ?_)
   refine tkH 0 zq ?_
   refine tkH 1 zq ?_
   refine tkH 2 zq ?_
   refine tkJ 3 (v := ?vb3) ?hb3 zq ?rb3
   case hb3 =>
    intro wS hSw
    have y5 : wS.cell? ⟨b, o + 5, none⟩ = some (.int .i64 x.sure) := by rw [hSw]; exact hX2.at 5 _ rfl
    clear hSw
    (try dsimp only at hSw)
    go_simp
    try with_reducible rfl
   refine tkH 4 zq ?_
   refine tkH 5 zq ?_
   refine tkH 6 zq ?_
   refine tkJ 7 (v := ?vb7) ?hb7 zq ?rb7
   case hb7 =>
    intro wS hSw
    have y4 : wS.cell? ⟨b, o + 4, none⟩ = some (.slice a4 x.writes.length d4) := by rw [hSw]; exact hX2.at 4 _ rfl
    clear hSw
    (try dsimp only at hSw)
    go_simp
    try with_reducible rfl
   refine tkH 8 zq ?_
   refine rdH 9 (fun K hK => ?_)
   go_simp
   go_at_call 64
   refine (inC x.sure 0 (x.writes.length : Int) _).mono ?_
   rintro e w3 ⟨rfl, rfl⟩
   rw [q4]
   try go_wp2_with fail
   refine hK.out _ _ rfl (fun zq => ?_)
   clear hK K
   try simp only [Act.put, pz, py, px]
   refine tkH 10 zq ?_
   refine tkH 11 zq ?_
   refine tkH 12 zq ?_
   refine tkH 13 zq ?_
   refine tkH 14 zq ?_
   refine tkJ 15 (v := ?vb15) ?hb15 zq ?rb15
   case hb15 =>
    intro wS hSw
    have y6 : wS.cell? ⟨b, o + 6, none⟩ = some (.int .i64 x.clean) := by rw [hSw]; exact hX2.at 6 _ rfl
    clear hSw
    (try dsimp only at hSw)
    go_simp
    try with_reducible rfl
   refine tkH 16 zq ?_
   refine tkH 17 zq ?_
   refine tkH 18 zq ?_
   refine tkJ 19 (v := ?vb19) ?hb19 zq ?rb19
   case hb19 =>
    intro wS hSw
    have y5 : wS.cell? ⟨b, o + 5, none⟩ = some (.int .i64 x.sure) := by rw [hSw]; exact hX2.at 5 _ rfl
    clear hSw
    (try dsimp only at hSw)
    go_simp
    try with_reducible rfl
   refine rdH 20 (fun K hK => ?_)
   go_simp
   go_at_call 64
   refine (inC x.clean 0 x.sure _).mono ?_
   rintro e w3 ⟨rfl, rfl⟩
   rw [q5]
   try go_wp2_with fail
   refine hK.out _ _ rfl (fun zq => ?_)
   clear hK K
   try simp only [Act.put, pz, py, px]
   refine tkH 21 zq ?_
   refine tkH 22 zq ?_
   refine wpAnyH_done (by kernel_rfl) ?_ _
   refine NoPanic.normal ?_
   clear zq
   go_wp2_with fail
   go_ret
   exact ⟨by rw [uh HF2]; rfl, (uh HB).drew⟩
  have HF2 := yh ((uh HF1).trans (if_pos ⟨q4, q5⟩))
  clear HF1
  refine wp_region_noPanic ?_
  refine wp_region_held_drew (S := fun w' => w' = w2.drew) (by kernel_rfl) rfl (fun zq => ?_)
  refine tkH 0 zq ?_
  refine tkH 1 zq ?_
  refine tkH 2 zq ?_
  refine tkJ 3 (v := ?vc3) ?hc3 zq ?rc3
  case hc3 =>
   intro wS hSw
   have y5 : wS.cell? ⟨b, o + 5, none⟩ = some (.int .i64 x.sure) := by rw [hSw]; exact hX2.at 5 _ rfl
   clear hSw
   (try dsimp only at hSw)
   go_simp
   try with_reducible rfl
  refine tkH 4 zq ?_
  refine tkH 5 zq ?_
  refine tkH 6 zq ?_
  refine tkJ 7 (v := ?vc7) ?hc7 zq ?rc7
  case hc7 =>
   intro wS hSw
   have y4 : wS.cell? ⟨b, o + 4, none⟩ = some (.slice a4 x.writes.length d4) := by rw [hSw]; exact hX2.at 4 _ rfl
   clear hSw
   (try dsimp only at hSw)
   go_simp
   try with_reducible rfl
  refine tkH 8 zq ?_
  refine rdH 9 (fun K hK => ?_)
  go_simp
  go_at_call 64
  refine (inC x.sure 0 (x.writes.length : Int) _).mono ?_
  rintro e w3 ⟨rfl, rfl⟩
  rw [q4]
  try go_wp2_with fail
  refine hK.out _ _ rfl (fun zq => ?_)
  clear hK K
  try simp only [Act.put, pz, py, px]
  refine tkH 10 zq ?_
  refine tkH 11 zq ?_
  refine tkH 12 zq ?_
  refine tkH 13 zq ?_
  refine tkH 14 zq ?_
  refine tkJ 15 (v := ?vc15) ?hc15 zq ?rc15
  case hc15 =>
   intro wS hSw
   have y6 : wS.cell? ⟨b, o + 6, none⟩ = some (.int .i64 x.clean) := by rw [hSw]; exact hX2.at 6 _ rfl
   clear hSw
   (try dsimp only at hSw)
   go_simp
   try with_reducible rfl
  refine tkH 16 zq ?_
  refine tkH 17 zq ?_
  refine tkH 18 zq ?_
  refine tkJ 19 (v := ?vc19) ?hc19 zq ?rc19
  case hc19 =>
   intro wS hSw
   have y5 : wS.cell? ⟨b, o + 5, none⟩ = some (.int .i64 x.sure) := by rw [hSw]; exact hX2.at 5 _ rfl
   clear hSw
   (try dsimp only at hSw)
   go_simp
   try with_reducible rfl
  refine rdH 20 (fun K hK => ?_)
  go_simp
  go_at_call 64
  refine (inC x.clean 0 x.sure _).mono ?_
  rintro e w3 ⟨rfl, rfl⟩
  rw [q5]
  try go_wp2_with fail
  refine hK.out _ _ rfl (fun zq => ?_)
  clear hK K
  try simp only [Act.put, pz, py, px]
  refine tkH 21 zq ?_
  refine tkH 22 zq ?_
  refine wpAnyH_done (by kernel_rfl) ?_ _
  refine NoPanic.normal ?_
  clear zq q4 q5
  go_wp2_with fail
  cases hu : x.up
  ·
   rw [hu] at HF2
   cases e1 : (x.sure != (x.writes.length : Int))
   ·
    cases e2 : (x.clean != 0)
    ·
     cases e3 : (x.lease != 0)
     ·
      have HF3 : Hid (nodeFault x = 0) := (uh HF2).trans (if_neg (by simp at e1 e2 e3; simp [downB, ← e1, e2, e3]))
      clear HF2
      refine wp_region_noPanic ?_
      refine wp_region_held_drew (S := fun w' => w' = w2.drew.drew) (by kernel_rfl) rfl (fun zq => ?_)
      refine tkH 0 zq ?_
      refine tkH 1 zq ?_
      refine tkH 2 zq ?_
      refine tkJ 3 (v := ?vd3) ?hd3 zq ?rd3
      case hd3 =>
       intro wS hSw
       have y1 : wS.cell? ⟨b, o + 1, none⟩ = some (.bool x.up) := by rw [hSw]; exact hX2.at 1 _ rfl
       clear hSw
       (try dsimp only at hSw)
       go_simp
       try with_reducible rfl
      refine tkH 4 zq ?_
      refine tkH 5 zq ?_
      refine tkH 6 zq ?_
      refine tkH 7 zq ?_
      refine tkH 8 zq ?_
      refine tkJ 9 (v := ?vd9) ?hd9 zq ?rd9
      case hd9 =>
       intro wS hSw
       have y5 : wS.cell? ⟨b, o + 5, none⟩ = some (.int .i64 x.sure) := by rw [hSw]; exact hX2.at 5 _ rfl
       clear hSw
       (try dsimp only at hSw)
       go_simp
       try with_reducible rfl
      refine tkH 10 zq ?_
      refine tkH 11 zq ?_
      refine tkH 12 zq ?_
      refine tkJ 13 (v := ?vd13) ?hd13 zq ?rd13
      case hd13 =>
       intro wS hSw
       have y4 : wS.cell? ⟨b, o + 4, none⟩ = some (.slice a4 x.writes.length d4) := by rw [hSw]; exact hX2.at 4 _ rfl
       clear hSw
       (try dsimp only at hSw)
       go_simp
       try with_reducible rfl
      refine tkH 14 zq ?_
      refine tkH 15 zq ?_
      refine tkH 16 zq ?_
      refine tkH 17 zq ?_
      refine tkH 18 zq ?_
      refine tkH 19 zq ?_
      refine tkJ 20 (v := ?vd20) ?hd20 zq ?rd20
      case hd20 =>
       intro wS hSw
       have y6 : wS.cell? ⟨b, o + 6, none⟩ = some (.int .i64 x.clean) := by rw [hSw]; exact hX2.at 6 _ rfl
       clear hSw
       (try dsimp only at hSw)
       go_simp
       try with_reducible rfl
      refine tkH 21 zq ?_
      refine tkH 22 zq ?_
      refine tkH 23 zq ?_
      refine tkH 24 zq ?_
      refine tkH 25 zq ?_
      refine tkH 26 zq ?_
      refine tkJ 27 (v := ?vd27) ?hd27 zq ?rd27
      case hd27 =>
       intro wS hSw
       have y3 : wS.cell? ⟨b, o + 3, none⟩ = some (.int .i64 x.lease) := by rw [hSw]; exact hX2.at 3 _ rfl
       clear hSw
       (try dsimp only at hSw)
       go_simp
       try with_reducible rfl
      refine tkH 28 zq ?_
      refine tkH 29 zq ?_
      refine tkH 30 zq ?_
      refine wpAnyH_done (by kernel_rfl) ?_ _
      refine NoPanic.normal ?_
      clear zq
      go_wp2_with fail
      go_ret
      exact ⟨by rw [uh HF3]; rfl, (uh HB).drew.drew⟩
     have HF3 : Hid (nodeFault x = 1) := (uh HF2).trans (if_pos ⟨rfl, by simp at e3; simp [downB, e3]⟩)
     clear HF2
     refine wp_region_noPanic ?_
     refine wp_region_held_drew (S := fun w' => w' = w2.drew.drew) (by kernel_rfl) rfl (fun zq => ?_)
     refine tkH 0 zq ?_
     refine tkH 1 zq ?_
     refine tkH 2 zq ?_
     refine tkJ 3 (v := ?ve3) ?he3 zq ?re3
     case he3 =>
      intro wS hSw
      have y1 : wS.cell? ⟨b, o + 1, none⟩ = some (.bool x.up) := by rw [hSw]; exact hX2.at 1 _ rfl
      clear hSw
      (try dsimp only at hSw)
      go_simp
      try with_reducible rfl
     refine tkH 4 zq ?_
     refine tkH 5 zq ?_
     refine tkH 6 zq ?_
     refine tkH 7 zq ?_
     refine tkH 8 zq ?_
     refine tkJ 9 (v := ?ve9) ?he9 zq ?re9
     case he9 =>
      intro wS hSw
      have y5 : wS.cell? ⟨b, o + 5, none⟩ = some (.int .i64 x.sure) := by rw [hSw]; exact hX2.at 5 _ rfl
      clear hSw
      (try dsimp only at hSw)
      go_simp
      try with_reducible rfl
     refine tkH 10 zq ?_
     refine tkH 11 zq ?_
     refine tkH 12 zq ?_
     refine tkJ 13 (v := ?ve13) ?he13 zq ?re13
     case he13 =>
      intro wS hSw
      have y4 : wS.cell? ⟨b, o + 4, none⟩ = some (.slice a4 x.writes.length d4) := by rw [hSw]; exact hX2.at 4 _ rfl
      clear hSw
      (try dsimp only at hSw)
      go_simp
      try with_reducible rfl
     refine tkH 14 zq ?_
     refine tkH 15 zq ?_
     refine tkH 16 zq ?_
     refine tkH 17 zq ?_
     refine tkH 18 zq ?_
     refine tkH 19 zq ?_
     refine tkJ 20 (v := ?ve20) ?he20 zq ?re20
     case he20 =>
      intro wS hSw
      have y6 : wS.cell? ⟨b, o + 6, none⟩ = some (.int .i64 x.clean) := by rw [hSw]; exact hX2.at 6 _ rfl
      clear hSw
      (try dsimp only at hSw)
      go_simp
      try with_reducible rfl
     refine tkH 21 zq ?_
     refine tkH 22 zq ?_
     refine tkH 23 zq ?_
     refine tkH 24 zq ?_
     refine tkH 25 zq ?_
     refine tkH 26 zq ?_
     refine tkJ 27 (v := ?ve27) ?he27 zq ?re27
     case he27 =>
      intro wS hSw
      have y3 : wS.cell? ⟨b, o + 3, none⟩ = some (.int .i64 x.lease) := by rw [hSw]; exact hX2.at 3 _ rfl
      clear hSw
      (try dsimp only at hSw)
      go_simp
      try with_reducible rfl
     refine tkH 28 zq ?_
     refine tkH 29 zq ?_
     refine tkH 30 zq ?_
     refine wpAnyH_done (by kernel_rfl) ?_ _
     refine NoPanic.normal ?_
     clear zq
     go_wp2_with fail
     go_ret
     exact ⟨by rw [uh HF3]; rfl, (uh HB).drew.drew⟩
    have HF3 : Hid (nodeFault x = 1) := (uh HF2).trans (if_pos ⟨rfl, by simp at e2; simp [downB, e2]⟩)
    clear HF2
    refine wp_region_noPanic ?_
    refine wp_region_held_drew (S := fun w' => w' = w2.drew.drew) (by kernel_rfl) rfl (fun zq => ?_)
    refine tkH 0 zq ?_
    refine tkH 1 zq ?_
    refine tkH 2 zq ?_
    refine tkJ 3 (v := ?vf3) ?hf3 zq ?rf3
    case hf3 =>
     intro wS hSw
     have y1 : wS.cell? ⟨b, o + 1, none⟩ = some (.bool x.up) := by rw [hSw]; exact hX2.at 1 _ rfl
     clear hSw
     (try dsimp only at hSw)
     go_simp
     try with_reducible rfl
    refine tkH 4 zq ?_
    refine tkH 5 zq ?_
    refine tkH 6 zq ?_
    refine tkH 7 zq ?_
    refine tkH 8 zq ?_
    refine tkJ 9 (v := ?vf9) ?hf9 zq ?rf9
    case hf9 =>
     intro wS hSw
     have y5 : wS.cell? ⟨b, o + 5, none⟩ = some (.int .i64 x.sure) := by rw [hSw]; exact hX2.at 5 _ rfl
     clear hSw
     (try dsimp only at hSw)
     go_simp
     try with_reducible rfl
    refine tkH 10 zq ?_
    refine tkH 11 zq ?_
    refine tkH 12 zq ?_
    refine tkJ 13 (v := ?vf13) ?hf13 zq ?rf13
    case hf13 =>
     intro wS hSw
     have y4 : wS.cell? ⟨b, o + 4, none⟩ = some (.slice a4 x.writes.length d4) := by rw [hSw]; exact hX2.at 4 _ rfl
     clear hSw
     (try dsimp only at hSw)
     go_simp
     try with_reducible rfl
    refine tkH 14 zq ?_
    refine tkH 15 zq ?_
    refine tkH 16 zq ?_
    refine tkH 17 zq ?_
    refine tkH 18 zq ?_
    refine tkH 19 zq ?_
    refine tkJ 20 (v := ?vf20) ?hf20 zq ?rf20
    case hf20 =>
     intro wS hSw
     have y6 : wS.cell? ⟨b, o + 6, none⟩ = some (.int .i64 x.clean) := by rw [hSw]; exact hX2.at 6 _ rfl
     clear hSw
     (try dsimp only at hSw)
     go_simp
     try with_reducible rfl
    refine tkH 21 zq ?_
    refine tkH 22 zq ?_
    refine tkH 23 zq ?_
    refine skH 24 zq ?_
    refine skH 25 zq ?_
    refine skH 26 zq ?_
    refine skH 27 zq ?_
    refine skH 28 zq ?_
    refine tkH 29 zq ?_
    refine tkH 30 zq ?_
    refine wpAnyH_done (by kernel_rfl) ?_ _
    refine NoPanic.normal ?_
    clear zq
    go_wp2_with fail
    go_ret
    exact ⟨by rw [uh HF3]; rfl, (uh HB).drew.drew⟩
   have HF3 : Hid (nodeFault x = 1) := (uh HF2).trans (if_pos ⟨rfl, by simp at e1; simp [downB, e1]⟩)
   clear HF2
   refine wp_region_noPanic ?_
   refine wp_region_held_drew (S := fun w' => w' = w2.drew.drew) (by kernel_rfl) rfl (fun zq => ?_)
   refine tkH 0 zq ?_
   refine tkH 1 zq ?_
   refine tkH 2 zq ?_
   refine tkJ 3 (v := ?vg3) ?hg3 zq ?rg3
   case hg3 =>
    intro wS hSw
    have y1 : wS.cell? ⟨b, o + 1, none⟩ = some (.bool x.up) := by rw [hSw]; exact hX2.at 1 _ rfl
    clear hSw
    (try dsimp only at hSw)
    go_simp
    try with_reducible rfl
   refine tkH 4 zq ?_
   refine tkH 5 zq ?_
   refine tkH 6 zq ?_
   refine tkH 7 zq ?_
   refine tkH 8 zq ?_
   refine tkJ 9 (v := ?vg9) ?hg9 zq ?rg9
   case hg9 =>
    intro wS hSw
    have y5 : wS.cell? ⟨b, o + 5, none⟩ = some (.int .i64 x.sure) := by rw [hSw]; exact hX2.at 5 _ rfl
    clear hSw
    (try dsimp only at hSw)
    go_simp
    try with_reducible rfl
   refine tkH 10 zq ?_
   refine tkH 11 zq ?_
   refine tkH 12 zq ?_
   refine tkJ 13 (v := ?vg13) ?hg13 zq ?rg13
   case hg13 =>
    intro wS hSw
    have y4 : wS.cell? ⟨b, o + 4, none⟩ = some (.slice a4 x.writes.length d4) := by rw [hSw]; exact hX2.at 4 _ rfl
    clear hSw
    (try dsimp only at hSw)
    go_simp
    try with_reducible rfl
   refine tkH 14 zq ?_
   refine tkH 15 zq ?_
   refine tkH 16 zq ?_
   refine skH 17 zq ?_
   refine skH 18 zq ?_
   refine skH 19 zq ?_
   refine skH 20 zq ?_
   refine skH 21 zq ?_
   refine tkH 22 zq ?_
   refine tkH 23 zq ?_
   refine skH 24 zq ?_
   refine skH 25 zq ?_
   refine skH 26 zq ?_
   refine skH 27 zq ?_
   refine skH 28 zq ?_
   refine tkH 29 zq ?_
   refine tkH 30 zq ?_
   refine wpAnyH_done (by kernel_rfl) ?_ _
   refine NoPanic.normal ?_
   clear zq
   go_wp2_with fail
   go_ret
   exact ⟨by rw [uh HF3]; rfl, (uh HB).drew.drew⟩
  have HF3 : Hid (nodeFault x = 0) := (uh HF2).trans (if_neg (by rw [hu]; simp))
  clear HF2
  refine wp_region_noPanic ?_
  refine wp_region_held_drew (S := fun w' => w' = w2.drew.drew) (by kernel_rfl) rfl (fun zq => ?_)
  refine tkH 0 zq ?_
  refine tkH 1 zq ?_
  refine tkH 2 zq ?_
  refine tkJ 3 (v := ?vh3) ?hh3 zq ?rh3
  case hh3 =>
   intro wS hSw
   have y1 : wS.cell? ⟨b, o + 1, none⟩ = some (.bool x.up) := by rw [hSw]; exact hX2.at 1 _ rfl
   clear hSw
   (try dsimp only at hSw)
   go_simp
   try with_reducible rfl
  refine tkH 4 zq ?_
  refine tkH 5 zq ?_
  refine skH 6 zq ?_
  refine skH 7 zq ?_
  refine skH 8 zq ?_
  refine skH 9 zq ?_
  refine skH 10 zq ?_
  refine skH 11 zq ?_
  refine skH 12 zq ?_
  refine skH 13 zq ?_
  refine skH 14 zq ?_
  refine skH 15 zq ?_
  refine skH 16 zq ?_
  refine skH 17 zq ?_
  refine skH 18 zq ?_
  refine skH 19 zq ?_
  refine skH 20 zq ?_
  refine skH 21 zq ?_
  refine skH 22 zq ?_
  refine skH 23 zq ?_
  refine skH 24 zq ?_
  refine skH 25 zq ?_
  refine skH 26 zq ?_
  refine skH 27 zq ?_
  refine skH 28 zq ?_
  refine skH 29 zq ?_
  refine tkH 30 zq ?_
  refine wpAnyH_done (by kernel_rfl) ?_ _
  refine NoPanic.normal ?_
  clear zq
  go_wp2_with fail
  go_ret
  exact ⟨by rw [uh HF3]; rfl, (uh HB).drew.drew⟩
 have hd : (wsFrom x.writes != 0) = true := by simpa using hs
 have HT : Hid (takenF x.writes = wsFrom x.writes) := by show takenF x.writes = _; rw [takenF, if_neg hn, if_pos hs]
 have HF1 := yh ((uh HF).trans (if_pos (by rw [uh HT]; exact hs)))
 rw [uh HT] at HF1
 clear HF HT hs HW
 generalize wsFrom x.writes = c at *
 go_wp2_with fail
 go_ret
 exact ⟨by rw [uh HF1]; rfl, Below.refl _ _⟩
theorem node_vecs9 {x : DNode} (h : NodeOK x) : ∀ y ∈ x.writes, y.vec.length ≤ 100000000 := fun y hy => by
 obtain ⟨-, -, -, hk⟩ := writeFault_zero (h.ws y hy)
 rcases hk with ⟨-, hv⟩ | ⟨-, hv⟩
 ·
  have := (vecFault_zero hv).1; omega
 rw [hv]; simp
theorem grown_set9 (w : World) (b o : Nat) (u : Value) : w.grownBy (w.setCell ⟨b, o, none⟩ u) (some b) :=
 ⟨rfl, rfl, rfl, by simp, fun k _ hk => heap_setCell_other w ⟨b, o, none⟩ k u (fun e => hk (by rw [e]))⟩
theorem grow_setAll {α : Type} {A : Lay α} {w : World} {base T : Nat} {v : Value} {rows : List (List Value)} {xs : List α} {bls : List (List Nat)} (h : Grow A w base T v rows xs bls) (s i : Nat) (vs : List Value) (hs : s < base) (hb : ∀ c ∈ bls.flatten, base ≤ c) : Grow A (setAll w s i vs) base T v rows xs bls := by
 induction vs generalizing w i with
 | nil => exact h
 | cons u us ih => exact ih (h.grown (grown_set9 w s i u) hs hb) (i + 1)
theorem ncopyG (cs : List Value) (x : DNode) (w : World) (h : Lay.tNode.Reads w cs x) (hn : x.writes.length ≤ 1000000) (hv : ∀ y ∈ x.writes, y.vec.length ≤ 100000000) :
  Calls Tryz.prog 223 #[.agg cs.toArray] w fun e w' => ∃ a6 d6 rows bls, e = .returned (.agg #[.int .i64 x.id, .bool x.up, .int .i64 x.epoch, .int .i64 x.lease, .slice a6 x.writes.length d6, .int .i64 x.sure, .int .i64 x.clean]) ∧ Grow Lay.tWrite w' w.heap.size 87 (.slice a6 x.writes.length d6) rows x.writes bls ∧ (∀ c ∈ bls.flatten, w.heap.size ≤ c) ∧ Below w.heap.size w w' := by
 obtain ⟨a4, d4, rfl, R4⟩ := open_Node h
 have nb : Below w.heap.size w ((w.alloc (.cells #[.int .i64 x.id, .bool x.up, .int .i64 x.epoch, .int .i64 x.lease, .slice a4 x.writes.length d4, .int .i64 x.sure, .int .i64 x.clean] 84)).alloc (.cells #[.int .i64 0, .bool false, .int .i64 0, .int .i64 0, .slice none 0 0, .int .i64 0, .int .i64 0] 84)) := ((Below.refl _ _).alloc (Nat.le_refl _) _).alloc (by simp) _
 have bX : Box 0 #[.int .i64 x.id, .bool x.up, .int .i64 x.epoch, .int .i64 x.lease, .slice a4 x.writes.length d4, .int .i64 x.sure, .int .i64 x.clean] 84 ((w.alloc (.cells #[.int .i64 x.id, .bool x.up, .int .i64 x.epoch, .int .i64 x.lease, .slice a4 x.writes.length d4, .int .i64 x.sure, .int .i64 x.clean] 84)).alloc (.cells #[.int .i64 0, .bool false, .int .i64 0, .int .i64 0, .slice none 0 0, .int .i64 0, .int .i64 0] 84)) w.heap.size := (newBox (Nat.zero_le _)).grow _
 have bR : Box 0 #[.int .i64 0, .bool false, .int .i64 0, .int .i64 0, .slice none 0 0, .int .i64 0, .int .i64 0] 84 ((w.alloc (.cells #[.int .i64 x.id, .bool x.up, .int .i64 x.epoch, .int .i64 x.lease, .slice a4 x.writes.length d4, .int .i64 x.sure, .int .i64 x.clean] 84)).alloc (.cells #[.int .i64 0, .bool false, .int .i64 0, .int .i64 0, .slice none 0 0, .int .i64 0, .int .i64 0] 84)) (w.heap.size + 1) := newBoxAt (Nat.zero_le _) (by simp)
 have HL := yh (wcopyC _ x.writes _ (R4.later nb) (by omega) hv)
 have HX := yh bX
 have HR := yh bR
 have HB := yh nb
 clear h nb bX bR R4 hv
 go_enter Tryz.func223, Tryz.ntmps223
 go_wp2_with fail
 generalize (w.alloc (.cells #[.int .i64 x.id, .bool x.up, .int .i64 x.epoch, .int .i64 x.lease, .slice a4 x.writes.length d4, .int .i64 x.sure, .int .i64 x.clean] 84)).alloc (.cells #[.int .i64 0, .bool false, .int .i64 0, .int .i64 0, .slice none 0 0, .int .i64 0, .int .i64 0] 84) = W0 at *
 refine (uh HL).mono ?_
 rintro e w1 ⟨v6, rfl, ⟨rows, bls, hG, hS⟩, hb⟩
 have hl := hG.toLies (by omega) hS
 obtain ⟨a6, d6, rfl⟩ := open_sl hl.reads
 have bX1 := (uh HX).keep hb
 have bR1 := (uh HR).keep hb
 have hlo := (uh HR).lt
 have y0 := Box.at bX1 0 _ rfl
 have y1 := Box.at bX1 1 _ rfl
 have y2 := Box.at bX1 2 _ rfl
 have y3 := Box.at bX1 3 _ rfl
 have y4 := Box.at bX1 4 _ rfl
 have y5 := Box.at bX1 5 _ rfl
 have y6 := Box.at bX1 6 _ rfl
 simp only [ga, gb, gc] at y0 y1 y2 y3 y4 y5 y6
 have z0 := Box.at bR1 0 _ rfl
 have z1 := Box.at bR1 1 _ rfl
 have z2 := Box.at bR1 2 _ rfl
 have z3 := Box.at bR1 3 _ rfl
 have z4 := Box.at bR1 4 _ rfl
 have z5 := Box.at bR1 5 _ rfl
 have z6 := Box.at bR1 6 _ rfl
 simp only [ga, gb, gc] at z0 z1 z2 z3 z4 z5 z6
 have yf := Box.soft bX1
 have yl := Box.lt bX1
 have ff := Box.soft bR1
 have l0 := Box.lt bR1
 have HB1 := yh ((uh HB).trans (hb.mono (uh HB).size))
 have HO1 := yh hG
 have HS1 := yh hS
 have HZ0 := yh hb.size
 clear hb hG hS hl bX1 bR1 HL HX HR HB
 go_wp2_with fail
 refine bodyPost_ret (v := .agg #[.int .i64 x.id, .bool x.up, .int .i64 x.epoch, .int .i64 x.lease, .slice a6 x.writes.length d6, .int .i64 x.sure, .int .i64 x.clean]) (by simp [results, Tryz.results223, go_sem, z0, z1, z2, z3, z4, z5, z6]) rfl ?_
 have hB8 : Below w.heap.size w (w1.setCell ⟨w.heap.size, 4, none⟩ (.slice a6 x.writes.length d6)) := (uh HB1).setCell (by simp) _
 have hB9 := below_setAll hB8 (w.heap.size + 1) 0 [.int .i64 x.id, .bool x.up, .int .i64 x.epoch, .int .i64 x.lease, .slice a6 x.writes.length d6, .int .i64 x.sure, .int .i64 x.clean] (by omega)
 have g1 := (uh HO1).grown (grown_set9 w1 w.heap.size 4 (.slice a6 x.writes.length d6)) (by omega) (uh HS1)
 have g2 := grow_setAll g1 (w.heap.size + 1) 0 [.int .i64 x.id, .bool x.up, .int .i64 x.epoch, .int .i64 x.lease, .slice a6 x.writes.length d6, .int .i64 x.sure, .int .i64 x.clean] (by omega) (uh HS1)
 exact ⟨a6, d6, rows, bls, rfl, g2.lower (by omega), fun c hc => by have := uh HS1 c hc; omega, hB9⟩
abbrev o137x1 : Oper := ⟨some 3, .alloc 36, 0, "l12_world.go:81", #[], none⟩
abbrev o137x2 : Oper := ⟨some 26, .load 32 (.tmp 25), 32, "l12_world.go:83", #[⟨0, .data⟩], none⟩
theorem box_set7Z {lo : Nat} {T : TypeId} {W : World} {s : Nat} {c0 c1 c2 c3 c4 c5 c6 : Value} (h : Box lo #[c0, c1, c2, c3, c4, c5, c6] T W s) (v0 v1 v2 v3 v4 v5 v6 : Value) : Box lo #[v0, v1, v2, v3, v4, v5, v6] T (setAll W s 0 [v0, v1, v2, v3, v4, v5, v6]) s := by
 have q := (Box.set (Box.set (Box.set (Box.set (Box.set (Box.set (Box.set h 0 v0) 1 v1) 2 v2) 3 v3) 4 v4) 5 v5) 6 v6)
 simp only [List.setIfInBounds_toArray, List.set_cons_zero, List.set_cons_succ] at q
 exact q
theorem box_lowW {lo : Nat} {cs : Array Value} {T : TypeId} {W w' : World} {s B : Nat} (h : Box lo cs T W s) (hb : Below B W w') (hs : s < B) : Box lo cs T w' s := ⟨h.1, (hb.block s hs).trans h.2⟩
theorem grow_keepW {α : Type} {A : Lay α} {S : Nat → Prop} {w w' : World} {base T : Nat} {v : Value} {rows : List (List Value)} {xs : List α} {bls : List (List Nat)} (h : Grow A w base T v rows xs bls) (e : Ext S w w') (h1 : ∀ c ∈ bls.flatten, ¬ S c) (h2 : ∀ g, v.ownBlock = some g → ¬ S g) : Grow A w' base T v rows xs bls := by
 refine h.kept ?_ (fun c hc => e.block c (h.sub_lt c hc) (h1 c hc))
 obtain ⟨q1, q2⟩ := h.own
 refine ⟨q1, ?_⟩
 rcases q2 with q2 | ⟨g, cap, cu, hv, hg, hh, r⟩
 ·
  exact Or.inl q2
 exact Or.inr ⟨g, cap, cu, hv, hg, (e.block g (lt_of_block hh) (h2 g (by rw [hv]; rfl))).trans hh, r⟩
theorem liesIn_below {α : Type} {A : Lay α} {w w' : World} {cs : List Value} {x : α} {lo hi B : Nat} (h : A.LiesIn w cs x lo hi) (hb : Below B w w') (hh : hi ≤ B) : A.LiesIn w' cs x lo hi := by
 obtain ⟨bl, l, hl⟩ := h
 exact ⟨bl, A.keep l fun b hm => hb.block b (by have := hl b hm; omega), hl⟩
theorem WNew.ext {S : Nat → Prop} {W W' : World} {lo hi : Nat} {cells : List Value} {x : DWorld} (h : WNew W lo hi cells x) (e : Ext S W W') (hs : ∀ k, lo ≤ k → k < hi → ¬ S k) : WNew W' lo hi cells x := by
 obtain ⟨q, rfl, hl, hb, h3, hr, h5, h6⟩ := h
 refine ⟨q, rfl, hl.ext e (fun c hc hm => ?_), hb, h3, hr, h5, h6⟩
 rcases hm with rfl | hm | hm | hm | hm
 ·
  exact hs _ hb.1 hb.2
 ·
  exact hs c (h3 c hm).1 (h3 c hm).2
 ·
  exact hs c (hr c hm).1 (hr c hm).2
 ·
  exact hs c (h5 c hm).1 (h5 c hm).2
 exact hs c (h6 c hm).1 (h6 c hm).2
def wfE (e : DEntry) : Prop := (Lit.int .i64 e.kind).wf = true ∧ (Lit.int .i64 e.session).wf = true ∧ (Lit.int .i64 e.seq).wf = true ∧ (Lit.int .i64 e.id).wf = true ∧ (Lit.int .i64 e.k).wf = true ∧ (Lit.int .i64 e.start).wf = true ∧ (Lit.int .i64 e.fin).wf = true ∧ (Lit.int .i64 e.place).wf = true
theorem l12CopyC (cs : List Value) (x : DWorld) (w : World) (h : Lay.tWorld.Reads w cs x) (hok : WorldOK x) (hf : Fits x) :
  Calls Tryz.prog 154 #[.agg cs.toArray] w fun e w' => ∃ cs', e = .returned (.agg cs'.toArray) ∧ WNew w' w.heap.size w'.heap.size cs' x ∧ Below w.heap.size w w' := by
 obtain ⟨a3, d3, a4, d4, a5, d5, a6, d6, rfl, RC, RN, RM, RE⟩ := open_World h
 have nb : Below w.heap.size w ((w.alloc (.cells #[.int .i64 x.now, .int .i64 x.events, .int .i64 x.chain.epoch, .slice a3 x.chain.ids.length d3, .slice a4 x.nodes.length d4, .slice a5 x.msgs.length d5, .slice a6 x.history.length d6] 36)).alloc (.cells #[.int .i64 0, .int .i64 0, .int .i64 0, .slice none 0 0, .slice none 0 0, .slice none 0 0, .slice none 0 0] 36)) := ((Below.refl _ _).alloc (Nat.le_refl _) _).alloc (by simp) _
 have hz0 : ((w.alloc (.cells #[.int .i64 x.now, .int .i64 x.events, .int .i64 x.chain.epoch, .slice a3 x.chain.ids.length d3, .slice a4 x.nodes.length d4, .slice a5 x.msgs.length d5, .slice a6 x.history.length d6] 36)).alloc (.cells #[.int .i64 0, .int .i64 0, .int .i64 0, .slice none 0 0, .slice none 0 0, .slice none 0 0, .slice none 0 0] 36)).heap.size = w.heap.size + 2 := by simp
 obtain ⟨b, off, rfl, hbl⟩ := Lay.sl_addr RN (by have := hok.some; omega)
 have HX : Hid (Box 0 #[.int .i64 x.now, .int .i64 x.events, .int .i64 x.chain.epoch, .slice a3 x.chain.ids.length d3, .slice (some ⟨b, off, none⟩) x.nodes.length d4, .slice a5 x.msgs.length d5, .slice a6 x.history.length d6] 36 ((w.alloc (.cells #[.int .i64 x.now, .int .i64 x.events, .int .i64 x.chain.epoch, .slice a3 x.chain.ids.length d3, .slice (some ⟨b, off, none⟩) x.nodes.length d4, .slice a5 x.msgs.length d5, .slice a6 x.history.length d6] 36)).alloc (.cells #[.int .i64 0, .int .i64 0, .int .i64 0, .slice none 0 0, .slice none 0 0, .slice none 0 0, .slice none 0 0] 36)) w.heap.size) := (newBox (Nat.zero_le _)).grow _
 have HY : Hid (Box 0 #[.int .i64 0, .int .i64 0, .int .i64 0, .slice none 0 0, .slice none 0 0, .slice none 0 0, .slice none 0 0] 36 ((w.alloc (.cells #[.int .i64 x.now, .int .i64 x.events, .int .i64 x.chain.epoch, .slice a3 x.chain.ids.length d3, .slice (some ⟨b, off, none⟩) x.nodes.length d4, .slice a5 x.msgs.length d5, .slice a6 x.history.length d6] 36)).alloc (.cells #[.int .i64 0, .int .i64 0, .int .i64 0, .slice none 0 0, .slice none 0 0, .slice none 0 0, .slice none 0 0] 36)) (w.heap.size + 1)) := newBoxAt (Nat.zero_le _) (by simp)
 have HRC := yh (RC.later nb)
 have HRM := yh (RM.later nb)
 have HRN := yh (RN.later nb)
 have HRE := yh (RE.later nb)
 have HWF := yh (wf_World h)
 have HOK := yh hok
 have HN3 : Hid (x.chain.ids.length ≤ 100000000) := by have := (chainFault_zero hok.chain).len; show x.chain.ids.length ≤ 100000000; omega
 have HN5 : Hid (x.msgs.length ≤ 10000000 ∧ ∀ m ∈ x.msgs, m.write.vec.length ≤ 100000000) := ⟨by have := (netFault_zero hok.net).1; omega, msgs_vec hok.net⟩
 have HF := yh hf
 have HB := yh nb
 have hbl0 : b < ((w.alloc (.cells #[.int .i64 x.now, .int .i64 x.events, .int .i64 x.chain.epoch, .slice a3 x.chain.ids.length d3, .slice (some ⟨b, off, none⟩) x.nodes.length d4, .slice a5 x.msgs.length d5, .slice a6 x.history.length d6] 36)).alloc (.cells #[.int .i64 0, .int .i64 0, .int .i64 0, .slice none 0 0, .slice none 0 0, .slice none 0 0, .slice none 0 0] 36)).heap.size := Nat.lt_of_lt_of_le hbl nb.size
 clear nb h RC RN RM RE hok hf hbl
 go_enter Tryz.func154, Tryz.ntmps154
 go_upto_region 1 with fail
 generalize (w.alloc (.cells #[.int .i64 x.now, .int .i64 x.events, .int .i64 x.chain.epoch, .slice a3 x.chain.ids.length d3, .slice (some ⟨b, off, none⟩) x.nodes.length d4, .slice a5 x.msgs.length d5, .slice a6 x.history.length d6] 36)).alloc (.cells #[.int .i64 0, .int .i64 0, .int .i64 0, .slice none 0 0, .slice none 0 0, .slice none 0 0, .slice none 0 0] 36) = W0 at *
 go_cut [3] from 7 to 17 (fun s3 wx => ∃ (wz : World) (g : Nat) (v3 v5 : Value), wz = wx ∧ s3 = .pointer (some ⟨g, 0, none⟩) ∧ Box 0 #[.int .i64 x.now, .int .i64 x.events, .int .i64 x.chain.epoch, v3, .slice none 0 0, v5, .slice none 0 0] 36 wz g ∧ Clear Lay.int wz v3 x.chain.ids W0.heap.size wz.heap.size g ∧ Clear Lay.tMsg wz v5 x.msgs W0.heap.size wz.heap.size g ∧ W0.heap.size ≤ g ∧ Below W0.heap.size W0 wz)
 case first =>
  have z0 := Box.at (uh HX) 0 _ rfl
  have z1 := Box.at (uh HX) 1 _ rfl
  have z2 := Box.at (uh HX) 2 _ rfl
  have z3 := Box.at (uh HX) 3 _ rfl
  have z5 := Box.at (uh HX) 5 _ rfl
  simp only [ga, gb, gc] at z0 z1 z2 z3 z5
  have hxl := (uh HX).lt
  have HDS : W0.heap.size ≤ W0.drew.heap.size := Nat.le_refl _
  clear HX HY HRN HRE HOK HF HB
  refine wp_region_noPanic ?_
  refine wp_region_held_drew (S := fun w' => Below W0.heap.size W0 w') (by kernel_rfl) ((Below.refl _ _).drew) (fun zq => ?_)
  generalize W0.drew = wD at zq HDS ⊢
  refine tkH 0 zq ?_
  refine tkJ 1 (v := ?ve1_2) ?he1_2 zq ?re1_2
  case he1_2 =>
   intro wS hSw
   have q0 := (hSw.cell (p := ⟨w.heap.size, 0, none⟩) hxl).trans z0
   clear hSw
   (try dsimp only at hSw)
   go_simp
   try with_reducible rfl
  refine tkH 2 zq ?_
  refine tkJ 3 (v := ?ve3_4) ?he3_4 zq ?re3_4
  case he3_4 =>
   intro wS hSw
   have q1 := (hSw.cell (p := ⟨w.heap.size, 1, none⟩) hxl).trans z1
   clear hSw
   (try dsimp only at hSw)
   go_simp
   try with_reducible rfl
  refine tkH 4 zq ?_
  refine tkJ 5 (v := ?ve5_6) ?he5_6 zq ?re5_6
  case he5_6 =>
   intro wS hSw
   have q2 := (hSw.cell (p := ⟨w.heap.size, 2, none⟩) hxl).trans z2
   have q3 := (hSw.cell (p := ⟨w.heap.size, 3, none⟩) hxl).trans z3
   clear hSw
   (try dsimp only at hSw)
   go_simp
   try with_reducible rfl
  refine tkH 7 zq ?_
  refine tkJ 8 (v := ?ve8_8) ?he8_8 zq ?re8_8
  case he8_8 =>
   intro wS hSw
   have q5 := (hSw.cell (p := ⟨w.heap.size, 5, none⟩) hxl).trans z5
   clear hSw
   (try dsimp only at hSw)
   go_simp
   try with_reducible rfl
  refine wpAnyH_ready (rs := [6, 11]) (by kernel_rfl) (by simp) ?_
  refine AllReadyH.cons (o := ⟨some 13, .call { callee := .value (.func 222), args := #[.tmp 12], argTypes := #[31] }, 31, "l12_world.go:81", #[⟨5, .data⟩], none⟩) rfl (fun K hK => ?oe6_9) (AllReadyH.cons (o := o137x1) rfl (fun K hK => ?oe11_9) (AllReadyH.nil))
  case oe6_9 =>
   go_simp
   go_at_call 222
   refine (l10CopyC _ x.chain _ ((uh HRC).later zq) (uh HN3)).mono ?_
   rintro e u6 ⟨a3q, c3q, rfl, O3, hb6⟩
   have hz6 : wD.heap.size ≤ u6.heap.size := hb6.size
   try go_wp2_with fail
   refine hK.out _ _ (zq.trans (hb6.mono zq.size)) (fun zq => ?_)
   clear hK K
   try simp only [Act.put, pz, py, px]
   refine wpAnyH_ready (rs := [9, 11]) (by kernel_rfl) (by simp) ?_
   refine AllReadyH.cons (o := ⟨some 16, .call { callee := .value (.func 210), args := #[.tmp 15], argTypes := #[33] }, 33, "l12_world.go:81", #[⟨8, .data⟩, ⟨6, .chain⟩], none⟩) rfl (fun K hK => ?oe9_10) (AllReadyH.cons (o := o137x1) rfl (fun K hK => ?oe11_10) (AllReadyH.nil))
   case oe9_10 =>
    go_simp
    go_at_call 210
    refine (mcopyC _ x.msgs _ ((uh HRM).later zq) (uh HN5).1 (uh HN5).2).mono ?_
    rintro e u9 ⟨v5, rfl, ⟨rows, bls, G9, hs9⟩, hb9⟩
    have hz9 : u6.heap.size ≤ u9.heap.size := hb9.size
    obtain ⟨a5q, c5q, rfl⟩ := own_shape G9.own
    have O5 := G9.toLies (by have := (uh HN5).1; omega) hs9
    replace O3 := O3.later hb9
    try go_wp2_with fail
    refine hK.out _ _ (zq.trans (hb9.mono zq.size)) (fun zq => ?_)
    clear hK K
    try simp only [Act.put, pz, py, px]
    refine tkH 10 zq ?_
    refine rdH 11 (fun K hK => ?_)
    have HG : Hid (Box 0 #[.int .i64 0, .int .i64 0, .int .i64 0, .slice none 0 0, .slice none 0 0, .slice none 0 0, .slice none 0 0] 36 (u9.alloc (.cells #[.int .i64 0, .int .i64 0, .int .i64 0, .slice none 0 0, .slice none 0 0, .slice none 0 0, .slice none 0 0] 36)) u9.heap.size) := newBox (Nat.zero_le _)
    have hH11 := zq
    go_simp
    refine hK.out _ _ (zq.alloc zq.size _) (fun zq => ?_)
    clear hK K
    try simp only [Act.put, pz, py, px]
    refine rdH 12 (fun K hK => ?_)
    have hzD := hH11.size
    go_simp
    refine hK.out _ _ (hH11.alloc hH11.size _) (fun zq => ?_)
    clear hK K
    try simp only [Act.put, pz, py, px]
    refine wpAnyH_done (by kernel_rfl) ?_ _
    refine NoPanic.normal ?_
    go_wp2_with fail
    go_meet
    have nb2 : Below u9.heap.size u9 (u9.alloc (.cells #[.int .i64 x.now, .int .i64 x.events, .int .i64 x.chain.epoch, .slice a3q x.chain.ids.length c3q, .slice none 0 0, .slice a5q x.msgs.length c5q, .slice none 0 0] 36)) := (Below.refl _ _).alloc (Nat.le_refl _) _
    have hss : (u9.alloc (.cells #[.int .i64 x.now, .int .i64 x.events, .int .i64 x.chain.epoch, .slice a3q x.chain.ids.length c3q, .slice none 0 0, .slice a5q x.msgs.length c5q, .slice none 0 0] 36)).heap.size = u9.heap.size + 1 := by simp
    have C3 := (clear_of (g := u9.heap.size) (O3.lies.later nb2) (by omega)).wide (lo' := W0.heap.size) (hi' := (u9.alloc (.cells #[.int .i64 x.now, .int .i64 x.events, .int .i64 x.chain.epoch, .slice a3q x.chain.ids.length c3q, .slice none 0 0, .slice a5q x.msgs.length c5q, .slice none 0 0] 36)).heap.size) (by omega) (by omega)
    have C5 := (clear_of (g := u9.heap.size) (O5.later nb2) (by omega)).wide (lo' := W0.heap.size) (hi' := (u9.alloc (.cells #[.int .i64 x.now, .int .i64 x.events, .int .i64 x.chain.epoch, .slice a3q x.chain.ids.length c3q, .slice none 0 0, .slice a5q x.msgs.length c5q, .slice none 0 0] 36)).heap.size) (by omega) (by omega)
    exact ⟨_, u9.heap.size, _, _, rfl, rfl, newBox (Nat.zero_le _), C3, C5, by omega, zq⟩
   case oe11_10 =>
    have HG : Hid (Box 0 #[.int .i64 0, .int .i64 0, .int .i64 0, .slice none 0 0, .slice none 0 0, .slice none 0 0, .slice none 0 0] 36 (u6.alloc (.cells #[.int .i64 0, .int .i64 0, .int .i64 0, .slice none 0 0, .slice none 0 0, .slice none 0 0, .slice none 0 0] 36)) u6.heap.size) := newBox (Nat.zero_le _)
    have hza : u6.heap.size < (u6.alloc (.cells #[.int .i64 0, .int .i64 0, .int .i64 0, .slice none 0 0, .slice none 0 0, .slice none 0 0, .slice none 0 0] 36)).heap.size := by simp
    have nba : Below u6.heap.size u6 (u6.alloc (.cells #[.int .i64 0, .int .i64 0, .int .i64 0, .slice none 0 0, .slice none 0 0, .slice none 0 0, .slice none 0 0] 36)) := (Below.refl _ _).alloc (Nat.le_refl _) _
    replace O3 := O3.later nba
    go_simp
    refine hK.out _ _ (zq.alloc zq.size _) (fun zq => ?_)
    clear hK K
    try simp only [Act.put, pz, py, px]
    refine rdH 9 (fun K hK => ?_)
    go_simp
    go_at_call 210
    refine (mcopyC _ x.msgs _ ((uh HRM).later zq) (uh HN5).1 (uh HN5).2).mono ?_
    rintro e u9 ⟨v5, rfl, ⟨rows, bls, G9, hs9⟩, hb9⟩
    have hz9 : (u6.alloc (.cells #[.int .i64 0, .int .i64 0, .int .i64 0, .slice none 0 0, .slice none 0 0, .slice none 0 0, .slice none 0 0] 36)).heap.size ≤ u9.heap.size := hb9.size
    obtain ⟨a5q, c5q, rfl⟩ := own_shape G9.own
    have O5 := G9.toLies (by have := (uh HN5).1; omega) hs9
    have HG9 := yh ((uh HG).keep hb9)
    clear HG
    have HG := HG9
    clear HG9
    replace O3 := O3.later hb9
    try go_wp2_with fail
    refine hK.out _ _ (zq.trans (hb9.mono zq.size)) (fun zq => ?_)
    clear hK K
    try simp only [Act.put, pz, py, px]
    refine tkH 10 zq ?_
    refine rdH 12 (fun K hK => ?_)
    have hzD := zq.size
    have r0 := Box.at (uh HG) 0 _ rfl
    have r1 := Box.at (uh HG) 1 _ rfl
    have r2 := Box.at (uh HG) 2 _ rfl
    have r3 := Box.at (uh HG) 3 _ rfl
    have r4 := Box.at (uh HG) 4 _ rfl
    have r5 := Box.at (uh HG) 5 _ rfl
    have r6 := Box.at (uh HG) 6 _ rfl
    simp only [ga, gb, gc] at r0 r1 r2 r3 r4 r5 r6
    have rf := Box.soft (uh HG)
    have rl := (uh HG).lt
    go_simp
    refine hK.out _ _ (Below.setCell (Below.setCell (Below.setCell (Below.setCell (Below.setCell (Below.setCell (Below.setCell zq (p := ⟨u6.heap.size, 0, none⟩) (by simp only []; omega) (.int .i64 x.now)) (p := ⟨u6.heap.size, 1, none⟩) (by simp only []; omega) (.int .i64 x.events)) (p := ⟨u6.heap.size, 2, none⟩) (by simp only []; omega) (.int .i64 x.chain.epoch)) (p := ⟨u6.heap.size, 3, none⟩) (by simp only []; omega) (.slice a3q x.chain.ids.length c3q)) (p := ⟨u6.heap.size, 4, none⟩) (by simp only []; omega) (.slice none 0 0)) (p := ⟨u6.heap.size, 5, none⟩) (by simp only []; omega) (.slice a5q x.msgs.length c5q)) (p := ⟨u6.heap.size, 6, none⟩) (by simp only []; omega) (.slice none 0 0)) (fun zq => ?_)
    clear hK K
    try simp only [Act.put, pz, py, px]
    refine wpAnyH_done (by kernel_rfl) ?_ _
    refine NoPanic.normal ?_
    go_wp2_with fail
    go_meet
    have hbx := box_set7Z (uh HG) (.int .i64 x.now) (.int .i64 x.events) (.int .i64 x.chain.epoch) (.slice a3q x.chain.ids.length c3q) (.slice none 0 0) (.slice a5q x.msgs.length c5q) (.slice none 0 0)
    have e1 : Ext (fun q => q = u6.heap.size) u9 (setAll u9 u6.heap.size 0 [.int .i64 x.now, .int .i64 x.events, .int .i64 x.chain.epoch, .slice a3q x.chain.ids.length c3q, .slice none 0 0, .slice a5q x.msgs.length c5q, .slice none 0 0]) := ext_setAll _ (Ext.refl _ _) _ _ _ rfl
    have hss : (setAll u9 u6.heap.size 0 [.int .i64 x.now, .int .i64 x.events, .int .i64 x.chain.epoch, .slice a3q x.chain.ids.length c3q, .slice none 0 0, .slice a5q x.msgs.length c5q, .slice none 0 0]).heap.size = u9.heap.size := size_setAll _ _ _ _
    have C3 := ((clear_of (g := u6.heap.size) O3.lies (by omega)).ext e1 (fun k h1 h2 h3 h4 => h3 h4)).wide (lo' := W0.heap.size) (hi' := (setAll u9 u6.heap.size 0 [.int .i64 x.now, .int .i64 x.events, .int .i64 x.chain.epoch, .slice a3q x.chain.ids.length c3q, .slice none 0 0, .slice a5q x.msgs.length c5q, .slice none 0 0]).heap.size) (by omega) (by omega)
    have C5 := ((clear_of (g := u6.heap.size) O5 (by omega)).ext e1 (fun k h1 h2 h3 h4 => h3 h4)).wide (lo' := W0.heap.size) (hi' := (setAll u9 u6.heap.size 0 [.int .i64 x.now, .int .i64 x.events, .int .i64 x.chain.epoch, .slice a3q x.chain.ids.length c3q, .slice none 0 0, .slice a5q x.msgs.length c5q, .slice none 0 0]).heap.size) (by omega) (by omega)
    exact ⟨_, u6.heap.size, _, _, rfl, rfl, hbx, C3, C5, by omega, zq⟩
  case oe11_9 =>
   have HG : Hid (Box 0 #[.int .i64 0, .int .i64 0, .int .i64 0, .slice none 0 0, .slice none 0 0, .slice none 0 0, .slice none 0 0] 36 (wD.alloc (.cells #[.int .i64 0, .int .i64 0, .int .i64 0, .slice none 0 0, .slice none 0 0, .slice none 0 0, .slice none 0 0] 36)) wD.heap.size) := newBox (Nat.zero_le _)
   have hza : wD.heap.size < (wD.alloc (.cells #[.int .i64 0, .int .i64 0, .int .i64 0, .slice none 0 0, .slice none 0 0, .slice none 0 0, .slice none 0 0] 36)).heap.size := by simp
   have nba : Below wD.heap.size wD (wD.alloc (.cells #[.int .i64 0, .int .i64 0, .int .i64 0, .slice none 0 0, .slice none 0 0, .slice none 0 0, .slice none 0 0] 36)) := (Below.refl _ _).alloc (Nat.le_refl _) _
   go_simp
   refine hK.out _ _ (zq.alloc zq.size _) (fun zq => ?_)
   clear hK K
   try simp only [Act.put, pz, py, px]
   refine rdH 6 (fun K hK => ?_)
   go_simp
   go_at_call 222
   refine (l10CopyC _ x.chain _ ((uh HRC).later zq) (uh HN3)).mono ?_
   rintro e u6 ⟨a3q, c3q, rfl, O3, hb6⟩
   have hz6 : (wD.alloc (.cells #[.int .i64 0, .int .i64 0, .int .i64 0, .slice none 0 0, .slice none 0 0, .slice none 0 0, .slice none 0 0] 36)).heap.size ≤ u6.heap.size := hb6.size
   have HG6 := yh ((uh HG).keep hb6)
   clear HG
   have HG := HG6
   clear HG6
   try go_wp2_with fail
   refine hK.out _ _ (zq.trans (hb6.mono zq.size)) (fun zq => ?_)
   clear hK K
   try simp only [Act.put, pz, py, px]
   refine rdH 9 (fun K hK => ?_)
   go_simp
   go_at_call 210
   refine (mcopyC _ x.msgs _ ((uh HRM).later zq) (uh HN5).1 (uh HN5).2).mono ?_
   rintro e u9 ⟨v5, rfl, ⟨rows, bls, G9, hs9⟩, hb9⟩
   have hz9 : u6.heap.size ≤ u9.heap.size := hb9.size
   obtain ⟨a5q, c5q, rfl⟩ := own_shape G9.own
   have O5 := G9.toLies (by have := (uh HN5).1; omega) hs9
   have HG9 := yh ((uh HG).keep hb9)
   clear HG
   have HG := HG9
   clear HG9
   replace O3 := O3.later hb9
   try go_wp2_with fail
   refine hK.out _ _ (zq.trans (hb9.mono zq.size)) (fun zq => ?_)
   clear hK K
   try simp only [Act.put, pz, py, px]
   refine tkH 10 zq ?_
   refine rdH 12 (fun K hK => ?_)
   have hzD := zq.size
   have r0 := Box.at (uh HG) 0 _ rfl
   have r1 := Box.at (uh HG) 1 _ rfl
   have r2 := Box.at (uh HG) 2 _ rfl
   have r3 := Box.at (uh HG) 3 _ rfl
   have r4 := Box.at (uh HG) 4 _ rfl
   have r5 := Box.at (uh HG) 5 _ rfl
   have r6 := Box.at (uh HG) 6 _ rfl
   simp only [ga, gb, gc] at r0 r1 r2 r3 r4 r5 r6
   have rf := Box.soft (uh HG)
   have rl := (uh HG).lt
   go_simp
   refine hK.out _ _ (Below.setCell (Below.setCell (Below.setCell (Below.setCell (Below.setCell (Below.setCell (Below.setCell zq (p := ⟨wD.heap.size, 0, none⟩) (by simp only []; omega) (.int .i64 x.now)) (p := ⟨wD.heap.size, 1, none⟩) (by simp only []; omega) (.int .i64 x.events)) (p := ⟨wD.heap.size, 2, none⟩) (by simp only []; omega) (.int .i64 x.chain.epoch)) (p := ⟨wD.heap.size, 3, none⟩) (by simp only []; omega) (.slice a3q x.chain.ids.length c3q)) (p := ⟨wD.heap.size, 4, none⟩) (by simp only []; omega) (.slice none 0 0)) (p := ⟨wD.heap.size, 5, none⟩) (by simp only []; omega) (.slice a5q x.msgs.length c5q)) (p := ⟨wD.heap.size, 6, none⟩) (by simp only []; omega) (.slice none 0 0)) (fun zq => ?_)
   clear hK K
   try simp only [Act.put, pz, py, px]
   refine wpAnyH_done (by kernel_rfl) ?_ _
   refine NoPanic.normal ?_
   go_wp2_with fail
   go_meet
   have hbx := box_set7Z (uh HG) (.int .i64 x.now) (.int .i64 x.events) (.int .i64 x.chain.epoch) (.slice a3q x.chain.ids.length c3q) (.slice none 0 0) (.slice a5q x.msgs.length c5q) (.slice none 0 0)
   have e1 : Ext (fun q => q = wD.heap.size) u9 (setAll u9 wD.heap.size 0 [.int .i64 x.now, .int .i64 x.events, .int .i64 x.chain.epoch, .slice a3q x.chain.ids.length c3q, .slice none 0 0, .slice a5q x.msgs.length c5q, .slice none 0 0]) := ext_setAll _ (Ext.refl _ _) _ _ _ rfl
   have hss : (setAll u9 wD.heap.size 0 [.int .i64 x.now, .int .i64 x.events, .int .i64 x.chain.epoch, .slice a3q x.chain.ids.length c3q, .slice none 0 0, .slice a5q x.msgs.length c5q, .slice none 0 0]).heap.size = u9.heap.size := size_setAll _ _ _ _
   have C3 := ((clear_of (g := wD.heap.size) O3.lies (by omega)).ext e1 (fun k h1 h2 h3 h4 => h3 h4)).wide (lo' := W0.heap.size) (hi' := (setAll u9 wD.heap.size 0 [.int .i64 x.now, .int .i64 x.events, .int .i64 x.chain.epoch, .slice a3q x.chain.ids.length c3q, .slice none 0 0, .slice a5q x.msgs.length c5q, .slice none 0 0]).heap.size) (by omega) (by omega)
   have C5 := ((clear_of (g := wD.heap.size) O5 (by omega)).ext e1 (fun k h1 h2 h3 h4 => h3 h4)).wide (lo' := W0.heap.size) (hi' := (setAll u9 wD.heap.size 0 [.int .i64 x.now, .int .i64 x.events, .int .i64 x.chain.epoch, .slice a3q x.chain.ids.length c3q, .slice none 0 0, .slice a5q x.msgs.length c5q, .slice none 0 0]).heap.size) (by omega) (by omega)
   exact ⟨_, wD.heap.size, _, _, rfl, rfl, hbx, C3, C5, by omega, zq⟩
 case rest =>
  obtain ⟨W1, g, v3, v5, hW, rfl, hg, hC3, hC5, hgl, hB1⟩ := hcut
  subst hW
  obtain ⟨a3q, c3q, rfl⟩ := open_sl hC3.reads
  obtain ⟨a5q, c5q, rfl⟩ := open_sl hC5.reads
  have HC3 := yh hC3
  have HC5 := yh hC5
  have HG1 := yh hg
  have HB1 := yh hB1
  have hgB := hg.lt
  have hz1 := hB1.size
  clear hC3 hC5 hg hB1 HRC HRM HN3 HN5
  go_wp2_with fail
  go_loopw [4] (fun i wr => ∃ (k : Nat) (an : Option Addr) (mn cn : Nat) (rows : List (List Value)) (bls : List (List Nat)), k ≤ x.nodes.length ∧ i = .int .i64 (k : Int) ∧ Box 0 #[.int .i64 x.now, .int .i64 x.events, .int .i64 x.chain.epoch, .slice a3q x.chain.ids.length c3q, .slice an mn cn, .slice a5q x.msgs.length c5q, .slice none 0 0] 36 wr g ∧ Grow Lay.tNode wr W1.heap.size 84 (.slice an mn cn) rows (x.nodes.take k) bls ∧ (∀ c ∈ bls.flatten, W1.heap.size ≤ c) ∧ Ext (fun q => q = g ∨ W1.heap.size ≤ q) W1 wr) (fun i _ => x.nodes.length - (intOf i).toNat)
  case atStart => exact ⟨0, none, 0, 0, [], [], Nat.zero_le _, rfl, uh HG1, Grow.nil (World.ownsRow_nil _ _ _ _), by simp, Ext.refl _ _⟩
  case round =>
   obtain ⟨k, an, mn, cn, rows, bls, hk, rfl, hN, hG, hS, hE⟩ := hrel
   have hBr : Below W0.heap.size W0 wr := (uh HB1).trans (hE.below hz1 (fun k hk q => by rcases q with q | q <;> omega))
   have hx := box_lowW (uh HX) hBr (by omega)
   have z4 := Box.at (uh HX) 4 _ rfl
   have y4 := Box.at hx 4 _ rfl
   have y5 := Box.at hx 5 _ rfl
   simp only [ga, gb, gc] at z4 y4 y5
   have hxl := (uh HX).lt
   have hxr := hx.lt
   have hnb := (uh HRN).big
   by_cases hlt : k < x.nodes.length
   ·
    obtain ⟨row, hcl, hr⟩ := Lay.row_at (uh HRN) hlt
    have hn := nodeFault_zero ((uh HOK).nodes k hlt).1
    have HL : Hid (∀ V, Below W0.heap.size W0 V → Calls Tryz.prog 223 #[.agg row.toArray] V fun e w' => ∃ a6 d6 rows bls, e = .returned (.agg #[.int .i64 x.nodes[k].id, .bool x.nodes[k].up, .int .i64 x.nodes[k].epoch, .int .i64 x.nodes[k].lease, .slice a6 x.nodes[k].writes.length d6, .int .i64 x.nodes[k].sure, .int .i64 x.nodes[k].clean]) ∧ Grow Lay.tWrite w' V.heap.size 87 (.slice a6 x.nodes[k].writes.length d6) rows x.nodes[k].writes bls ∧ (∀ c ∈ bls.flatten, V.heap.size ≤ c) ∧ Below V.heap.size V w') := fun V hV => ncopyG _ x.nodes[k] V (hr.later hV) (by have := hn.len; omega) (node_vecs9 hn)
    have HW6 : Hid (x.nodes[k].writes.length ≤ 40 ∧ wfM x.nodes[k]) := by
     obtain ⟨_, hq⟩ := hr
     obtain ⟨_, _, _, -, -, q0, q1, q2, -, q3, q4⟩ := lies_Node.1 hq
     exact ⟨hn.len, q0, q1, q2, q3, q4⟩
    obtain ⟨aw, dw, rfl, -⟩ := open_Node hr
    have x0 : W0.cell? ⟨b, off + k * 7, none⟩ = some (.int .i64 (x.nodes[k]).id) := hcl 0 (by decide)
    have x1 : W0.cell? ⟨b, off + k * 7 + 1, none⟩ = some (.bool (x.nodes[k]).up) := hcl 1 (by decide)
    have x2 : W0.cell? ⟨b, off + k * 7 + 2, none⟩ = some (.int .i64 (x.nodes[k]).epoch) := hcl 2 (by decide)
    have x3 : W0.cell? ⟨b, off + k * 7 + 3, none⟩ = some (.int .i64 (x.nodes[k]).lease) := hcl 3 (by decide)
    have x4 : W0.cell? ⟨b, off + k * 7 + 4, none⟩ = some (.slice aw (x.nodes[k]).writes.length dw) := hcl 4 (by decide)
    have x5 : W0.cell? ⟨b, off + k * 7 + 5, none⟩ = some (.int .i64 (x.nodes[k]).sure) := hcl 5 (by decide)
    have x6 : W0.cell? ⟨b, off + k * 7 + 6, none⟩ = some (.int .i64 (x.nodes[k]).clean) := hcl 6 (by decide)
    have HT : Hid (x.nodes.take (k + 1) = x.nodes.take k ++ [x.nodes[k]]) := List.take_succ_eq_append_getElem hlt
    have HLn : Hid ((x.nodes.take k).length = k) := by show (x.nodes.take k).length = k; rw [List.length_take]; omega
    have hki : (k : Int) < (x.nodes.length : Int) := by omega
    have hdl : decide ((k : Int) < (x.nodes.length : Int)) = true := by simpa using hki
    have HBr := yh hBr
    have HS := yh hS
    have hND := hN.drew
    have hGD : Grow Lay.tNode wr.drew W1.heap.size 84 (.slice an mn cn) rows (x.nodes.take k) bls := hG.later (below_drawn (Below.refl _ _) 1)
    have hED : Ext (fun q => q = g ∨ W1.heap.size ≤ q) W1 wr.drew := hE.drew 1
    have hzD : W1.heap.size ≤ wr.drew.heap.size := hE.size
    clear hcl hr hn hx y5 hBr hS hN hG hE HG1 HC3 HC5 HX HY HRE HF HB
    generalize hnn : x.nodes[k] = n at *
    clear hnn
    generalize hxs : x.nodes.take k = xs at *
    clear hxs
    go_upto_region 5 with fail
    clear y4
    refine wp_region_noPanic ?_
    refine wp_region_held_drew (S := fun w' => Below W0.heap.size W0 w') (by kernel_rfl) ((uh HBr).drew) (fun zq => ?_)
    generalize wr.drew = wD at zq hND hGD hED hzD ⊢
    refine tkH 0 zq ?_
    refine tkH 2 zq ?_
    refine tkJ 3 (v := ?vn3_3) ?hn3_3 zq ?rn3_3
    case hn3_3 =>
     intro wS hSw
     have q4 := (hSw.cell (p := ⟨w.heap.size, 4, none⟩) hxl).trans z4
     clear hSw
     (try dsimp only at hSw)
     go_simp
     try with_reducible rfl
    refine tkH 4 zq ?_
    refine tkH 5 zq ?_
    refine tkJ 6 (v := ?vn6_6) ?hn6_6 zq ?rn6_6
    case hn6_6 =>
     intro wS hSw
     have q0 := (hSw.cell (p := ⟨b, off + k * 7, none⟩) hbl0).trans x0
     have q1 := (hSw.cell (p := ⟨b, off + k * 7 + 1, none⟩) hbl0).trans x1
     have q2 := (hSw.cell (p := ⟨b, off + k * 7 + 2, none⟩) hbl0).trans x2
     have q3 := (hSw.cell (p := ⟨b, off + k * 7 + 3, none⟩) hbl0).trans x3
     have q4 := (hSw.cell (p := ⟨b, off + k * 7 + 4, none⟩) hbl0).trans x4
     have q5 := (hSw.cell (p := ⟨b, off + k * 7 + 5, none⟩) hbl0).trans x5
     have q6 := (hSw.cell (p := ⟨b, off + k * 7 + 6, none⟩) hbl0).trans x6
     clear hSw
     (try dsimp only at hSw)
     go_simp
     try with_reducible rfl
    refine wpAnyH_ready (rs := [1, 7]) (by kernel_rfl) (by simp) ?_
    refine AllReadyH.cons (o := o137x2) rfl (fun K hK => ?on1_7) (AllReadyH.cons (o := ⟨some 32, .call { callee := .value (.func 223), args := #[.tmp 31], argTypes := #[84] }, 84, "l12_world.go:83", #[⟨6, .data⟩], none⟩) rfl (fun K hK => ?on7_7) (AllReadyH.nil))
    case on1_7 =>
     have u4 := Box.at hND 4 _ rfl
     simp only [ga, gb, gc] at u4
     go_simp
     try go_wp2_with fail
     refine hK.out _ _ zq (fun zq => ?_)
     clear hK K
     try simp only [Act.put, pz, py, px]
     refine rdH 7 (fun K hK => ?_)
     go_simp
     go_at_call 223
     refine (uh HL _ zq).mono ?_
     rintro e u7 ⟨aq, dq, rws, bw, rfl, Gw, hsw, hb7⟩
     have hN7 := hND.keep hb7
     have hG7 := hGD.later hb7
     have hE7 := hED.trans (ext_of_below hb7 _)
     have hz7 := hb7.size
     have hH7 := zq.trans (hb7.mono zq.size)
     obtain ⟨blw, hlw, hbw⟩ := Gw.toLies (by have := (uh HW6).1; omega) hsw
     have hoff : ∀ c ∈ blw, (Value.slice an mn cn).ownBlock ≠ some c := fun c hc e => by
      have h1 := (hbw c hc).1
      have h2 := (hGD.own.lt c e).2
      omega
     clear Gw hsw
     try go_wp2_with fail
     refine hK.out _ _ hH7 (fun zq => ?_)
     clear hK K
     try simp only [Act.put, pz, py, px]
     refine rdH 8 (fun K hK => ?_)
     have nb8 : Below u7.heap.size u7 (u7.alloc (.cells #[.int .i64 n.id, .bool n.up, .int .i64 n.epoch, .int .i64 n.lease, .slice aq n.writes.length dq, .int .i64 n.sure, .int .i64 n.clean] 84)) := (Below.refl _ _).alloc (Nat.le_refl _) _
     have hN8 := hN7.keep nb8
     go_simp
     try go_wp2_with fail
     refine hK.out _ _ (zq.alloc zq.size _) (fun zq => ?_)
     clear hK K
     try simp only [Act.put, pz, py, px]
     refine rdH 9 (fun K hK => ?_)
     refine step_append_Node hG7 (lies_Node.2 ⟨aq, dq, blw, rfl, rfl, (uh HW6).2.1, (uh HW6).2.2.1, (uh HW6).2.2.2.1, hlw, (uh HW6).2.2.2.2.1, (uh HW6).2.2.2.2.2⟩) hoff rfl _ _ rfl rfl rfl (by have := uh HLn; have := (uh HOK).some; omega) (by omega) ?_
     intro gq cap u9 hG9 hb9 hE9 hg9 hz9 hor9
     have hN9 := hN7.ext hE9 (fun e => by have := (hG7.own.lt g e).1; omega)
     have u9c := Box.at hN9 4 _ rfl
     simp only [ga, gb, gc] at u9c
     have uf := Box.soft hN9
     have ul := Box.lt hN9
     refine hK.out _ _ (hH7.trans (hb9.mono (by omega))) (fun zq => ?_)
     clear hK K
     try simp only [Act.put, pz, py, px]
     refine tkH 10 zq ?_
     refine rdH 11 (fun K hK => ?_)
     go_simp
     try go_wp2_with fail
     refine hK.out _ _ (Below.setCell zq (p := ⟨g, 4, none⟩) (by simp only []; omega) _) (fun zq => ?_)
     clear hK K
     try simp only [Act.put, pz, py, px]
     refine wpAnyH_done (by kernel_rfl) ?_ _
     refine NoPanic.normal ?_
     have e10 : Ext (fun q => q = g) u9 (u9.setCell ⟨g, 4, none⟩ (.slice (some ⟨gq, 0, none⟩) (xs.length + 1) cap)) := (Ext.refl (fun q => q = g) _).setCell ⟨g, 4, none⟩ _ rfl
     have hlow : ∀ c ∈ (bls ++ [blw]).flatten, W1.heap.size ≤ c := by
      intro c hc
      rw [List.flatten_append] at hc
      rcases List.mem_append.1 hc with hc | hc
      ·
       exact uh HS c hc
      have := (hbw c (by simpa using hc)).1; omega
     have hN10 := Box.set hN9 4 (.slice (some ⟨gq, 0, none⟩) (xs.length + 1) cap)
     simp only [List.setIfInBounds_toArray, List.set_cons_zero, List.set_cons_succ] at hN10
     have hown9 : ∀ q, (Value.slice (some ⟨gq, 0, none⟩) (xs.length + 1) cap).ownBlock = some q → ¬ q = g := fun q hq e => by
      have := (hG9.own.lt q hq).1
      omega
     have hG10 := grow_keepW hG9 e10 (fun c hc e => by have := hlow c hc; omega) hown9
     have hE10 := (hE7.trans (hE9.mono fun k _ h => Or.inr (by have := (hG7.own.lt k h).1; omega))).trans (e10.mono fun k _ h => Or.inl h)
     have HN10 := yh hN10
     have HG10 := yh hG10
     have HE10 := yh hE10
     have HLOW := yh hlow
     clear zq hND hGD hED hN7 hN8 hG7 hE7 hH7 hoff hlw hbw hG9 hb9 hE9 hN9 e10 hlow hN10 hown9 hG10 hE10 hor9 u4 u9c uf ul nb8 hb7
     go_wp2_with fail
     go_roundw
     case rel => exact ⟨k + 1, _, _, _, _, _, by omega, by go_num, uh HN10, by rw [uh HT]; exact uh HG10, uh HLOW, uh HE10⟩
     case measure => simp [intOf]; omega
    case on7_7 =>
     go_simp
     go_at_call 223
     refine (uh HL _ zq).mono ?_
     rintro e u7 ⟨aq, dq, rws, bw, rfl, Gw, hsw, hb7⟩
     have hN7 := hND.keep hb7
     have hG7 := hGD.later hb7
     have hE7 := hED.trans (ext_of_below hb7 _)
     have hz7 := hb7.size
     have hH7 := zq.trans (hb7.mono zq.size)
     obtain ⟨blw, hlw, hbw⟩ := Gw.toLies (by have := (uh HW6).1; omega) hsw
     have hoff : ∀ c ∈ blw, (Value.slice an mn cn).ownBlock ≠ some c := fun c hc e => by
      have h1 := (hbw c hc).1
      have h2 := (hGD.own.lt c e).2
      omega
     clear Gw hsw
     try go_wp2_with fail
     refine hK.out _ _ hH7 (fun zq => ?_)
     clear hK K
     try simp only [Act.put, pz, py, px]
     refine wpAnyH_ready (rs := [1, 8]) (by kernel_rfl) (by simp) ?_
     refine AllReadyH.cons (o := o137x2) rfl (fun K hK => ?on1_9) (AllReadyH.cons (o := ⟨some 33, .buildSlice 32 1 #[(0, .tmp 32)], 32, "l12_world.go:83", #[⟨7, .data⟩], none⟩) rfl (fun K hK => ?on8_9) (AllReadyH.nil))
     case on1_9 =>
      have u4 := Box.at hN7 4 _ rfl
      simp only [ga, gb, gc] at u4
      go_simp
      try go_wp2_with fail
      refine hK.out _ _ zq (fun zq => ?_)
      clear hK K
      try simp only [Act.put, pz, py, px]
      refine rdH 8 (fun K hK => ?_)
      have nb8 : Below u7.heap.size u7 (u7.alloc (.cells #[.int .i64 n.id, .bool n.up, .int .i64 n.epoch, .int .i64 n.lease, .slice aq n.writes.length dq, .int .i64 n.sure, .int .i64 n.clean] 84)) := (Below.refl _ _).alloc (Nat.le_refl _) _
      have hN8 := hN7.keep nb8
      go_simp
      try go_wp2_with fail
      refine hK.out _ _ (zq.alloc zq.size _) (fun zq => ?_)
      clear hK K
      try simp only [Act.put, pz, py, px]
      refine rdH 9 (fun K hK => ?_)
      refine step_append_Node hG7 (lies_Node.2 ⟨aq, dq, blw, rfl, rfl, (uh HW6).2.1, (uh HW6).2.2.1, (uh HW6).2.2.2.1, hlw, (uh HW6).2.2.2.2.1, (uh HW6).2.2.2.2.2⟩) hoff rfl _ _ rfl rfl rfl (by have := uh HLn; have := (uh HOK).some; omega) (by omega) ?_
      intro gq cap u9 hG9 hb9 hE9 hg9 hz9 hor9
      have hN9 := hN7.ext hE9 (fun e => by have := (hG7.own.lt g e).1; omega)
      have u9c := Box.at hN9 4 _ rfl
      simp only [ga, gb, gc] at u9c
      have uf := Box.soft hN9
      have ul := Box.lt hN9
      refine hK.out _ _ (hH7.trans (hb9.mono (by omega))) (fun zq => ?_)
      clear hK K
      try simp only [Act.put, pz, py, px]
      refine tkH 10 zq ?_
      refine rdH 11 (fun K hK => ?_)
      go_simp
      try go_wp2_with fail
      refine hK.out _ _ (Below.setCell zq (p := ⟨g, 4, none⟩) (by simp only []; omega) _) (fun zq => ?_)
      clear hK K
      try simp only [Act.put, pz, py, px]
      refine wpAnyH_done (by kernel_rfl) ?_ _
      refine NoPanic.normal ?_
      have e10 : Ext (fun q => q = g) u9 (u9.setCell ⟨g, 4, none⟩ (.slice (some ⟨gq, 0, none⟩) (xs.length + 1) cap)) := (Ext.refl (fun q => q = g) _).setCell ⟨g, 4, none⟩ _ rfl
      have hlow : ∀ c ∈ (bls ++ [blw]).flatten, W1.heap.size ≤ c := by
       intro c hc
       rw [List.flatten_append] at hc
       rcases List.mem_append.1 hc with hc | hc
       ·
        exact uh HS c hc
       have := (hbw c (by simpa using hc)).1; omega
      have hN10 := Box.set hN9 4 (.slice (some ⟨gq, 0, none⟩) (xs.length + 1) cap)
      simp only [List.setIfInBounds_toArray, List.set_cons_zero, List.set_cons_succ] at hN10
      have hown9 : ∀ q, (Value.slice (some ⟨gq, 0, none⟩) (xs.length + 1) cap).ownBlock = some q → ¬ q = g := fun q hq e => by
       have := (hG9.own.lt q hq).1
       omega
      have hG10 := grow_keepW hG9 e10 (fun c hc e => by have := hlow c hc; omega) hown9
      have hE10 := (hE7.trans (hE9.mono fun k _ h => Or.inr (by have := (hG7.own.lt k h).1; omega))).trans (e10.mono fun k _ h => Or.inl h)
      have HN10 := yh hN10
      have HG10 := yh hG10
      have HE10 := yh hE10
      have HLOW := yh hlow
      clear zq hND hGD hED hN7 hN8 hG7 hE7 hH7 hoff hlw hbw hG9 hb9 hE9 hN9 e10 hlow hN10 hown9 hG10 hE10 hor9 u4 u9c uf ul nb8 hb7
      go_wp2_with fail
      go_roundw
      case rel => exact ⟨k + 1, _, _, _, _, _, by omega, by go_num, uh HN10, by rw [uh HT]; exact uh HG10, uh HLOW, uh HE10⟩
      case measure => simp [intOf]; omega
     case on8_9 =>
      have nb8 : Below u7.heap.size u7 (u7.alloc (.cells #[.int .i64 n.id, .bool n.up, .int .i64 n.epoch, .int .i64 n.lease, .slice aq n.writes.length dq, .int .i64 n.sure, .int .i64 n.clean] 84)) := (Below.refl _ _).alloc (Nat.le_refl _) _
      have hN8 := hN7.keep nb8
      go_simp
      try go_wp2_with fail
      refine hK.out _ _ (zq.alloc zq.size _) (fun zq => ?_)
      clear hK K
      try simp only [Act.put, pz, py, px]
      refine rdH 1 (fun K hK => ?_)
      have u4 := Box.at hN8 4 _ rfl
      simp only [ga, gb, gc] at u4
      go_simp
      try go_wp2_with fail
      refine hK.out _ _ zq (fun zq => ?_)
      clear hK K
      try simp only [Act.put, pz, py, px]
      refine rdH 9 (fun K hK => ?_)
      refine step_append_Node hG7 (lies_Node.2 ⟨aq, dq, blw, rfl, rfl, (uh HW6).2.1, (uh HW6).2.2.1, (uh HW6).2.2.2.1, hlw, (uh HW6).2.2.2.2.1, (uh HW6).2.2.2.2.2⟩) hoff rfl _ _ rfl rfl rfl (by have := uh HLn; have := (uh HOK).some; omega) (by omega) ?_
      intro gq cap u9 hG9 hb9 hE9 hg9 hz9 hor9
      have hN9 := hN7.ext hE9 (fun e => by have := (hG7.own.lt g e).1; omega)
      have u9c := Box.at hN9 4 _ rfl
      simp only [ga, gb, gc] at u9c
      have uf := Box.soft hN9
      have ul := Box.lt hN9
      refine hK.out _ _ (hH7.trans (hb9.mono (by omega))) (fun zq => ?_)
      clear hK K
      try simp only [Act.put, pz, py, px]
      refine tkH 10 zq ?_
      refine rdH 11 (fun K hK => ?_)
      go_simp
      try go_wp2_with fail
      refine hK.out _ _ (Below.setCell zq (p := ⟨g, 4, none⟩) (by simp only []; omega) _) (fun zq => ?_)
      clear hK K
      try simp only [Act.put, pz, py, px]
      refine wpAnyH_done (by kernel_rfl) ?_ _
      refine NoPanic.normal ?_
      have e10 : Ext (fun q => q = g) u9 (u9.setCell ⟨g, 4, none⟩ (.slice (some ⟨gq, 0, none⟩) (xs.length + 1) cap)) := (Ext.refl (fun q => q = g) _).setCell ⟨g, 4, none⟩ _ rfl
      have hlow : ∀ c ∈ (bls ++ [blw]).flatten, W1.heap.size ≤ c := by
       intro c hc
       rw [List.flatten_append] at hc
       rcases List.mem_append.1 hc with hc | hc
       ·
        exact uh HS c hc
       have := (hbw c (by simpa using hc)).1; omega
      have hN10 := Box.set hN9 4 (.slice (some ⟨gq, 0, none⟩) (xs.length + 1) cap)
      simp only [List.setIfInBounds_toArray, List.set_cons_zero, List.set_cons_succ] at hN10
      have hown9 : ∀ q, (Value.slice (some ⟨gq, 0, none⟩) (xs.length + 1) cap).ownBlock = some q → ¬ q = g := fun q hq e => by
       have := (hG9.own.lt q hq).1
       omega
      have hG10 := grow_keepW hG9 e10 (fun c hc e => by have := hlow c hc; omega) hown9
      have hE10 := (hE7.trans (hE9.mono fun k _ h => Or.inr (by have := (hG7.own.lt k h).1; omega))).trans (e10.mono fun k _ h => Or.inl h)
      have HN10 := yh hN10
      have HG10 := yh hG10
      have HE10 := yh hE10
      have HLOW := yh hlow
      clear zq hND hGD hED hN7 hN8 hG7 hE7 hH7 hoff hlw hbw hG9 hb9 hE9 hN9 e10 hlow hN10 hown9 hG10 hE10 hor9 u4 u9c uf ul nb8 hb7
      go_wp2_with fail
      go_roundw
      case rel => exact ⟨k + 1, _, _, _, _, _, by omega, by go_num, uh HN10, by rw [uh HT]; exact uh HG10, uh HLOW, uh HE10⟩
      case measure => simp [intOf]; omega
   obtain rfl : k = x.nodes.length := by omega
   have hdl : decide ((x.nodes.length : Int) < (x.nodes.length : Int)) = false := by simp
   rw [List.take_length] at hG
   have hnp := (uh HOK).some
   rcases hG.form with ⟨-, h0⟩ | ⟨g4, c4, hv, hg4, hg4l, hcap4⟩
   ·
    exact absurd h0 (by intro q; rw [q] at hnp; simp at hnp)
   simp only [Value.slice.injEq] at hv
   obtain ⟨rfl, rfl, rfl⟩ := hv
   have hA : Lay.tNode.Apart wr (.slice (some ⟨g4, 0, none⟩) x.nodes.length cn) x.nodes g4 bls.flatten := by
    rcases hG.reads (by omega) with q | ⟨q, -⟩
    ·
     have q2 : (Lay.sl Lay.tNode).lies wr [.slice (some ⟨g4, 0, none⟩) x.nodes.length cn] x.nodes (if x.nodes = [] then [] else g4 :: bls.flatten) := q
     rw [if_neg (by intro q; rw [q] at hnp; simp at hnp)] at q2
     exact ⟨q2, fun hm => hG.off g4 hm rfl, fun o => hG.own.frozenAt o⟩
    exact absurd q (by intro q; rw [q] at hnp; simp at hnp)
   have hlt4 := hG.sub_lt
   have HA := yh hA
   have HS4 : Hid (∀ c ∈ bls.flatten, W1.heap.size ≤ c ∧ c < wr.heap.size) := fun c hc => ⟨hS c hc, hlt4 c hc⟩
   have HE4 := yh hE
   have HN4 := yh hN
   have HBr := yh hBr
   rename World => W2
   clear hA hlt4 hG hS hE hN hBr hx z4 hcap4 HG1
   generalize hbf : bls.flatten = r4 at *
   clear hbf rows
   have hz2 := (uh HE4).size
   have hB2 := (uh HN4).lt
   go_wp2_with fail
   clear y4 y5 hdl
   go_loopw [5] (fun i wr => ∃ (k : Nat) (an : Option Addr) (mn cn6 : Nat) (rows : List (List Value)) (bls : List (List Nat)), k ≤ x.history.length ∧ i = .int .i64 (k : Int) ∧ Box 0 #[.int .i64 x.now, .int .i64 x.events, .int .i64 x.chain.epoch, .slice a3q x.chain.ids.length c3q, .slice (some ⟨g4, 0, none⟩) x.nodes.length cn, .slice a5q x.msgs.length c5q, .slice an mn cn6] 36 wr g ∧ Grow Lay.tEntry wr W2.heap.size 127 (.slice an mn cn6) rows (x.history.take k) bls ∧ (∀ c ∈ bls.flatten, W2.heap.size ≤ c) ∧ Ext (fun q => q = g ∨ W2.heap.size ≤ q) W2 wr) (fun i _ => x.history.length - (intOf i).toNat)
   case atStart => exact ⟨0, none, 0, 0, [], [], Nat.zero_le _, rfl, uh HN4, Grow.nil (World.ownsRow_nil _ _ _ _), by simp, Ext.refl _ _⟩
   case round =>
    obtain ⟨k, an, mn, cn6, rows, bls, hk, rfl, hN, hG, hS, hE⟩ := hrel
    have hBr2 : Below W0.heap.size W0 wr := (uh HBr).trans (hE.below (by omega) (fun k hk q => by rcases q with q | q <;> omega))
    have hx := box_lowW (uh HX) hBr2 (by omega)
    have y6 := Box.at hx 6 _ rfl
    simp only [ga, gb, gc] at y6
    have hxr := hx.lt
    have hhb := (uh HRE).big
    by_cases hlt : k < x.history.length
    ·
     obtain ⟨be, oe, rfl, hbe⟩ := Lay.sl_addr (uh HRE) (by omega)
     obtain ⟨row, hcl, hr⟩ := Lay.row_at ((uh HRE).later hBr2) hlt
     have HFE := yh (uh HF x.history[k] (List.getElem_mem hlt))
     have HWE : Hid (wfE x.history[k]) := by
      obtain ⟨_, hq⟩ := hr
      obtain ⟨_, _, _, _, _, _, _, _, _, -, -, q0, q1, q2, q3, -, q5, q6, q7, q8, -, -⟩ := lies_Entry.1 hq
      exact ⟨q0, q1, q2, q3, q5, q6, q7, q8⟩
     obtain ⟨aq, dq, av, dv, ah, dh, rfl, Rq, Rv, Rh⟩ := open_Entry hr
     have x0 : wr.cell? ⟨be, oe + k * 11, none⟩ = some (.int .i64 (x.history[k]).kind) := hcl 0 (by decide)
     have x1 : wr.cell? ⟨be, oe + k * 11 + 1, none⟩ = some (.int .i64 (x.history[k]).session) := hcl 1 (by decide)
     have x2 : wr.cell? ⟨be, oe + k * 11 + 2, none⟩ = some (.int .i64 (x.history[k]).seq) := hcl 2 (by decide)
     have x3 : wr.cell? ⟨be, oe + k * 11 + 3, none⟩ = some (.int .i64 (x.history[k]).id) := hcl 3 (by decide)
     have x4 : wr.cell? ⟨be, oe + k * 11 + 4, none⟩ = some (.slice aq (x.history[k]).query.length dq) := hcl 4 (by decide)
     have x5 : wr.cell? ⟨be, oe + k * 11 + 5, none⟩ = some (.int .i64 (x.history[k]).k) := hcl 5 (by decide)
     have x6 : wr.cell? ⟨be, oe + k * 11 + 6, none⟩ = some (.int .i64 (x.history[k]).start) := hcl 6 (by decide)
     have x7 : wr.cell? ⟨be, oe + k * 11 + 7, none⟩ = some (.int .i64 (x.history[k]).fin) := hcl 7 (by decide)
     have x8 : wr.cell? ⟨be, oe + k * 11 + 8, none⟩ = some (.int .i64 (x.history[k]).place) := hcl 8 (by decide)
     have x9 : wr.cell? ⟨be, oe + k * 11 + 9, none⟩ = some (.slice av (x.history[k]).vec.length dv) := hcl 9 (by decide)
     have x10 : wr.cell? ⟨be, oe + k * 11 + 10, none⟩ = some (.slice ah (x.history[k]).hits.length dh) := hcl 10 (by decide)
     have HT : Hid (x.history.take (k + 1) = x.history.take k ++ [x.history[k]]) := List.take_succ_eq_append_getElem hlt
     have HLn : Hid ((x.history.take k).length = k) := by show (x.history.take k).length = k; rw [List.length_take]; omega
     have hki : (k : Int) < (x.history.length : Int) := by omega
     have hdl : decide ((k : Int) < (x.history.length : Int)) = true := by simpa using hki
     have hbr : be < wr.heap.size := Nat.lt_of_lt_of_le hbe hBr2.size
     have HRQ := yh Rq
     have HRV := yh Rv
     have HRH := yh Rh
     have HS := yh hS
     have HN := yh hN
     have HG := yh hG
     have HE := yh hE
     have hzr := hE.size
     have HZ : Hid (W2.heap.size ≤ wr.heap.size ∧ g < W2.heap.size) := ⟨hE.size, hB2⟩
     clear hcl hr hx hBr2 hS hN hG hE HC3 HC5 HX HY HF HB HA HS4 HE4 HN4 HBr HB1 HRN Rq Rv Rh
     generalize hnn : x.history[k] = e at *
     clear hnn
     generalize hxs : x.history.take k = xs at *
     clear hxs
     have nb9 : Below wr.heap.size wr (wr.alloc (.cells #[.int .i64 e.kind, .int .i64 e.session, .int .i64 e.seq, .int .i64 e.id, .slice aq e.query.length dq, .int .i64 e.k, .int .i64 e.start, .int .i64 e.fin, .int .i64 e.place, .slice av e.vec.length dv, .slice ah e.hits.length dh] 127)) := (Below.refl _ _).alloc (Nat.le_refl _) _
     have hI9 : Box 0 #[.int .i64 e.kind, .int .i64 e.session, .int .i64 e.seq, .int .i64 e.id, .slice aq e.query.length dq, .int .i64 e.k, .int .i64 e.start, .int .i64 e.fin, .int .i64 e.place, .slice av e.vec.length dv, .slice ah e.hits.length dh] 127 (wr.alloc (.cells #[.int .i64 e.kind, .int .i64 e.session, .int .i64 e.seq, .int .i64 e.id, .slice aq e.query.length dq, .int .i64 e.k, .int .i64 e.start, .int .i64 e.fin, .int .i64 e.place, .slice av e.vec.length dv, .slice ah e.hits.length dh] 127)) wr.heap.size := newBox (Nat.zero_le _)
     have hz9 : (wr.alloc (.cells #[.int .i64 e.kind, .int .i64 e.session, .int .i64 e.seq, .int .i64 e.id, .slice aq e.query.length dq, .int .i64 e.k, .int .i64 e.start, .int .i64 e.fin, .int .i64 e.place, .slice av e.vec.length dv, .slice ah e.hits.length dh] 127)).heap.size = wr.heap.size + 1 := by simp
     have HI9 := yh hI9
     have HB9 := yh nb9
     clear nb9 hI9
     go_upto_region 10 with fail
     generalize wr.alloc (.cells #[.int .i64 e.kind, .int .i64 e.session, .int .i64 e.seq, .int .i64 e.id, .slice aq e.query.length dq, .int .i64 e.k, .int .i64 e.start, .int .i64 e.fin, .int .i64 e.place, .slice av e.vec.length dv, .slice ah e.hits.length dh] 127) = w9 at *
     clear x0 x1 x2 x3 x4 x5 x6 x7 x8 x9 x10 y6
     have HL := yh (l1Ints _ e.query w9 (Lay.ints_reads ((uh HRQ).later (uh HB9))) (by have := (uh HFE).1; omega))
     have HWQ := yh (Lay.ints_reads (uh HRQ)).wf
     have k4 := Box.at (uh HI9) 4 _ rfl
     simp only [ga, gb, gc] at k4
     have kl := (uh HI9).lt
     go_wp2_with fail
     refine (uh HL).mono ?_
     rintro ee w10 ⟨vq, rfl, Oq, hb10⟩
     obtain ⟨aq2, dq2, rfl⟩ := own_shape Oq
     have Iq := Lay.ownInts (uh HWQ) (by have := (uh HFE).1; omega) Oq
     have hI10 := (uh HI9).keep hb10
     clear k4
     have k4 := Box.at hI10 4 _ rfl
     have kf := Box.soft hI10
     simp only [ga, gb, gc] at k4
     have e10 : Ext (fun q => q = wr.heap.size) w10 (w10.setCell ⟨wr.heap.size, 4, none⟩ (.slice aq2 e.query.length dq2)) := (Ext.refl _ _).setCell _ _ rfl
     have hI10s := Box.set hI10 4 (.slice aq2 e.query.length dq2)
     simp only [List.setIfInBounds_toArray, List.set_cons_zero, List.set_cons_succ] at hI10s
     have hz10 := hb10.size
     have HIQ := yh ((Iq.lies.mono (show wr.heap.size + 1 ≤ w9.heap.size by omega) (Nat.le_refl _)).ext e10 (fun q h1 h2 h3 => by omega))
     have HI10 := yh hI10s
     have HB10 := yh ((Below.setCell ((uh HB9).trans (hb10.mono (uh HB9).size)) (p := ⟨wr.heap.size, 4, none⟩) (Nat.le_refl _) (.slice aq2 e.query.length dq2)))
     have hz10s : w10.heap.size = (w10.setCell ⟨wr.heap.size, 4, none⟩ (.slice aq2 e.query.length dq2)).heap.size := by simp
     have kl10 := hI10.lt
     clear hI10 hI10s e10 Oq Iq hb10 HL HI9 HB9 HWQ HRQ
     go_upto_region 11 with fail
     clear k4 kf kl
     generalize hw11 : w10.setCell ⟨wr.heap.size, 4, none⟩ (.slice aq2 e.query.length dq2) = w11 at *
     clear hw11
     have HL := yh (l1Ints _ e.vec w11 (Lay.ints_reads ((uh HRV).later (uh HB10))) (by have := (uh HFE).2.1; omega))
     have HWQ := yh (Lay.ints_reads (uh HRV)).wf
     have k4 := Box.at (uh HI10) 9 _ rfl
     simp only [ga, gb, gc] at k4
     have kl := (uh HI10).lt
     go_wp2_with fail
     refine (uh HL).mono ?_
     rintro ee w14 ⟨vq, rfl, Oq, hb14⟩
     obtain ⟨av2, dv2, rfl⟩ := own_shape Oq
     have Iq := Lay.ownInts (uh HWQ) (by have := (uh HFE).2.1; omega) Oq
     have hI14 := (uh HI10).keep hb14
     clear k4
     have k4 := Box.at hI14 9 _ rfl
     have kf := Box.soft hI14
     simp only [ga, gb, gc] at k4
     have e14 : Ext (fun q => q = wr.heap.size) w14 (w14.setCell ⟨wr.heap.size, 9, none⟩ (.slice av2 e.vec.length dv2)) := (Ext.refl _ _).setCell _ _ rfl
     have hI14s := Box.set hI14 9 (.slice av2 e.vec.length dv2)
     simp only [List.setIfInBounds_toArray, List.set_cons_zero, List.set_cons_succ] at hI14s
     have hz14 := hb14.size
     have HIV := yh ((Iq.lies.mono (show wr.heap.size + 1 ≤ w11.heap.size by omega) (Nat.le_refl _)).ext e14 (fun q h1 h2 h3 => by omega))
     have HIQ2 := yh (((uh HIQ).mono (Nat.le_refl _) (show w10.heap.size ≤ w11.heap.size by omega)).later hb14 |>.ext e14 (fun q h1 h2 h3 => by omega))
     have HI14 := yh hI14s
     have HB14 := yh ((Below.setCell ((uh HB10).trans (hb14.mono (uh HB10).size)) (p := ⟨wr.heap.size, 9, none⟩) (Nat.le_refl _) (.slice av2 e.vec.length dv2)))
     have hz14s : w14.heap.size = (w14.setCell ⟨wr.heap.size, 9, none⟩ (.slice av2 e.vec.length dv2)).heap.size := by simp
     clear hI14 hI14s e14 Oq Iq hb14 HL HI10 HB10 HWQ HRV HIQ
     go_upto_region 12 with fail
     clear k4 kf kl
     generalize hw15 : w14.setCell ⟨wr.heap.size, 9, none⟩ (.slice av2 e.vec.length dv2) = w15 at *
     clear hw15
     have nbh : Below w15.heap.size w15 (w15.alloc (.cells #[] 196)) := (Below.refl _ _).alloc (Nat.le_refl _) _
     have hGH : Grow Lay.tHit (w15.alloc (.cells #[] 196)) w15.heap.size 196 (.slice (some ⟨w15.heap.size, 0, none⟩) 0 0) [] [] [] := Grow.nil (World.ownsRow_lit w15 #[] 0 (Nat.le_refl _) (Nat.zero_le _) rfl)
     have hXH : (Lay.sl Lay.tHit).LiesIn (w15.alloc (.cells #[] 196)) [.slice ah e.hits.length dh] e.hits 0 w15.heap.size := (((uh HRH).liesIn.mono (Nat.le_refl _) (show wr.heap.size ≤ w15.heap.size by omega)).later (uh HB14)).later nbh
     have hI15 := (uh HI14).keep nbh
     have HI15 := yh hI15
     have k4 := Box.at hI15 10 _ rfl
     have k5 := Box.at (uh HI14) 10 _ rfl
     simp only [ga, gb, gc] at k4 k5
     have kl := hI15.lt
     have hzh : (w15.alloc (.cells #[] 196)).heap.size = w15.heap.size + 1 := by simp
     clear hI15
     go_wp2_with (at_builtin; refine wpList_append_hitsL hGH hXH rfl _ _ rfl rfl rfl ?hh1 ?hh2 ?_)
     case hh1 => have := (uh HFE).2.2; simp only [List.length_nil]; omega
     case hh2 => omega
     intro ah2 mh2 dh2 w16 rh bh hG16 hb16 hm16 hz16
     have hm16' : mh2 = e.hits.length := hm16.trans (by simp)
     subst hm16'
     clear hm16
     have hI16 := box_lowW (uh HI15) hb16 (by omega)
     clear k4 k5 kl
     have k4 := Box.at hI16 10 _ rfl
     have kf := Box.soft hI16
     have kl := hI16.lt
     simp only [ga, gb, gc] at k4
     have e16 : Ext (fun q => q = wr.heap.size) w16 (w16.setCell ⟨wr.heap.size, 10, none⟩ (.slice ah2 e.hits.length dh2)) := (Ext.refl _ _).setCell _ _ rfl
     have hI16s := Box.set hI16 10 (.slice ah2 e.hits.length dh2)
     simp only [List.setIfInBounds_toArray, List.set_cons_zero, List.set_cons_succ] at hI16s
     have hbt : bh.flatten = [] := by
      rw [List.flatten_eq_nil_iff]
      intro l hl
      obtain ⟨j, hj, rfl⟩ := List.getElem_of_mem hl
      have q1 := hG16.nbls
      have q2 := hG16.nrows
      exact (lies_Hit.1 (hG16.lies j (by omega) (by omega) hj)).2.1
     have HIH := yh ((((hG16.toLies (by have := (uh HFE).2.2; omega) (fun c hc => by rw [hbt] at hc; cases hc)).mono (show wr.heap.size + 1 ≤ w15.heap.size by omega) (Nat.le_refl _))).ext e16 (fun q h1 h2 h3 => by omega))
     have HIV3 := yh ((liesIn_below (((uh HIV).mono (Nat.le_refl _) (show w14.heap.size ≤ w15.heap.size by omega)).later nbh) hb16 (Nat.le_refl _)).ext e16 (fun q h1 h2 h3 => by omega))
     have HIQ3 := yh ((liesIn_below (((uh HIQ2).mono (Nat.le_refl _) (show w11.heap.size ≤ w15.heap.size by omega)).later nbh) hb16 (Nat.le_refl _)).ext e16 (fun q h1 h2 h3 => by omega))
     have HB16 := yh (Below.setCell (((uh HB14).trans (nbh.mono (by omega))).trans (hb16.mono (by omega))) (p := ⟨wr.heap.size, 10, none⟩) (Nat.le_refl _) (.slice ah2 e.hits.length dh2))
     have hz16s : w16.heap.size = (w16.setCell ⟨wr.heap.size, 10, none⟩ (.slice ah2 e.hits.length dh2)).heap.size := by simp
     have HI16 := yh hI16s
     clear hI16 hI16s e16 hbt hG16 hb16 hGH hXH nbh HI15 HI14 HB14 HIV HIQ2 HRH
     go_upto_region 13 with fail
     clear k4 kf kl
     generalize hw12 : w16.setCell ⟨wr.heap.size, 10, none⟩ (.slice ah2 e.hits.length dh2) = w12 at *
     clear hw12
     obtain ⟨lq, lq1, lq2⟩ := uh HIQ3
     obtain ⟨lv, lv1, lv2⟩ := uh HIV3
     obtain ⟨lh, lh1, lh2⟩ := uh HIH
     have hLE : Lay.tEntry.lies w12 [.int .i64 e.kind, .int .i64 e.session, .int .i64 e.seq, .int .i64 e.id, .slice aq2 e.query.length dq2, .int .i64 e.k, .int .i64 e.start, .int .i64 e.fin, .int .i64 e.place, .slice av2 e.vec.length dv2, .slice ah2 e.hits.length dh2] e (lq ++ (lv ++ lh)) := by
      obtain ⟨q0, q1, q2, q3, q5, q6, q7, q8⟩ := uh HWE
      exact lies_Entry.2 ⟨aq2, dq2, lq, av2, dv2, lv, ah2, dh2, lh, rfl, rfl, q0, q1, q2, q3, lq1, q5, q6, q7, q8, lv1, lh1⟩
     have HBL0 : Hid (∀ c ∈ lq ++ (lv ++ lh), wr.heap.size ≤ c) := fun c hc => by
      simp only [List.mem_append] at hc
      rcases hc with hc | hc | hc
      ·
       have := lq2 c hc; omega
      ·
       have := lv2 c hc; omega
      have := lh2 c hc; omega
     clear lq1 lq2 lv1 lv2 lh1 lh2 HIQ3 HIV3 HIH
     generalize lq ++ (lv ++ lh) = ble at *
     have HBL : Hid (∀ c ∈ ble, W2.heap.size ≤ c) := fun c hc => Nat.le_trans (uh HZ).1 (uh HBL0 c hc)
     have hoff : ∀ c ∈ ble, (Value.slice an mn cn6).ownBlock ≠ some c := fun c hc q => by
      have h1 := uh HBL0 c hc
      have h2 := ((uh HG).own.lt c q).2
      omega
     have HLE := yh hLE
     have hND : Box 0 #[.int .i64 x.now, .int .i64 x.events, .int .i64 x.chain.epoch, .slice a3q x.chain.ids.length c3q, .slice (some ⟨g4, 0, none⟩) x.nodes.length cn, .slice a5q x.msgs.length c5q, .slice an mn cn6] 36 w12 g := (uh HN).keep (uh HB16)
     have hGD : Grow Lay.tEntry w12 W2.heap.size 127 (.slice an mn cn6) rows xs bls := (uh HG).later (uh HB16)
     have hED : Ext (fun q => q = g ∨ W2.heap.size ≤ q) W2 w12 := (uh HE).trans (ext_of_below (uh HB16) _)
     have hzD : w16.heap.size ≤ w12.heap.size := by omega
     have HGE : Hid (g < wr.heap.size ∧ (∀ k, (Value.slice an mn cn6).ownBlock = some k → k < wr.heap.size) ∧ g < W2.heap.size) := ⟨by omega, fun k hk => ((uh HG).own.lt k hk).2, hB2⟩
     have y0 := Box.at (uh HI16) 0 _ rfl
     have y1 := Box.at (uh HI16) 1 _ rfl
     have y2 := Box.at (uh HI16) 2 _ rfl
     have y3 := Box.at (uh HI16) 3 _ rfl
     have y4 := Box.at (uh HI16) 4 _ rfl
     have y5 := Box.at (uh HI16) 5 _ rfl
     have y6 := Box.at (uh HI16) 6 _ rfl
     have y7 := Box.at (uh HI16) 7 _ rfl
     have y8 := Box.at (uh HI16) 8 _ rfl
     have y9 := Box.at (uh HI16) 9 _ rfl
     have y10 := Box.at (uh HI16) 10 _ rfl
     simp only [ga, gb, gc] at y0 y1 y2 y3 y4 y5 y6 y7 y8 y9 y10
     have hel : wr.heap.size < w12.heap.size := (uh HI16).lt
     clear hLE HI16 HN HG HE HB16 HFE HWE
     have u4 := Box.at hND 6 _ rfl
     simp only [ga, gb, gc] at u4
     have ul0 := Box.lt hND
     go_wp2_with (at_builtin; refine wpList_append_Entry hGD (uh HLE) hoff rfl _ _ rfl rfl rfl ?hq3 ?hq4 ?_)
     case hq3 => have := uh HLn; have := (uh HOK).few; omega
     case hq4 => omega
     intro gq cap u9 hG9 hb9 hE9 hg9 hz9 hor9
     have hN9 := hND.ext hE9 (fun e => by have := (hGD.own.lt g e).1; omega)
     have u9c := Box.at hN9 6 _ rfl
     simp only [ga, gb, gc] at u9c
     have uf := Box.soft hN9
     have ul := Box.lt hN9
     have e10 : Ext (fun q => q = g) u9 (u9.setCell ⟨g, 6, none⟩ (.slice (some ⟨gq, 0, none⟩) (xs.length + 1) cap)) := (Ext.refl (fun q => q = g) _).setCell ⟨g, 6, none⟩ _ rfl
     have hlow : ∀ c ∈ (bls ++ [ble]).flatten, W2.heap.size ≤ c := by
      intro c hc
      rw [List.flatten_append] at hc
      rcases List.mem_append.1 hc with hc | hc
      ·
       exact uh HS c hc
      exact uh HBL c (by simpa using hc)
     have hN10 := Box.set hN9 6 (.slice (some ⟨gq, 0, none⟩) (xs.length + 1) cap)
     simp only [List.setIfInBounds_toArray, List.set_cons_zero, List.set_cons_succ] at hN10
     have hown9 : ∀ q, (Value.slice (some ⟨gq, 0, none⟩) (xs.length + 1) cap).ownBlock = some q → ¬ q = g := fun q hq e => by
      have := (hG9.own.lt q hq).1
      have := uh HGE
      omega
     have hG10 := grow_keepW hG9 e10 (fun c hc e => by have := hlow c hc; have := uh HGE; omega) hown9
     have hE10 := (hED.trans (hE9.mono fun k _ h => Or.inr (by have := (hGD.own.lt k h).1; omega))).trans (e10.mono fun k _ h => Or.inl h)
     have HN10 := yh hN10
     have HG10 := yh hG10
     have HE10 := yh hE10
     have HLOW := yh hlow
     clear hND hGD hED hoff hG9 hb9 hE9 hN9 e10 hlow hN10 hown9 hG10 hE10 hor9 u4
     go_wp2_with fail
     go_roundw
     case rel => exact ⟨k + 1, _, _, _, _, _, by omega, by go_num, uh HN10, by rw [uh HT]; exact uh HG10, uh HLOW, uh HE10⟩
     case measure => simp [intOf]; omega
    obtain rfl : k = x.history.length := by omega
    have hdl : decide ((x.history.length : Int) < (x.history.length : Int)) = false := by simp
    rw [List.take_length] at hG
    have hy := ((box_lowW ((box_lowW ((box_lowW (uh HY) (uh HB1) (by omega))) ((uh HE4).below (B := W0.heap.size) hz1 (fun k hk q => by rcases q with q | q <;> omega)) (by omega))) (hE.below (B := W0.heap.size) (by omega) (fun k hk q => by rcases q with q | q <;> omega)) (by omega)))
    obtain ⟨l3, i3, j3⟩ := (((uh HC3).ext (uh HE4) (fun k h1 h2 h3 q => by rcases q with q | q <;> omega)).wide (Nat.le_refl _) (show W1.heap.size ≤ W1.heap.size from Nat.le_refl _)).ext hE (fun k h1 h2 h3 q => by rcases q with q | q <;> omega)
    obtain ⟨l5, i5, j5⟩ := (((uh HC5).ext (uh HE4) (fun k h1 h2 h3 q => by rcases q with q | q <;> omega)).wide (Nat.le_refl _) (show W1.heap.size ≤ W1.heap.size from Nat.le_refl _)).ext hE (fun k h1 h2 h3 q => by rcases q with q | q <;> omega)
    obtain ⟨l6, i6, j6⟩ := hG.toLies (by omega) hS
    have hm6 : mn = x.history.length := by
     obtain ⟨_, _, q, -⟩ := i6
     simp only [List.cons.injEq, Value.slice.injEq, and_true] at q
     exact q.2.1
    subst hm6
    have hA2 := (uh HA).ext hE (fun q => by rcases q with q | q <;> omega) (fun c hc q => by have := uh HS4 c hc; rcases q with q | q <;> omega)
    have hWL : WLie wr ⟨a3q, c3q, g4, 0, cn, a5q, c5q, an, cn6, l3, r4, l5, l6⟩ x := ⟨(uh HWF).1, (uh HWF).2.1, (uh HWF).2.2, i3, hA2, i5, i6, fun hc => by have := j3 g4 hc; omega, fun hc => by have := j5 g4 hc; omega, fun hc => by have := j6 g4 hc; omega⟩
    have hzr := hE.size
    have hWN : WNew wr W0.heap.size wr.heap.size [.int .i64 x.now, .int .i64 x.events, .int .i64 x.chain.epoch, .slice a3q x.chain.ids.length c3q, .slice (some ⟨g4, 0, none⟩) x.nodes.length cn, .slice a5q x.msgs.length c5q, .slice an x.history.length cn6] x := ⟨_, rfl, hWL, by simp only []; omega, fun c hc => by have := j3 c hc; omega, fun c hc => by have := uh HS4 c hc; omega, fun c hc => by have := j5 c hc; omega, fun c hc => by have := j6 c hc; omega⟩
    have e9 : Ext (fun q => q = w.heap.size + 1) wr (setAll wr (w.heap.size + 1) 0 [.int .i64 x.now, .int .i64 x.events, .int .i64 x.chain.epoch, .slice a3q x.chain.ids.length c3q, .slice (some ⟨g4, 0, none⟩) x.nodes.length cn, .slice a5q x.msgs.length c5q, .slice an x.history.length cn6]) := ext_setAll _ (Ext.refl _ _) _ _ _ rfl
    have HWN := yh ((hWN.ext e9 (fun k h1 h2 h3 => by omega)).mono (show w.heap.size ≤ W0.heap.size by omega) (Nat.le_of_eq (size_setAll wr (w.heap.size + 1) 0 [.int .i64 x.now, .int .i64 x.events, .int .i64 x.chain.epoch, .slice a3q x.chain.ids.length c3q, .slice (some ⟨g4, 0, none⟩) x.nodes.length cn, .slice a5q x.msgs.length c5q, .slice an x.history.length cn6]).symm))
    have HB9 := yh (below_setAll ((uh HB).trans (hBr2.mono (uh HB).size)) (w.heap.size + 1) 0 [.int .i64 x.now, .int .i64 x.events, .int .i64 x.chain.epoch, .slice a3q x.chain.ids.length c3q, .slice (some ⟨g4, 0, none⟩) x.nodes.length cn, .slice a5q x.msgs.length c5q, .slice an x.history.length cn6] (by omega))
    have o0 := Box.at hN 0 _ rfl
    have p0 := Box.at hy 0 _ rfl
    have o1 := Box.at hN 1 _ rfl
    have p1 := Box.at hy 1 _ rfl
    have o2 := Box.at hN 2 _ rfl
    have p2 := Box.at hy 2 _ rfl
    have o3 := Box.at hN 3 _ rfl
    have p3 := Box.at hy 3 _ rfl
    have o4 := Box.at hN 4 _ rfl
    have p4 := Box.at hy 4 _ rfl
    have o5 := Box.at hN 5 _ rfl
    have p5 := Box.at hy 5 _ rfl
    have o6 := Box.at hN 6 _ rfl
    have p6 := Box.at hy 6 _ rfl
    simp only [ga, gb, gc] at o0 p0 o1 p1 o2 p2 o3 p3 o4 p4 o5 p5 o6 p6
    have hol := hN.lt
    have hyl := hy.lt
    have hyf := Box.soft hy
    clear hWN hWL hA2 i3 i5 i6 j3 j5 j6 hG hS hE hN hx hBr2 hy e9 HC3 HC5 HA HS4 HE4 HN4 HBr HB1 HX HY HB HRN HRE HF
    go_wp2_with fail
    refine bodyPost_ret (v := .agg #[.int .i64 x.now, .int .i64 x.events, .int .i64 x.chain.epoch, .slice a3q x.chain.ids.length c3q, .slice (some ⟨g4, 0, none⟩) x.nodes.length cn, .slice a5q x.msgs.length c5q, .slice an x.history.length cn6]) (by simp [results, Tryz.results154, go_sem, p0, p1, p2, p3, p4, p5, p6]) rfl ?_
    exact ⟨_, rfl, uh HWN, uh HB9⟩
end Go.Proofs.YtoanimpijfijgaaGreat
