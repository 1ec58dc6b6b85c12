/-
  ofSession and OfSession of the program: the writes of a session, in new memory; nothing old is written.
  No condition.
-/
import Derived.Test.YtkodenmpadehjaaImplStory
import Derived.Test.YtkodenmpadehjaaSeqPlain
import Derived.Test.YtkodenmpadehjaaOwnWritesResult
import Derived.Deep.CutRange
namespace Go.Proofs.Ytkodenmpadehjaa
open Go.RowKit

theorem own_ws {w : World} {c : Int} {v : Value} {xs : List DWrite} {lo hi : Nat} (hc : (Lit.int .i64 c).wf = true) (h : (Lay.sl Lay.tWrite).OwnIn w [v] xs lo hi) : Lay.tWritesResult.OwnIn w [.int .i64 c, v] ⟨c, xs⟩ lo hi := by
  obtain ⟨bl, ⟨l, n, f⟩, i⟩ := h
  exact ⟨bl, ⟨⟨[.int .i64 c], [v], [], bl, rfl, by simp, ⟨rfl, hc, rfl⟩, l⟩, n, f⟩, i⟩
theorem own_noWs {w : World} {lo hi : Nat} : (Lay.sl Lay.tWrite).OwnIn w [.slice none 0 0] [] lo hi := ⟨[], ⟨⟨none, 0, rfl, by simp, Or.inl ⟨rfl, rfl⟩⟩, by simp, by simp⟩, by simp⟩
theorem own_codeWs {w : World} {c : Int} {lo hi : Nat} (hc : (Lit.int .i64 c).wf = true) : Lay.tWritesResult.OwnIn w [.int .i64 c, .slice none 0 0] ⟨c, []⟩ lo hi := own_ws hc own_noWs
theorem grow_cell {α : Type} {A : Lay α} {w : World} {base T g cap : Nat} {rows : List (List Value)} {xs : List α} {bls : List (List Nat)} (h : Grow A w base T (.slice (some ⟨g, 0, none⟩) xs.length cap) rows xs bls) {k m : Nat} (hk : k < xs.length) (h2 : k < rows.length) (hm : m < A.n) : w.cell? ⟨g, k * A.n + m, none⟩ = rows[k][m]? := by
  rw [h.own.cellAt (k * A.n + m) (by
    have := h.flat_len
    have : (k + 1) * A.n ≤ xs.length * A.n := Nat.mul_le_mul_right _ (by omega)
    rw [Nat.add_mul] at this
    omega)]
  exact Lay.flat_at h.row_len k m h2 hm
theorem ofL_snoc (ws : List DWrite) (k : Nat) (h : k < ws.length) (s : Int) : ofL (ws.take (k + 1)) s = if (ws[k]).session = s then ofL (ws.take k) s ++ [ws[k]] else ofL (ws.take k) s := by
  rw [ofL, List.take_succ_eq_append_getElem h, List.filter_append]
  by_cases e : (ws[k]).session = s
  · rw [if_pos e]; simp [ofL, e]
  · rw [if_neg e]; simp [ofL, e]
theorem ofL_len (ws : List DWrite) (s : Int) : (ofL ws s).length ≤ ws.length := List.length_filter_le _ _

set_option maxRecDepth 100000 in
set_option maxHeartbeats 4000000 in
theorem ofSess_pos {w : World} {p mb N g cap : Nat} {ws : List DWrite} {rows : List (List Value)} {bls : List (List Nat)} (h : Told w p mb N ws (.slice (some ⟨g, 0, none⟩) ws.length cap) rows bls) (hn : ws.length ≤ 200) (s : Int) :
    Calls Try.prog 36 #[.pointer (some ⟨p, 0, none⟩), .int .i64 s] w fun e w' => ∃ v', e = .returned v' ∧ (Lay.sl Lay.tWrite).OwnIn w' [v'] (ofL ws s) (p + 1) w'.heap.size ∧ Below w.heap.size w w' := by
  have z0 : w.cell? ⟨p, 0, none⟩ = some (.slice (some ⟨g, 0, none⟩) ws.length cap) := h.box.at 0 _ rfl
  have hgl : g < w.heap.size := (h.grow.own.lt g rfl).2
  have H := hide h
  have hpw : p < w.heap.size := h.box.lt
  clear h
  go_enter Try.func36, Try.ntmps36
  go_wp2_with fail
  clear z0
  go_loopw [5, 13] (fun l i wr => ∃ (k : Nat) (rows2 : List (List Value)) (bls2 : List (List Nat)), k ≤ ws.length ∧ i = .int .i64 k ∧ Grow Lay.tWrite wr w.heap.size 47 l rows2 (ofL (ws.take k) s) bls2 ∧ bls2.flatten.Sublist (bls.take k).flatten ∧ Below w.heap.size w wr) (fun _ i _ => ws.length - (intOf i).toNat)
  case atStart => exact ⟨0, [], [], Nat.zero_le _, rfl, Grow.nil ⟨by simp, Or.inl ⟨rfl, rfl⟩⟩, by simp, Below.refl _ _⟩
  case round =>
    obtain ⟨k, rows2, bls2, hk, rfl, hG, hS, hB⟩ := hrel
    by_cases hlt : k < ws.length
    · have h := unhide H
      have n1 := h.grow.nrows
      have n2 := h.grow.nbls
      have hl0 := h.grow.lies k hlt (by omega) (by omega)
      have hcell : ∀ m, m < 5 → wr.cell? ⟨g, k * 5 + m, none⟩ = (rows[k]'(by omega))[m]? := fun m hm => (hB.cell (p := ⟨g, k * 5 + m, none⟩) hgl).trans (grow_cell (A := Lay.tWrite) h.grow hlt (by omega) hm)
      have hl : Lay.tWrite.lies wr (rows[k]'(by omega)) ws[k] (bls[k]'(by omega)) := Lay.tWrite.keep hl0 fun b hb => hB.block b (Lay.tWrite.lt hl0 b hb)
      have HBL : Hid (∀ b ∈ (bls[k]'(by omega)), b < w.heap.size) := fun b hb => Lay.tWrite.lt hl0 b hb
      have HSB : Hid ((bls.take (k + 1)).flatten = (bls.take k).flatten ++ (bls[k]'(by omega))) := by
        show (bls.take (k + 1)).flatten = _
        rw [List.take_succ_eq_append_getElem (by omega), List.flatten_append]
        simp
      have HOF := hide (ofL_snoc ws k hlt s)
      clear h hl0
      obtain ⟨a2, d2, b2, hrow, hb2, -, -, -, -, -⟩ := lies_Write.1 hl
      rw [hrow] at hcell hl
      have c0 : wr.cell? ⟨g, k * 5, none⟩ = some (.int .i64 (ws[k]).kind) := hcell 0 (by decide)
      have c1 : wr.cell? ⟨g, k * 5 + 1, none⟩ = some (.int .i64 (ws[k]).id) := hcell 1 (by decide)
      have c2 : wr.cell? ⟨g, k * 5 + 2, none⟩ = some (.slice a2 (ws[k]).vec.length d2) := hcell 2 (by decide)
      have c3 : wr.cell? ⟨g, k * 5 + 3, none⟩ = some (.int .i64 (ws[k]).session) := hcell 3 (by decide)
      have c4 : wr.cell? ⟨g, k * 5 + 4, none⟩ = some (.int .i64 (ws[k]).seq) := hcell 4 (by decide)
      clear hcell hrow hb2
      generalize bls[k]'(by omega) = bl at *
      generalize hx : ws[k] = x at *
      clear hx
      have HLT : Hid ((ofL (ws.take k) s).length ≤ k) := Nat.le_trans (ofL_len _ _) (by rw [List.length_take]; omega)
      have hgr : g < wr.heap.size := Nat.lt_of_lt_of_le hgl hB.size
      have nb : Below wr.heap.size wr (wr.alloc (.cells #[.int .i64 x.kind, .int .i64 x.id, .slice a2 x.vec.length d2, .int .i64 x.session, .int .i64 x.seq] 47)) := (Below.refl _ _).alloc (Nat.le_refl _) _
      have bI : Box 0 #[.int .i64 x.kind, .int .i64 x.id, .slice a2 x.vec.length d2, .int .i64 x.session, .int .i64 x.seq] 47 (wr.alloc (.cells #[.int .i64 x.kind, .int .i64 x.id, .slice a2 x.vec.length d2, .int .i64 x.session, .int .i64 x.seq] 47)) wr.heap.size := newBox (Nat.zero_le _)
      have HG0 := hide (hG.later nb)
      have HL0 : Hid (Lay.tWrite.lies (wr.alloc (.cells #[.int .i64 x.kind, .int .i64 x.id, .slice a2 x.vec.length d2, .int .i64 x.session, .int .i64 x.seq] 47)) [.int .i64 x.kind, .int .i64 x.id, .slice a2 x.vec.length d2, .int .i64 x.session, .int .i64 x.seq] x bl) := Lay.tWrite.keep hl fun b hb => nb.block b (Lay.tWrite.lt hl b hb)
      have HB0 := hide (hB.trans (nb.mono hB.size))
      have HS0 := hide hS
      have HBI := hide bI
      have HOFF : Hid (∀ b ∈ bl, u5.ownBlock ≠ some b) := fun b hb e => by
        have h1 := (hG.own.lt b e).1
        have h2 := unhide HBL b hb
        omega
      clear hG hl hB hS nb bI HBL
      by_cases hs : x.session = s
      · have hd : (x.session == s) = true := by simpa using hs
        have HO2 : Hid (ofL (ws.take (k + 1)) s = ofL (ws.take k) s ++ [x]) := by
          have := unhide HOF
          rw [if_pos hs] at this
          exact this
        clear HOF hs
        have hG0 := unhide HG0
        have hl0 := unhide HL0
        have hoff := unhide HOFF
        have hZ : w.heap.size ≤ (wr.alloc (.cells #[.int .i64 x.kind, .int .i64 x.id, .slice a2 x.vec.length d2, .int .i64 x.session, .int .i64 x.seq] 47)).heap.size := (unhide HB0).size
        have hLn := unhide HLT
        have y0 : (wr.alloc (.cells #[.int .i64 x.kind, .int .i64 x.id, .slice a2 x.vec.length d2, .int .i64 x.session, .int .i64 x.seq] 47)).cell? ⟨wr.heap.size, 0, none⟩ = some (.int .i64 x.kind) := (unhide HBI).at 0 _ rfl
        have y1 : (wr.alloc (.cells #[.int .i64 x.kind, .int .i64 x.id, .slice a2 x.vec.length d2, .int .i64 x.session, .int .i64 x.seq] 47)).cell? ⟨wr.heap.size, 1, none⟩ = some (.int .i64 x.id) := (unhide HBI).at 1 _ rfl
        have y2 : (wr.alloc (.cells #[.int .i64 x.kind, .int .i64 x.id, .slice a2 x.vec.length d2, .int .i64 x.session, .int .i64 x.seq] 47)).cell? ⟨wr.heap.size, 2, none⟩ = some (.slice a2 x.vec.length d2) := (unhide HBI).at 2 _ rfl
        have y3 : (wr.alloc (.cells #[.int .i64 x.kind, .int .i64 x.id, .slice a2 x.vec.length d2, .int .i64 x.session, .int .i64 x.seq] 47)).cell? ⟨wr.heap.size, 3, none⟩ = some (.int .i64 x.session) := (unhide HBI).at 3 _ rfl
        have y4 : (wr.alloc (.cells #[.int .i64 x.kind, .int .i64 x.id, .slice a2 x.vec.length d2, .int .i64 x.session, .int .i64 x.seq] 47)).cell? ⟨wr.heap.size, 4, none⟩ = some (.int .i64 x.seq) := (unhide HBI).at 4 _ rfl
        have yl : wr.heap.size < (wr.alloc (.cells #[.int .i64 x.kind, .int .i64 x.id, .slice a2 x.vec.length d2, .int .i64 x.session, .int .i64 x.seq] 47)).heap.size := (unhide HBI).lt
        clear HG0 HL0 HOFF HLT HBI
        go_upto_region 6 with fail
        clear c0 c1 c2 c3 c4
        generalize wr.alloc (.cells #[.int .i64 x.kind, .int .i64 x.id, .slice a2 x.vec.length d2, .int .i64 x.session, .int .i64 x.seq] 47) = W0 at *
        go_wp2_with (at_builtin; refine wpList_append_Write hG0 hl0 hoff rfl _ _ rfl rfl rfl (by omega) hZ ?_)
        intro g5 cap5 w5 hG5 hb5 hE5 hg5 hz5 hor5
        have HG5 := hide hG5
        have HB5 := hide ((unhide HB0).trans hb5)
        have HS5 : Hid ((bls2 ++ [bl]).flatten.Sublist (bls.take (k + 1)).flatten) := by
          show (bls2 ++ [bl]).flatten.Sublist _
          rw [unhide HSB, List.flatten_append]
          exact List.Sublist.append (unhide HS0) (by simp)
        clear hG0 hl0 hoff hZ hG5 hb5 hE5 hg5 hz5 hor5 HS0 HSB HB0 y0 y1 y2 y3 y4 yl
        go_wp2_with fail
        go_roundw
        case rel =>
          have hg := unhide HG5
          rw [← unhide HO2] at hg
          exact ⟨k + 1, _, _, by omega, by go_num, hg, unhide HS5, unhide HB5⟩
        case measure => simp [intOf]; omega
      · have hd : (x.session == s) = false := by simpa using hs
        have HO2 : Hid (ofL (ws.take (k + 1)) s = ofL (ws.take k) s) := by
          have := unhide HOF
          rw [if_neg hs] at this
          exact this
        have HS5 : Hid (bls2.flatten.Sublist (bls.take (k + 1)).flatten) := by
          show bls2.flatten.Sublist _
          rw [unhide HSB]
          exact (unhide HS0).trans (List.sublist_append_left _ _)
        clear HOF hs HS0 HSB HBI HL0 HOFF HLT
        go_wp2_with fail
        go_roundw
        case rel =>
          have hg := unhide HG0
          rw [← unhide HO2] at hg
          exact ⟨k + 1, _, _, by omega, by go_num, hg, unhide HS5, unhide HB0⟩
        case measure => simp [intOf]; omega
    · obtain rfl : k = ws.length := by omega
      have h := unhide H
      rw [List.take_length] at hG
      have hS2 : bls2.flatten.Sublist bls.flatten := by
        have e : bls.take ws.length = bls := by rw [← h.grow.nbls, List.take_length]
        rwa [e] at hS
      have HO : Hid ((Lay.sl Lay.tWrite).OwnIn wr [u5] (ofL ws s) (p + 1) wr.heap.size) := (hG.lower hpw).toOwn (by have := ofL_len ws s; omega) (hS2.nodup h.nd) fun b hb => by
        have hm := hS2.subset hb
        exact ⟨(h.sub b hm).1, fun o => (frozen_of_block (hB.block b (h.grow.sub_lt b hm)) o).trans ((h.sub b hm).2 o)⟩
      have HB := hide hB
      clear hG hS hS2 hB h H
      go_wp2_with fail
      go_ret
      exact ⟨_, rfl, unhide HO, unhide HB⟩

set_option maxRecDepth 10000 in
theorem ofSessC {w : World} {p mb N : Nat} {ws : List DWrite} {v : Value} {rows : List (List Value)} {bls : List (List Nat)} (h : Told w p mb N ws v rows bls) (hn : ws.length ≤ 200) (s : Int) :
    Calls Try.prog 36 #[.pointer (some ⟨p, 0, none⟩), .int .i64 s] w fun e w' => ∃ v', e = .returned v' ∧ (Lay.sl Lay.tWrite).OwnIn w' [v'] (ofL ws s) (p + 1) w'.heap.size ∧ Below w.heap.size w w' := by
  have hv : (∃ ao cap, v = .slice ao 0 cap ∧ ws = []) ∨ ∃ g cap, v = .slice (some ⟨g, 0, none⟩) ws.length cap := by
    rcases h.grow.form with ⟨rfl, rfl⟩ | ⟨g, cap, rfl, -⟩
    · exact Or.inl ⟨_, _, rfl, rfl⟩
    · exact Or.inr ⟨_, _, rfl⟩
  rcases hv with ⟨ao, cap, rfl, rfl⟩ | ⟨g, cap, rfl⟩
  · have z0 : w.cell? ⟨p, 0, none⟩ = some (.slice ao 0 cap) := h.box.at 0 _ rfl
    clear h hn
    go_enter Try.func36, Try.ntmps36
    go_wp2_with fail
    refine wp_loop_rounds 1 ?_
    rw [rounds_succ]
    go_wp2_with fail
    go_ret
    exact ⟨_, rfl, own_noWs, Below.refl _ _⟩
  · exact ofSess_pos h hn s

set_option maxRecDepth 10000 in
set_option maxHeartbeats 1000000 in
/-- OfSession of the program. -/
theorem implOf (v : Value) (ws : List DWrite) (s : Int) (w : World) (h : (Lay.sl Lay.tWrite).Reads w [v] ws) :
    Calls Try.prog 18 #[v, .int .i64 s] w fun e w' => ∃ cs, e = .returned (.agg cs.toArray) ∧ Lay.tWritesResult.OwnIn w' cs (ofR ws s) w.heap.size w'.heap.size ∧ Below w.heap.size w w' := by
  have nb : Below w.heap.size w (w.alloc (.cells #[.int .i64 0, .slice none 0 0] 37)) := (Below.refl _ _).alloc (Nat.le_refl _) _
  have bR0 : Box w.heap.size #[.int .i64 0, .slice none 0 0] 37 (w.alloc (.cells #[.int .i64 0, .slice none 0 0] 37)) w.heap.size := newBox (Nat.le_refl _)
  have HR := hide (h.later nb)
  have HB0 := hide nb
  have HBR := hide bR0
  obtain ⟨ao, cap, rfl⟩ := open_sl h
  clear nb bR0 h
  have HL := hide (storyC _ ws _ (unhide HR))
  go_enter Try.func18, Try.ntmps18
  go_wp2_with fail
  refine (unhide HL).mono ?_
  rintro e w2 ⟨r, rfl, g0, g1, hb⟩
  have bR := (unhide HBR).keep hb
  have HB2 := hide ((unhide HB0).trans (hb.mono (unhide HB0).size))
  have hsz : (w.alloc (.cells #[.int .i64 0, .slice none 0 0] 37)).heap.size = w.heap.size + 1 := by simp
  rw [hsz] at g0
  clear hb HL HB0 HBR HR hsz
  by_cases hf : writesF ws = 0
  · obtain ⟨rfl, v2, rows, bls, hT⟩ := g0 hf
    clear g0 g1
    have HF := hide hf
    rw [hf]
    clear hf
    have HS := hide (isSessionC s w2)
    by_cases hs : 1 ≤ s ∧ s ≤ 9
    · rw [dec9 hs] at HS
      have HG : Hid (ofR ws s = ⟨0, ofL ws s⟩) := by show ofR ws s = _; rw [ofR, if_pos (asked_ok (unhide HF) hs)]
      have HO := hide (ofSessC hT (writesF_zero (unhide HF)).1 s)
      have HBR := hide bR
      clear hs hT HF bR
      go_wp2_with fail
      refine (unhide HS).mono ?_
      rintro e w3 ⟨rfl, hw3⟩
      rw [hw3]
      clear hw3 w3 HS
      go_wp2_with fail
      refine (unhide HO).mono ?_
      rintro e w4 ⟨v4, rfl, hO, hb4⟩
      obtain ⟨ao9, cp9, rfl⟩ := open_sl hO.reads
      have bR := (unhide HBR).keep hb4
      have z0 : w4.cell? ⟨w.heap.size, 0, none⟩ = some (.int .i64 0) := bR.at 0 _ rfl
      have z1 : w4.cell? ⟨w.heap.size, 1, none⟩ = some (.slice none 0 0) := bR.at 1 _ rfl
      have f0 := bR.soft 0
      have f1 := bR.soft 1
      have l0 := bR.lt
      have HB9 := hide ((unhide HB2).trans (hb4.mono (unhide HB2).size))
      have HO9 := hide (hO.mono (lo' := w.heap.size + 1) (by omega) (Nat.le_refl _))
      clear hO hb4 bR HO HBR HB2
      go_wp2_with fail
      refine bodyPost_ret (v := .agg #[.int .i64 0, .slice ao9 (ofL ws s).length cp9]) (by simp [results, Try.results18, go_sem, z0, z1]) rfl ?_
      rw [unhide HG]
      have hE : Ext (fun c => c = w.heap.size) w4 ((w4.setCell ⟨w.heap.size, 0, none⟩ (.int .i64 0)).setCell ⟨w.heap.size, 1, none⟩ (.slice ao9 (ofL ws s).length cp9)) := ((Ext.refl (fun c => c = w.heap.size) _).setCell ⟨w.heap.size, 0, none⟩ _ rfl).setCell ⟨w.heap.size, 1, none⟩ _ rfl
      refine ⟨[.int .i64 0, .slice ao9 (ofL ws s).length cp9], rfl, own_ws (by decide) ?_, ((unhide HB9).setCell (by simp) _).setCell (by simp) _⟩
      exact ((unhide HO9).ext hE (fun c h1 _ h3 => by omega)).mono (by omega) (by simp)
    · rw [dec9n hs] at HS
      have HG : Hid (ofR ws s = ⟨3, []⟩) := by show ofR ws s = _; rw [ofR, asked_out (unhide HF) hs, if_neg (by decide)]
      have z0 : w2.cell? ⟨w.heap.size, 0, none⟩ = some (.int .i64 0) := bR.at 0 _ rfl
      have z1 : w2.cell? ⟨w.heap.size, 1, none⟩ = some (.slice none 0 0) := bR.at 1 _ rfl
      have f0 := bR.soft 0
      have f1 := bR.soft 1
      have l0 := bR.lt
      clear hs hT HF bR
      go_wp2_with fail
      refine (unhide HS).mono ?_
      rintro e w3 ⟨rfl, hw3⟩
      rw [hw3]
      clear hw3 w3 HS
      go_wp2_with fail
      refine bodyPost_ret (v := .agg #[.int .i64 3, .slice none 0 0]) (by simp [results, Try.results18, go_sem, z0, z1]) rfl ?_
      rw [unhide HG]
      exact ⟨_, rfl, own_codeWs (by decide), ((unhide HB2).setCell (by simp) _).setCell (by simp) _⟩
  · obtain rfl := g1 hf
    clear g0 g1
    have HG : Hid (ofR ws s = ⟨writesF ws, []⟩) := by show ofR ws s = _; rw [ofR, asked_bad s hf, if_neg hf]
    have HWF := hide (wsF_wf ws)
    have hd : (writesF ws != 0) = true := by simpa using hf
    have z0 : w2.cell? ⟨w.heap.size, 0, none⟩ = some (.int .i64 0) := bR.at 0 _ rfl
    have z1 : w2.cell? ⟨w.heap.size, 1, none⟩ = some (.slice none 0 0) := bR.at 1 _ rfl
    have f0 := bR.soft 0
    have f1 := bR.soft 1
    have l0 := bR.lt
    clear hf bR
    go_wp2_with fail
    refine bodyPost_ret (v := .agg #[.int .i64 (writesF ws), .slice none 0 0]) (by simp [results, Try.results18, go_sem, z0, z1]) rfl ?_
    rw [unhide HG]
    exact ⟨_, rfl, own_codeWs (unhide HWF), ((unhide HB2).setCell (by simp) _).setCell (by simp) _⟩

end Go.Proofs.Ytkodenmpadehjaa
