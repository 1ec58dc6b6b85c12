/-
  Texts of this proof in one: ImplSeenAt, OwnWritesResult, ImplOf, ImplOnce, ImplInts, ImplSame.
  Their conditions stand in their theorems.
-/
import Derived.Test.YtkodenmpadehjaaDoorSqO11
import Derived.Test.YtkodenmpadehjaaDoorSqO06
import Derived.Test.YtkodenmpadehjaaDoorSqO09
import Derived.Deep.CutRange
import Derived.Deep.RegionHeld3
import Derived.Test.YtkodenmpadehjaaDoorChecked
import Derived.Test.YtkodenmpadehjaaDoorSqO10
import Derived.BigQuiet
import Derived.Deep.QuietTactic
import Derived.WalkSmall

namespace Go.Proofs.YtkodenmpadehjaaDoor
open Go.RowKit

set_option maxRecDepth 10000 in
set_option maxHeartbeats 1000000 in
theorem implSeenAt (v : Value) (ws : List DWrite) (s q : Int) (w : World) (h : (Lay.sl Lay.tWrite).Reads w [v] ws) :
    Calls Tryd.prog 9 #[v, .int .i64 s , .int .i64 q] w fun e w' => ∃ cs, e = .returned (.agg cs.toArray) ∧ Lay.tIntResult.OwnIn w' cs (seenR ws s q) w.heap.size w'.heap.size ∧ Below w.heap.size w w' := by
  have nb : Below w.heap.size w (w.alloc (.cells #[.int .i64 0, .int .i64 0] 34)) := (Below.refl _ _).alloc (Nat.le_refl _) _
  have bR0 : Box w.heap.size #[.int .i64 0, .int .i64 0] 34 (w.alloc (.cells #[.int .i64 0, .int .i64 0] 34)) w.heap.size := newBox (Nat.le_refl _)
  have HR := hide (h.later nb)
  have HB0 := hide nb
  have HBR := hide bR0
  obtain ⟨ao, cap, rfl⟩ := open_sl h
  clear nb bR0 h
  have HL := hide (storyC _ ws _ (unhide HR))
  go_enter Tryd.func9, Tryd.ntmps9
  go_wp2_with fail
  refine (unhide HL).mono ?_
  rintro e w2 ⟨r, rfl, g0, g1, hb⟩
  have bR := (unhide HBR).keep hb
  have HB2 := hide ((unhide HB0).trans (hb.mono (unhide HB0).size))
  have hsz : (w.alloc (.cells #[.int .i64 0, .int .i64 0] 34)).heap.size = w.heap.size + 1 := by simp
  rw [hsz] at g0
  clear hb HL HB0 HBR HR hsz
  by_cases hf : writesF ws = 0
  · obtain ⟨rfl, v2, rows, bls, hT⟩ := g0 hf
    clear g0 g1
    have HF := hide hf
    rw [hf]
    clear hf
    have HS := hide (isSessionC s w2)
    by_cases hs : 1 ≤ s ∧ s ≤ 9
    · rw [dec9 hs] at HS
      have HQ := hide (isSeqC q w2)
      by_cases hq : 1 ≤ q ∧ q ≤ 999
      · rw [dec999 hq] at HQ
        have hlk := hT.seen.look (s := s) (q := q) (wf_of_bd (by omega)) (wf_of_bd (by omega))
        simp only [tick] at hlk
        have zm : w2.cell? ⟨w.heap.size + 1 + 1, 1, none⟩ = some (.map (some (w.heap.size + 1))) := hT.box.at 1 _ rfl
        by_cases h0 : seenI ws s q = 0
        · have HG : Hid (seenR ws s q = ⟨4, 0⟩) := by show seenR ws s q = _; rw [seenR, if_pos (asked_ok (unhide HF) hs), if_pos hq, if_pos h0]
          have hlk2 : (Instr.lookup 68 (.map (some (w.heap.size + 1))) (.agg #[.int .i64 s, .int .i64 q]) true).run Tryd.prog w2 = .ok (.tuple #[.int .i64 0, .bool false]) w2 := by rw [hlk, h0]; rfl
          clear hlk h0 hs hq hT HF
          go_wp2_with fail
          refine (unhide HS).mono ?_
          rintro e w3 ⟨rfl, hw3⟩
          rw [hw3]
          clear hw3 w3
          go_wp2_with fail
          refine (unhide HQ).mono ?_
          rintro e w3 ⟨rfl, hw3⟩
          rw [hw3]
          clear hw3 w3
          clear HS HQ
          have z0 : w2.cell? ⟨w.heap.size, 0, none⟩ = some (.int .i64 0) := bR.at 0 _ rfl
          have z1 : w2.cell? ⟨w.heap.size, 1, none⟩ = some (.int .i64 0) := bR.at 1 _ rfl
          have f0 := bR.soft 0
          have f1 := bR.soft 1
          have l0 := bR.lt
          clear bR
          go_wp2_with fail
          refine bodyPost_ret (v := .agg #[.int .i64 (4), .int .i64 (0)]) (by simp [results, Tryd.results9, go_sem, z0, z1]) rfl ?_
          rw [unhide HG]
          exact ⟨_, rfl, own_IntR (by decide) (by decide), ((unhide HB2).setCell (by simp) _).setCell (by simp) _⟩
        · have HG : Hid (seenR ws s q = ⟨0, seenI ws s q⟩) := by show seenR ws s q = _; rw [seenR, if_pos (asked_ok (unhide HF) hs), if_pos hq, if_neg h0]
          have HBD : Hid (seenI ws s q ≤ 200) := Nat.le_trans (seenI_le ws s q) (writesF_zero (unhide HF)).1
          have hlk2 : (Instr.lookup 68 (.map (some (w.heap.size + 1))) (.agg #[.int .i64 s, .int .i64 q]) true).run Tryd.prog w2 = .ok (.tuple #[.int .i64 (seenI ws s q), .bool true]) w2 := by rw [hlk]; simp [h0]
          clear hlk h0 hs hq hT HF
          go_wp2_with fail
          refine (unhide HS).mono ?_
          rintro e w3 ⟨rfl, hw3⟩
          rw [hw3]
          clear hw3 w3
          go_wp2_with fail
          refine (unhide HQ).mono ?_
          rintro e w3 ⟨rfl, hw3⟩
          rw [hw3]
          clear hw3 w3
          clear HS HQ
          have z0 : w2.cell? ⟨w.heap.size, 0, none⟩ = some (.int .i64 0) := bR.at 0 _ rfl
          have z1 : w2.cell? ⟨w.heap.size, 1, none⟩ = some (.int .i64 0) := bR.at 1 _ rfl
          have f0 := bR.soft 0
          have f1 := bR.soft 1
          have l0 := bR.lt
          clear bR
          go_wp2_with fail
          refine bodyPost_ret (v := .agg #[.int .i64 (0), .int .i64 (seenI ws s q)]) (by simp [results, Tryd.results9, go_sem, z0, z1]) rfl ?_
          rw [unhide HG]
          exact ⟨_, rfl, own_IntR (by decide) (wf_of_bd (by have := unhide HBD; omega)), ((unhide HB2).setCell (by simp) _).setCell (by simp) _⟩
      · rw [dec999n hq] at HQ
        have HG : Hid (seenR ws s q = ⟨3, 0⟩) := by show seenR ws s q = _; rw [seenR, if_pos (asked_ok (unhide HF) hs), if_neg hq]
        clear hs hq hT HF
        go_wp2_with fail
        refine (unhide HS).mono ?_
        rintro e w3 ⟨rfl, hw3⟩
        rw [hw3]
        clear hw3 w3
        go_wp2_with fail
        refine (unhide HQ).mono ?_
        rintro e w3 ⟨rfl, hw3⟩
        rw [hw3]
        clear hw3 w3
        clear HS HQ
        have z0 : w2.cell? ⟨w.heap.size, 0, none⟩ = some (.int .i64 0) := bR.at 0 _ rfl
        have z1 : w2.cell? ⟨w.heap.size, 1, none⟩ = some (.int .i64 0) := bR.at 1 _ rfl
        have f0 := bR.soft 0
        have f1 := bR.soft 1
        have l0 := bR.lt
        clear bR
        go_wp2_with fail
        refine bodyPost_ret (v := .agg #[.int .i64 (3), .int .i64 (0)]) (by simp [results, Tryd.results9, go_sem, z0, z1]) rfl ?_
        rw [unhide HG]
        exact ⟨_, rfl, own_IntR (by decide) (by decide), ((unhide HB2).setCell (by simp) _).setCell (by simp) _⟩
    · rw [dec9n hs] at HS
      have HG : Hid (seenR ws s q = ⟨3, 0⟩) := by show seenR ws s q = _; rw [seenR, asked_out (unhide HF) hs, if_neg (by decide)]
      clear hs hT HF
      go_wp2_with fail
      refine (unhide HS).mono ?_
      rintro e w3 ⟨rfl, hw3⟩
      rw [hw3]
      clear hw3 w3
      clear HS
      have z0 : w2.cell? ⟨w.heap.size, 0, none⟩ = some (.int .i64 0) := bR.at 0 _ rfl
      have z1 : w2.cell? ⟨w.heap.size, 1, none⟩ = some (.int .i64 0) := bR.at 1 _ rfl
      have f0 := bR.soft 0
      have f1 := bR.soft 1
      have l0 := bR.lt
      clear bR
      go_wp2_with fail
      refine bodyPost_ret (v := .agg #[.int .i64 (3), .int .i64 (0)]) (by simp [results, Tryd.results9, go_sem, z0, z1]) rfl ?_
      rw [unhide HG]
      exact ⟨_, rfl, own_IntR (by decide) (by decide), ((unhide HB2).setCell (by simp) _).setCell (by simp) _⟩
  · obtain rfl := g1 hf
    clear g0 g1
    have HG : Hid (seenR ws s q = ⟨writesF ws, 0⟩) := by show seenR ws s q = _; rw [seenR, asked_bad s hf, if_neg hf]
    have HWF := hide (wsF_wf ws)
    have hd : (writesF ws != 0) = true := by simpa using hf
    clear hf
    have z0 : w2.cell? ⟨w.heap.size, 0, none⟩ = some (.int .i64 0) := bR.at 0 _ rfl
    have z1 : w2.cell? ⟨w.heap.size, 1, none⟩ = some (.int .i64 0) := bR.at 1 _ rfl
    have f0 := bR.soft 0
    have f1 := bR.soft 1
    have l0 := bR.lt
    clear bR
    go_wp2_with fail
    refine bodyPost_ret (v := .agg #[.int .i64 (writesF ws), .int .i64 (0)]) (by simp [results, Tryd.results9, go_sem, z0, z1]) rfl ?_
    rw [unhide HG]
    exact ⟨_, rfl, own_IntR (unhide HWF) (by decide), ((unhide HB2).setCell (by simp) _).setCell (by simp) _⟩

end Go.Proofs.YtkodenmpadehjaaDoor

namespace Go.Proofs.YtkodenmpadehjaaDoor
open Go.RowKit

theorem vcnt_WritesResult (x : DWritesResult) : Lay.tWritesResult.vcnt x = (Lay.sl Lay.tWrite).vcnt x.writes := by
  show 0 + ((Lay.sl Lay.tWrite).vcnt x.writes) = (Lay.sl Lay.tWrite).vcnt x.writes
  omega
theorem mkv_WritesResult (k : Int) (x : DWritesResult) : Lay.tWritesResult.mkv k x = ⟨x.code, (Lay.sl Lay.tWrite).mkv (k) x.writes⟩ := by
  simp [Lay.tWritesResult, Lay.via, Lay.pair, Lay.int]
theorem own_WritesResult {w : World} {cs : List Value} {x : DWritesResult} {bl : List Nat} (h : Lay.tWritesResult.Own w cs x bl) : ∃ (a1 : Option Addr) (d1 : Nat) (g1 : List Nat), cs = [.int .i64 x.code, .slice a1 x.writes.length d1] ∧ bl = g1 ∧ (Lay.sl Lay.tWrite).Own w [.slice a1 x.writes.length d1] x.writes g1 ∧ (Lit.int .i64 x.code).wf = true := by
  obtain ⟨hl, hn, hf⟩ := h
  obtain ⟨a1, d1, b1, rfl, hbl, w0, l1⟩ := lies_WritesResult.1 hl
  rw [hbl] at hn hf
  exact ⟨a1, d1, b1, rfl, hbl, ⟨l1, hn, hf⟩, w0⟩
theorem mkOwn_WritesResult {w : World} {x : DWritesResult} {c1 : List Value} {g1 : List Nat} (O1 : (Lay.sl Lay.tWrite).Own w c1 x.writes g1) (v0 : (Lit.int .i64 x.code).wf = true) (hn : (g1).Nodup) : Lay.tWritesResult.Own w ([.int .i64 x.code] ++ c1) x (g1) := by
  refine ⟨⟨[.int .i64 x.code], c1, [], g1, rfl, by simp, ⟨rfl, v0, rfl⟩, O1.1⟩, hn, ?_⟩
  intro b hb o
  exact O1.2.2 b hb o

end Go.Proofs.YtkodenmpadehjaaDoor

namespace Go.Proofs.YtkodenmpadehjaaDoor
open Go.RowKit

theorem own_ws {w : World} {c : Int} {v : Value} {xs : List DWrite} {lo hi : Nat} (hc : (Lit.int .i64 c).wf = true) (h : (Lay.sl Lay.tWrite).OwnIn w [v] xs lo hi) : Lay.tWritesResult.OwnIn w [.int .i64 c, v] ⟨c, xs⟩ lo hi := by
  obtain ⟨bl, ⟨l, n, f⟩, i⟩ := h
  exact ⟨bl, ⟨⟨[.int .i64 c], [v], [], bl, rfl, by simp, ⟨rfl, hc, rfl⟩, l⟩, n, f⟩, i⟩
theorem own_noWs {w : World} {lo hi : Nat} : (Lay.sl Lay.tWrite).OwnIn w [.slice none 0 0] [] lo hi := ⟨[], ⟨⟨none, 0, rfl, by simp, Or.inl ⟨rfl, rfl⟩⟩, by simp, by simp⟩, by simp⟩
theorem own_codeWs {w : World} {c : Int} {lo hi : Nat} (hc : (Lit.int .i64 c).wf = true) : Lay.tWritesResult.OwnIn w [.int .i64 c, .slice none 0 0] ⟨c, []⟩ lo hi := own_ws hc own_noWs
theorem grow_cell {α : Type} {A : Lay α} {w : World} {base T g cap : Nat} {rows : List (List Value)} {xs : List α} {bls : List (List Nat)} (h : Grow A w base T (.slice (some ⟨g, 0, none⟩) xs.length cap) rows xs bls) {k m : Nat} (hk : k < xs.length) (h2 : k < rows.length) (hm : m < A.n) : w.cell? ⟨g, k * A.n + m, none⟩ = rows[k][m]? := by
  rw [h.own.cellAt (k * A.n + m) (by
    have := h.flat_len
    have : (k + 1) * A.n ≤ xs.length * A.n := Nat.mul_le_mul_right _ (by omega)
    rw [Nat.add_mul] at this
    omega)]
  exact Lay.flat_at h.row_len k m h2 hm
theorem ofL_snoc (ws : List DWrite) (k : Nat) (h : k < ws.length) (s : Int) : ofL (ws.take (k + 1)) s = if (ws[k]).session = s then ofL (ws.take k) s ++ [ws[k]] else ofL (ws.take k) s := by
  rw [ofL, List.take_succ_eq_append_getElem h, List.filter_append]
  by_cases e : (ws[k]).session = s
  · rw [if_pos e]; simp [ofL, e]
  · rw [if_neg e]; simp [ofL, e]
theorem ofL_len (ws : List DWrite) (s : Int) : (ofL ws s).length ≤ ws.length := List.length_filter_le _ _

set_option maxRecDepth 100000 in
set_option maxHeartbeats 4000000 in
theorem ofSess_pos {w : World} {p mb N g cap : Nat} {ws : List DWrite} {rows : List (List Value)} {bls : List (List Nat)} (h : Told w p mb N ws (.slice (some ⟨g, 0, none⟩) ws.length cap) rows bls) (hn : ws.length ≤ 200) (s : Int) :
    Calls Tryd.prog 42 #[.pointer (some ⟨p, 0, none⟩), .int .i64 s] w fun e w' => ∃ v', e = .returned v' ∧ (Lay.sl Lay.tWrite).OwnIn w' [v'] (ofL ws s) (p + 1) w'.heap.size ∧ Below w.heap.size w w' := by
  have z0 : w.cell? ⟨p, 0, none⟩ = some (.slice (some ⟨g, 0, none⟩) ws.length cap) := h.box.at 0 _ rfl
  have hgl : g < w.heap.size := (h.grow.own.lt g rfl).2
  have H := hide h
  have hpw : p < w.heap.size := h.box.lt
  clear h
  go_enter Tryd.func42, Tryd.ntmps42
  go_wp2_with fail
  clear z0
  go_loopw [5, 13] (fun l i wr => ∃ (k : Nat) (rows2 : List (List Value)) (bls2 : List (List Nat)), k ≤ ws.length ∧ i = .int .i64 k ∧ Grow Lay.tWrite wr w.heap.size 27 l rows2 (ofL (ws.take k) s) bls2 ∧ bls2.flatten.Sublist (bls.take k).flatten ∧ Below w.heap.size w wr) (fun _ i _ => ws.length - (intOf i).toNat)
  case atStart => exact ⟨0, [], [], Nat.zero_le _, rfl, Grow.nil ⟨by simp, Or.inl ⟨rfl, rfl⟩⟩, by simp, Below.refl _ _⟩
  case round =>
    obtain ⟨k, rows2, bls2, hk, rfl, hG, hS, hB⟩ := hrel
    by_cases hlt : k < ws.length
    · have h := unhide H
      have n1 := h.grow.nrows
      have n2 := h.grow.nbls
      have hl0 := h.grow.lies k hlt (by omega) (by omega)
      have hcell : ∀ m, m < 5 → wr.cell? ⟨g, k * 5 + m, none⟩ = (rows[k]'(by omega))[m]? := fun m hm => (hB.cell (p := ⟨g, k * 5 + m, none⟩) hgl).trans (grow_cell (A := Lay.tWrite) h.grow hlt (by omega) hm)
      have hl : Lay.tWrite.lies wr (rows[k]'(by omega)) ws[k] (bls[k]'(by omega)) := Lay.tWrite.keep hl0 fun b hb => hB.block b (Lay.tWrite.lt hl0 b hb)
      have HBL : Hid (∀ b ∈ (bls[k]'(by omega)), b < w.heap.size) := fun b hb => Lay.tWrite.lt hl0 b hb
      have HSB : Hid ((bls.take (k + 1)).flatten = (bls.take k).flatten ++ (bls[k]'(by omega))) := by
        show (bls.take (k + 1)).flatten = _
        rw [List.take_succ_eq_append_getElem (by omega), List.flatten_append]
        simp
      have HOF := hide (ofL_snoc ws k hlt s)
      clear h hl0
      obtain ⟨a2, d2, b2, hrow, hb2, -, -, -, -, -⟩ := lies_Write.1 hl
      rw [hrow] at hcell hl
      have c0 : wr.cell? ⟨g, k * 5, none⟩ = some (.int .i64 (ws[k]).kind) := hcell 0 (by decide)
      have c1 : wr.cell? ⟨g, k * 5 + 1, none⟩ = some (.int .i64 (ws[k]).id) := hcell 1 (by decide)
      have c2 : wr.cell? ⟨g, k * 5 + 2, none⟩ = some (.slice a2 (ws[k]).vec.length d2) := hcell 2 (by decide)
      have c3 : wr.cell? ⟨g, k * 5 + 3, none⟩ = some (.int .i64 (ws[k]).session) := hcell 3 (by decide)
      have c4 : wr.cell? ⟨g, k * 5 + 4, none⟩ = some (.int .i64 (ws[k]).seq) := hcell 4 (by decide)
      clear hcell hrow hb2
      generalize bls[k]'(by omega) = bl at *
      generalize hx : ws[k] = x at *
      clear hx
      have HLT : Hid ((ofL (ws.take k) s).length ≤ k) := Nat.le_trans (ofL_len _ _) (by rw [List.length_take]; omega)
      have hgr : g < wr.heap.size := Nat.lt_of_lt_of_le hgl hB.size
      have nb : Below wr.heap.size wr (wr.alloc (.cells #[.int .i64 x.kind, .int .i64 x.id, .slice a2 x.vec.length d2, .int .i64 x.session, .int .i64 x.seq] 27)) := (Below.refl _ _).alloc (Nat.le_refl _) _
      have bI : Box 0 #[.int .i64 x.kind, .int .i64 x.id, .slice a2 x.vec.length d2, .int .i64 x.session, .int .i64 x.seq] 27 (wr.alloc (.cells #[.int .i64 x.kind, .int .i64 x.id, .slice a2 x.vec.length d2, .int .i64 x.session, .int .i64 x.seq] 27)) wr.heap.size := newBox (Nat.zero_le _)
      have HG0 := hide (hG.later nb)
      have HL0 : Hid (Lay.tWrite.lies (wr.alloc (.cells #[.int .i64 x.kind, .int .i64 x.id, .slice a2 x.vec.length d2, .int .i64 x.session, .int .i64 x.seq] 27)) [.int .i64 x.kind, .int .i64 x.id, .slice a2 x.vec.length d2, .int .i64 x.session, .int .i64 x.seq] x bl) := Lay.tWrite.keep hl fun b hb => nb.block b (Lay.tWrite.lt hl b hb)
      have HB0 := hide (hB.trans (nb.mono hB.size))
      have HS0 := hide hS
      have HBI := hide bI
      have HOFF : Hid (∀ b ∈ bl, u5.ownBlock ≠ some b) := fun b hb e => by
        have h1 := (hG.own.lt b e).1
        have h2 := unhide HBL b hb
        omega
      clear hG hl hB hS nb bI HBL
      by_cases hs : x.session = s
      · have hd : (x.session == s) = true := by simpa using hs
        have HO2 : Hid (ofL (ws.take (k + 1)) s = ofL (ws.take k) s ++ [x]) := by
          have := unhide HOF
          rw [if_pos hs] at this
          exact this
        clear HOF hs
        have hG0 := unhide HG0
        have hl0 := unhide HL0
        have hoff := unhide HOFF
        have hZ : w.heap.size ≤ (wr.alloc (.cells #[.int .i64 x.kind, .int .i64 x.id, .slice a2 x.vec.length d2, .int .i64 x.session, .int .i64 x.seq] 27)).heap.size := (unhide HB0).size
        have hLn := unhide HLT
        have y0 : (wr.alloc (.cells #[.int .i64 x.kind, .int .i64 x.id, .slice a2 x.vec.length d2, .int .i64 x.session, .int .i64 x.seq] 27)).cell? ⟨wr.heap.size, 0, none⟩ = some (.int .i64 x.kind) := (unhide HBI).at 0 _ rfl
        have y1 : (wr.alloc (.cells #[.int .i64 x.kind, .int .i64 x.id, .slice a2 x.vec.length d2, .int .i64 x.session, .int .i64 x.seq] 27)).cell? ⟨wr.heap.size, 1, none⟩ = some (.int .i64 x.id) := (unhide HBI).at 1 _ rfl
        have y2 : (wr.alloc (.cells #[.int .i64 x.kind, .int .i64 x.id, .slice a2 x.vec.length d2, .int .i64 x.session, .int .i64 x.seq] 27)).cell? ⟨wr.heap.size, 2, none⟩ = some (.slice a2 x.vec.length d2) := (unhide HBI).at 2 _ rfl
        have y3 : (wr.alloc (.cells #[.int .i64 x.kind, .int .i64 x.id, .slice a2 x.vec.length d2, .int .i64 x.session, .int .i64 x.seq] 27)).cell? ⟨wr.heap.size, 3, none⟩ = some (.int .i64 x.session) := (unhide HBI).at 3 _ rfl
        have y4 : (wr.alloc (.cells #[.int .i64 x.kind, .int .i64 x.id, .slice a2 x.vec.length d2, .int .i64 x.session, .int .i64 x.seq] 27)).cell? ⟨wr.heap.size, 4, none⟩ = some (.int .i64 x.seq) := (unhide HBI).at 4 _ rfl
        have yl : wr.heap.size < (wr.alloc (.cells #[.int .i64 x.kind, .int .i64 x.id, .slice a2 x.vec.length d2, .int .i64 x.session, .int .i64 x.seq] 27)).heap.size := (unhide HBI).lt
        clear HG0 HL0 HOFF HLT HBI
        go_upto_region 6 with fail
        clear c0 c1 c2 c3 c4
        generalize wr.alloc (.cells #[.int .i64 x.kind, .int .i64 x.id, .slice a2 x.vec.length d2, .int .i64 x.session, .int .i64 x.seq] 27) = W0 at *
        go_wp2_with (at_builtin; refine wpList_append_Write hG0 hl0 hoff rfl _ _ rfl rfl rfl (by omega) hZ ?_)
        intro g5 cap5 w5 hG5 hb5 hE5 hg5 hz5 hor5
        have HG5 := hide hG5
        have HB5 := hide ((unhide HB0).trans hb5)
        have HS5 : Hid ((bls2 ++ [bl]).flatten.Sublist (bls.take (k + 1)).flatten) := by
          show (bls2 ++ [bl]).flatten.Sublist _
          rw [unhide HSB, List.flatten_append]
          exact List.Sublist.append (unhide HS0) (by simp)
        clear hG0 hl0 hoff hZ hG5 hb5 hE5 hg5 hz5 hor5 HS0 HSB HB0 y0 y1 y2 y3 y4 yl
        go_wp2_with fail
        go_roundw
        case rel =>
          have hg := unhide HG5
          rw [← unhide HO2] at hg
          exact ⟨k + 1, _, _, by omega, by go_num, hg, unhide HS5, unhide HB5⟩
        case measure => simp [intOf]; omega
      · have hd : (x.session == s) = false := by simpa using hs
        have HO2 : Hid (ofL (ws.take (k + 1)) s = ofL (ws.take k) s) := by
          have := unhide HOF
          rw [if_neg hs] at this
          exact this
        have HS5 : Hid (bls2.flatten.Sublist (bls.take (k + 1)).flatten) := by
          show bls2.flatten.Sublist _
          rw [unhide HSB]
          exact (unhide HS0).trans (List.sublist_append_left _ _)
        clear HOF hs HS0 HSB HBI HL0 HOFF HLT
        go_wp2_with fail
        go_roundw
        case rel =>
          have hg := unhide HG0
          rw [← unhide HO2] at hg
          exact ⟨k + 1, _, _, by omega, by go_num, hg, unhide HS5, unhide HB0⟩
        case measure => simp [intOf]; omega
    · obtain rfl : k = ws.length := by omega
      have h := unhide H
      rw [List.take_length] at hG
      have hS2 : bls2.flatten.Sublist bls.flatten := by
        have e : bls.take ws.length = bls := by rw [← h.grow.nbls, List.take_length]
        rwa [e] at hS
      have HO : Hid ((Lay.sl Lay.tWrite).OwnIn wr [u5] (ofL ws s) (p + 1) wr.heap.size) := (hG.lower hpw).toOwn (by have := ofL_len ws s; omega) (hS2.nodup h.nd) fun b hb => by
        have hm := hS2.subset hb
        exact ⟨(h.sub b hm).1, fun o => (frozen_of_block (hB.block b (h.grow.sub_lt b hm)) o).trans ((h.sub b hm).2 o)⟩
      have HB := hide hB
      clear hG hS hS2 hB h H
      go_wp2_with fail
      go_ret
      exact ⟨_, rfl, unhide HO, unhide HB⟩

set_option maxRecDepth 10000 in
theorem ofSessC {w : World} {p mb N : Nat} {ws : List DWrite} {v : Value} {rows : List (List Value)} {bls : List (List Nat)} (h : Told w p mb N ws v rows bls) (hn : ws.length ≤ 200) (s : Int) :
    Calls Tryd.prog 42 #[.pointer (some ⟨p, 0, none⟩), .int .i64 s] w fun e w' => ∃ v', e = .returned v' ∧ (Lay.sl Lay.tWrite).OwnIn w' [v'] (ofL ws s) (p + 1) w'.heap.size ∧ Below w.heap.size w w' := by
  have hv : (∃ ao cap, v = .slice ao 0 cap ∧ ws = []) ∨ ∃ g cap, v = .slice (some ⟨g, 0, none⟩) ws.length cap := by
    rcases h.grow.form with ⟨rfl, rfl⟩ | ⟨g, cap, rfl, -⟩
    · exact Or.inl ⟨_, _, rfl, rfl⟩
    · exact Or.inr ⟨_, _, rfl⟩
  rcases hv with ⟨ao, cap, rfl, rfl⟩ | ⟨g, cap, rfl⟩
  · have z0 : w.cell? ⟨p, 0, none⟩ = some (.slice ao 0 cap) := h.box.at 0 _ rfl
    clear h hn
    go_enter Tryd.func42, Tryd.ntmps42
    go_wp2_with fail
    refine wp_loop_rounds 1 ?_
    rw [rounds_succ]
    go_wp2_with fail
    go_ret
    exact ⟨_, rfl, own_noWs, Below.refl _ _⟩
  · exact ofSess_pos h hn s

set_option maxRecDepth 10000 in
set_option maxHeartbeats 1000000 in
/-- OfSession of the program. -/
theorem implOf (v : Value) (ws : List DWrite) (s : Int) (w : World) (h : (Lay.sl Lay.tWrite).Reads w [v] ws) :
    Calls Tryd.prog 11 #[v, .int .i64 s] w fun e w' => ∃ cs, e = .returned (.agg cs.toArray) ∧ Lay.tWritesResult.OwnIn w' cs (ofR ws s) w.heap.size w'.heap.size ∧ Below w.heap.size w w' := by
  have nb : Below w.heap.size w (w.alloc (.cells #[.int .i64 0, .slice none 0 0] 38)) := (Below.refl _ _).alloc (Nat.le_refl _) _
  have bR0 : Box w.heap.size #[.int .i64 0, .slice none 0 0] 38 (w.alloc (.cells #[.int .i64 0, .slice none 0 0] 38)) w.heap.size := newBox (Nat.le_refl _)
  have HR := hide (h.later nb)
  have HB0 := hide nb
  have HBR := hide bR0
  obtain ⟨ao, cap, rfl⟩ := open_sl h
  clear nb bR0 h
  have HL := hide (storyC _ ws _ (unhide HR))
  go_enter Tryd.func11, Tryd.ntmps11
  go_wp2_with fail
  refine (unhide HL).mono ?_
  rintro e w2 ⟨r, rfl, g0, g1, hb⟩
  have bR := (unhide HBR).keep hb
  have HB2 := hide ((unhide HB0).trans (hb.mono (unhide HB0).size))
  have hsz : (w.alloc (.cells #[.int .i64 0, .slice none 0 0] 38)).heap.size = w.heap.size + 1 := by simp
  rw [hsz] at g0
  clear hb HL HB0 HBR HR hsz
  by_cases hf : writesF ws = 0
  · obtain ⟨rfl, v2, rows, bls, hT⟩ := g0 hf
    clear g0 g1
    have HF := hide hf
    rw [hf]
    clear hf
    have HS := hide (isSessionC s w2)
    by_cases hs : 1 ≤ s ∧ s ≤ 9
    · rw [dec9 hs] at HS
      have HG : Hid (ofR ws s = ⟨0, ofL ws s⟩) := by show ofR ws s = _; rw [ofR, if_pos (asked_ok (unhide HF) hs)]
      have HO := hide (ofSessC hT (writesF_zero (unhide HF)).1 s)
      have HBR := hide bR
      clear hs hT HF bR
      go_wp2_with fail
      refine (unhide HS).mono ?_
      rintro e w3 ⟨rfl, hw3⟩
      rw [hw3]
      clear hw3 w3 HS
      go_wp2_with fail
      refine (unhide HO).mono ?_
      rintro e w4 ⟨v4, rfl, hO, hb4⟩
      obtain ⟨ao9, cp9, rfl⟩ := open_sl hO.reads
      have bR := (unhide HBR).keep hb4
      have z0 : w4.cell? ⟨w.heap.size, 0, none⟩ = some (.int .i64 0) := bR.at 0 _ rfl
      have z1 : w4.cell? ⟨w.heap.size, 1, none⟩ = some (.slice none 0 0) := bR.at 1 _ rfl
      have f0 := bR.soft 0
      have f1 := bR.soft 1
      have l0 := bR.lt
      have HB9 := hide ((unhide HB2).trans (hb4.mono (unhide HB2).size))
      have HO9 := hide (hO.mono (lo' := w.heap.size + 1) (by omega) (Nat.le_refl _))
      clear hO hb4 bR HO HBR HB2
      go_wp2_with fail
      refine bodyPost_ret (v := .agg #[.int .i64 0, .slice ao9 (ofL ws s).length cp9]) (by simp [results, Tryd.results11, go_sem, z0, z1]) rfl ?_
      rw [unhide HG]
      have hE : Ext (fun c => c = w.heap.size) w4 ((w4.setCell ⟨w.heap.size, 0, none⟩ (.int .i64 0)).setCell ⟨w.heap.size, 1, none⟩ (.slice ao9 (ofL ws s).length cp9)) := ((Ext.refl (fun c => c = w.heap.size) _).setCell ⟨w.heap.size, 0, none⟩ _ rfl).setCell ⟨w.heap.size, 1, none⟩ _ rfl
      refine ⟨[.int .i64 0, .slice ao9 (ofL ws s).length cp9], rfl, own_ws (by decide) ?_, ((unhide HB9).setCell (by simp) _).setCell (by simp) _⟩
      exact ((unhide HO9).ext hE (fun c h1 _ h3 => by omega)).mono (by omega) (by simp)
    · rw [dec9n hs] at HS
      have HG : Hid (ofR ws s = ⟨3, []⟩) := by show ofR ws s = _; rw [ofR, asked_out (unhide HF) hs, if_neg (by decide)]
      have z0 : w2.cell? ⟨w.heap.size, 0, none⟩ = some (.int .i64 0) := bR.at 0 _ rfl
      have z1 : w2.cell? ⟨w.heap.size, 1, none⟩ = some (.slice none 0 0) := bR.at 1 _ rfl
      have f0 := bR.soft 0
      have f1 := bR.soft 1
      have l0 := bR.lt
      clear hs hT HF bR
      go_wp2_with fail
      refine (unhide HS).mono ?_
      rintro e w3 ⟨rfl, hw3⟩
      rw [hw3]
      clear hw3 w3 HS
      go_wp2_with fail
      refine bodyPost_ret (v := .agg #[.int .i64 3, .slice none 0 0]) (by simp [results, Tryd.results11, go_sem, z0, z1]) rfl ?_
      rw [unhide HG]
      exact ⟨_, rfl, own_codeWs (by decide), ((unhide HB2).setCell (by simp) _).setCell (by simp) _⟩
  · obtain rfl := g1 hf
    clear g0 g1
    have HG : Hid (ofR ws s = ⟨writesF ws, []⟩) := by show ofR ws s = _; rw [ofR, asked_bad s hf, if_neg hf]
    have HWF := hide (wsF_wf ws)
    have hd : (writesF ws != 0) = true := by simpa using hf
    have z0 : w2.cell? ⟨w.heap.size, 0, none⟩ = some (.int .i64 0) := bR.at 0 _ rfl
    have z1 : w2.cell? ⟨w.heap.size, 1, none⟩ = some (.slice none 0 0) := bR.at 1 _ rfl
    have f0 := bR.soft 0
    have f1 := bR.soft 1
    have l0 := bR.lt
    clear hf bR
    go_wp2_with fail
    refine bodyPost_ret (v := .agg #[.int .i64 (writesF ws), .slice none 0 0]) (by simp [results, Tryd.results11, go_sem, z0, z1]) rfl ?_
    rw [unhide HG]
    exact ⟨_, rfl, own_codeWs (unhide HWF), ((unhide HB2).setCell (by simp) _).setCell (by simp) _⟩

end Go.Proofs.YtkodenmpadehjaaDoor

namespace Go.Proofs.YtkodenmpadehjaaDoor
open Go.RowKit

def acells (f : Int → Int) : Array Value := #[.int .i64 (f 0), .int .i64 (f 1), .int .i64 (f 2), .int .i64 (f 3), .int .i64 (f 4), .int .i64 (f 5), .int .i64 (f 6), .int .i64 (f 7), .int .i64 (f 8), .int .i64 (f 9)]
theorem acells_at (f : Int → Int) (i : Nat) (h : i < 10) : (acells f)[i]? = some (.int .i64 (f i)) := by
  match i, h with
  | 0, _ => rfl
  | 1, _ => rfl
  | 2, _ => rfl
  | 3, _ => rfl
  | 4, _ => rfl
  | 5, _ => rfl
  | 6, _ => rfl
  | 7, _ => rfl
  | 8, _ => rfl
  | 9, _ => rfl
theorem acells_set (f : Int → Int) (i : Nat) (h : i < 10) (z : Int) : (acells f).setIfInBounds i (.int .i64 z) = acells (fun j => if j = i then z else f j) := by
  match i, h with
  | 0, _ => rfl
  | 1, _ => rfl
  | 2, _ => rfl
  | 3, _ => rfl
  | 4, _ => rfl
  | 5, _ => rfl
  | 6, _ => rfl
  | 7, _ => rfl
  | 8, _ => rfl
  | 9, _ => rfl

set_option maxRecDepth 100000 in
set_option maxHeartbeats 4000000 in
theorem onceRight_pos (b off cap : Nat) (ws : List DWrite) (w : World) (h : (Lay.sl Lay.tWrite).Reads w [.slice (some ⟨b, off, none⟩) ws.length cap] ws) (hbl : b < w.heap.size) (hf : writesF ws = 0) :
    Calls Tryd.prog 13 #[.slice (some ⟨b, off, none⟩) ws.length cap] w fun e w' => e = .returned (.bool (onceB [] ws)) ∧ Below w.heap.size w w' := by
  have HL := hide (storyC _ ws w h)
  have H := hide h
  obtain ⟨hlen, hall⟩ := writesF_zero hf
  have HA := hide hall
  have HF := hide hf
  clear h hall hf
  go_enter Tryd.func13, Tryd.ntmps13
  go_wp2_with fail
  refine (unhide HL).mono ?_
  rintro e w2 ⟨r, rfl, g0, -, hb⟩
  obtain ⟨rfl, -⟩ := g0 (unhide HF)
  rw [unhide HF]
  have HB0 := hide (hb.alloc hb.size (.cells #[.int .i64 0, .int .i64 0, .int .i64 0, .int .i64 0, .int .i64 0, .int .i64 0, .int .i64 0, .int .i64 0, .int .i64 0, .int .i64 0] 69))
  have HX0 : Hid (Box 0 (acells (lastI [])) 69 (w2.alloc (.cells #[.int .i64 0, .int .i64 0, .int .i64 0, .int .i64 0, .int .i64 0, .int .i64 0, .int .i64 0, .int .i64 0, .int .i64 0, .int .i64 0] 69)) w2.heap.size) := newBox (Nat.zero_le _)
  have hz2 := hb.size
  clear hb HL HF g0
  go_wp2_with fail
  generalize w2.alloc (.cells #[.int .i64 0, .int .i64 0, .int .i64 0, .int .i64 0, .int .i64 0, .int .i64 0, .int .i64 0, .int .i64 0, .int .i64 0, .int .i64 0] 69) = W1 at *
  generalize w2.heap.size = L at *
  go_loopw [17] (fun i wr => ∃ k : Nat, k ≤ ws.length ∧ i = .int .i64 k ∧ (∀ j (hj : j < ws.length), j < k → lastI ([] ++ ws.take j) (ws[j]).session < (ws[j]).seq) ∧ Box 0 (acells (lastI (ws.take k))) 69 wr L ∧ Below w.heap.size w wr) (fun i _ => ws.length - (intOf i).toNat)
  case atStart => exact ⟨0, Nat.zero_le _, rfl, fun j _ hj => by omega, unhide HX0, unhide HB0⟩
  case round =>
    obtain ⟨k, hk, rfl, hz, hX, hB⟩ := hrel
    clear HX0 HB0
    by_cases hlt : k < ws.length
    · obtain ⟨row, hc, hr⟩ := Lay.row_at (unhide H) hlt
      replace hr := hr.later hB
      obtain ⟨a2, d2, rfl, R2⟩ := open_Write hr
      have c0 : wr.cell? ⟨b, off + k * 5, none⟩ = some (.int .i64 (ws[k]).kind) := (hB.cell (p := ⟨b, off + k * 5, none⟩) hbl).trans (hc 0 (by decide))
      have c1 : wr.cell? ⟨b, off + k * 5 + 1, none⟩ = some (.int .i64 (ws[k]).id) := (hB.cell (p := ⟨b, off + k * 5 + 1, none⟩) hbl).trans (hc 1 (by decide))
      have c2 : wr.cell? ⟨b, off + k * 5 + 2, none⟩ = some (.slice a2 (ws[k]).vec.length d2) := (hB.cell (p := ⟨b, off + k * 5 + 2, none⟩) hbl).trans (hc 2 (by decide))
      have c3 : wr.cell? ⟨b, off + k * 5 + 3, none⟩ = some (.int .i64 (ws[k]).session) := (hB.cell (p := ⟨b, off + k * 5 + 3, none⟩) hbl).trans (hc 3 (by decide))
      have c4 : wr.cell? ⟨b, off + k * 5 + 4, none⟩ = some (.int .i64 (ws[k]).seq) := (hB.cell (p := ⟨b, off + k * 5 + 4, none⟩) hbl).trans (hc 4 (by decide))
      have hsq := wF_seq (unhide HA ws[k] (List.getElem_mem hlt))
      have HAT : Hid ((ws[k]).seq ≤ lastI (ws.take k) (ws[k]).session → onceB [] ws = false) := fun he => onceB_at ws [] k hlt (by simpa using he)
      have HZ2 : Hid (lastI (ws.take k) (ws[k]).session < (ws[k]).seq → ∀ j (hj : j < ws.length), j < k + 1 → lastI ([] ++ ws.take j) (ws[j]).session < (ws[j]).seq) := by
        intro h0 j hj hjk
        by_cases hjk2 : j < k
        · exact hz j hj hjk2
        · obtain rfl : j = k := by omega
          simpa using h0
      have HLT : Hid (lastI (ws.take k) (ws[k]).session < (ws[k]).seq → ∀ j : Int, (if j = ((ws[k]).session.toNat : Int) then (ws[k]).seq else lastI (ws.take k) j) = lastI (ws.take (k + 1)) j) := by
        intro h0 j
        have h9 := wF_seq (unhide HA ws[k] (List.getElem_mem hlt))
        rw [lastI_take ws k hlt, show ((ws[k]).session.toNat : Int) = (ws[k]).session by omega]
        by_cases e : j = (ws[k]).session
        · rw [if_pos e, if_pos e.symm, e]; omega
        · rw [if_neg e, if_neg (fun h => e h.symm)]
      clear hc hr hz R2
      generalize hx : ws[k] = x at *
      clear hx
      have hbr : b < wr.heap.size := Nat.lt_of_lt_of_le hbl hB.size
      have nb : Below wr.heap.size wr (wr.alloc (.cells #[.int .i64 x.kind, .int .i64 x.id, .slice a2 x.vec.length d2, .int .i64 x.session, .int .i64 x.seq] 27)) := (Below.refl _ _).alloc (Nat.le_refl _) _
      have bI : Box 0 #[.int .i64 x.kind, .int .i64 x.id, .slice a2 x.vec.length d2, .int .i64 x.session, .int .i64 x.seq] 27 (wr.alloc (.cells #[.int .i64 x.kind, .int .i64 x.id, .slice a2 x.vec.length d2, .int .i64 x.session, .int .i64 x.seq] 27)) wr.heap.size := newBox (Nat.zero_le _)
      have hLq := hX.lt
      have HX1 := hide (hX.keep nb)
      have HB1 := hide (hB.trans (nb.mono hB.size))
      have HBI := hide bI
      have hLw : w.heap.size ≤ L := hz2
      clear nb bI hX hB
      go_wp2_with fail
      clear c0 c1 c2 c3 c4
      generalize wr.alloc (.cells #[.int .i64 x.kind, .int .i64 x.id, .slice a2 x.vec.length d2, .int .i64 x.session, .int .i64 x.seq] 27) = W0 at *
      obtain ⟨b1, b9, q1, q9⟩ := hsq
      have hs9 : x.session.toNat < 10 := by omega
      have hsi : (x.session.toNat : Int) = x.session := by omega
      have i1 : (0 : Int) ≤ x.session := by omega
      have i2 : x.session < 10 := by omega
      have hXD := unhide HX1
      have hID := unhide HBI
      refine wp_region_noPanic ?_
      refine wp_region_held_drew (S := fun w' => w' = W0.drew) (by kernel_rfl) rfl (fun hHeld => ?_)
      refine wpAnyH_take (i := 0) (oi := { dst := some 21, op := Go.Op.fieldAddr 27 (Go.Operand.tmp 7) 4, type := 0, pos := "l05_session.go:155", after := #[], guard := none }) (v := ?vo0) rfl (by kernel_rfl) (by kernel_rfl) (by kernel_rfl) (fun _ _ _ h => h) (Or.inl ⟨by rfl, ?ho0⟩) hHeld ?ro0
      case ho0 =>
        intro wS hSw
        (try dsimp only at hSw)
        go_simp
        try with_reducible rfl
      case ro0 =>
      simp only [Act.put, List.setIfInBounds_toArray, List.set_cons_zero, List.set_cons_succ]
      refine wpAnyH_take (i := 1) (oi := { dst := some 22, op := Go.Op.load 2 (Go.Operand.tmp 21), type := 2, pos := "l05_session.go:155", after := #[{ on := 0, ground := Go.Ground.data }], guard := none }) (v := ?vo1) rfl (by kernel_rfl) (by kernel_rfl) (by kernel_rfl) (fun _ _ _ h => h) (Or.inl ⟨by rfl, ?ho1⟩) hHeld ?ro1
      case ho1 =>
        intro wS hSw
        have y3 : wS.cell? ⟨wr.heap.size, 3, none⟩ = some (.int .i64 x.session) := by rw [hSw]; exact hID.at 3 _ rfl
        have y4 : wS.cell? ⟨wr.heap.size, 4, none⟩ = some (.int .i64 x.seq) := by rw [hSw]; exact hID.at 4 _ rfl
        have yl : wS.cell? ⟨L, x.session.toNat, none⟩ = some (.int .i64 (lastI (ws.take k) x.session)) := by
          have := hXD.at _ _ (acells_at (lastI (ws.take k)) x.session.toNat hs9)
          rw [hsi] at this
          rw [hSw]; exact this
        clear hSw
        (try dsimp only at hSw)
        go_simp
        try with_reducible rfl
      case ro1 =>
      simp only [Act.put, List.setIfInBounds_toArray, List.set_cons_zero, List.set_cons_succ]
      refine wpAnyH_take (i := 2) (oi := { dst := some 23, op := Go.Op.fieldAddr 27 (Go.Operand.tmp 7) 3, type := 0, pos := "l05_session.go:155", after := #[], guard := none }) (v := ?vo2) rfl (by kernel_rfl) (by kernel_rfl) (by kernel_rfl) (fun _ _ _ h => h) (Or.inl ⟨by rfl, ?ho2⟩) hHeld ?ro2
      case ho2 =>
        intro wS hSw
        (try dsimp only at hSw)
        go_simp
        try with_reducible rfl
      case ro2 =>
      simp only [Act.put, List.setIfInBounds_toArray, List.set_cons_zero, List.set_cons_succ]
      refine wpAnyH_take (i := 3) (oi := { dst := some 24, op := Go.Op.load 2 (Go.Operand.tmp 23), type := 2, pos := "l05_session.go:155", after := #[{ on := 2, ground := Go.Ground.data }], guard := none }) (v := ?vo3) rfl (by kernel_rfl) (by kernel_rfl) (by kernel_rfl) (fun _ _ _ h => h) (Or.inl ⟨by rfl, ?ho3⟩) hHeld ?ro3
      case ho3 =>
        intro wS hSw
        have y3 : wS.cell? ⟨wr.heap.size, 3, none⟩ = some (.int .i64 x.session) := by rw [hSw]; exact hID.at 3 _ rfl
        have y4 : wS.cell? ⟨wr.heap.size, 4, none⟩ = some (.int .i64 x.seq) := by rw [hSw]; exact hID.at 4 _ rfl
        have yl : wS.cell? ⟨L, x.session.toNat, none⟩ = some (.int .i64 (lastI (ws.take k) x.session)) := by
          have := hXD.at _ _ (acells_at (lastI (ws.take k)) x.session.toNat hs9)
          rw [hsi] at this
          rw [hSw]; exact this
        clear hSw
        (try dsimp only at hSw)
        go_simp
        try with_reducible rfl
      case ro3 =>
      simp only [Act.put, List.setIfInBounds_toArray, List.set_cons_zero, List.set_cons_succ]
      refine wpAnyH_take (i := 4) (oi := { dst := some 25, op := Go.Op.indexAddr 69 (Go.Operand.tmp 5) (Go.Operand.tmp 24), type := 0, pos := "l05_session.go:155", after := #[{ on := 3, ground := Go.Ground.data }], guard := none }) (v := ?vo4) rfl (by kernel_rfl) (by kernel_rfl) (by kernel_rfl) (fun _ _ _ h => h) (Or.inl ⟨by rfl, ?ho4⟩) hHeld ?ro4
      case ho4 =>
        intro wS hSw
        (try dsimp only at hSw)
        go_simp
        try with_reducible rfl
      case ro4 =>
      simp only [Act.put, List.setIfInBounds_toArray, List.set_cons_zero, List.set_cons_succ]
      refine wpAnyH_take (i := 5) (oi := { dst := some 26, op := Go.Op.load 2 (Go.Operand.tmp 25), type := 2, pos := "l05_session.go:155", after := #[{ on := 4, ground := Go.Ground.data }], guard := none }) (v := ?vo5) rfl (by kernel_rfl) (by kernel_rfl) (by kernel_rfl) (fun _ _ _ h => h) (Or.inl ⟨by rfl, ?ho5⟩) hHeld ?ro5
      case ho5 =>
        intro wS hSw
        have y3 : wS.cell? ⟨wr.heap.size, 3, none⟩ = some (.int .i64 x.session) := by rw [hSw]; exact hID.at 3 _ rfl
        have y4 : wS.cell? ⟨wr.heap.size, 4, none⟩ = some (.int .i64 x.seq) := by rw [hSw]; exact hID.at 4 _ rfl
        have yl : wS.cell? ⟨L, x.session.toNat, none⟩ = some (.int .i64 (lastI (ws.take k) x.session)) := by
          have := hXD.at _ _ (acells_at (lastI (ws.take k)) x.session.toNat hs9)
          rw [hsi] at this
          rw [hSw]; exact this
        clear hSw
        (try dsimp only at hSw)
        go_simp
        try with_reducible rfl
      case ro5 =>
      simp only [Act.put, List.setIfInBounds_toArray, List.set_cons_zero, List.set_cons_succ]
      refine wpAnyH_take (i := 6) (oi := { dst := some 27, op := Go.Op.binOp Go.BinOp.leq 2 (Go.Operand.tmp 22) (Go.Operand.tmp 26) 2, type := 4, pos := "l05_session.go:155", after := #[{ on := 1, ground := Go.Ground.data }, { on := 5, ground := Go.Ground.data }], guard := none }) (v := ?vo6) rfl (by kernel_rfl) (by kernel_rfl) (by kernel_rfl) (fun _ _ _ h => h) (Or.inl ⟨by rfl, ?ho6⟩) hHeld ?ro6
      case ho6 =>
        intro wS hSw
        (try dsimp only at hSw)
        go_simp
        try with_reducible rfl
      case ro6 =>
      simp only [Act.put, List.setIfInBounds_toArray, List.set_cons_zero, List.set_cons_succ]
      refine wpAnyH_done (by kernel_rfl) ?_ _
      refine NoPanic.normal ?_
      clear hHeld
      have HBD := hide (unhide HB1).drew
      have hX2 : Box 0 (acells (lastI (ws.take k))) 69 W0.drew L := unhide HX1
      have hI2 : Box 0 #[.int .i64 x.kind, .int .i64 x.id, .slice a2 x.vec.length d2, .int .i64 x.session, .int .i64 x.seq] 27 W0.drew wr.heap.size := unhide HBI
      generalize W0.drew = W2 at *
      clear HX1 HBI HB1 hXD hID
      by_cases hq : x.seq ≤ lastI (ws.take k) x.session
      · have hd : decide (x.seq ≤ lastI (ws.take k) x.session) = true := by simpa using hq
        have HG := hide (unhide HAT hq)
        clear hq HAT HZ2 HLT hsi
        rw [hd]
        go_wp2_with fail
        go_ret
        exact ⟨by rw [unhide HG]; first | done | rfl, unhide HBD⟩
      · have hd : decide (x.seq ≤ lastI (ws.take k) x.session) = false := by simpa using hq
        have HZ := hide (unhide HZ2 (by omega))
        have HX3 : Hid (Box 0 (acells (lastI (ws.take (k + 1)))) 69 (W2.setCell ⟨L, x.session.toNat, none⟩ (.int .i64 x.seq)) L) := by
          have e := hX2.set x.session.toNat (.int .i64 x.seq)
          rw [acells_set _ _ hs9, funext (unhide HLT (by omega))] at e
          exact e
        have HB3 : Hid (Below w.heap.size w (W2.setCell ⟨L, x.session.toNat, none⟩ (.int .i64 x.seq))) := (unhide HBD).setCell (by simp; omega) _
        have y3 : W2.cell? ⟨wr.heap.size, 3, none⟩ = some (.int .i64 x.session) := hI2.at 3 _ rfl
        have y4 : W2.cell? ⟨wr.heap.size, 4, none⟩ = some (.int .i64 x.seq) := hI2.at 4 _ rfl
        have yl : W2.cell? ⟨L, x.session.toNat, none⟩ = some (.int .i64 (lastI (ws.take k) x.session)) := by
          have := hX2.at _ _ (acells_at (lastI (ws.take k)) x.session.toNat hs9)
          rwa [hsi] at this
        have fl := hX2.soft x.session.toNat
        have ll := hX2.lt
        clear hq HAT HZ2 HLT hsi hX2 hI2 HBD
        rw [hd]
        go_wp2_with fail
        go_roundw
        case rel => exact ⟨k + 1, by omega, by go_num, unhide HZ, unhide HX3, unhide HB3⟩
        case measure => simp [intOf]; omega
    · obtain rfl : k = ws.length := by omega
      have HG : Hid (onceB [] ws = true) := onceB_all ws [] fun j hj => hz j hj hj
      have HB := hide hB
      clear H hz hB hX
      go_wp2_with fail
      go_ret
      exact ⟨by rw [unhide HG]; first | done | rfl, unhide HB⟩

set_option maxRecDepth 10000 in
set_option maxHeartbeats 1000000 in
/-- OnceRight of the program. -/
theorem implOnce (v : Value) (ws : List DWrite) (w : World) (h : (Lay.sl Lay.tWrite).Reads w [v] ws) :
    Calls Tryd.prog 13 #[v] w fun e w' => e = .returned (.bool (onceR ws)) ∧ Below w.heap.size w w' := by
  obtain ⟨ao, cap, rfl⟩ := open_sl h
  by_cases hf : writesF ws = 0
  · have e1 : onceR ws = onceB [] ws := by simp [onceR, hf]
    rw [e1]
    by_cases hp : 0 < ws.length
    · obtain ⟨b, off, rfl, hbl⟩ := Lay.sl_addr h hp
      exact onceRight_pos b off cap ws w h hbl hf
    · obtain rfl : ws = [] := List.eq_nil_of_length_eq_zero (by omega)
      have HL := hide (storyC _ [] w h)
      clear h hp e1 hf
      go_enter Tryd.func13, Tryd.ntmps13
      go_wp2_with fail
      refine (unhide HL).mono ?_
      rintro e w2 ⟨r, rfl, g0, -, hb⟩
      obtain ⟨rfl, -⟩ := g0 rfl
      rw [show writesF [] = 0 from rfl]
      have HB0 := hide (hb.alloc hb.size (.cells #[.int .i64 0, .int .i64 0, .int .i64 0, .int .i64 0, .int .i64 0, .int .i64 0, .int .i64 0, .int .i64 0, .int .i64 0, .int .i64 0] 69))
      clear hb HL g0
      go_wp2_with fail
      refine wp_loop_rounds 1 ?_
      rw [rounds_succ]
      go_wp2_with fail
      go_ret
      exact ⟨rfl, unhide HB0⟩
  · have HL := hide (storyC _ ws w h)
    have HG : Hid (onceR ws = false) := by show onceR ws = _; simp [onceR, hf]
    have hd : (writesF ws != 0) = true := by simpa using hf
    clear h
    go_enter Tryd.func13, Tryd.ntmps13
    go_wp2_with fail
    refine (unhide HL).mono ?_
    rintro e w2 ⟨r, rfl, -, -, hb⟩
    have HB0 := hide hb
    clear hb HL hf
    go_wp2_with fail
    go_ret
    exact ⟨by rw [unhide HG]; first | done | rfl, unhide HB0⟩

end Go.Proofs.YtkodenmpadehjaaDoor

namespace Go.Proofs.YtkodenmpadehjaaDoor
open Go.RowKit

theorem ne_at_slEqual {ps qs : List Int} {k : Nat} (h : ps.getD k 0 ≠ qs.getD k 0) : decide (ps = qs) = false := by
  simp only [decide_eq_false_iff_not]
  rintro rfl
  exact h rfl
theorem eq_all_slEqual {ps qs : List Int} (hl : ps.length = qs.length) (h : ∀ j, j < ps.length → ps.getD j 0 = qs.getD j 0) : decide (ps = qs) = true := by
  simp only [decide_eq_true_eq]
  refine List.ext_getElem hl fun j h1 h2 => ?_
  have := h j h1
  simpa [List.getD, h1, h2] using this

set_option maxHeartbeats 800000 in
theorem slEqual_pos (b off cap b2 off2 cap2 : Nat) (ps qs : List Int) (w : World) (hl : ps.length = qs.length) (hn : ps.length ≤ 9223372036854775807) (hc : ∀ j, j < ps.length → w.cell? ⟨b, off + j, none⟩ = some (.int .i64 (ps.getD j 0)))
    (hc2 : ∀ j, j < ps.length → w.cell? ⟨b2, off2 + j, none⟩ = some (.int .i64 (qs.getD j 0))) :
    Calls Tryd.prog 66 #[.slice (some ⟨b, off, none⟩) ps.length cap, .slice (some ⟨b2, off2, none⟩) ps.length cap2] w fun e w' => e = .returned (.bool (decide (ps = qs))) ∧ Below w.heap.size w w' := by
  have HL := hide hl
  clear hl
  go_enter Tryd.func66, Tryd.ntmps66
  go_wp2
  go_loopw [13] (fun i wr => ∃ k : Nat, k ≤ ps.length ∧ i = .int .i64 k ∧ Below w.heap.size w wr ∧ ∀ j, j < k → ps.getD j 0 = qs.getD j 0) (fun i _ => ps.length - (intOf i).toNat)
  case atStart => exact ⟨0, Nat.zero_le _, rfl, Below.refl _ _, fun j hj => by omega⟩
  case round =>
    obtain ⟨k, hk, rfl, hB, hq⟩ := hrel
    by_cases hlt : k < ps.length
    · have hcx : wr.cell? ⟨b, off + k, none⟩ = some (.int .i64 (ps.getD k 0)) := (hB.cell (World.block_lt_of_cell? _ _ (hc k hlt))).trans (hc k hlt)
      have hcy : wr.cell? ⟨b2, off2 + k, none⟩ = some (.int .i64 (qs.getD k 0)) := (hB.cell (World.block_lt_of_cell? _ _ (hc2 k hlt))).trans (hc2 k hlt)
      have HQ := hide hq
      have HB := hide hB
      clear hc hc2 hq hB
      by_cases he : ps.getD k 0 = qs.getD k 0
      · have HE := hide he
        rw [← he] at hcy
        clear he
        generalize ps.getD k 0 = x at hcx hcy
        have hxx : (x != x) = false := by simp
        go_wp2
        go_quiet (fail)
        go_wp2
        go_roundw
        case rel =>
          refine ⟨k + 1, by omega, by go_num, below_drewN (unhide HB) _, fun j hj => ?_⟩
          by_cases hjk : j < k
          · exact unhide HQ j hjk
          · obtain rfl : j = k := by omega
            exact unhide HE
        case measure => simp [intOf]; omega
      · have HN := hide (ne_at_slEqual he)
        have hxy : (ps.getD k 0 != qs.getD k 0) = true := by rw [bne_iff_ne]; exact he
        clear he
        generalize ps.getD k 0 = x at hcx hxy
        generalize qs.getD k 0 = y at hcy hxy
        go_wp2
        go_quiet (fail)
        go_wp2
        go_ret
        exact ⟨by rw [unhide HN]; rfl, below_drewN (unhide HB) _⟩
    · obtain rfl : k = ps.length := by omega
      have HN := hide (eq_all_slEqual (unhide HL) hq)
      have HB := hide hB
      clear hc hc2 hq hB
      go_wp2
      go_ret
      exact ⟨by rw [unhide HN]; rfl, unhide HB⟩
set_option maxHeartbeats 400000 in
theorem slEqual_len (ao ao2 : Option Addr) (n m cap cap2 : Nat) (w : World) (h : n ≠ m) :
    Calls Tryd.prog 66 #[.slice ao n cap, .slice ao2 m cap2] w fun e w' => e = .returned (.bool false) ∧ Below w.heap.size w w' := by
  have hd : ((n : Int) != (m : Int)) = true := by rw [bne_iff_ne]; omega
  go_enter Tryd.func66, Tryd.ntmps66
  go_wp2
  go_ret
  exact ⟨rfl, Below.refl _ _⟩
theorem slEqual_zero (ao ao2 : Option Addr) (cap cap2 : Nat) (w : World) :
    Calls Tryd.prog 66 #[.slice ao 0 cap, .slice ao2 0 cap2] w fun e w' => e = .returned (.bool true) ∧ Below w.heap.size w w' := by
  go_enter Tryd.func66, Tryd.ntmps66
  go_wp2
  refine wp_loop_rounds 1 ?_
  rw [rounds_succ]
  go_wp2
  go_ret
  exact ⟨rfl, Below.refl _ _⟩
/-- Whether two lists of numbers are the same. -/
theorem slEqual (v v2 : Value) (ps qs : List Int) (w : World) (h : IsInts w v ps) (h2 : IsInts w v2 qs) (hn : ps.length ≤ 9223372036854775807) :
    Calls Tryd.prog 66 #[v, v2] w fun e w' => e = .returned (.bool (decide (ps = qs))) ∧ Below w.heap.size w w' := by
  obtain ⟨ao, cap, rfl, hwf, hc⟩ := h
  obtain ⟨ao2, cap2, rfl, _, hc2⟩ := h2
  by_cases hl : ps.length = qs.length
  · by_cases hp : 0 < ps.length
    · obtain ⟨b, off, rfl, hc1⟩ := hc hp
      obtain ⟨b2, off2, rfl, hc3⟩ := hc2 (by omega)
      rw [← hl] at hc3 ⊢
      exact slEqual_pos b off cap b2 off2 cap2 ps qs w hl hn hc1 hc3
    · obtain rfl : ps = [] := List.eq_nil_of_length_eq_zero (by omega)
      obtain rfl : qs = [] := List.eq_nil_of_length_eq_zero (by simpa using hl.symm)
      exact slEqual_zero ao ao2 cap cap2 w
  · rw [show decide (ps = qs) = false by simp only [decide_eq_false_iff_not]; rintro rfl; exact hl rfl]
    exact slEqual_len ao ao2 _ _ cap cap2 w hl

end Go.Proofs.YtkodenmpadehjaaDoor

namespace Go.Proofs.YtkodenmpadehjaaDoor
open Go.RowKit

set_option maxRecDepth 10000 in
set_option maxHeartbeats 2000000 in
theorem sameWrite (cs cs2 : List Value) (x y : DWrite) (w : World) (h : Lay.tWrite.Reads w cs x) (h2 : Lay.tWrite.Reads w cs2 y) :
    Calls Tryd.prog 44 #[.agg cs.toArray, .agg cs2.toArray] w fun e w' => e = .returned (.bool (sameW x y)) ∧ Below w.heap.size w w' := by
  obtain ⟨a2, d2, rfl, R2⟩ := open_Write h
  obtain ⟨a2z, d2z, rfl, R2z⟩ := open_Write h2
  clear h h2
  have HB : Hid (Below w.heap.size w ((w.alloc (.cells #[.int .i64 x.kind, .int .i64 x.id, .slice a2 x.vec.length d2, .int .i64 x.session, .int .i64 x.seq] 27)).alloc (.cells #[.int .i64 y.kind, .int .i64 y.id, .slice a2z y.vec.length d2z, .int .i64 y.session, .int .i64 y.seq] 27))) := ((Below.refl _ _).alloc (Nat.le_refl _) _).alloc (by simp) _
  cases e0 : (x.kind == y.kind) with
  | false =>
    have HS : Hid (sameW x y = false) := by
      show sameW x y = false
      simp [sameW, e0]
    go_enter Tryd.func44, Tryd.ntmps44
    go_wp2_with fail
    go_ret
    exact ⟨by rw [unhide HS]; rfl, unhide HB⟩
  | true =>
    cases e1 : (x.id == y.id) with
    | false =>
      have HS : Hid (sameW x y = false) := by
        show sameW x y = false
        simp [sameW, e0, e1]
      go_enter Tryd.func44, Tryd.ntmps44
      go_wp2_with fail
      go_ret
      exact ⟨by rw [unhide HS]; rfl, unhide HB⟩
    | true =>
      cases e2 : (x.session == y.session) with
      | false =>
        have HS : Hid (sameW x y = false) := by
          show sameW x y = false
          simp [sameW, e0, e1, e2]
        go_enter Tryd.func44, Tryd.ntmps44
        go_wp2_with fail
        go_ret
        exact ⟨by rw [unhide HS]; rfl, unhide HB⟩
      | true =>
        cases e3 : (x.seq == y.seq) with
        | false =>
          have HS : Hid (sameW x y = false) := by
            show sameW x y = false
            simp [sameW, e0, e1, e2, e3]
          go_enter Tryd.func44, Tryd.ntmps44
          go_wp2_with fail
          go_ret
          exact ⟨by rw [unhide HS]; rfl, unhide HB⟩
        | true =>
          have HS : Hid (sameW x y = decide (x.vec = y.vec)) := by
            show sameW x y = decide (x.vec = y.vec)
            simp [sameW, e0, e1, e2, e3]
          have L := hide (slEqual _ _ x.vec y.vec _ ((Lay.ints_reads R2).later (unhide HB)) ((Lay.ints_reads R2z).later (unhide HB)) R2.big)
          clear R2 R2z
          go_enter Tryd.func44, Tryd.ntmps44
          go_wp2_with fail
          refine (unhide L).mono ?_
          rintro e w1 ⟨rfl, hb⟩
          have HB1 := hide ((unhide HB).trans (hb.mono (unhide HB).size))
          clear hb L HB
          go_wp2_with fail
          go_ret
          exact ⟨by rw [unhide HS]; rfl, unhide HB1⟩

set_option maxRecDepth 10000 in
set_option maxHeartbeats 2000000 in
theorem equalFunc_pos (b off cap b2 off2 cap2 : Nat) (xs ys : List DWrite) (w : World) (hl : xs.length = ys.length) (h : (Lay.sl Lay.tWrite).Reads w [.slice (some ⟨b, off, none⟩) xs.length cap] xs) (h2 : (Lay.sl Lay.tWrite).Reads w [.slice (some ⟨b2, off2, none⟩) ys.length cap2] ys) (hbl : b < w.heap.size) (hbl2 : b2 < w.heap.size) :
    Calls Tryd.prog 43 #[.slice (some ⟨b, off, none⟩) xs.length cap, .slice (some ⟨b2, off2, none⟩) xs.length cap2, .func (.func 44) #[] #[]] w fun e w' => e = .returned (.bool (sameWs xs ys)) ∧ Below w.heap.size w w' := by
  have hbig := h.big
  have H := hide h
  have H2 := hide h2
  have HL := hide hl
  clear h h2 hl
  go_enter Tryd.func43, Tryd.ntmps43
  go_wp2_with fail
  go_loopw [17] (fun i wr => ∃ k : Nat, k ≤ xs.length ∧ i = .int .i64 k ∧ (∀ j (h1 : j < xs.length) (h2 : j < ys.length), j < k → sameW xs[j] ys[j] = true) ∧ Below w.heap.size w wr) (fun i _ => xs.length - (intOf i).toNat)
  case atStart => exact ⟨0, Nat.zero_le _, rfl, fun j _ _ hj => by omega, Below.refl _ _⟩
  case round =>
    obtain ⟨k, hk, rfl, hq, hB⟩ := hrel
    by_cases hlt : k < xs.length
    · have hlt2 : k < ys.length := by have := unhide HL; omega
      obtain ⟨row, hc, hr⟩ := Lay.row_at (unhide H) hlt
      obtain ⟨rowz, hcz, hrz⟩ := Lay.row_at (unhide H2) hlt2
      replace hr := hr.later hB
      replace hrz := hrz.later hB
      have hr2 := hr
      obtain ⟨a2, d2, rfl, -⟩ := open_Write hr2
      have hrz2 := hrz
      obtain ⟨a2z, d2z, rfl, -⟩ := open_Write hrz2
      have c0 : wr.cell? ⟨b, off + k * 5, none⟩ = some (.int .i64 (xs[k]).kind) := (hB.cell (p := ⟨b, off + k * 5, none⟩) hbl).trans (hc 0 (by decide))
      have c1 : wr.cell? ⟨b, off + k * 5 + 1, none⟩ = some (.int .i64 (xs[k]).id) := (hB.cell (p := ⟨b, off + k * 5 + 1, none⟩) hbl).trans (hc 1 (by decide))
      have c2 : wr.cell? ⟨b, off + k * 5 + 2, none⟩ = some (.slice a2 (xs[k]).vec.length d2) := (hB.cell (p := ⟨b, off + k * 5 + 2, none⟩) hbl).trans (hc 2 (by decide))
      have c3 : wr.cell? ⟨b, off + k * 5 + 3, none⟩ = some (.int .i64 (xs[k]).session) := (hB.cell (p := ⟨b, off + k * 5 + 3, none⟩) hbl).trans (hc 3 (by decide))
      have c4 : wr.cell? ⟨b, off + k * 5 + 4, none⟩ = some (.int .i64 (xs[k]).seq) := (hB.cell (p := ⟨b, off + k * 5 + 4, none⟩) hbl).trans (hc 4 (by decide))
      have c0z : wr.cell? ⟨b2, off2 + k * 5, none⟩ = some (.int .i64 (ys[k]).kind) := (hB.cell (p := ⟨b2, off2 + k * 5, none⟩) hbl2).trans (hcz 0 (by decide))
      have c1z : wr.cell? ⟨b2, off2 + k * 5 + 1, none⟩ = some (.int .i64 (ys[k]).id) := (hB.cell (p := ⟨b2, off2 + k * 5 + 1, none⟩) hbl2).trans (hcz 1 (by decide))
      have c2z : wr.cell? ⟨b2, off2 + k * 5 + 2, none⟩ = some (.slice a2z (ys[k]).vec.length d2z) := (hB.cell (p := ⟨b2, off2 + k * 5 + 2, none⟩) hbl2).trans (hcz 2 (by decide))
      have c3z : wr.cell? ⟨b2, off2 + k * 5 + 3, none⟩ = some (.int .i64 (ys[k]).session) := (hB.cell (p := ⟨b2, off2 + k * 5 + 3, none⟩) hbl2).trans (hcz 3 (by decide))
      have c4z : wr.cell? ⟨b2, off2 + k * 5 + 4, none⟩ = some (.int .i64 (ys[k]).seq) := (hB.cell (p := ⟨b2, off2 + k * 5 + 4, none⟩) hbl2).trans (hcz 4 (by decide))
      have l1 : b < wr.heap.size := Nat.lt_of_lt_of_le hbl hB.size
      have l2 : b2 < wr.heap.size := Nat.lt_of_lt_of_le hbl2 hB.size
      have HQ := hide hq
      have HB := hide hB
      have HR := hide hr
      have HRZ := hide hrz
      have HX : Hid (sameW xs[k] ys[k] = false → sameWs xs ys = false) := sameWs_at k hlt hlt2
      have HY : Hid (sameW xs[k] ys[k] = true → ∀ j (h1 : j < xs.length) (h2 : j < ys.length), j < k + 1 → sameW xs[j] ys[j] = true) := by
        intro h j h1 h2 hj
        by_cases hjk : j < k
        · exact unhide HQ j h1 h2 hjk
        · obtain rfl : j = k := by omega
          exact h
      clear hq hB hr hrz hc hcz HQ
      generalize hx : xs[k] = x at *
      generalize hy : ys[k] = y at *
      clear hx hy
      have nb : Below wr.heap.size wr ((wr.alloc (.cells #[.int .i64 x.kind, .int .i64 x.id, .slice a2 x.vec.length d2, .int .i64 x.session, .int .i64 x.seq] 27)).alloc (.cells #[.int .i64 y.kind, .int .i64 y.id, .slice a2z y.vec.length d2z, .int .i64 y.session, .int .i64 y.seq] 27)) := ((Below.refl _ _).alloc (Nat.le_refl _) _).alloc (by simp) _
      have L := hide (sameWrite _ _ x y _ ((unhide HR).later nb) ((unhide HRZ).later nb))
      replace HB := hide ((unhide HB).trans (nb.mono (unhide HB).size))
      clear nb HR HRZ
      go_wp2_with fail
      refine (unhide L).mono ?_
      rintro e w3 ⟨rfl, hb⟩
      replace HB := hide ((unhide HB).trans (hb.mono (unhide HB).size))
      clear hb L c0 c1 c2 c3 c4 c0z c1z c2z c3z c4z
      cases hs : sameW x y with
      | true =>
        have HZ := hide (unhide HY hs)
        clear hs HX HY
        go_wp2_with fail
        go_roundw
        case rel => exact ⟨k + 1, by omega, by go_num, unhide HZ, unhide HB⟩
        case measure => simp [intOf]; omega
      | false =>
        have HZ := hide (unhide HX hs)
        clear hs HX HY
        go_wp2_with fail
        go_ret
        exact ⟨by rw [unhide HZ]; rfl, unhide HB⟩
    · have HZ := hide (sameWs_all (unhide HL) fun j h1 h2 => hq j h1 h2 (by omega))
      have HB := hide hB
      clear hq hB
      go_wp2_with fail
      go_ret
      exact ⟨by rw [unhide HZ]; rfl, unhide HB⟩

theorem equalFunc_len (ao ao2 : Option Addr) (n m cap cap2 : Nat) (f : Value) (w : World) (h : n ≠ m) :
    Calls Tryd.prog 43 #[.slice ao n cap, .slice ao2 m cap2, f] w fun e w' => e = .returned (.bool false) ∧ Below w.heap.size w w' := by
  have hd : ((n : Int) != (m : Int)) = true := by rw [bne_iff_ne]; omega
  go_enter Tryd.func43, Tryd.ntmps43
  go_wp2_with fail
  go_ret
  exact ⟨rfl, Below.refl _ _⟩
theorem equalFunc_zero (ao ao2 : Option Addr) (cap cap2 : Nat) (f : Value) (w : World) :
    Calls Tryd.prog 43 #[.slice ao 0 cap, .slice ao2 0 cap2, f] w fun e w' => e = .returned (.bool true) ∧ Below w.heap.size w w' := by
  go_enter Tryd.func43, Tryd.ntmps43
  go_wp2_with fail
  refine wp_loop_rounds 1 ?_
  rw [rounds_succ]
  go_wp2_with fail
  go_ret
  exact ⟨rfl, Below.refl _ _⟩

/-- SameWrites of the program. -/
theorem implSame (v v2 : Value) (xs ys : List DWrite) (w : World) (h : (Lay.sl Lay.tWrite).Reads w [v] xs) (h2 : (Lay.sl Lay.tWrite).Reads w [v2] ys) :
    Calls Tryd.prog 12 #[v, v2] w fun e w' => e = .returned (.bool (sameWs xs ys)) ∧ Below w.heap.size w w' := by
  obtain ⟨ao, cap, rfl⟩ := open_sl h
  obtain ⟨ao2, cap2, rfl⟩ := open_sl h2
  have L : Hid (Calls Tryd.prog 43 #[.slice ao xs.length cap, .slice ao2 ys.length cap2, .func (.func 44) #[] #[]] w fun e w' => e = .returned (.bool (sameWs xs ys)) ∧ Below w.heap.size w w') := by
    show Calls Tryd.prog 43 #[.slice ao xs.length cap, .slice ao2 ys.length cap2, .func (.func 44) #[] #[]] w fun e w' => e = .returned (.bool (sameWs xs ys)) ∧ Below w.heap.size w w'
    by_cases hl : xs.length = ys.length
    · by_cases hp : 0 < xs.length
      · obtain ⟨b, off, rfl, hbl⟩ := Lay.sl_addr h hp
        obtain ⟨b2, off2, rfl, hbl2⟩ := Lay.sl_addr h2 (by omega)
        rw [← hl]
        exact equalFunc_pos b off cap b2 off2 cap2 xs ys w hl h (by rw [← hl] at h2 ⊢; exact h2) hbl hbl2
      · obtain rfl : xs = [] := List.eq_nil_of_length_eq_zero (by omega)
        obtain rfl : ys = [] := List.eq_nil_of_length_eq_zero (by simpa using hl.symm)
        exact equalFunc_zero ao ao2 cap cap2 _ w
    · rw [sameWs_len hl]
      exact equalFunc_len ao ao2 _ _ cap cap2 _ w hl
  clear h h2
  go_enter Tryd.func12, Tryd.ntmps12
  go_wp2_with fail
  refine (unhide L).mono ?_
  rintro e w1 ⟨rfl, hb⟩
  have HB := hide hb
  clear hb L
  go_wp2_with fail
  go_ret
  exact ⟨rfl, unhide HB⟩

end Go.Proofs.YtkodenmpadehjaaDoor
