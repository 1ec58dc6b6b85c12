/-
  OfSession of the model: the writes of a session, in new memory; nothing old is written.
  No condition.
-/
import Derived.Test.YtkodenmpadehjaaSpecWCopy
import Derived.Test.YtkodenmpadehjaaSpecSess
import Derived.Test.YtkodenmpadehjaaSpecSeq
import Derived.Test.YtkodenmpadehjaaImplOf
namespace Go.Proofs.Ytkodenmpadehjaa
open Go.RowKit

theorem reads_ws {w : World} {c : Int} {v : Value} {xs : List DWrite} (hc : (Lit.int .i64 c).wf = true) (h : (Lay.sl Lay.tWrite).Reads w [v] xs) : Lay.tWritesResult.Reads w [.int .i64 c, v] ⟨c, xs⟩ := by
  obtain ⟨bl, l⟩ := h
  exact ⟨bl, ⟨[.int .i64 c], [v], [], bl, rfl, by simp, ⟨rfl, hc, rfl⟩, l⟩⟩
theorem vec_few {x : DWrite} (h : wF x = 0) : x.vec.length ≤ 3 := by
  obtain ⟨-, -, -, hk⟩ := writeFault_zero h
  rcases hk with ⟨-, hv⟩ | ⟨-, hv⟩
  · have := (vecFault_zero hv).1; omega
  · rw [hv]; simp
theorem asked_zero {ws : List DWrite} {s : Int} (hf : askedF ws s = 0) : writesF ws = 0 := by
  unfold askedF at hf
  split at hf
  · assumption
  · rename_i h; exact absurd hf h

set_option maxRecDepth 100000 in
set_option maxHeartbeats 4000000 in
theorem specOf (v : Value) (ws : List DWrite) (s : Int) (w : World) (h : (Lay.sl Lay.tWrite).Reads w [v] ws) :
    Calls Try.prog 17 #[v, .int .i64 s] w fun e w' => ∃ cs, e = .returned (.agg cs.toArray) ∧ Lay.tWritesResult.Reads w' cs (ofR ws s) ∧ Below w.heap.size w w' := by
  have nb : Below w.heap.size w (w.alloc (.cells #[.int .i64 0, .slice none 0 0] 37)) := (Below.refl _ _).alloc (Nat.le_refl _) _
  have bR0 : Box w.heap.size #[.int .i64 0, .slice none 0 0] 37 (w.alloc (.cells #[.int .i64 0, .slice none 0 0] 37)) w.heap.size := newBox (Nat.le_refl _)
  have HR := hide (h.later nb)
  have HB0 := hide nb
  have HBR := hide bR0
  obtain ⟨ao, cap, rfl⟩ := open_sl h
  have H := hide h
  clear nb bR0 h
  have HL := hide (l5AskedC _ ws s _ (unhide HR))
  go_enter Try.func17, Try.ntmps17
  go_wp2_with fail
  refine (unhide HL).mono ?_
  rintro e w2 ⟨rfl, rfl⟩
  clear HL HR
  by_cases hf : askedF ws s = 0
  · have HG9 : Hid (ofR ws s = ⟨0, ofL ws s⟩) := by show ofR ws s = _; rw [ofR, if_pos hf]
    have HF := hide (asked_zero hf)
    rw [hf]
    clear hf
    have hlen := (writesF_zero (unhide HF)).1
    have nb2 : Below (w.alloc (.cells #[.int .i64 0, .slice none 0 0] 37)).heap.size (w.alloc (.cells #[.int .i64 0, .slice none 0 0] 37)) ((w.alloc (.cells #[.int .i64 0, .slice none 0 0] 37)).alloc (.cells #[] 47)) := (Below.refl _ _).alloc (Nat.le_refl _) _
    have HG0 : Hid (Grow Lay.tWrite ((w.alloc (.cells #[.int .i64 0, .slice none 0 0] 37)).alloc (.cells #[] 47)) w.heap.size 47 (.slice (some ⟨w.heap.size + 1, 0, none⟩) 0 0) [] [] []) := by
      have := Grow.nil (A := Lay.tWrite) (World.ownsRow_lit (w.alloc (.cells #[.int .i64 0, .slice none 0 0] 37)) #[] 0 (base := w.heap.size) (e := 47) (size := 5) (by simp) (Nat.zero_le _) rfl)
      have e : (w.alloc (.cells #[.int .i64 0, .slice none 0 0] 37)).heap.size = w.heap.size + 1 := by simp
      rw [e] at this
      exact this
    have HBW := hide ((unhide HB0).trans (nb2.mono (unhide HB0).size))
    have HBX := hide ((unhide HBR).keep nb2)
    clear nb2 HB0 HBR
    go_wp2_with fail
    go_loopw [6, 7] (fun l i wr => ∃ (k : Nat) (rows2 : List (List Value)) (bls2 : List (List Nat)), k ≤ ws.length ∧ i = .int .i64 k ∧ Grow Lay.tWrite wr w.heap.size 47 l rows2 (ofL (ws.take k) s) bls2 ∧ Box w.heap.size #[.int .i64 0, .slice none 0 0] 37 wr w.heap.size ∧ l.ownBlock ≠ some w.heap.size ∧ Below w.heap.size w wr) (fun _ i _ => ws.length - (intOf i).toNat)
    case atStart => exact ⟨0, [], [], Nat.zero_le _, rfl, unhide HG0, unhide HBX, by simp [Value.ownBlock], unhide HBW⟩
    case round =>
      obtain ⟨k, rows2, bls2, hk, rfl, hG, bR, hno, hB⟩ := hrel
      clear HG0 HBW HBX
      by_cases hlt : k < ws.length
      · obtain ⟨b, off, rfl, hbl⟩ := Lay.sl_addr (unhide H) (by omega)
        obtain ⟨row, hc, hr⟩ := Lay.row_at (unhide H) hlt
        obtain ⟨bl, hl0⟩ := hr
        have HBL : Hid (∀ c ∈ bl, c < w.heap.size) := fun c hc => Lay.tWrite.lt hl0 c hc
        have hl : Lay.tWrite.lies wr row ws[k] bl := Lay.tWrite.keep hl0 fun c hc => hB.block c (Lay.tWrite.lt hl0 c hc)
        obtain ⟨a2, d2, b2, rfl, rfl, -, -, -, -, -⟩ := lies_Write.1 hl
        have c0 : wr.cell? ⟨b, off + k * 5, none⟩ = some (.int .i64 (ws[k]).kind) := (hB.cell (p := ⟨b, off + k * 5, none⟩) hbl).trans (hc 0 (by decide))
        have c1 : wr.cell? ⟨b, off + k * 5 + 1, none⟩ = some (.int .i64 (ws[k]).id) := (hB.cell (p := ⟨b, off + k * 5 + 1, none⟩) hbl).trans (hc 1 (by decide))
        have c2 : wr.cell? ⟨b, off + k * 5 + 2, none⟩ = some (.slice a2 (ws[k]).vec.length d2) := (hB.cell (p := ⟨b, off + k * 5 + 2, none⟩) hbl).trans (hc 2 (by decide))
        have c3 : wr.cell? ⟨b, off + k * 5 + 3, none⟩ = some (.int .i64 (ws[k]).session) := (hB.cell (p := ⟨b, off + k * 5 + 3, none⟩) hbl).trans (hc 3 (by decide))
        have c4 : wr.cell? ⟨b, off + k * 5 + 4, none⟩ = some (.int .i64 (ws[k]).seq) := (hB.cell (p := ⟨b, off + k * 5 + 4, none⟩) hbl).trans (hc 4 (by decide))
        have HOF := hide (ofL_snoc ws k hlt s)
        clear hc hl0
        generalize hx : ws[k] = x at *
        clear hx
        have hLn : (ofL (ws.take k) s).length ≤ k := Nat.le_trans (ofL_len _ _) (by rw [List.length_take]; omega)
        have hbr : b < wr.heap.size := Nat.lt_of_lt_of_le hbl hB.size
        by_cases hs : x.session = s
        · have hd : (x.session == s) = true := by simpa using hs
          have HO2 : Hid (ofL (ws.take (k + 1)) s = ofL (ws.take k) s ++ [x]) := by
            have := unhide HOF
            rw [if_pos hs] at this
            exact this
          have hoff : ∀ c ∈ bl, u6.ownBlock ≠ some c := fun c hc e => by
            have h1 := (hG.own.lt c e).1
            have h2 := unhide HBL c hc
            omega
          have HBR := hide bR
          have HNO := hide hno
          have hZ : w.heap.size ≤ wr.heap.size := hB.size
          have HB := hide hB
          clear HOF hs bR hno hB HBL
          go_wp2_with (at_builtin; refine wpList_append_Write hG hl hoff rfl _ _ rfl rfl rfl (by omega) hZ ?_)
          intro g5 cap5 w5 hG5 hb5 hE5 hg5 hz5 hor5
          have HG5 := hide hG5
          have HB5 := hide ((unhide HB).trans hb5)
          have HR5 := hide ((unhide HBR).ext hE5 (fun e => unhide HNO e))
          have HN5 : Hid ((Value.slice (some ⟨g5, 0, none⟩) ((ofL (ws.take k) s).length + 1) cap5).ownBlock ≠ some w.heap.size) := by
            intro e
            have e2 : g5 = w.heap.size := by simpa [Value.ownBlock] using e
            rcases hor5 with h1 | h1
            · exact unhide HNO (by rw [h1, e2])
            · have := (unhide HBR).lt; omega
          clear hG hl hoff hZ hG5 hb5 hE5 hg5 hz5 hor5 HB HBR HNO c0 c1 c2 c3 c4
          go_wp2_with fail
          go_roundw
          case rel =>
            have hg := unhide HG5
            rw [← unhide HO2] at hg
            exact ⟨k + 1, _, _, by omega, by go_num, hg, unhide HR5, unhide HN5, unhide HB5⟩
          case measure => simp [intOf]; omega
        · have hd : (x.session == s) = false := by simpa using hs
          have HO2 : Hid (ofL (ws.take (k + 1)) s = ofL (ws.take k) s) := by
            have := unhide HOF
            rw [if_neg hs] at this
            exact this
          have HG := hide hG
          have HBR := hide bR
          have HNO := hide hno
          have HB := hide hB
          clear HOF hs hG bR hno hB hl HBL
          go_wp2_with fail
          go_roundw
          case rel =>
            have hg := unhide HG
            rw [← unhide HO2] at hg
            exact ⟨k + 1, _, _, by omega, by go_num, hg, unhide HBR, unhide HNO, unhide HB⟩
          case measure => simp [intOf]; omega
      · obtain rfl : k = ws.length := by omega
        rw [List.take_length] at hG
        have HC := hide (wcopyC u6 (ofL ws s) wr (hG.toReads (by have := ofL_len ws s; omega)) (by have := ofL_len ws s; omega) (fun x hx => Nat.le_trans (vec_few ((writesF_zero (unhide HF)).2 x (List.mem_filter.1 (show x ∈ ws.filter _ from hx)).1)) (by decide)))
        have HBR := hide bR
        have HB := hide hB
        have hol := ofL_len ws s
        clear hG bR hno hB H HF
        go_wp2_with fail
        refine (unhide HC).mono ?_
        rintro e w4 ⟨v4, rfl, ⟨rows4, bls4, hG4, hS4⟩, hb4⟩
        have hLI := hG4.toLies (by omega) hS4
        obtain ⟨ao9, cp9, rfl⟩ := open_sl hLI.reads
        have bR := (unhide HBR).keep hb4
        have hlt4 : w.heap.size < wr.heap.size := (unhide HBR).lt
        have z0 : w4.cell? ⟨w.heap.size, 0, none⟩ = some (.int .i64 0) := bR.at 0 _ rfl
        have z1 : w4.cell? ⟨w.heap.size, 1, none⟩ = some (.slice none 0 0) := bR.at 1 _ rfl
        have f0 := bR.soft 0
        have f1 := bR.soft 1
        have l0 := bR.lt
        have HB9 := hide ((unhide HB).trans (hb4.mono (unhide HB).size))
        have HR9 : Hid ((Lay.sl Lay.tWrite).Reads ((w4.setCell ⟨w.heap.size, 0, none⟩ (.int .i64 0)).setCell ⟨w.heap.size, 1, none⟩ (.slice ao9 (ofL ws s).length cp9)) [.slice ao9 (ofL ws s).length cp9] (ofL ws s)) := by
          have hE : Ext (fun c => c = w.heap.size) w4 ((w4.setCell ⟨w.heap.size, 0, none⟩ (.int .i64 0)).setCell ⟨w.heap.size, 1, none⟩ (.slice ao9 (ofL ws s).length cp9)) := ((Ext.refl (fun c => c = w.heap.size) _).setCell ⟨w.heap.size, 0, none⟩ _ rfl).setCell ⟨w.heap.size, 1, none⟩ _ rfl
          obtain ⟨bl4, l4, r4⟩ := hLI
          exact ⟨bl4, (Lay.sl Lay.tWrite).keep l4 fun c hc => hE.block c ((Lay.sl Lay.tWrite).lt l4 c hc) (by have := (r4 c hc).1; omega)⟩
        clear hG4 hS4 hb4 bR HC HBR HB hLI hlt4
        go_wp2_with fail
        refine bodyPost_ret (v := .agg #[.int .i64 0, .slice ao9 (ofL ws s).length cp9]) (by simp [results, Try.results17, go_sem, z0, z1]) rfl ?_
        rw [unhide HG9]
        exact ⟨[.int .i64 0, .slice ao9 (ofL ws s).length cp9], rfl, reads_ws (by decide) (unhide HR9), ((unhide HB9).setCell (by simp) _).setCell (by simp) _⟩
  · have HG : Hid (ofR ws s = ⟨askedF ws s, []⟩) := by show ofR ws s = _; rw [ofR, if_neg hf]
    have hd : (askedF ws s != 0) = true := by simpa using hf
    have HWF := hide (asked_wf ws s)
    have bR := unhide HBR
    have z0 := bR.at 0 _ rfl
    have z1 := bR.at 1 _ rfl
    have f0 := bR.soft 0
    have f1 := bR.soft 1
    have l0 := bR.lt
    generalize w.alloc (.cells #[.int .i64 0, .slice none 0 0] 37) = w2 at *
    clear hf bR HBR H
    go_wp2_with fail
    refine bodyPost_ret (v := .agg #[.int .i64 (askedF ws s), .slice none 0 0]) (by simp [results, Try.results17, go_sem, z0, z1]) rfl ?_
    rw [unhide HG]
    exact ⟨_, rfl, (own_codeWs (lo := 0) (hi := 0) (unhide HWF)).reads, ((unhide HB0).setCell (by simp) _).setCell (by simp) _⟩

end Go.Proofs.Ytkodenmpadehjaa
