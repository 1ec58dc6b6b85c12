/-
  Texts of this proof in one: SpecMCopy, OwnMsg, OwnNetResult, StoreKit, NetKit, SpecSend, ReadPlain, NumPlain, Digits, TextPlain, WTextPlain, TextL1, VecOf, SpecWText, LayTextResult, MsgTextP, SpecMText, ImplMust, ImplUpTo, ImplNodeId, ImplInts, ImplSameW, ImplDeed, ImplWrF, ImplMsgF, AppStr, ImplVerb, Shelf, Fmt, Text, Decimal, ListC.
  Their conditions stand in their theorems.
-/
import Derived.Test.YtkmfkaljdngigaaGreatDoorChecked
import Derived.Test.YtkmfkaljdngigaaGreatDoorNq01
import Derived.Test.YtkmfkaljdngigaaGreatDoorNq02
import Derived.Deep.CutRange
import Derived.Test.YtkmfkaljdngigaaGreatDoorNq04
import Derived.WalkKit
import Derived.Laws.BytesArg
import Derived.Laws.Concat
import Derived.Deep.RegionHeld3
import Derived.Deep.RegionWith
import Derived.Lib.AppendIntMem
import Derived.WalkSmall
import Derived.Outline
import Derived.WalkLawsBesides
import Derived.BigQuiet
import Derived.Deep.QuietTactic
import Derived.Shelf.Strings.Builder1
import Derived.Shelf.Strings.Builder2
import Derived.Shelf.Strings.OnBuilder
import Derived.Shelf.Strconv.Itoa0
import Derived.Shelf.Strconv.Itoa1
import Derived.Shelf.LaysM
import Derived.Shelf.Strconv.Itoa2
import Derived.Shelf.Strconv.Itoa3
import Derived.Shelf.Strconv.Itoa4
import Derived.Ground.SlgnProg
import Derived.Shelf.SlicesE.Clone
import Derived.Test.YtkmfkaljdngigaaGreatDoorProg
import Derived.Lib.LaidTab

namespace Go.Proofs.YtkmfkaljdngigaaGreatDoor
open Go.RowKit

set_option maxRecDepth 100000 in
set_option maxHeartbeats 4000000 in
theorem mcopy_pos (b off cap : Nat) (ws : List DMsg) (w : World) (h : (Lay.sl Lay.tMsg).Reads w [.slice (some ⟨b, off, none⟩) ws.length cap] ws) (hbl : b < w.heap.size) (hn : ws.length ≤ 10000000) (hv : ∀ x ∈ ws, x.write.vec.length ≤ 100000000) :
    Calls Tryz.prog 55 #[.slice (some ⟨b, off, none⟩) ws.length cap] w fun e w' => ∃ v', e = .returned v' ∧ (∃ rows bls, Grow Lay.tMsg w' w.heap.size 29 v' rows ws bls ∧ ∀ c ∈ bls.flatten, w.heap.size ≤ c) ∧ Below w.heap.size w w' := by
  have H := hide h
  have HV := hide hv
  clear h hv
  have HG0 : Hid (Grow Lay.tMsg (w.alloc (.cells #[] 29)) w.heap.size 29 (.slice (some ⟨w.heap.size, 0, none⟩) 0 0) [] [] []) := Grow.nil (World.ownsRow_lit w #[] 0 (Nat.le_refl _) (Nat.zero_le _) rfl)
  have HB0 := hide ((Below.refl w.heap.size w).alloc (Nat.le_refl _) (.cells #[] 29))
  go_enter Tryz.func55, Tryz.ntmps55
  go_wp2_with fail
  go_loopw [3, 4] (fun v i wr => ∃ (k : Nat) (rows : List (List Value)) (bls : List (List Nat)), k ≤ ws.length ∧ i = .int .i64 k ∧ Grow Lay.tMsg wr w.heap.size 29 v rows (ws.take k) bls ∧ (∀ c ∈ bls.flatten, w.heap.size ≤ c) ∧ Below w.heap.size w wr) (fun _ i _ => ws.length - (intOf i).toNat)
  case atStart => exact ⟨0, [], [], Nat.zero_le _, rfl, unhide HG0, by simp, unhide HB0⟩
  case round =>
    obtain ⟨k, rows, bls, hk, rfl, hG, hSB, hB⟩ := hrel
    have HSB := hide hSB
    clear HG0 HB0 hSB
    by_cases hlt : k < ws.length
    · obtain ⟨row, hc, hr⟩ := Lay.row_at ((unhide H).later hB) hlt
      have hr2 := hr
      obtain ⟨a2, d2, rfl, R2w⟩ := open_Msg hr
      have R2 := write_vec R2w
      clear R2w
      have c0 : wr.cell? ⟨b, off + k * 10, none⟩ = some (.int .i64 (ws[k]).kind) := hc 0 (by decide)
      have c1 : wr.cell? ⟨b, off + k * 10 + 1, none⟩ = some (.int .i64 (ws[k]).epoch) := hc 1 (by decide)
      have c2 : wr.cell? ⟨b, off + k * 10 + 2, none⟩ = some (.int .i64 (ws[k]).src) := hc 2 (by decide)
      have c3 : wr.cell? ⟨b, off + k * 10 + 3, none⟩ = some (.int .i64 (ws[k]).dst) := hc 3 (by decide)
      have c4 : wr.cell? ⟨b, off + k * 10 + 4, none⟩ = some (.int .i64 (ws[k]).index) := hc 4 (by decide)
      have c5 : wr.cell? ⟨b, off + k * 10 + 5, none⟩ = some (.int .i64 (ws[k]).write.kind) := hc 5 (by decide)
      have c6 : wr.cell? ⟨b, off + k * 10 + 6, none⟩ = some (.int .i64 (ws[k]).write.id) := hc 6 (by decide)
      have c7 : wr.cell? ⟨b, off + k * 10 + 7, none⟩ = some (.slice a2 (ws[k]).write.vec.length d2) := hc 7 (by decide)
      have c8 : wr.cell? ⟨b, off + k * 10 + 8, none⟩ = some (.int .i64 (ws[k]).write.session) := hc 8 (by decide)
      have c9 : wr.cell? ⟨b, off + k * 10 + 9, none⟩ = some (.int .i64 (ws[k]).write.seq) := hc 9 (by decide)
      have HWF : Hid ((Lit.int .i64 (ws[k]).kind).wf = true ∧ (Lit.int .i64 (ws[k]).epoch).wf = true ∧ (Lit.int .i64 (ws[k]).src).wf = true ∧ (Lit.int .i64 (ws[k]).dst).wf = true ∧ (Lit.int .i64 (ws[k]).index).wf = true ∧ (Lit.int .i64 (ws[k]).write.kind).wf = true ∧ (Lit.int .i64 (ws[k]).write.id).wf = true ∧ (Lit.int .i64 (ws[k]).write.session).wf = true ∧ (Lit.int .i64 (ws[k]).write.seq).wf = true) := by
        obtain ⟨_, hq⟩ := hr2
        obtain ⟨_, _, _, _, _, q0, q1, q2, q3, q4, q5, q6, _, q8, q9⟩ := lies_Msg.1 hq
        exact ⟨q0, q1, q2, q3, q4, q5, q6, q8, q9⟩
      have HT : Hid (ws.take (k + 1) = ws.take k ++ [ws[k]]) := List.take_succ_eq_append_getElem hlt
      have HLn : Hid ((ws.take k).length = k) := by show (ws.take k).length = k; rw [List.length_take]; omega
      have HN := hide (unhide HV ws[k] (List.getElem_mem hlt))
      clear hc hr hr2
      generalize hx : ws[k] = x at *
      clear hx
      have hbr : b < wr.heap.size := Nat.lt_of_lt_of_le hbl hB.size
      have nb : Below wr.heap.size wr (wr.alloc (.cells #[.int .i64 x.kind, .int .i64 x.epoch, .int .i64 x.src, .int .i64 x.dst, .int .i64 x.index, .int .i64 x.write.kind, .int .i64 x.write.id, .slice a2 x.write.vec.length d2, .int .i64 x.write.session, .int .i64 x.write.seq] 29)) := (Below.refl _ _).alloc (Nat.le_refl _) _
      have bI : Box 0 #[.int .i64 x.kind, .int .i64 x.epoch, .int .i64 x.src, .int .i64 x.dst, .int .i64 x.index, .int .i64 x.write.kind, .int .i64 x.write.id, .slice a2 x.write.vec.length d2, .int .i64 x.write.session, .int .i64 x.write.seq] 29 (wr.alloc (.cells #[.int .i64 x.kind, .int .i64 x.epoch, .int .i64 x.src, .int .i64 x.dst, .int .i64 x.index, .int .i64 x.write.kind, .int .i64 x.write.id, .slice a2 x.write.vec.length d2, .int .i64 x.write.session, .int .i64 x.write.seq] 29)) wr.heap.size := newBox (Nat.zero_le _)
      have HRW := hide (Lay.ints_reads R2).wf
      have HL := hide (l1Ints _ x.write.vec _ ((Lay.ints_reads R2).later nb) (unhide HN))
      have HG := hide (hG.later nb)
      have HB := hide (hB.trans (nb.mono hB.size))
      have HBI := hide bI
      have HZW : Hid (w.heap.size ≤ wr.heap.size) := hB.size
      have HOW : Hid (∀ c, u3.ownBlock = some c → c < wr.heap.size) := fun c hc => (hG.own.lt c hc).2
      have HSL : Hid (∀ c ∈ bls.flatten, c < wr.heap.size) := fun c hc => hG.sub_lt c hc
      clear R2 hG hB nb bI
      go_wp2_with fail
      clear c0 c1 c2 c3 c4 c5 c6 c7 c8 c9
      refine (unhide HL).mono ?_
      generalize hW0 : wr.alloc (.cells #[.int .i64 x.kind, .int .i64 x.epoch, .int .i64 x.src, .int .i64 x.dst, .int .i64 x.index, .int .i64 x.write.kind, .int .i64 x.write.id, .slice a2 x.write.vec.length d2, .int .i64 x.write.session, .int .i64 x.write.seq] 29) = W0 at *
      clear hW0
      rintro e w2 ⟨v2, rfl, hO, hb⟩
      have hO2 := Lay.ownInts (unhide HRW) (by have := unhide HN; omega) hO
      obtain ⟨ao2, cp2, rfl⟩ := open_sl hO2.reads
      obtain ⟨bl2, ⟨hl2, -, -⟩, hr2⟩ := hO2
      have bI2 := (unhide HBI).keep hb
      have hZ0 : wr.heap.size < W0.heap.size := (unhide HBI).lt
      have z0 : w2.cell? ⟨wr.heap.size, 0, none⟩ = some (.int .i64 x.kind) := bI2.at 0 _ rfl
      have z1 : w2.cell? ⟨wr.heap.size, 1, none⟩ = some (.int .i64 x.epoch) := bI2.at 1 _ rfl
      have z2 : w2.cell? ⟨wr.heap.size, 2, none⟩ = some (.int .i64 x.src) := bI2.at 2 _ rfl
      have z3 : w2.cell? ⟨wr.heap.size, 3, none⟩ = some (.int .i64 x.dst) := bI2.at 3 _ rfl
      have z4 : w2.cell? ⟨wr.heap.size, 4, none⟩ = some (.int .i64 x.index) := bI2.at 4 _ rfl
      have z5 : w2.cell? ⟨wr.heap.size, 5, none⟩ = some (.int .i64 x.write.kind) := bI2.at 5 _ rfl
      have z6 : w2.cell? ⟨wr.heap.size, 6, none⟩ = some (.int .i64 x.write.id) := bI2.at 6 _ rfl
      have z7 : w2.cell? ⟨wr.heap.size, 7, none⟩ = some (.slice a2 x.write.vec.length d2) := bI2.at 7 _ rfl
      have z8 : w2.cell? ⟨wr.heap.size, 8, none⟩ = some (.int .i64 x.write.session) := bI2.at 8 _ rfl
      have z9 : w2.cell? ⟨wr.heap.size, 9, none⟩ = some (.int .i64 x.write.seq) := bI2.at 9 _ rfl
      have f2 := bI2.soft 7
      have l2 := bI2.lt
      have hE : Ext (fun c => c = wr.heap.size) w2 (w2.setCell ⟨wr.heap.size, 7, none⟩ (.slice ao2 x.write.vec.length cp2)) := (Ext.refl (fun c => c = wr.heap.size) w2).setCell ⟨wr.heap.size, 7, none⟩ _ rfl
      have hl3 : Lay.tMsg.lies (w2.setCell ⟨wr.heap.size, 7, none⟩ (.slice ao2 x.write.vec.length cp2)) [.int .i64 x.kind, .int .i64 x.epoch, .int .i64 x.src, .int .i64 x.dst, .int .i64 x.index, .int .i64 x.write.kind, .int .i64 x.write.id, .slice ao2 x.write.vec.length cp2, .int .i64 x.write.session, .int .i64 x.write.seq] x bl2 := lies_Msg.2 ⟨ao2, cp2, bl2, rfl, rfl, (unhide HWF).1, (unhide HWF).2.1, (unhide HWF).2.2.1, (unhide HWF).2.2.2.1, (unhide HWF).2.2.2.2.1, (unhide HWF).2.2.2.2.2.1, (unhide HWF).2.2.2.2.2.2.1, (Lay.sl Lay.int).keep hl2 (fun c hc => hE.block c ((Lay.sl Lay.int).lt hl2 c hc) (by have := (hr2 c hc).1; omega)), (unhide HWF).2.2.2.2.2.2.2.1, (unhide HWF).2.2.2.2.2.2.2.2⟩
      have hG2 := (unhide HG).later hb
      have hoff : ∀ c ∈ bl2, u3.ownBlock ≠ some c := fun c hc e => by have h1 := (hr2 c hc).1; have h2 := unhide HOW c e; omega
      have HB3 : Hid (Below w.heap.size w (w2.setCell ⟨wr.heap.size, 7, none⟩ (.slice ao2 x.write.vec.length cp2))) := ((unhide HB).trans (hb.mono (unhide HB).size)).setCell (by simpa using unhide HZW) _
      have hG3 : Grow Lay.tMsg (w2.setCell ⟨wr.heap.size, 7, none⟩ (.slice ao2 x.write.vec.length cp2)) w.heap.size 29 u3 rows (ws.take k) bls := hG2.kept (by
        obtain ⟨h1, h2⟩ := hG2.own
        refine ⟨h1, ?_⟩
        rcases h2 with h2 | ⟨gb, cap', cur, hv, hg, hh, r⟩
        · exact Or.inl h2
        · exact Or.inr ⟨gb, cap', cur, hv, hg, (hE.block gb (lt_of_block hh) (by have := unhide HOW gb (by rw [hv]; rfl); omega)).trans hh, r⟩) (fun c hc => hE.block c (hG2.sub_lt c hc) (fun e => by
        have := unhide HSL c hc
        omega))
      have hZ3 : w.heap.size ≤ (w2.setCell ⟨wr.heap.size, 7, none⟩ (.slice ao2 x.write.vec.length cp2)).heap.size := (unhide HB3).size
      have hK : (ws.take k).length + 1 ≤ 100000000 := by rw [unhide HLn]; omega
      have y0 : (w2.setCell ⟨wr.heap.size, 7, none⟩ (.slice ao2 x.write.vec.length cp2)).cell? ⟨wr.heap.size, 0, none⟩ = some (.int .i64 x.kind) := (bI2.set 7 _).at 0 _ rfl
      have y1 : (w2.setCell ⟨wr.heap.size, 7, none⟩ (.slice ao2 x.write.vec.length cp2)).cell? ⟨wr.heap.size, 1, none⟩ = some (.int .i64 x.epoch) := (bI2.set 7 _).at 1 _ rfl
      have y2 : (w2.setCell ⟨wr.heap.size, 7, none⟩ (.slice ao2 x.write.vec.length cp2)).cell? ⟨wr.heap.size, 2, none⟩ = some (.int .i64 x.src) := (bI2.set 7 _).at 2 _ rfl
      have y3 : (w2.setCell ⟨wr.heap.size, 7, none⟩ (.slice ao2 x.write.vec.length cp2)).cell? ⟨wr.heap.size, 3, none⟩ = some (.int .i64 x.dst) := (bI2.set 7 _).at 3 _ rfl
      have y4 : (w2.setCell ⟨wr.heap.size, 7, none⟩ (.slice ao2 x.write.vec.length cp2)).cell? ⟨wr.heap.size, 4, none⟩ = some (.int .i64 x.index) := (bI2.set 7 _).at 4 _ rfl
      have y5 : (w2.setCell ⟨wr.heap.size, 7, none⟩ (.slice ao2 x.write.vec.length cp2)).cell? ⟨wr.heap.size, 5, none⟩ = some (.int .i64 x.write.kind) := (bI2.set 7 _).at 5 _ rfl
      have y6 : (w2.setCell ⟨wr.heap.size, 7, none⟩ (.slice ao2 x.write.vec.length cp2)).cell? ⟨wr.heap.size, 6, none⟩ = some (.int .i64 x.write.id) := (bI2.set 7 _).at 6 _ rfl
      have y7 : (w2.setCell ⟨wr.heap.size, 7, none⟩ (.slice ao2 x.write.vec.length cp2)).cell? ⟨wr.heap.size, 7, none⟩ = some (.slice ao2 x.write.vec.length cp2) := (bI2.set 7 _).at 7 _ rfl
      have y8 : (w2.setCell ⟨wr.heap.size, 7, none⟩ (.slice ao2 x.write.vec.length cp2)).cell? ⟨wr.heap.size, 8, none⟩ = some (.int .i64 x.write.session) := (bI2.set 7 _).at 8 _ rfl
      have y9 : (w2.setCell ⟨wr.heap.size, 7, none⟩ (.slice ao2 x.write.vec.length cp2)).cell? ⟨wr.heap.size, 9, none⟩ = some (.int .i64 x.write.seq) := (bI2.set 7 _).at 9 _ rfl
      have HSB5 : Hid (∀ c ∈ (bls ++ [bl2]).flatten, w.heap.size ≤ c) := by
        intro c hc
        rw [List.flatten_append] at hc
        rcases List.mem_append.1 hc with hc | hc
        · exact unhide HSB c hc
        · have h1 := (hr2 c (by simpa using hc)).1
          have h2 := unhide HZW
          omega
      clear z0 z1 z2 z3 z4 z5 z6 z8 z9 bI2 hE hG2 hl2 hO HG HL HB HBI HRW HN HWF hb hr2 hZ0
      go_upto_region 7 with fail
      generalize w2.setCell ⟨wr.heap.size, 7, none⟩ (.slice ao2 x.write.vec.length cp2) = W3 at *
      go_wp2_with (at_builtin; refine wpList_append_Msg hG3 hl3 hoff rfl _ _ rfl rfl rfl hK hZ3 ?_)
      intro g5 cap5 w5 hG5 hb5 hE5 hg5 hz5 hor5
      have HG5 := hide hG5
      have HB5 := hide ((unhide HB3).trans hb5)
      clear hG3 hl3 hoff hZ3 hK hG5 hb5 hE5 hg5 hz5 hor5 HB3 y0 y1 y2 y3 y4 y5 y6 y7 y8 y9 z7 f2 l2
      go_wp2_with fail
      go_roundw
      case rel =>
        have hg := unhide HG5
        rw [← unhide HT] at hg
        try rw [unhide HLn] at hg
        exact ⟨k + 1, _, _, by omega, by go_num, hg, unhide HSB5, unhide HB5⟩
      case measure => simp [intOf]; omega
    · obtain rfl : k = ws.length := by omega
      rw [List.take_length] at hG
      have HG := hide hG
      have HB := hide hB
      clear hG hB H
      go_wp2_with fail
      go_ret
      exact ⟨_, rfl, ⟨_, _, unhide HG, unhide HSB⟩, unhide HB⟩

/-- l11Copy of the model. -/
theorem mcopyC (v : Value) (ws : List DMsg) (w : World) (h : (Lay.sl Lay.tMsg).Reads w [v] ws) (hn : ws.length ≤ 10000000) (hv : ∀ x ∈ ws, x.write.vec.length ≤ 100000000) :
    Calls Tryz.prog 55 #[v] w fun e w' => ∃ v', e = .returned v' ∧ (∃ rows bls, Grow Lay.tMsg w' w.heap.size 29 v' rows ws bls ∧ ∀ c ∈ bls.flatten, w.heap.size ≤ c) ∧ Below w.heap.size w w' := by
  obtain ⟨ao, cap, rfl⟩ := open_sl h
  by_cases hp : 0 < ws.length
  · obtain ⟨b, off, rfl, hbl⟩ := Lay.sl_addr h hp
    exact mcopy_pos b off cap ws w h hbl hn hv
  · obtain rfl : ws = [] := List.eq_nil_of_length_eq_zero (by omega)
    clear h hp hn hv
    have HB := hide ((Below.refl w.heap.size w).alloc (Nat.le_refl _) (.cells #[] 29))
    have HG : Hid (Grow Lay.tMsg (w.alloc (.cells #[] 29)) w.heap.size 29 (.slice (some ⟨w.heap.size, 0, none⟩) 0 0) [] [] []) := Grow.nil (World.ownsRow_lit w #[] 0 (Nat.le_refl _) (Nat.zero_le _) rfl)
    go_enter Tryz.func55, Tryz.ntmps55
    go_wp2_with fail
    refine wp_loop_rounds 1 ?_
    rw [rounds_succ]
    go_wp2_with fail
    go_ret
    exact ⟨_, rfl, ⟨_, _, unhide HG, by simp⟩, unhide HB⟩

end Go.Proofs.YtkmfkaljdngigaaGreatDoor

namespace Go.Proofs.YtkmfkaljdngigaaGreatDoor
open Go.RowKit

theorem vcnt_Msg (x : DMsg) : Lay.tMsg.vcnt x = Lay.tWrite.vcnt x.write := by
  show 0 + (0 + (0 + (0 + (0 + (Lay.tWrite.vcnt x.write))))) = Lay.tWrite.vcnt x.write
  omega
theorem mkv_Msg (k : Int) (x : DMsg) : Lay.tMsg.mkv k x = ⟨x.kind, x.epoch, x.src, x.dst, x.index, Lay.tWrite.mkv (k) x.write⟩ := by
  simp [Lay.tMsg, Lay.via, Lay.pair, Lay.int]
theorem own_Msg {w : World} {cs : List Value} {x : DMsg} {bl : List Nat} (h : Lay.tMsg.Own w cs x bl) : ∃ (a7 : Option Addr) (d7 : Nat) (g5 : List Nat), cs = [.int .i64 x.kind, .int .i64 x.epoch, .int .i64 x.src, .int .i64 x.dst, .int .i64 x.index, .int .i64 x.write.kind, .int .i64 x.write.id, .slice a7 x.write.vec.length d7, .int .i64 x.write.session, .int .i64 x.write.seq] ∧ bl = g5 ∧ Lay.tWrite.Own w [.int .i64 x.write.kind, .int .i64 x.write.id, .slice a7 x.write.vec.length d7, .int .i64 x.write.session, .int .i64 x.write.seq] x.write g5 ∧ (Lit.int .i64 x.kind).wf = true ∧ (Lit.int .i64 x.epoch).wf = true ∧ (Lit.int .i64 x.src).wf = true ∧ (Lit.int .i64 x.dst).wf = true ∧ (Lit.int .i64 x.index).wf = true := by
  obtain ⟨hl, hn, hf⟩ := h
  obtain ⟨a7, d7, b7, rfl, hbl, w0, w1, w2, w3, w4, w5, w6, l7, w8, w9⟩ := lies_Msg.1 hl
  rw [hbl] at hn hf
  exact ⟨a7, d7, b7, rfl, hbl, ⟨lies_Write.2 ⟨a7, d7, b7, rfl, rfl, w5, w6, l7, w8, w9⟩, hn, hf⟩, w0, w1, w2, w3, w4⟩
theorem mkOwn_Msg {w : World} {x : DMsg} {c5 : List Value} {g5 : List Nat} (O5 : Lay.tWrite.Own w c5 x.write g5) (v0 : (Lit.int .i64 x.kind).wf = true) (v1 : (Lit.int .i64 x.epoch).wf = true) (v2 : (Lit.int .i64 x.src).wf = true) (v3 : (Lit.int .i64 x.dst).wf = true) (v4 : (Lit.int .i64 x.index).wf = true) (hn : (g5).Nodup) : Lay.tMsg.Own w ([.int .i64 x.kind] ++ ([.int .i64 x.epoch] ++ ([.int .i64 x.src] ++ ([.int .i64 x.dst] ++ ([.int .i64 x.index] ++ c5))))) x (g5) := by
  refine ⟨⟨[.int .i64 x.kind], [.int .i64 x.epoch] ++ ([.int .i64 x.src] ++ ([.int .i64 x.dst] ++ ([.int .i64 x.index] ++ c5))), [], [] ++ ([] ++ ([] ++ ([] ++ g5))), rfl, by simp, ⟨rfl, v0, rfl⟩, ⟨[.int .i64 x.epoch], [.int .i64 x.src] ++ ([.int .i64 x.dst] ++ ([.int .i64 x.index] ++ c5)), [], [] ++ ([] ++ ([] ++ g5)), rfl, rfl, ⟨rfl, v1, rfl⟩, ⟨[.int .i64 x.src], [.int .i64 x.dst] ++ ([.int .i64 x.index] ++ c5), [], [] ++ ([] ++ g5), rfl, rfl, ⟨rfl, v2, rfl⟩, ⟨[.int .i64 x.dst], [.int .i64 x.index] ++ c5, [], [] ++ g5, rfl, rfl, ⟨rfl, v3, rfl⟩, ⟨[.int .i64 x.index], c5, [], g5, rfl, rfl, ⟨rfl, v4, rfl⟩, O5.1⟩⟩⟩⟩⟩, hn, ?_⟩
  intro b hb o
  exact O5.2.2 b hb o

end Go.Proofs.YtkmfkaljdngigaaGreatDoor

namespace Go.Proofs.YtkmfkaljdngigaaGreatDoor
open Go.RowKit

theorem vcnt_NetResult (x : DNetResult) : Lay.tNetResult.vcnt x = (Lay.sl Lay.tMsg).vcnt x.msgs := by
  show 0 + ((Lay.sl Lay.tMsg).vcnt x.msgs) = (Lay.sl Lay.tMsg).vcnt x.msgs
  omega
theorem mkv_NetResult (k : Int) (x : DNetResult) : Lay.tNetResult.mkv k x = ⟨x.code, (Lay.sl Lay.tMsg).mkv (k) x.msgs⟩ := by
  simp [Lay.tNetResult, Lay.via, Lay.pair, Lay.int]
theorem own_NetResult {w : World} {cs : List Value} {x : DNetResult} {bl : List Nat} (h : Lay.tNetResult.Own w cs x bl) : ∃ (a1 : Option Addr) (d1 : Nat) (g1 : List Nat), cs = [.int .i64 x.code, .slice a1 x.msgs.length d1] ∧ bl = g1 ∧ (Lay.sl Lay.tMsg).Own w [.slice a1 x.msgs.length d1] x.msgs g1 ∧ (Lit.int .i64 x.code).wf = true := by
  obtain ⟨hl, hn, hf⟩ := h
  obtain ⟨a1, d1, b1, rfl, hbl, w0, l1⟩ := lies_NetResult.1 hl
  rw [hbl] at hn hf
  exact ⟨a1, d1, b1, rfl, hbl, ⟨l1, hn, hf⟩, w0⟩
theorem mkOwn_NetResult {w : World} {x : DNetResult} {c1 : List Value} {g1 : List Nat} (O1 : (Lay.sl Lay.tMsg).Own w c1 x.msgs g1) (v0 : (Lit.int .i64 x.code).wf = true) (hn : (g1).Nodup) : Lay.tNetResult.Own w ([.int .i64 x.code] ++ c1) x (g1) := by
  refine ⟨⟨[.int .i64 x.code], c1, [], g1, rfl, by simp, ⟨rfl, v0, rfl⟩, O1.1⟩, hn, ?_⟩
  intro b hb o
  exact O1.2.2 b hb o

end Go.Proofs.YtkmfkaljdngigaaGreatDoor

namespace Go.Proofs.YtkmfkaljdngigaaGreatDoor
open Go.RowKit

theorem lies_store {α : Type} {A : Lay α} {w w4 : World} {cs vs : List Value} {y : α} {lo hi : Nat} (h : A.LiesIn w4 cs y lo hi) (hlo : w.heap.size < lo) (hhi : hi ≤ w4.heap.size) :
    A.LiesIn (setAll w4 w.heap.size 0 vs) cs y w.heap.size (setAll w4 w.heap.size 0 vs).heap.size := by
  rw [size_setAll]
  exact (h.ext (ext_setAll (fun q => q = w.heap.size) (Ext.refl _ _) _ _ _ rfl) (fun q h1 h2 h3 => by omega)).mono (by omega) hhi
theorem own_store {α : Type} {A : Lay α} {w w4 : World} {cs vs : List Value} {y : α} {lo hi : Nat} (h : A.OwnIn w4 cs y lo hi) (hlo : w.heap.size < lo) (hhi : hi ≤ w4.heap.size) :
    A.OwnIn (setAll w4 w.heap.size 0 vs) cs y w.heap.size (setAll w4 w.heap.size 0 vs).heap.size := by
  rw [size_setAll]
  exact (h.ext (ext_setAll (fun q => q = w.heap.size) (Ext.refl _ _) _ _ _ rfl) (fun q h1 h2 h3 => by omega)).mono (by omega) hhi

/-- The block s alone may turn, and it is none of those that the answer lies in. -/
theorem lies_store' {α : Type} {A : Lay α} {w4 : World} {s : Nat} {cs vs : List Value} {y : α} {lo hi : Nat} (h : A.LiesIn w4 cs y lo hi) (hs : s < lo) : A.LiesIn (setAll w4 s 0 vs) cs y lo hi :=
  h.ext (ext_setAll (fun q => q = s) (Ext.refl _ _) _ _ _ rfl) (fun q h1 h2 h3 => by omega)
theorem own_store' {α : Type} {A : Lay α} {w4 : World} {s : Nat} {cs vs : List Value} {y : α} {lo hi : Nat} (h : A.OwnIn w4 cs y lo hi) (hs : s < lo) : A.OwnIn (setAll w4 s 0 vs) cs y lo hi :=
  h.ext (ext_setAll (fun q => q = s) (Ext.refl _ _) _ _ _ rfl) (fun q h1 h2 h3 => by omega)

theorem nil_own {α : Type} {A : Lay α} {w : World} {lo hi : Nat} : (Lay.sl A).OwnIn w [.slice none 0 0] [] lo hi := ⟨[], ⟨⟨none, 0, rfl, by simp, Or.inl ⟨rfl, rfl⟩⟩, by simp, by simp⟩, by simp⟩

end Go.Proofs.YtkmfkaljdngigaaGreatDoor

namespace Go.Proofs.YtkmfkaljdngigaaGreatDoor
open Go.RowKit

theorem own_netR {w : World} {c : Int} {v : Value} {xs : List DMsg} {lo hi : Nat} (hc : (Lit.int .i64 c).wf = true) (h : (Lay.sl Lay.tMsg).OwnIn w [v] xs lo hi) : Lay.tNetResult.OwnIn w [.int .i64 c, v] ⟨c, xs⟩ lo hi := by
  obtain ⟨bl, O, i⟩ := h
  exact ⟨bl, mkOwn_NetResult (x := ⟨c, xs⟩) O hc O.2.1, i⟩
theorem lies_netR {w : World} {c : Int} {a : Option Addr} {m d : Nat} {xs : List DMsg} {lo hi : Nat} (hc : (Lit.int .i64 c).wf = true) (h : (Lay.sl Lay.tMsg).LiesIn w [.slice a m d] xs lo hi) : Lay.tNetResult.LiesIn w [.int .i64 c, .slice a m d] ⟨c, xs⟩ lo hi := by
  obtain ⟨bl, l, i⟩ := h
  have hm : m = xs.length := (Lay.Reads.cap ⟨bl, l⟩).1
  subst hm
  exact ⟨bl, lies_NetResult.2 ⟨a, d, bl, rfl, rfl, hc, l⟩, i⟩
theorem own_badNet {w : World} {c : Int} {lo hi : Nat} (hc : -1000000000 ≤ c ∧ c ≤ 1000000000) : Lay.tNetResult.OwnIn w [.int .i64 c, .slice none 0 0] (badNet c) lo hi := own_netR (xs := []) (wf_of_bd hc) nil_own
theorem lies_badNet {w : World} {c : Int} {lo hi : Nat} (hc : -1000000000 ≤ c ∧ c ≤ 1000000000) : Lay.tNetResult.LiesIn w [.int .i64 c, .slice none 0 0] (badNet c) lo hi := (own_badNet hc).lies
theorem msg_vec {x : DMsg} (h : msgFault x = 0) : x.write.vec.length ≤ 100000000 := by
  unfold msgFault at h
  split at h
  · simp at h
  · rename_i h1
    split at h
    · simp at h
    · split at h
      · rename_i h3
        have h4 : noW x.write := Decidable.byContradiction fun q => h1 (Or.inr (Or.inr ⟨h3, q⟩))
        have := h4.2.2.2.2
        omega
      · obtain ⟨-, -, -, hk⟩ := writeFault_zero h
        rcases hk with ⟨-, hv⟩ | ⟨-, hv⟩
        · have := (vecFault_zero hv).1; omega
        · rw [hv]; simp
theorem msgs_vec {xs : List DMsg} (h : netFault xs = 0) : ∀ x ∈ xs, x.write.vec.length ≤ 100000000 := fun x hx => msg_vec ((netFault_zero h).2 x hx)
end Go.Proofs.YtkmfkaljdngigaaGreatDoor

namespace Go.Proofs.YtkmfkaljdngigaaGreatDoor
open Go.RowKit

theorem any_yes {xs : List DMsg} {y : DMsg} (k : Nat) (hk : k < xs.length) (h : sameM xs[k] y = true) : xs.any (fun z => sameM z y) = true := by
  rw [List.any_eq_true]
  exact ⟨xs[k], List.getElem_mem _, h⟩
theorem any_no {xs : List DMsg} {y : DMsg} (h : ∀ j (hj : j < xs.length), sameM xs[j] y = false) : xs.any (fun z => sameM z y) = false := by
  rw [List.any_eq_false]
  intro z hz
  obtain ⟨j, hj, rfl⟩ := List.getElem_of_mem hz
  rw [h j hj]
  simp

set_option maxRecDepth 100000 in
set_option maxHeartbeats 4000000 in
theorem l11SendC (v : Value) (xs : List DMsg) (b o : Nat) (a2 : Option Addr) (d2 : Nat) (x : DMsg) (w : World) (h : (Lay.sl Lay.tMsg).Reads w [v] xs) (hM : MsgAt w b o x (.slice a2 x.write.vec.length d2)) (R2 : (Lay.sl Lay.int).Reads w [.slice a2 x.write.vec.length d2] x.write.vec)
    (HWFX : (Lit.int .i64 x.kind).wf = true ∧ (Lit.int .i64 x.epoch).wf = true ∧ (Lit.int .i64 x.src).wf = true ∧ (Lit.int .i64 x.dst).wf = true ∧ (Lit.int .i64 x.index).wf = true ∧ (Lit.int .i64 x.write.kind).wf = true ∧ (Lit.int .i64 x.write.id).wf = true ∧ (Lit.int .i64 x.write.session).wf = true ∧ (Lit.int .i64 x.write.seq).wf = true) (hn : xs.length ≤ 40) (hv : ∀ x ∈ xs, x.write.vec.length ≤ 100000000) (hvx : x.write.vec.length ≤ 100000000) :
    Calls Tryz.prog 23 #[v, .pointer (some ⟨b, o, none⟩)] w fun e w' => ∃ (a : Option Addr) (n c : Nat), e = .returned (.tuple #[.slice a n c, .int .i64 (sendM xs x).code]) ∧ (Lay.sl Lay.tMsg).LiesIn w' [.slice a n c] (sendM xs x).msgs w.heap.size w'.heap.size ∧ Below w.heap.size w w' := by
  have HC := hide (mcopyC v xs w h (by omega) hv)
  obtain ⟨ao, cap, rfl⟩ := open_sl h
  have H := hide h
  have HM := hide hM
  have HRX := hide R2
  have HWF := hide HWFX
  have HN := hide hvx
  have hbl := World.block_lt_of_cell? _ _ hM.1
  simp only at hbl
  clear h hM R2 HWFX hv hvx
  go_enter Tryz.func23, Tryz.ntmps23
  go_wp2_with fail
  refine (unhide HC).mono ?_
  rintro e w1 ⟨u3, rfl, ⟨rows, bls, hG1, hSB⟩, hb1⟩
  have HG1 := hide hG1
  have HSB := hide hSB
  have HB1 := hide hb1
  have hz1 := hb1.size
  have hu3 : ∃ a3 c3, u3 = .slice a3 xs.length c3 := own_shape hG1.own
  clear HC hG1 hSB hb1
  go_wp2_with fail
  go_loopw [7] (fun i wr => ∃ k : Nat, k ≤ xs.length ∧ i = .int .i64 k ∧ (∀ j (hj : j < xs.length), j < k → sameM xs[j] x = false) ∧ Below w1.heap.size w1 wr) (fun i _ => xs.length - (intOf i).toNat)
  case atStart => exact ⟨0, Nat.zero_le _, rfl, fun j _ hj => by omega, Below.refl _ _⟩
  case round =>
    obtain ⟨k, hk, rfl, hz, hB1⟩ := hrel
    have hB : Below w.heap.size w wr := (unhide HB1).trans (hB1.mono hz1)
    by_cases hlt : k < xs.length
    · obtain ⟨b2, off, rfl, hbl2⟩ := Lay.sl_addr (unhide H) (by omega)
      obtain ⟨a, d, hM, R⟩ := msg_row ((unhide H).later hB) hlt
      have HL := hide (l11SameC b2 (off + k * 10) b o xs[k] x a a2 d d2 wr hM ((unhide HM).later hB) R ((unhide HRX).later hB))
      have hbr : b2 < wr.heap.size := Nat.lt_of_lt_of_le hbl2 hB.size
      have hdl : decide ((k : Int) < (xs.length : Int)) = true := by simp; omega
      have HBW := hide hB
      have HBW1 := hide hB1
      have HAT : Hid (sameM xs[k] x = true → sendM xs x = ⟨0, xs⟩) := fun q => sendM_there (any_yes k hlt q)
      have HZ2 : Hid (sameM xs[k] x = false → ∀ j (hj : j < xs.length), j < k + 1 → sameM xs[j] x = false) := by
        intro h0 j hj hjk
        by_cases hjk2 : j < k
        · exact hz j hj hjk2
        · obtain rfl : j = k := by omega
          exact h0
      clear hz hM R hB hB1
      generalize sameM xs[k] x = f at *
      go_wp2_with fail
      refine (unhide HL).mono ?_
      rintro e w2 ⟨rfl, hb⟩
      replace HBW := hide ((unhide HBW).trans (hb.mono (unhide HBW).size))
      replace HBW1 := hide ((unhide HBW1).trans (hb.mono (unhide HBW1).size))
      clear hb HL
      cases f
      · have HZ3 := hide (unhide HZ2 rfl)
        clear HZ2 HAT
        go_wp2_with fail
        go_roundw
        case rel => exact ⟨k + 1, by omega, by go_num, unhide HZ3, unhide HBW1⟩
        case measure => simp [intOf]; omega
      · have HA := hide (unhide HAT rfl)
        obtain ⟨a3, c3, rfl⟩ := hu3
        clear HZ2 HAT
        go_wp2_with fail
        refine bodyPost_ret (v := .tuple #[.slice a3 xs.length c3, .int .i64 0]) (by simp [results, Tryz.results23, go_sem]) rfl ?_
        refine ⟨a3, xs.length, c3, by rw [unhide HA], ?_, unhide HBW⟩
        rw [unhide HA]
        exact ((unhide HG1).later (unhide HBW1)).toLies (by omega) (unhide HSB)
    · obtain rfl : k = xs.length := by omega
      have hdl : decide ((xs.length : Int) < (xs.length : Int)) = false := by simp
      have hno := any_no (fun j hj => hz j hj hj)
      clear hz
      by_cases h40 : 40 ≤ xs.length
      · have HA := hide (sendM_full hno h40)
        have hd2 : decide ((40 : Int) ≤ (xs.length : Int)) = true := by simp; omega
        have HBW := hide hB
        clear hB hB1 hno
        go_wp2_with fail
        refine bodyPost_ret (v := .tuple #[.slice none 0 0, .int .i64 2]) (by simp [results, Tryz.results23, go_sem]) rfl ?_
        refine ⟨none, 0, 0, by rw [unhide HA]; rfl, ?_, unhide HBW⟩
        rw [unhide HA]
        exact nil_own.lies
      · have HA := hide (sendM_new hno (by omega))
        have hd2 : decide ((40 : Int) ≤ (xs.length : Int)) = false := by simp; omega
        have hG := (unhide HG1).later hB1
        have hbr : b < wr.heap.size := Nat.lt_of_lt_of_le hbl hB.size
        obtain ⟨c0, c1, c2, c3, c4, c5, c6, c7, c8, c9⟩ := (unhide HM).later hB
        have R2 := (unhide HRX).later hB
        clear hno hB1 HG1 HB1 hbl
        have nb : Below wr.heap.size wr (wr.alloc (.cells #[.int .i64 x.kind, .int .i64 x.epoch, .int .i64 x.src, .int .i64 x.dst, .int .i64 x.index, .int .i64 x.write.kind, .int .i64 x.write.id, .slice a2 x.write.vec.length d2, .int .i64 x.write.session, .int .i64 x.write.seq] 29)) := (Below.refl _ _).alloc (Nat.le_refl _) _
        have bI : Box 0 #[.int .i64 x.kind, .int .i64 x.epoch, .int .i64 x.src, .int .i64 x.dst, .int .i64 x.index, .int .i64 x.write.kind, .int .i64 x.write.id, .slice a2 x.write.vec.length d2, .int .i64 x.write.session, .int .i64 x.write.seq] 29 (wr.alloc (.cells #[.int .i64 x.kind, .int .i64 x.epoch, .int .i64 x.src, .int .i64 x.dst, .int .i64 x.index, .int .i64 x.write.kind, .int .i64 x.write.id, .slice a2 x.write.vec.length d2, .int .i64 x.write.session, .int .i64 x.write.seq] 29)) wr.heap.size := newBox (Nat.zero_le _)
        have HRW := hide (Lay.ints_reads R2).wf
        have HL := hide (l1Ints _ x.write.vec _ ((Lay.ints_reads R2).later nb) (unhide HN))
        have HG := hide (hG.later nb)
        have HB := hide (hB.trans (nb.mono hB.size))
        have HBI := hide bI
        have HZW : Hid (w.heap.size ≤ wr.heap.size) := hB.size
        have HOW : Hid (∀ c, u3.ownBlock = some c → c < wr.heap.size) := fun c hc => (hG.own.lt c hc).2
        have HSL : Hid (∀ c ∈ bls.flatten, c < wr.heap.size) := fun c hc => hG.sub_lt c hc
        clear R2 hG hB nb bI
        go_wp2_with fail
        clear c0 c1 c2 c3 c4 c5 c6 c7 c8 c9
        refine (unhide HL).mono ?_
        generalize hW0 : wr.alloc (.cells #[.int .i64 x.kind, .int .i64 x.epoch, .int .i64 x.src, .int .i64 x.dst, .int .i64 x.index, .int .i64 x.write.kind, .int .i64 x.write.id, .slice a2 x.write.vec.length d2, .int .i64 x.write.session, .int .i64 x.write.seq] 29) = W0 at *
        clear hW0
        rintro e w2 ⟨v2, rfl, hO, hb⟩
        have hO2 := Lay.ownInts (unhide HRW) (by have := unhide HN; omega) hO
        obtain ⟨ao2, cp2, rfl⟩ := open_sl hO2.reads
        obtain ⟨bl2, ⟨hl2, -, -⟩, hr2⟩ := hO2
        have bI2 := (unhide HBI).keep hb
        have hZ0 : wr.heap.size < W0.heap.size := (unhide HBI).lt
        have z0 : w2.cell? ⟨wr.heap.size, 0, none⟩ = some (.int .i64 x.kind) := bI2.at 0 _ rfl
        have z1 : w2.cell? ⟨wr.heap.size, 1, none⟩ = some (.int .i64 x.epoch) := bI2.at 1 _ rfl
        have z2 : w2.cell? ⟨wr.heap.size, 2, none⟩ = some (.int .i64 x.src) := bI2.at 2 _ rfl
        have z3 : w2.cell? ⟨wr.heap.size, 3, none⟩ = some (.int .i64 x.dst) := bI2.at 3 _ rfl
        have z4 : w2.cell? ⟨wr.heap.size, 4, none⟩ = some (.int .i64 x.index) := bI2.at 4 _ rfl
        have z5 : w2.cell? ⟨wr.heap.size, 5, none⟩ = some (.int .i64 x.write.kind) := bI2.at 5 _ rfl
        have z6 : w2.cell? ⟨wr.heap.size, 6, none⟩ = some (.int .i64 x.write.id) := bI2.at 6 _ rfl
        have z7 : w2.cell? ⟨wr.heap.size, 7, none⟩ = some (.slice a2 x.write.vec.length d2) := bI2.at 7 _ rfl
        have z8 : w2.cell? ⟨wr.heap.size, 8, none⟩ = some (.int .i64 x.write.session) := bI2.at 8 _ rfl
        have z9 : w2.cell? ⟨wr.heap.size, 9, none⟩ = some (.int .i64 x.write.seq) := bI2.at 9 _ rfl
        have f2 := bI2.soft 7
        have l2 := bI2.lt
        have hE : Ext (fun c => c = wr.heap.size) w2 (w2.setCell ⟨wr.heap.size, 7, none⟩ (.slice ao2 x.write.vec.length cp2)) := (Ext.refl (fun c => c = wr.heap.size) w2).setCell ⟨wr.heap.size, 7, none⟩ _ rfl
        have hl3 : Lay.tMsg.lies (w2.setCell ⟨wr.heap.size, 7, none⟩ (.slice ao2 x.write.vec.length cp2)) [.int .i64 x.kind, .int .i64 x.epoch, .int .i64 x.src, .int .i64 x.dst, .int .i64 x.index, .int .i64 x.write.kind, .int .i64 x.write.id, .slice ao2 x.write.vec.length cp2, .int .i64 x.write.session, .int .i64 x.write.seq] x bl2 := lies_Msg.2 ⟨ao2, cp2, bl2, rfl, rfl, (unhide HWF).1, (unhide HWF).2.1, (unhide HWF).2.2.1, (unhide HWF).2.2.2.1, (unhide HWF).2.2.2.2.1, (unhide HWF).2.2.2.2.2.1, (unhide HWF).2.2.2.2.2.2.1, (Lay.sl Lay.int).keep hl2 (fun c hc => hE.block c ((Lay.sl Lay.int).lt hl2 c hc) (by have := (hr2 c hc).1; omega)), (unhide HWF).2.2.2.2.2.2.2.1, (unhide HWF).2.2.2.2.2.2.2.2⟩
        have hG2 := (unhide HG).later hb
        have hoff : ∀ c ∈ bl2, u3.ownBlock ≠ some c := fun c hc e => by have h1 := (hr2 c hc).1; have h2 := unhide HOW c e; omega
        have HB3 : Hid (Below w.heap.size w (w2.setCell ⟨wr.heap.size, 7, none⟩ (.slice ao2 x.write.vec.length cp2))) := ((unhide HB).trans (hb.mono (unhide HB).size)).setCell (by simpa using unhide HZW) _
        have hG3 : Grow Lay.tMsg (w2.setCell ⟨wr.heap.size, 7, none⟩ (.slice ao2 x.write.vec.length cp2)) w.heap.size 29 u3 rows (xs) bls := hG2.kept (by
          obtain ⟨h1, h2⟩ := hG2.own
          refine ⟨h1, ?_⟩
          rcases h2 with h2 | ⟨gb, cap', cur, hv, hg, hh, r⟩
          · exact Or.inl h2
          · exact Or.inr ⟨gb, cap', cur, hv, hg, (hE.block gb (lt_of_block hh) (by have := unhide HOW gb (by rw [hv]; rfl); omega)).trans hh, r⟩) (fun c hc => hE.block c (hG2.sub_lt c hc) (fun e => by
          have := unhide HSL c hc
          omega))
        have hZ3 : w.heap.size ≤ (w2.setCell ⟨wr.heap.size, 7, none⟩ (.slice ao2 x.write.vec.length cp2)).heap.size := (unhide HB3).size
        have hK : xs.length + 1 ≤ 100000000 := by omega
        have y0 : (w2.setCell ⟨wr.heap.size, 7, none⟩ (.slice ao2 x.write.vec.length cp2)).cell? ⟨wr.heap.size, 0, none⟩ = some (.int .i64 x.kind) := (bI2.set 7 _).at 0 _ rfl
        have y1 : (w2.setCell ⟨wr.heap.size, 7, none⟩ (.slice ao2 x.write.vec.length cp2)).cell? ⟨wr.heap.size, 1, none⟩ = some (.int .i64 x.epoch) := (bI2.set 7 _).at 1 _ rfl
        have y2 : (w2.setCell ⟨wr.heap.size, 7, none⟩ (.slice ao2 x.write.vec.length cp2)).cell? ⟨wr.heap.size, 2, none⟩ = some (.int .i64 x.src) := (bI2.set 7 _).at 2 _ rfl
        have y3 : (w2.setCell ⟨wr.heap.size, 7, none⟩ (.slice ao2 x.write.vec.length cp2)).cell? ⟨wr.heap.size, 3, none⟩ = some (.int .i64 x.dst) := (bI2.set 7 _).at 3 _ rfl
        have y4 : (w2.setCell ⟨wr.heap.size, 7, none⟩ (.slice ao2 x.write.vec.length cp2)).cell? ⟨wr.heap.size, 4, none⟩ = some (.int .i64 x.index) := (bI2.set 7 _).at 4 _ rfl
        have y5 : (w2.setCell ⟨wr.heap.size, 7, none⟩ (.slice ao2 x.write.vec.length cp2)).cell? ⟨wr.heap.size, 5, none⟩ = some (.int .i64 x.write.kind) := (bI2.set 7 _).at 5 _ rfl
        have y6 : (w2.setCell ⟨wr.heap.size, 7, none⟩ (.slice ao2 x.write.vec.length cp2)).cell? ⟨wr.heap.size, 6, none⟩ = some (.int .i64 x.write.id) := (bI2.set 7 _).at 6 _ rfl
        have y7 : (w2.setCell ⟨wr.heap.size, 7, none⟩ (.slice ao2 x.write.vec.length cp2)).cell? ⟨wr.heap.size, 7, none⟩ = some (.slice ao2 x.write.vec.length cp2) := (bI2.set 7 _).at 7 _ rfl
        have y8 : (w2.setCell ⟨wr.heap.size, 7, none⟩ (.slice ao2 x.write.vec.length cp2)).cell? ⟨wr.heap.size, 8, none⟩ = some (.int .i64 x.write.session) := (bI2.set 7 _).at 8 _ rfl
        have y9 : (w2.setCell ⟨wr.heap.size, 7, none⟩ (.slice ao2 x.write.vec.length cp2)).cell? ⟨wr.heap.size, 9, none⟩ = some (.int .i64 x.write.seq) := (bI2.set 7 _).at 9 _ rfl
        have HSB5 : Hid (∀ c ∈ (bls ++ [bl2]).flatten, w.heap.size ≤ c) := by
          intro c hc
          rw [List.flatten_append] at hc
          rcases List.mem_append.1 hc with hc | hc
          · exact unhide HSB c hc
          · have h1 := (hr2 c (by simpa using hc)).1
            have h2 := unhide HZW
            omega
        clear z0 z1 z2 z3 z4 z5 z6 z8 z9 bI2 hE hG2 hl2 hO HG HL HB HBI HRW HN HWF hb hr2 hZ0
        go_upto_region 11 with fail
        generalize w2.setCell ⟨wr.heap.size, 7, none⟩ (.slice ao2 x.write.vec.length cp2) = W3 at *
        go_wp2_with (at_builtin; refine wpList_append_Msg hG3 hl3 hoff rfl _ _ rfl rfl rfl hK hZ3 ?_)
        intro g5 cap5 w5 hG5 hb5 hE5 hg5 hz5 hor5
        have HL5 := hide (hG5.toLies (by simp; omega) (unhide HSB5))
        have HB5 := hide ((unhide HB3).trans hb5)
        clear hG3 hl3 hoff hZ3 hK hG5 hb5 hE5 hg5 hz5 hor5 HB3 y0 y1 y2 y3 y4 y5 y6 y7 y8 y9 z7 f2 l2
        go_wp2_with fail
        refine bodyPost_ret (v := .tuple #[.slice (some ⟨g5, 0, none⟩) (xs.length + 1) cap5, .int .i64 0]) (by simp [results, Tryz.results23, go_sem]) rfl ?_
        refine ⟨_, _, _, by rw [unhide HA], ?_, unhide HB5⟩
        rw [unhide HA]
        exact unhide HL5

theorem sendM_code (xs : List DMsg) (x : DMsg) : -1000000000 ≤ (sendM xs x).code ∧ (sendM xs x).code ≤ 1000000000 := by
  unfold sendM
  split
  · simp
  · split
    · simp [badNet]
    · simp

set_option maxRecDepth 10000 in
set_option maxHeartbeats 2000000 in
theorem specSendMsg (v : Value) (xs : List DMsg) (cs : List Value) (x : DMsg) (w : World) (h : (Lay.sl Lay.tMsg).Reads w [v] xs) (hx : Lay.tMsg.Reads w cs x) :
    Calls Tryz.prog 7 #[v, .agg cs.toArray] w fun e w' => ∃ cs, e = .returned (.agg cs.toArray) ∧ Lay.tNetResult.LiesIn w' cs (sendR xs x) w.heap.size w'.heap.size ∧ Below w.heap.size w w' := by
  obtain ⟨ao, cap, rfl⟩ := open_sl h
  obtain ⟨bl0, hx0⟩ := hx
  obtain ⟨a2, d2, b7, rfl, -, w0, w1, w2, w3, w4, w5, w6, l7, w8, w9⟩ := lies_Msg.1 hx0
  have RX : (Lay.sl Lay.int).Reads w [.slice a2 x.write.vec.length d2] x.write.vec := ⟨_, l7⟩
  have HWF : Hid ((Lit.int .i64 x.kind).wf = true ∧ (Lit.int .i64 x.epoch).wf = true ∧ (Lit.int .i64 x.src).wf = true ∧ (Lit.int .i64 x.dst).wf = true ∧ (Lit.int .i64 x.index).wf = true ∧ (Lit.int .i64 x.write.kind).wf = true ∧ (Lit.int .i64 x.write.id).wf = true ∧ (Lit.int .i64 x.write.session).wf = true ∧ (Lit.int .i64 x.write.seq).wf = true) := ⟨w0, w1, w2, w3, w4, w5, w6, w8, w9⟩
  have nb : Below w.heap.size w ((w.alloc (.cells #[.int .i64 x.kind, .int .i64 x.epoch, .int .i64 x.src, .int .i64 x.dst, .int .i64 x.index, .int .i64 x.write.kind, .int .i64 x.write.id, .slice a2 x.write.vec.length d2, .int .i64 x.write.session, .int .i64 x.write.seq] 29)).alloc (.cells #[.int .i64 0, .slice none 0 0] 33)) := ((Below.refl _ _).alloc (Nat.le_refl _) _).alloc (by simp) _
  have hX : Box 0 #[.int .i64 x.kind, .int .i64 x.epoch, .int .i64 x.src, .int .i64 x.dst, .int .i64 x.index, .int .i64 x.write.kind, .int .i64 x.write.id, .slice a2 x.write.vec.length d2, .int .i64 x.write.session, .int .i64 x.write.seq] 29 ((w.alloc (.cells #[.int .i64 x.kind, .int .i64 x.epoch, .int .i64 x.src, .int .i64 x.dst, .int .i64 x.index, .int .i64 x.write.kind, .int .i64 x.write.id, .slice a2 x.write.vec.length d2, .int .i64 x.write.session, .int .i64 x.write.seq] 29)).alloc (.cells #[.int .i64 0, .slice none 0 0] 33)) w.heap.size := (newBox (Nat.zero_le _)).grow _
  have bR : Box 0 #[.int .i64 0, .slice none 0 0] 33 ((w.alloc (.cells #[.int .i64 x.kind, .int .i64 x.epoch, .int .i64 x.src, .int .i64 x.dst, .int .i64 x.index, .int .i64 x.write.kind, .int .i64 x.write.id, .slice a2 x.write.vec.length d2, .int .i64 x.write.session, .int .i64 x.write.seq] 29)).alloc (.cells #[.int .i64 0, .slice none 0 0] 33)) (w.heap.size + 1) := newBoxAt (Nat.zero_le _) (by simp)
  have HF := hide (l11FaultC _ xs _ (h.later nb))
  have H := hide h
  have HRX := hide RX
  have HB := hide nb
  have HX := hide hX
  have HR := hide bR
  clear h hx0 nb hX bR RX w0 w1 w2 w3 w4 w5 w6 w8 w9 l7
  go_enter Tryz.func7, Tryz.ntmps7
  go_wp2_with fail
  generalize (w.alloc (.cells #[.int .i64 x.kind, .int .i64 x.epoch, .int .i64 x.src, .int .i64 x.dst, .int .i64 x.index, .int .i64 x.write.kind, .int .i64 x.write.id, .slice a2 x.write.vec.length d2, .int .i64 x.write.session, .int .i64 x.write.seq] 29)).alloc (.cells #[.int .i64 0, .slice none 0 0] 33) = W0 at *
  refine (unhide HF).mono ?_
  rintro e W ⟨rfl, hb⟩
  replace HX := hide ((unhide HX).keep hb)
  replace HR := hide ((unhide HR).keep hb)
  replace HB := hide ((unhide HB).trans (hb.mono (unhide HB).size))
  clear HF hb
  by_cases hc : netFault xs = 0
  · rw [hc]
    have HNF := hide hc
    have HM := hide (l11MsgC w.heap.size 0 a2 d2 x W (msgAt_box (unhide HX)) ((unhide HRX).later (unhide HB)))
    clear hc
    go_wp2_with fail
    refine (unhide HM).mono ?_
    rintro e W1 ⟨rfl, hb⟩
    replace HX := hide ((unhide HX).keep hb)
    replace HR := hide ((unhide HR).keep hb)
    replace HB := hide ((unhide HB).trans (hb.mono (unhide HB).size))
    clear HM hb
    by_cases hm : msgFault x = 0
    · rw [hm]
      have HV := hide (sendR_ok (unhide HNF) hm)
      have HL := hide (l11SendC _ xs w.heap.size 0 a2 d2 x W1 ((unhide H).later (unhide HB)) (msgAt_box (unhide HX)) ((unhide HRX).later (unhide HB)) (unhide HWF) (netFault_zero (unhide HNF)).1 (msgs_vec (unhide HNF)) (msg_vec hm))
      have hl1 := (unhide HR).lt
      clear hm
      go_wp2_with fail
      refine (unhide HL).mono ?_
      rintro e W2 ⟨a, n, c, rfl, hLI, hb⟩
      have bR := (unhide HR).keep hb
      have z0 : W2.cell? ⟨w.heap.size + 1, 0, none⟩ = some (.int .i64 0) := bR.at 0 _ rfl
      have z1 : W2.cell? ⟨w.heap.size + 1, 1, none⟩ = some (.slice none 0 0) := bR.at 1 _ rfl
      have ff := bR.soft
      have l0 := bR.lt
      have hcw : -1000000000 ≤ (sendM xs x).code ∧ (sendM xs x).code ≤ 1000000000 := sendM_code xs x
      have HO : Hid (Lay.tNetResult.LiesIn W2 [.int .i64 (sendM xs x).code, .slice a n c] (sendM xs x) W1.heap.size W2.heap.size) := lies_netR (xs := (sendM xs x).msgs) (wf_of_bd hcw) hLI
      have HB2 := hide (below_setAll ((unhide HB).trans (hb.mono (unhide HB).size)) (w.heap.size + 1) 0 [.int .i64 (sendM xs x).code, .slice a n c] (by omega))
      have HSF := hide (size_setAll W2 (w.heap.size + 1) 0 [.int .i64 (sendM xs x).code, .slice a n c])
      have hlo : w.heap.size ≤ W1.heap.size := by omega
      clear hLI hb bR HL HR HX HB hcw
      have HO3 := hide (lies_store' (s := w.heap.size + 1) (vs := [.int .i64 (sendM xs x).code, .slice a n c]) (unhide HO) hl1)
      clear HO
      go_wp2_with fail
      refine bodyPost_ret (v := .agg #[.int .i64 (sendM xs x).code, .slice a n c]) (by simp [results, Tryz.results7, go_sem, z0, z1]) rfl ?_
      rw [unhide HV]
      exact ⟨[_, _], rfl, (unhide HO3).mono hlo (Nat.le_of_eq (unhide HSF).symm), unhide HB2⟩
    · have HV := hide (sendR_msg (unhide HNF) hm)
      have hv := msgFault_vals x
      have hd : (msgFault x != 0) = true := by simpa using hm
      generalize msgFault x = f at *
      clear hm
      have z0 : W1.cell? ⟨w.heap.size + 1, 0, none⟩ = some (.int .i64 0) := (unhide HR).at 0 _ rfl
      have z1 : W1.cell? ⟨w.heap.size + 1, 1, none⟩ = some (.slice none 0 0) := (unhide HR).at 1 _ rfl
      have ff := (unhide HR).soft
      have l0 := (unhide HR).lt
      have HB2 := hide (below_setAll (unhide HB) (w.heap.size + 1) 0 [.int .i64 f, .slice none 0 0] (by omega))
      clear HB HR
      go_wp2_with fail
      refine bodyPost_ret (v := .agg #[.int .i64 f, .slice none 0 0]) (by simp [results, Tryz.results7, go_sem, z0, z1]) rfl ?_
      rw [unhide HV]
      exact ⟨[_, _], rfl, lies_badNet (by omega), unhide HB2⟩
  · have HV := hide (sendR_net (x := x) hc)
    have hv := netFault_vals xs
    have hd : (netFault xs != 0) = true := by simpa using hc
    generalize netFault xs = f at *
    clear hc
    have z0 : W.cell? ⟨w.heap.size + 1, 0, none⟩ = some (.int .i64 0) := (unhide HR).at 0 _ rfl
    have z1 : W.cell? ⟨w.heap.size + 1, 1, none⟩ = some (.slice none 0 0) := (unhide HR).at 1 _ rfl
    have ff := (unhide HR).soft
    have l0 := (unhide HR).lt
    have HB2 := hide (below_setAll (unhide HB) (w.heap.size + 1) 0 [.int .i64 f, .slice none 0 0] (by omega))
    clear HB HR
    go_wp2_with fail
    refine bodyPost_ret (v := .agg #[.int .i64 f, .slice none 0 0]) (by simp [results, Tryz.results7, go_sem, z0, z1]) rfl ?_
    rw [unhide HV]
    exact ⟨[_, _], rfl, lies_badNet (by omega), unhide HB2⟩
end Go.Proofs.YtkmfkaljdngigaaGreatDoor

namespace Go.Proofs.YtkmfkaljdngigaaGreatDoor

abbrev Bytes := List UInt8

def isDig (c : UInt8) : Bool := decide (48 ≤ c.toNat) && decide (c.toNat ≤ 57)
def headDig : Bytes → Bool
  | [] => false
  | d :: _ => isDig d
def digs (n : Int) : Bytes → Option (Int × Bytes)
  | [] => none
  | c :: r => if 1000 < n * 10 + ((c.toNat : Int) - 48) then none else if headDig r then digs (n * 10 + ((c.toNat : Int) - 48)) r else some (n * 10 + ((c.toNat : Int) - 48), r)
def unsgn (σ : Int) : Bytes → Option (Int × Bytes)
  | [] => none
  | c :: r => if isDig c then (if c.toNat = 48 then (if σ < 0 then none else some (σ * 0, r)) else (digs 0 (c :: r)).map fun q => (σ * q.1, q.2)) else none
def rpart : Bytes → Option (Int × Bytes)
  | [] => none
  | c :: r => if c.toNat = 45 then unsgn (-1) r else unsgn 1 (c :: r)

abbrev Tri := Int × Int × Int
def setAt : Nat → Tri → Int → Tri
  | 0, t, v => (v, t.2.1, t.2.2)
  | 1, t, v => (t.1, v, t.2.2)
  | _, t, v => (t.1, t.2.1, v)
def fin3 (t : Tri) : Bytes → Option Tri
  | [] => some t
  | _ => none

/-- q places are left; the last one leaves the end. -/
def PP : Nat → Tri → Bytes → Option Tri
  | 0, _, _ => none
  | q + 1, t, r =>
    match rpart r with
    | none => none
    | some (v, r1) =>
      match q with
      | 0 => fin3 (setAt 2 t v) r1
      | q' + 1 =>
        match r1 with
        | [] => none
        | c :: r2 => if c.toNat = 44 then PP (q' + 1) (setAt (1 - q') t v) r2 else none

def EE (p : Nat) (t : Tri) (r : Bytes) : Option Tri :=
  if p = 2 then fin3 t r else match r with
    | [] => none
    | c :: r2 => if c.toNat = 44 then PP (2 - p) t r2 else none

theorem PP_eq (p : Nat) (hp : p ≤ 2) (t : Tri) (r : Bytes) : PP (3 - p) t r = match rpart r with | none => none | some (v, r1) => EE p (setAt p t v) r1 := by
  rcases (show p = 0 ∨ p = 1 ∨ p = 2 by omega) with rfl | rfl | rfl
  · show PP 3 t r = _
    rw [PP]
    cases rpart r with
    | none => rfl
    | some q => obtain ⟨v, r1⟩ := q; cases r1 <;> simp [EE]
  · show PP 2 t r = _
    rw [PP]
    cases rpart r with
    | none => rfl
    | some q => obtain ⟨v, r1⟩ := q; cases r1 <;> simp [EE]
  · show PP 1 t r = _
    rw [PP]
    cases rpart r with
    | none => rfl
    | some q => obtain ⟨v, r1⟩ := q; cases r1 <;> simp [EE]

def UU (p : Nat) (t : Tri) (σ : Int) (r : Bytes) : Option Tri := match unsgn σ r with | none => none | some (v, r1) => EE p (setAt p t v) r1
def DD (p : Nat) (t : Tri) (σ n : Int) (r : Bytes) : Option Tri := match digs n r with | none => none | some (v, r1) => EE p (setAt p t (σ * v)) r1

/-- The byte at k, 0 behind the end. -/
def bAt (s : ByteArray) (k : Nat) : Int := if h : k < s.size then (s[k].toNat : Int) else 0
def digB (b : Int) : Bool := decide (48 ≤ b) && decide (b ≤ 57)

def rest (s : ByteArray) (k : Nat) : Bytes := s.data.toList.drop k
theorem rest_nil (s : ByteArray) (k : Nat) (h : ¬ k < s.size) : rest s k = [] := by
  unfold rest
  exact List.drop_of_length_le (by simp; simpa using h)
theorem rest_cons (s : ByteArray) (k : Nat) (h : k < s.size) : rest s k = s[k] :: rest s (k + 1) := by
  unfold rest
  rw [List.drop_eq_getElem_cons (by simpa using h)]
  rfl
theorem bAt_lt (s : ByteArray) (k : Nat) (h : k < s.size) : bAt s k = (s[k].toNat : Int) := by simp [bAt, h]
theorem bAt_ge (s : ByteArray) (k : Nat) (h : ¬ k < s.size) : bAt s k = 0 := by simp [bAt, h]
theorem bAt_bd (s : ByteArray) (k : Nat) : 0 ≤ bAt s k ∧ bAt s k ≤ 255 := by
  unfold bAt
  split
  · have := s[k].toNat_lt; omega
  · omega
theorem lt_of_bAt (s : ByteArray) (k : Nat) (h : bAt s k ≠ 0) : k < s.size := by
  by_cases hk : k < s.size
  · exact hk
  · exact absurd (bAt_ge s k hk) h
theorem digB_lt (s : ByteArray) (k : Nat) (h : digB (bAt s k) = true) : k < s.size := by
  refine lt_of_bAt s k ?_
  simp [digB] at h
  omega
theorem isDig_at (s : ByteArray) (k : Nat) (h : k < s.size) : isDig s[k] = digB (bAt s k) := by
  rw [bAt_lt s k h]
  simp only [isDig, digB]
  congr 1
  · rw [decide_eq_decide]; omega
  · rw [decide_eq_decide]; omega
theorem headDig_at (s : ByteArray) (k : Nat) : headDig (rest s k) = digB (bAt s k) := by
  by_cases h : k < s.size
  · rw [rest_cons s k h]; exact isDig_at s k h
  · rw [rest_nil s k h, bAt_ge s k h]; rfl

theorem PP_minus (s : ByteArray) (k p : Nat) (t : Tri) (hp : p ≤ 2) (h : bAt s k = 45) : PP (3 - p) t (rest s k) = UU p t (-1) (rest s (k + 1)) := by
  have hk := lt_of_bAt s k (by omega)
  have h1 : s[k].toNat = 45 := by have := bAt_lt s k hk; omega
  rw [PP_eq p hp, rest_cons s k hk]
  simp [rpart, h1, UU]
theorem PP_plus (s : ByteArray) (k p : Nat) (t : Tri) (hp : p ≤ 2) (h : bAt s k ≠ 45) : PP (3 - p) t (rest s k) = UU p t 1 (rest s k) := by
  rw [PP_eq p hp]
  by_cases hk : k < s.size
  · have h1 : ¬ s[k].toNat = 45 := by have := bAt_lt s k hk; omega
    rw [rest_cons s k hk]
    simp [rpart, h1, UU]
  · rw [rest_nil s k hk]
    simp [rpart, UU, unsgn]
theorem UU_bad (s : ByteArray) (k p : Nat) (t : Tri) (σ : Int) (h : digB (bAt s k) = false) : UU p t σ (rest s k) = none := by
  by_cases hk : k < s.size
  · have := isDig_at s k hk
    rw [rest_cons s k hk]
    simp [UU, unsgn, this, h]
  · rw [rest_nil s k hk]
    simp [UU, unsgn]
theorem UU_digit (s : ByteArray) (k p : Nat) (t : Tri) (σ : Int) (h : digB (bAt s k) = true) (h0 : bAt s k ≠ 48) : UU p t σ (rest s k) = DD p t σ 0 (rest s k) := by
  have hk := digB_lt s k h
  have h1 := isDig_at s k hk
  have h2 : ¬ s[k].toNat = 48 := by have := bAt_lt s k hk; omega
  rw [rest_cons s k hk]
  simp only [UU, unsgn, h1, h, h2, if_true, if_false, DD]
  cases digs 0 (s[k] :: rest s (k + 1)) with
  | none => rfl
  | some q => rfl
theorem UU_zero_neg (s : ByteArray) (k p : Nat) (t : Tri) (h0 : bAt s k = 48) : UU p t (-1) (rest s k) = none := by
  have hk := lt_of_bAt s k (by omega)
  have h2 : s[k].toNat = 48 := by have := bAt_lt s k hk; omega
  have h1 := isDig_at s k hk
  have h : digB (bAt s k) = true := by rw [h0]; rfl
  rw [rest_cons s k hk]
  simp [UU, unsgn, h1, h, h2]
theorem UU_zero (s : ByteArray) (k p : Nat) (t : Tri) (h0 : bAt s k = 48) : UU p t 1 (rest s k) = EE p (setAt p t (1 * 0)) (rest s (k + 1)) := by
  have hk := lt_of_bAt s k (by omega)
  have h2 : s[k].toNat = 48 := by have := bAt_lt s k hk; omega
  have h1 := isDig_at s k hk
  have h : digB (bAt s k) = true := by rw [h0]; rfl
  rw [rest_cons s k hk]
  simp [UU, unsgn, h1, h, h2]
theorem DD_much (s : ByteArray) (k p : Nat) (t : Tri) (σ n : Int) (h : digB (bAt s k) = true) (hm : 1000 < n * 10 + (bAt s k - 48)) : DD p t σ n (rest s k) = none := by
  have hk := digB_lt s k h
  have e := bAt_lt s k hk
  rw [rest_cons s k hk]
  rw [e] at hm
  simp [DD, digs, hm]
theorem DD_more (s : ByteArray) (k p : Nat) (t : Tri) (σ n : Int) (h : digB (bAt s k) = true) (hm : ¬ 1000 < n * 10 + (bAt s k - 48)) (h2 : digB (bAt s (k + 1)) = true) : DD p t σ n (rest s k) = DD p t σ (n * 10 + (bAt s k - 48)) (rest s (k + 1)) := by
  have hk := digB_lt s k h
  have e := bAt_lt s k hk
  have e2 := headDig_at s (k + 1)
  rw [rest_cons s k hk]
  rw [e] at hm ⊢
  simp only [DD, digs, hm, if_false, e2, h2, if_true]
theorem DD_end (s : ByteArray) (k p : Nat) (t : Tri) (σ n : Int) (h : digB (bAt s k) = true) (hm : ¬ 1000 < n * 10 + (bAt s k - 48)) (h2 : digB (bAt s (k + 1)) = false) : DD p t σ n (rest s k) = EE p (setAt p t (σ * (n * 10 + (bAt s k - 48)))) (rest s (k + 1)) := by
  have hk := digB_lt s k h
  have e := bAt_lt s k hk
  have e2 := headDig_at s (k + 1)
  rw [rest_cons s k hk]
  rw [e] at hm ⊢
  simp [DD, digs, hm, e2, h2]
theorem EE_last (t : Tri) (r : Bytes) : EE 2 t r = fin3 t r := by simp [EE]
theorem EE_comma (s : ByteArray) (k p : Nat) (t : Tri) (hp : p < 2) (h : bAt s k = 44) : EE p t (rest s k) = PP (3 - (p + 1)) t (rest s (k + 1)) := by
  have hk := lt_of_bAt s k (by omega)
  have h2 : s[k].toNat = 44 := by have := bAt_lt s k hk; omega
  have hp2 : ¬ p = 2 := by omega
  rw [rest_cons s k hk]
  simp [EE, hp2, h2, show 3 - (p + 1) = 2 - p by omega]
theorem EE_wrong (s : ByteArray) (k p : Nat) (t : Tri) (hp : p < 2) (h : bAt s k ≠ 44) : EE p t (rest s k) = none := by
  have hp2 : ¬ p = 2 := by omega
  by_cases hk : k < s.size
  · have h2 : ¬ s[k].toNat = 44 := by have := bAt_lt s k hk; omega
    rw [rest_cons s k hk]
    simp [EE, hp2, h2]
  · rw [rest_nil s k hk]
    simp [EE, hp2]
theorem fin3_end (s : ByteArray) (k : Nat) (t : Tri) (h : ¬ k < s.size) : fin3 t (rest s k) = some t := by rw [rest_nil s k h]; rfl
theorem fin3_more (s : ByteArray) (k : Nat) (t : Tri) (h : k < s.size) : fin3 t (rest s k) = none := by rw [rest_cons s k h]; rfl

end Go.Proofs.YtkmfkaljdngigaaGreatDoor

namespace Go.Proofs.YtkmfkaljdngigaaGreatDoor

/-- What digits are worth, behind n. -/
def dval (n : Int) : Bytes → Int
  | [] => n
  | c :: r => dval (n * 10 + ((c.toNat : Int) - 48)) r
def allDig : Bytes → Bool
  | [] => true
  | c :: r => isDig c && allDig r

theorem isDig_bd {c : UInt8} (h : isDig c = true) : 48 ≤ c.toNat ∧ c.toNat ≤ 57 := by simpa [isDig] using h
theorem dval_ge (n : Int) (hn : 0 ≤ n) (l : Bytes) (h : allDig l = true) : n ≤ dval n l := by
  induction l generalizing n with
  | nil => exact Int.le_refl _
  | cons c r ih =>
    simp only [allDig, Bool.and_eq_true] at h
    have hb := isDig_bd h.1
    have := ih (n * 10 + ((c.toNat : Int) - 48)) (by omega) h.2
    simp only [dval]
    omega
theorem dval_snoc (n : Int) (l : Bytes) (c : UInt8) : dval n (l ++ [c]) = dval n l * 10 + ((c.toNat : Int) - 48) := by
  induction l generalizing n with
  | nil => rfl
  | cons d r ih => exact ih _
theorem allDig_snoc (l : Bytes) (c : UInt8) : allDig (l ++ [c]) = (allDig l && isDig c) := by
  induction l with
  | nil => simp [allDig]
  | cons d r ih => simp [allDig, ih, Bool.and_assoc]

/-- The machine's digits, at a text that opens with digits. -/
theorem digs_app (ds r : Bytes) (n : Int) (hn : 0 ≤ n) (h : allDig ds = true) (hne : ds ≠ []) (hr : headDig r = false) : digs n (ds ++ r) = if 1000 < dval n ds then none else some (dval n ds, r) := by
  induction ds generalizing n with
  | nil => exact absurd rfl hne
  | cons c ds ih =>
    simp only [allDig, Bool.and_eq_true] at h
    have hb := isDig_bd h.1
    have hge := dval_ge (n * 10 + ((c.toNat : Int) - 48)) (by omega) ds h.2
    simp only [List.cons_append, digs, dval]
    cases ds with
    | nil =>
      by_cases hm : 1000 < n * 10 + ((c.toNat : Int) - 48)
      · simp [hm, dval]
      · simp [hm, dval, hr]
    | cons d ds' =>
      have hd : headDig (d :: ds' ++ r) = true := by
        simp only [allDig, Bool.and_eq_true] at h
        exact h.2.1
      have h2 := ih (n * 10 + ((c.toNat : Int) - 48)) (by omega) h.2 (by simp)
      by_cases hm : 1000 < n * 10 + ((c.toNat : Int) - 48)
      · have : 1000 < dval (n * 10 + ((c.toNat : Int) - 48)) (d :: ds') := by omega
        simp only [hm, if_true, this]
      · rw [if_neg hm, if_pos hd]
        exact h2

/-- What the machine took were digits. -/
theorem digs_some (l : Bytes) (n v : Int) (r : Bytes) (hn : 0 ≤ n) (h0 : headDig l = true) (h : digs n l = some (v, r)) : ∃ ds, l = ds ++ r ∧ ds ≠ [] ∧ allDig ds = true ∧ dval n ds = v ∧ v ≤ 1000 ∧ headDig r = false := by
  induction l generalizing n with
  | nil => simp [digs] at h
  | cons c l ih =>
    simp only [digs] at h
    have hc : isDig c = true := h0
    have hb := isDig_bd hc
    by_cases hm : 1000 < n * 10 + ((c.toNat : Int) - 48)
    · simp [hm] at h
    · simp only [hm, if_false] at h
      cases hd : headDig l with
      | true =>
        simp only [hd, if_true] at h
        obtain ⟨ds, e1, e2, e3, e4, e5, e6⟩ := ih _ (by omega) hd h
        exact ⟨c :: ds, by rw [e1]; rfl, by simp, by simp [allDig, hc, e3], e4, e5, e6⟩
      | false =>
        simp only [hd] at h
        simp at h
        obtain ⟨rfl, rfl⟩ := h
        exact ⟨[c], rfl, by simp, by simp [allDig, hc], rfl, by omega, hd⟩

def dch (n : Nat) : UInt8 := UInt8.ofNat (48 + n)
def decF : Nat → Nat → Bytes
  | 0, _ => []
  | f + 1, n => if n < 10 then [dch n] else decF f (n / 10) ++ [dch (n % 10)]
def dec (n : Int) : Bytes := if n < 0 then 45 :: decF 4 n.natAbs else decF 4 n.toNat

theorem decF_len (f n : Nat) : (decF f n).length ≤ f := by
  induction f generalizing n with
  | zero => simp [decF]
  | succ f ih =>
    unfold decF
    split
    · simp
    · have := ih (n / 10)
      simp
      omega

theorem dch_nat (n : Nat) (h : n < 10) : (dch n).toNat = 48 + n := by
  unfold dch
  rw [UInt8.toNat_ofNat']
  omega
theorem dch_dig (n : Nat) (h : n < 10) : isDig (dch n) = true := by
  have := dch_nat n h
  simp [isDig, this]
  omega
theorem dch_of (c : UInt8) (h : isDig c = true) : dch (c.toNat - 48) = c := by
  have hb := isDig_bd h
  apply UInt8.toNat_inj.1
  rw [dch_nat _ (by omega)]
  omega

/-- What decF writes. -/
theorem decF_facts (f n : Nat) (hn : n < 10 ^ (f + 1)) : allDig (decF (f + 1) n) = true ∧ decF (f + 1) n ≠ [] ∧ dval 0 (decF (f + 1) n) = n ∧ (1 ≤ n → ∀ c r, decF (f + 1) n = c :: r → c.toNat ≠ 48) := by
  induction f generalizing n with
  | zero =>
    have h : n < 10 := by omega
    have e : decF (0 + 1) n = [dch n] := by rw [decF, if_pos h]
    have e2 := dch_nat n h
    rw [e]
    refine ⟨by simp [allDig, dch_dig n h], by simp, by simp [dval, e2]; omega, fun h1 c r hc => ?_⟩
    simp at hc
    obtain ⟨rfl, _⟩ := hc
    omega
  | succ f ih =>
    by_cases h : n < 10
    · have e : decF (f + 1 + 1) n = [dch n] := by rw [decF, if_pos h]
      have e2 := dch_nat n h
      rw [e]
      refine ⟨by simp [allDig, dch_dig n h], by simp, by simp [dval, e2]; omega, fun h1 c r hc => ?_⟩
      simp at hc
      obtain ⟨rfl, _⟩ := hc
      omega
    · have e : decF (f + 1 + 1) n = decF (f + 1) (n / 10) ++ [dch (n % 10)] := by rw [decF, if_neg h]
      have hq : n / 10 < 10 ^ (f + 1) := by
        rw [Nat.pow_succ] at hn
        omega
      obtain ⟨i1, i2, i3, i4⟩ := ih (n / 10) hq
      have hm : n % 10 < 10 := by omega
      rw [e]
      refine ⟨by rw [allDig_snoc, i1, dch_dig _ hm]; rfl, by simp, by rw [dval_snoc, i3, dch_nat _ hm]; omega, fun h1 c r hc => ?_⟩
      cases hl : decF (f + 1) (n / 10) with
      | nil => exact absurd hl i2
      | cons d ds =>
        rw [hl] at hc
        simp at hc
        obtain ⟨rfl, _⟩ := hc
        exact i4 (by omega) d ds hl

/-- One text alone. -/
theorem decF_of (f : Nat) : ∀ (ds : Bytes) (n : Nat), allDig ds = true → ds ≠ [] → (∀ c r, ds = c :: r → r ≠ [] → c.toNat ≠ 48) → dval 0 ds = n → n < 10 ^ (f + 1) → decF (f + 1) n = ds := by
  induction f with
  | zero =>
    intro ds n h1 h2 h3 h4 h5
    rcases List.eq_nil_or_concat ds with rfl | ⟨l, c, rfl⟩
    · exact absurd rfl h2
    · rw [List.concat_eq_append] at *
      rw [allDig_snoc, Bool.and_eq_true] at h1
      rw [dval_snoc] at h4
      have hb := isDig_bd h1.2
      have hl := dval_ge 0 (by omega) l h1.1
      have hn : n < 10 := by omega
      cases l with
      | nil =>
        rw [decF, if_pos hn]
        simp only [dval] at h4
        have : n = c.toNat - 48 := by omega
        rw [this, dch_of c h1.2]
        rfl
      | cons d ds =>
        exfalso
        have h6 := h3 d (ds ++ [c]) rfl (by simp)
        simp only [allDig, Bool.and_eq_true] at h1
        have hd := isDig_bd h1.1.1
        have := dval_ge (0 * 10 + ((d.toNat : Int) - 48)) (by omega) ds h1.1.2
        simp only [dval] at h4
        omega
  | succ f ih =>
    intro ds n h1 h2 h3 h4 h5
    rcases List.eq_nil_or_concat ds with rfl | ⟨l, c, rfl⟩
    · exact absurd rfl h2
    · rw [List.concat_eq_append] at *
      rw [allDig_snoc, Bool.and_eq_true] at h1
      rw [dval_snoc] at h4
      have hb := isDig_bd h1.2
      have hl := dval_ge 0 (by omega) l h1.1
      cases l with
      | nil =>
        simp only [dval] at h4
        have hn : n < 10 := by omega
        rw [decF, if_pos hn]
        have : n = c.toNat - 48 := by omega
        rw [this, dch_of c h1.2]
        rfl
      | cons d ds =>
        have h6 := h3 d (ds ++ [c]) rfl (by simp)
        have h7 := h1.1
        simp only [allDig, Bool.and_eq_true] at h7
        have hd := isDig_bd h7.1
        have h8 := dval_ge (0 * 10 + ((d.toNat : Int) - 48)) (by omega) ds h7.2
        have h9 : dval 0 (d :: ds) = dval (0 * 10 + ((d.toNat : Int) - 48)) ds := rfl
        have hn : ¬ n < 10 := by omega
        have hq : dval 0 (d :: ds) = ((n / 10 : Nat) : Int) := by omega
        rw [decF, if_neg hn, ih (d :: ds) (n / 10) h1.1 (by simp) (fun c' r' he hr => by simp at he; obtain ⟨rfl, _⟩ := he; exact h6) hq (by rw [Nat.pow_succ] at h5; omega)]
        have : n % 10 = c.toNat - 48 := by omega
        rw [this, dch_of c h1.2]

end Go.Proofs.YtkmfkaljdngigaaGreatDoor

namespace Go.Proofs.YtkmfkaljdngigaaGreatDoor
open Go.RowKit

def str (l : Bytes) : Value := .string ⟨l.toArray⟩

theorem below_keep {w W W' : World} (h : Below w.heap.size w W) (k : Below W.heap.size W W') : Below w.heap.size w W' := h.trans (k.mono h.size)

theorem below_undrew {W w1 : World} (h : Below W.drew.heap.size W.drew w1) : Below W.heap.size W w1 := ⟨h.os, h.tape, h.output, h.size, h.block⟩
theorem str_app (l m : Bytes) : (⟨l.toArray⟩ ++ ⟨m.toArray⟩ : ByteArray) = ⟨(l ++ m).toArray⟩ := by
  apply ByteArray.ext
  simp

theorem conv1 (w : World) (x : Int) : (convert 22 9 (.slice (some ⟨w.heap.size, 0, none⟩) 1 1)).run Tryz.prog (w.alloc (.cells #[.int .u8 x] 5)) = .ok (.string ⟨#[UInt8.ofNat x.toNat]⟩) (w.alloc (.cells #[.int .u8 x] 5)) := by
  have h := run_convert_bytes_arg (P := Tryz.prog) (w.alloc (.cells #[.int .u8 x] 5)) 22 5 Tryz.underlying22 Tryz.underlying5 w.heap.size 0 1 1 [x] rfl (fun i hi => by
    obtain rfl : i = 0 := by omega
    simp [go_sem]) 9 Tryz.underlying9
  exact h

theorem conv_later {w w1 : World} {x : Int} (hb : Below (w.alloc (.cells #[.int .u8 x] 5)).drew.heap.size (w.alloc (.cells #[.int .u8 x] 5)).drew w1) :
    (convert 22 9 (.slice (some ⟨w.heap.size, 0, none⟩) 1 1)).run Tryz.prog w1 = .ok (.string ⟨#[UInt8.ofNat x.toNat]⟩) w1 := by
  have h := run_convert_bytes_arg (P := Tryz.prog) w1 22 5 Tryz.underlying22 Tryz.underlying5 w.heap.size 0 1 1 [x] rfl (fun i hi => by
    obtain rfl : i = 0 := by omega
    rw [hb.cell (by show w.heap.size < (w.alloc (.cells #[.int .u8 x] 5)).heap.size; simp)]
    show (w.alloc (.cells #[.int .u8 x] 5)).cell? ⟨w.heap.size, 0 + 0, none⟩ = _
    simp [go_sem]) 9 Tryz.underlying9
  exact h

set_option maxRecDepth 100000 in
set_option maxHeartbeats 400000 in
theorem digits_one (n : Nat) (w : World) (hn : n < 10) :
    Calls Tryz.prog 36 #[.int .i64 (n : Int)] w fun e w' => e = .returned (str [dch n]) ∧ Below w.heap.size w w' := by
  have hcv := conv1 w (48 + (n : Int))
  go_enter Tryz.func36, Tryz.ntmps36
  go_wp2
  go_ret
  exact ⟨rfl, (Below.refl _ _).alloc (Nat.le_refl _) _⟩

set_option maxRecDepth 100000 in
set_option maxHeartbeats 400000 in
theorem digits_more (f n : Nat) (w : World) (hn : 10 ≤ n) (hn2 : n ≤ 99999) (hf : f ≤ 5)
    (ih : Hid (∀ W, Calls Tryz.prog 36 #[.int .i64 ((n / 10 : Nat) : Int)] W fun e w' => e = .returned (str (decF f (n / 10))) ∧ Below W.heap.size W w')) :
    Calls Tryz.prog 36 #[.int .i64 (n : Int)] w fun e w' => e = .returned (str (decF f (n / 10) ++ [dch (n % 10)])) ∧ Below w.heap.size w w' := by
  obtain ⟨d, hd⟩ : ∃ d : Nat, d = n % 10 := ⟨_, rfl⟩
  rw [← hd]
  have hd9 : d ≤ 9 := by omega
  have hcv := fun W => conv1 W (48 + (d : Int))
  have hcvd := conv_later (w := w) (x := 48 + (d : Int)) (Below.refl _ _)
  have hl := decF_len f (n / 10)
  generalize decF f (n / 10) = ds at *
  have hsum : ∀ W : World, (Op.stringOp .add ⟨ds.toArray⟩ ⟨#[UInt8.ofNat (48 + (d : Int)).toNat]⟩).run Tryz.prog W = .ok (.string (⟨ds.toArray⟩ ++ ⟨#[UInt8.ofNat (48 + (d : Int)).toNat]⟩)) W := fun W => run_string_add_sum W _ _ (by simp [ByteArray.size]; omega)
  have hw1 : IntKind.i64.wrap ((n : Int) / 10) = ((n / 10 : Nat) : Int) := by simp only [IntKind.wrap_i64]; omega
  have hw2 : IntKind.i64.wrap (48 + (n : Int).tmod 10) = 48 + (d : Int) := by
    rw [Int.tmod_eq_emod_of_nonneg (by omega)]
    simp only [IntKind.wrap_i64]
    omega
  have hw3 : IntKind.u8.wrap (48 + (d : Int)) = 48 + (d : Int) := by simp only [IntKind.wrap_u8]; omega
  have HD := hide hd
  clear hd
  simp only [str] at ih ⊢
  go_enter Tryz.func36, Tryz.ntmps36
  go_wp2_with fail
  go_region_with (go_at_call 36; refine (unhide ih _).mono ?_; rintro e w1 ⟨rfl, hb1⟩; (first | have hq := conv_later hb1 | skip))
  all_goals go_wp2_with fail
  all_goals go_ret
  all_goals refine ⟨congrArg (fun b => Ending.returned (Value.string b)) (str_app ds [dch d]), ?_⟩
  · exact (below_undrew hb1).alloc (below_undrew hb1).size _
  · exact ((Below.refl w.heap.size w).alloc (Nat.le_refl _) _).trans ((below_undrew hb1).mono (by simp))
  · exact ((Below.refl w.heap.size w).alloc (Nat.le_refl _) _).trans ((below_undrew hb1).mono (by simp))

/-- l1Digits at a number from 0 on. -/
theorem digits_nat (f : Nat) : ∀ (n : Nat) (w : World), n < 10 ^ (f + 1) → f ≤ 4 →
    Calls Tryz.prog 36 #[.int .i64 (n : Int)] w fun e w' => e = .returned (str (decF (f + 1) n)) ∧ Below w.heap.size w w' := by
  induction f with
  | zero =>
    intro n w hn _
    have e : decF (0 + 1) n = [dch n] := by simp [decF]; intro h; omega
    rw [e]
    exact digits_one n w (by omega)
  | succ f ih =>
    intro n w hn hf
    by_cases h : n < 10
    · have e : decF (f + 1 + 1) n = [dch n] := by rw [decF, if_pos h]
      rw [e]
      exact digits_one n w h
    · have e : decF (f + 1 + 1) n = decF (f + 1) (n / 10) ++ [dch (n % 10)] := by rw [decF, if_neg h]
      rw [e]
      have hp : n < 100000 := Nat.lt_of_lt_of_le hn (Nat.pow_le_pow_right (n := 10) (by omega) (show f + 1 + 1 ≤ 5 by omega))
      have hq : n / 10 < 10 ^ (f + 1) := by
        rw [Nat.pow_succ] at hn
        omega
      exact digits_more (f + 1) n w (by omega) (by omega) (by omega) (fun W => ih (n / 10) W hq (by omega))

set_option maxHeartbeats 400000 in
theorem digits_neg (n : Nat) (w : World) (hn : 1 ≤ n) (hn2 : n ≤ 9999) :
    Calls Tryz.prog 36 #[.int .i64 (-(n : Int))] w fun e w' => e = .returned (str (45 :: decF 4 n)) ∧ Below w.heap.size w w' := by
  have hl := decF_len 4 n
  have hsum : ∀ W : World, (Op.stringOp .add ⟨#[45]⟩ ⟨(decF 4 n).toArray⟩).run Tryz.prog W = .ok (.string (⟨#[45]⟩ ++ ⟨(decF 4 n).toArray⟩)) W := fun W => run_string_add_sum W _ _ (by simp [ByteArray.size]; omega)
  go_enter Tryz.func36, Tryz.ntmps36
  go_wp2_with fail
  refine (digits_nat 3 n w (by omega) (by omega)).mono ?_
  rintro e w1 ⟨rfl, hb1⟩
  simp only [str]
  have HB := hide hb1
  clear hb1
  go_wp2_with fail
  go_ret
  exact ⟨congrArg (fun b => Ending.returned (Value.string b)) (str_app [45] (decF 4 n)), unhide HB⟩

/-- l1Digits. -/
theorem digits (n : Int) (w : World) (h1 : -9999 ≤ n) (h2 : n ≤ 9999) :
    Calls Tryz.prog 36 #[.int .i64 n] w fun e w' => e = .returned (str (dec n)) ∧ Below w.heap.size w w' := by
  by_cases h : n < 0
  · obtain ⟨m, rfl⟩ : ∃ m : Nat, n = -(m : Int) := ⟨n.natAbs, by omega⟩
    have e : dec (-(m : Int)) = 45 :: decF 4 m := by simp [dec]; intro h; omega
    rw [e]
    exact digits_neg m w (by omega) (by omega)
  · obtain ⟨m, rfl⟩ := Int.eq_ofNat_of_zero_le (show 0 ≤ n by omega)
    have e : dec (m : Int) = decF 4 m := by simp [dec]
    rw [e]
    exact digits_nat 3 m w (by omega) (by omega)

end Go.Proofs.YtkmfkaljdngigaaGreatDoor

namespace Go.Proofs.YtkmfkaljdngigaaGreatDoor
open Go.RowKit

theorem dec_len (n : Int) : (dec n).length ≤ 5 := by
  unfold dec
  split
  · have := decF_len 4 n.natAbs; simp; omega
  · have := decF_len 4 n.toNat; omega

/-- The text of three numbers. -/
def text3 (x y z : Int) : Bytes := dec x ++ 44 :: (dec y ++ 44 :: dec z)
theorem text3_len (x y z : Int) : (text3 x y z).length ≤ 17 := by
  have := dec_len x
  have := dec_len y
  have := dec_len z
  simp [text3]
  omega
/-- What VecText tells. -/
def vecText (zs : List Int) : Bytes := if vecFault zs = 0 then text3 (zs.getD 0 0) (zs.getD 1 0) (zs.getD 2 0) else []
theorem vecText_len (zs : List Int) : (vecText zs).length ≤ 17 := by
  unfold vecText
  split
  · exact text3_len _ _ _
  · simp

end Go.Proofs.YtkmfkaljdngigaaGreatDoor

namespace Go.Proofs.YtkmfkaljdngigaaGreatDoor
open Go.RowKit

/-- What stands ahead of 'by'. -/
def writeHead (k i : Int) (zs : List Int) : Bytes := if k = 1 then [112, 117, 116, 32] ++ dec i ++ [32] ++ vecText zs else [100, 114, 111, 112, 32] ++ dec i
def writeTail (s q : Int) (h : Bytes) : Bytes := h ++ [32, 98, 121, 32] ++ dec s ++ [32] ++ dec q
def writeText (k i : Int) (zs : List Int) (s q : Int) : Bytes := if writeFault k i zs s q = 0 then writeTail s q (writeHead k i zs) else []
theorem writeHead_len (k i : Int) (zs : List Int) : (writeHead k i zs).length ≤ 30 := by
  have := dec_len i
  have := vecText_len zs
  unfold writeHead
  split <;> simp <;> omega
theorem writeText_len (k i : Int) (zs : List Int) (s q : Int) : (writeText k i zs s q).length ≤ 60 := by
  have := dec_len s
  have := dec_len q
  have := writeHead_len k i zs
  unfold writeText
  split
  · simp [writeTail]; omega
  · simp

/-- Two texts, one behind the other. -/
theorem addS {a b c : Bytes} (h : a ++ b = c) (hl : c.length ≤ 1000) : ∀ W : World, (Op.stringOp .add ⟨a.toArray⟩ ⟨b.toArray⟩).run Tryz.prog W = .ok (.string ⟨c.toArray⟩) W := by
  intro W
  subst h
  simp at hl
  exact (run_string_add_sum W _ _ (by simp [ByteArray.size]; omega)).trans (by rw [str_app])

end Go.Proofs.YtkmfkaljdngigaaGreatDoor

namespace Go.Proofs.YtkmfkaljdngigaaGreatDoor
open Go.RowKit

set_option maxRecDepth 100000 in
set_option maxHeartbeats 2000000 in
theorem l1Text3 (b off cap : Nat) (x y z : Int) (w : World) (c0 : w.cell? ⟨b, off, none⟩ = some (.int .i64 x)) (c1 : w.cell? ⟨b, off + 1, none⟩ = some (.int .i64 y)) (c2 : w.cell? ⟨b, off + 2, none⟩ = some (.int .i64 z))
    (hx : -1000 ≤ x ∧ x ≤ 1000) (hy : -1000 ≤ y ∧ y ≤ 1000) (hz : -1000 ≤ z ∧ z ≤ 1000) :
    Calls Tryz.prog 68 #[.slice (some ⟨b, off, none⟩) 3 cap] w fun e w' => e = .returned (str (text3 x y z)) ∧ Below w.heap.size w w' := by
  have D0 := hide fun W => digits x W (by omega) (by omega)
  have D1 := hide fun W => digits y W (by omega) (by omega)
  have D2 := hide fun W => digits z W (by omega) (by omega)
  have HT : Hid (text3 x y z = dec x ++ 44 :: (dec y ++ 44 :: dec z)) := rfl
  have l0 := dec_len x
  have l1 := dec_len y
  have l2 := dec_len z
  simp only [str] at D0 D1 D2
  rw [HT.out]
  clear HT
  generalize dec x = a at *
  generalize dec y = d at *
  generalize dec z = f at *
  have s0 : ∀ W : World, (Op.stringOp .add ⟨#[]⟩ ⟨a.toArray⟩).run Tryz.prog W = .ok (.string ⟨a.toArray⟩) W := fun W => (run_string_add_sum W _ _ (by simp [ByteArray.size]; omega)).trans (by rw [show (⟨#[]⟩ : ByteArray) = ⟨([] : Bytes).toArray⟩ from rfl, str_app]; rfl)
  have s1 : ∀ W : World, (Op.stringOp .add ⟨a.toArray⟩ ⟨#[44]⟩).run Tryz.prog W = .ok (.string ⟨(a ++ [44]).toArray⟩) W := fun W => (run_string_add_sum W _ _ (by simp [ByteArray.size]; omega)).trans (by rw [show (⟨#[44]⟩ : ByteArray) = ⟨([44] : Bytes).toArray⟩ from rfl, str_app])
  have s2 : ∀ W : World, (Op.stringOp .add ⟨(a ++ [44]).toArray⟩ ⟨d.toArray⟩).run Tryz.prog W = .ok (.string ⟨(a ++ [44] ++ d).toArray⟩) W := fun W => (run_string_add_sum W _ _ (by simp [ByteArray.size]; omega)).trans (by rw [str_app])
  have s3 : ∀ W : World, (Op.stringOp .add ⟨(a ++ [44] ++ d).toArray⟩ ⟨#[44]⟩).run Tryz.prog W = .ok (.string ⟨(a ++ [44] ++ d ++ [44]).toArray⟩) W := fun W => (run_string_add_sum W _ _ (by simp [ByteArray.size]; omega)).trans (by rw [show (⟨#[44]⟩ : ByteArray) = ⟨([44] : Bytes).toArray⟩ from rfl, str_app])
  have s4 : ∀ W : World, (Op.stringOp .add ⟨(a ++ [44] ++ d ++ [44]).toArray⟩ ⟨f.toArray⟩).run Tryz.prog W = .ok (.string ⟨(a ++ [44] ++ d ++ [44] ++ f).toArray⟩) W := fun W => (run_string_add_sum W _ _ (by simp [ByteArray.size]; omega)).trans (by rw [str_app])
  have HE : Hid (a ++ [44] ++ d ++ [44] ++ f = a ++ 44 :: (d ++ 44 :: f)) := by simp [Hid]
  rw [← HE.out]
  clear HE
  generalize hp : a ++ [44] = p at *
  generalize hq : p ++ d = q at *
  generalize hr : q ++ [44] = r at *
  generalize ht : r ++ f = t at *
  clear hp hq hr ht
  simp only [str]
  go_enter Tryz.func68, Tryz.ntmps68
  go_wp2_with fail
  refine wp_loop_rounds 4 ?_
  rw [rounds_succ]
  go_wp2_with fail
  refine (unhide D0 _).mono ?_
  rintro e w1 ⟨rfl, hb1⟩
  have d1 := cell_keep hb1 c1
  have d2 := cell_keep hb1 c2
  have HB := hide hb1
  clear hb1
  go_wp2_with fail
  rw [rounds_succ]
  go_wp2_with fail
  refine (unhide D1 _).mono ?_
  rintro e w2 ⟨rfl, hb1⟩
  have e2 := cell_keep hb1 d2
  have HB2 := hide (below_keep (unhide HB) hb1)
  clear hb1 HB
  go_wp2_with fail
  rw [rounds_succ]
  go_wp2_with fail
  refine (unhide D2 _).mono ?_
  rintro e w3 ⟨rfl, hb1⟩
  have HB := hide (below_keep (unhide HB2) hb1)
  clear hb1 HB2
  go_wp2_with fail
  rw [rounds_succ]
  go_wp2_with fail
  go_ret
  exact ⟨rfl, unhide HB⟩

end Go.Proofs.YtkmfkaljdngigaaGreatDoor

namespace Go.Proofs.YtkmfkaljdngigaaGreatDoor
open Go.RowKit

theorem bcell {W w1 : World} (hb : Below W.heap.size W w1) : (∀ b o, b < W.heap.size → w1.cell? ⟨b, o, none⟩ = W.cell? ⟨b, o, none⟩) ∧ (∀ b o, b < W.heap.size → w1.frozen? ⟨b, o, none⟩ = W.frozen? ⟨b, o, none⟩) :=
  ⟨fun b o h => hb.cell (p := ⟨b, o, none⟩) h, fun b o h => hb.frozen (p := ⟨b, o, none⟩) h⟩

/-- Two blocks of three cells that were laid ahead of a call are there behind it, and may be written. -/
theorem two_kept {w w1 : World} {T : TypeId} {x0 x1 x2 y0 y1 y2 : Value} (hb : Below ((w.alloc (.cells #[x0, x1, x2] T)).alloc (.cells #[y0, y1, y2] T)).heap.size ((w.alloc (.cells #[x0, x1, x2] T)).alloc (.cells #[y0, y1, y2] T)) w1) :
    (w1.cell? ⟨w.heap.size, 0, none⟩ = some x0 ∧ w1.cell? ⟨w.heap.size, 1, none⟩ = some x1 ∧ w1.cell? ⟨w.heap.size, 2, none⟩ = some x2) ∧
    (w1.cell? ⟨w.heap.size + 1, 0, none⟩ = some y0 ∧ w1.cell? ⟨w.heap.size + 1, 1, none⟩ = some y1 ∧ w1.cell? ⟨w.heap.size + 1, 2, none⟩ = some y2) ∧
    (∀ o, w1.frozen? ⟨w.heap.size, o, none⟩ = false) ∧ (∀ o, w1.frozen? ⟨w.heap.size + 1, o, none⟩ = false) := by
  refine ⟨⟨?_, ?_, ?_⟩, ⟨?_, ?_, ?_⟩, fun o => ?_, fun o => ?_⟩
  all_goals first | rw [hb.cell (by simp [World.size_alloc]; try omega)] | rw [hb.frozen (by simp [World.size_alloc]; try omega)]
  all_goals simp [go_sem]

/-- Three numbers as an array. -/
def arr3 (x y z : Int) : Value := .agg #[.int .i64 x, .int .i64 y, .int .i64 z]

theorem IsInts.three {w : World} {v : Value} {zs : List Int} (h : IsInts w v zs) (h3 : zs.length = 3) :
    ∃ b off cap x y z, zs = [x, y, z] ∧ v = .slice (some ⟨b, off, none⟩) 3 cap ∧ b < w.heap.size ∧ w.cell? ⟨b, off, none⟩ = some (.int .i64 x) ∧ w.cell? ⟨b, off + 1, none⟩ = some (.int .i64 y) ∧ w.cell? ⟨b, off + 2, none⟩ = some (.int .i64 z) := by
  obtain ⟨ao, cap, rfl, hwf, hc⟩ := h
  match zs, h3 with
  | [x, y, z], _ =>
    obtain ⟨b, off, rfl, hc1⟩ := hc (by simp)
    have c0 := hc1 0 (by simp)
    have c1 := hc1 1 (by simp)
    have c2 := hc1 2 (by simp)
    exact ⟨b, off, cap, x, y, z, rfl, rfl, World.block_lt_of_cell? _ _ c0, c0, c1, c2⟩

set_option maxHeartbeats 400000 in
theorem vectorOf_bad (v : Value) (zs : List Int) (w : World) (h : IsInts w v zs) (hf : vecFault zs ≠ 0) :
    Calls Tryz.prog 98 #[v] w fun e w' => e = .returned (.tuple #[arr3 0 0 0, .int .i64 (vecFault zs)]) ∧ Below w.heap.size w w' := by
  go_enter Tryz.func98, Tryz.ntmps98
  go_wp2_with fail
  refine (implFault v zs _ (h.later (((Below.refl _ _).alloc (Nat.le_refl _) _).alloc (by simp) _))).mono ?_
  rintro e w' ⟨rfl, rfl⟩
  have hne : (vecFault zs != 0) = true := by rw [bne_iff_ne]; exact hf
  go_wp2_with fail
  refine bodyPost_ret (v := .tuple #[arr3 0 0 0, .int .i64 (vecFault zs)]) (by simp [results, Tryz.results98, go_sem, arr3]) rfl ⟨rfl, ?_⟩
  exact ((Below.refl _ _).alloc (Nat.le_refl _) _).alloc (by simp) _

set_option maxHeartbeats 1000000 in
theorem vectorOf_three (b off cap : Nat) (x y z : Int) (w : World) (hbl : b < w.heap.size) (c0 : w.cell? ⟨b, off, none⟩ = some (.int .i64 x)) (c1 : w.cell? ⟨b, off + 1, none⟩ = some (.int .i64 y)) (c2 : w.cell? ⟨b, off + 2, none⟩ = some (.int .i64 z))
    (h : IsInts w (.slice (some ⟨b, off, none⟩) 3 cap) [x, y, z]) (hf : vecFault [x, y, z] = 0) :
    Calls Tryz.prog 98 #[.slice (some ⟨b, off, none⟩) 3 cap] w fun e w' => e = .returned (.tuple #[arr3 x y z, .int .i64 0]) ∧ Below w.heap.size w w' := by
  go_enter Tryz.func98, Tryz.ntmps98
  go_wp2_with fail
  refine (implFault _ [x, y, z] _ (h.later (((Below.refl _ _).alloc (Nat.le_refl _) _).alloc (by simp) _))).mono ?_
  rintro e w' ⟨rfl, rfl⟩
  rw [hf]
  clear h hf
  go_wp2_with fail
  refine wp_loop_rounds 4 ?_
  rw [rounds_succ]
  go_wp2
  rw [rounds_succ]
  go_wp2
  rw [rounds_succ]
  go_wp2
  rw [rounds_succ]
  go_wp2
  refine bodyPost_ret (v := .tuple #[arr3 x y z, .int .i64 0]) (by simp [results, Tryz.results98, go_sem, arr3]) rfl ⟨rfl, ?_⟩
  exact ((Below.refl _ _).alloc (Nat.le_refl _) _).alloc (by simp) _

theorem vectorOf_ok (v : Value) (x y z : Int) (w : World) (h : IsInts w v [x, y, z]) (hf : vecFault [x, y, z] = 0) :
    Calls Tryz.prog 98 #[v] w fun e w' => e = .returned (.tuple #[arr3 x y z, .int .i64 0]) ∧ Below w.heap.size w w' := by
  obtain ⟨b, off, cap, x', y', z', he, rfl, hbl, c0, c1, c2⟩ := h.three rfl
  simp only [List.cons.injEq, and_true] at he
  obtain ⟨rfl, rfl, rfl⟩ := he
  exact vectorOf_three b off cap x y z w hbl c0 c1 c2 h hf

end Go.Proofs.YtkmfkaljdngigaaGreatDoor

namespace Go.Proofs.YtkmfkaljdngigaaGreatDoor
open Go.RowKit

theorem fault3_zero {x y z : Int} (bx : -1000 ≤ x ∧ x ≤ 1000) (bY : -1000 ≤ y ∧ y ≤ 1000) (bz : -1000 ≤ z ∧ z ≤ 1000) : vecFault [x, y, z] = 0 := by
  refine vecFault_ok rfl fun j hj => ?_
  rcases j with _ | _ | _ | j
  · simp [partB, bx]
  · simp [partB, bY]
  · simp [partB, bz]
  · omega

set_option maxRecDepth 100000 in
set_option maxHeartbeats 4000000 in
theorem l3Text_put (b o : Nat) (i s q : Int) (x y z : Int) (vb off cap : Nat) (w : World) (hc : WriteAtO w b o 1 i (.slice (some ⟨vb, off, none⟩) 3 cap) s q) (z0 : w.cell? ⟨vb, off, none⟩ = some (.int .i64 x)) (z1 : w.cell? ⟨vb, off + 1, none⟩ = some (.int .i64 y)) (z2 : w.cell? ⟨vb, off + 2, none⟩ = some (.int .i64 z)) (hi : 1 ≤ i ∧ i ≤ 999) (hs : 1 ≤ s ∧ s ≤ 9) (hq : 1 ≤ q ∧ q ≤ 999) (bx : -1000 ≤ x ∧ x ≤ 1000) (bY : -1000 ≤ y ∧ y ≤ 1000) (bz : -1000 ≤ z ∧ z ≤ 1000) :
    Calls Tryz.prog 37 #[.pointer (some ⟨b, o, none⟩)] w fun e w' => e = .returned (str (writeTail s q (writeHead 1 i [x, y, z]))) ∧ Below w.heap.size w w' := by
  obtain ⟨c0, c1, c2, c3, c4⟩ := hc
  have hbl : b < w.heap.size := World.block_lt_of_cell? _ _ c0
  have l0 := dec_len i
  have l1 := dec_len s
  have l2 := dec_len q
  have l3 := text3_len x y z
  have HT : Hid (writeHead 1 i [x, y, z] = [112, 117, 116, 32] ++ dec i ++ [32] ++ text3 x y z) := by
    show writeHead 1 i [x, y, z] = [112, 117, 116, 32] ++ dec i ++ [32] ++ text3 x y z
    rw [writeHead, if_pos rfl, vecText, if_pos (fault3_zero bx bY bz)]
    rfl
  have DI : Hid (∀ W, Calls Tryz.prog 36 #[.int .i64 i] W fun e w' => e = .returned (str (dec i)) ∧ Below W.heap.size W w') := fun W => digits i W (by omega) (by omega)
  have DS : Hid (∀ W, Calls Tryz.prog 36 #[.int .i64 s] W fun e w' => e = .returned (str (dec s)) ∧ Below W.heap.size W w') := fun W => digits s W (by omega) (by omega)
  have DQ : Hid (∀ W, Calls Tryz.prog 36 #[.int .i64 q] W fun e w' => e = .returned (str (dec q)) ∧ Below W.heap.size W w') := fun W => digits q W (by omega) (by omega)
  have DV : Hid (∀ W, Below w.heap.size w W → Calls Tryz.prog 68 #[.slice (some ⟨vb, off, none⟩) 3 cap] W fun e w' => e = .returned (str (text3 x y z)) ∧ Below W.heap.size W w') := fun W hW => l1Text3 vb off cap x y z W (cell_keep hW z0) (cell_keep hW z1) (cell_keep hW z2) bx bY bz
  simp only [str] at DI DS DQ DV
  rw [unhide HT]
  unfold writeTail
  clear HT z0 z1 z2 bx bY bz
  generalize dec i = di at *
  generalize dec s = ds at *
  generalize dec q = dq at *
  generalize text3 x y z = vt at *
  obtain ⟨e1, he1⟩ : ∃ e1, [100, 114, 111, 112, 32] ++ di = e1 := ⟨_, rfl⟩
  have s1 := addS he1 (by rw [← he1]; simp; omega)
  obtain ⟨p1, hp1⟩ : ∃ p1, [112, 117, 116, 32] ++ di = p1 := ⟨_, rfl⟩
  have s2 := addS hp1 (by rw [← hp1]; simp; omega)
  obtain ⟨p2, hp2⟩ : ∃ p2, p1 ++ [32] = p2 := ⟨_, rfl⟩
  have s3 := addS hp2 (by rw [← hp2, ← hp1]; simp; omega)
  obtain ⟨p3, hp3⟩ : ∃ p3, p2 ++ vt = p3 := ⟨_, rfl⟩
  have s4 := addS hp3 (by rw [← hp3, ← hp2, ← hp1]; simp; omega)
  rw [hp1, hp2, hp3]
  obtain ⟨p4, hp4⟩ : ∃ p4, p3 ++ [32, 98, 121, 32] = p4 := ⟨_, rfl⟩
  have s5 := addS hp4 (by rw [← hp4, ← hp3, ← hp2, ← hp1]; simp; omega)
  obtain ⟨p5, hp5⟩ : ∃ p5, p4 ++ ds = p5 := ⟨_, rfl⟩
  have s6 := addS hp5 (by rw [← hp5, ← hp4, ← hp3, ← hp2, ← hp1]; simp; omega)
  obtain ⟨p6, hp6⟩ : ∃ p6, p5 ++ [32] = p6 := ⟨_, rfl⟩
  have s7 := addS hp6 (by rw [← hp6, ← hp5, ← hp4, ← hp3, ← hp2, ← hp1]; simp; omega)
  obtain ⟨p7, hp7⟩ : ∃ p7, p6 ++ dq = p7 := ⟨_, rfl⟩
  have s8 := addS hp7 (by rw [← hp7, ← hp6, ← hp5, ← hp4, ← hp3, ← hp2, ← hp1]; simp; omega)
  rw [hp4, hp5, hp6, hp7]
  clear hp4 hp5 hp6 hp7 he1 hp1 hp2 hp3 l0 l1 l2 l3
  simp only [str]
  go_enter Tryz.func37, Tryz.ntmps37
  go_wp2_with fail
  refine (unhide DI _).mono ?_
  rintro e w1 ⟨rfl, hb1⟩
  have HB := hide hb1
  have k0 := cell_keep hb1 c0
  clear hb1
  go_wp2_with fail
  refine wp_region_noPanic ?_
  refine wp_region_held_drew (S := fun w' => Below w.heap.size w w') (by kernel_rfl) (unhide HB).drew (fun hHeld => ?_)
  generalize w1.drew = wD at hHeld ⊢
  refine wpAnyH_take (i := 0) (oi := { dst := some 15, op := Go.Op.move (Go.Operand.tmp 0), type := 73, pos := "l03_write.go:66", after := #[], guard := none }) (v := ?v0) rfl (by kernel_rfl) (by kernel_rfl) (by kernel_rfl) (fun _ _ _ h => h) (Or.inl ⟨by rfl, ?h0⟩) hHeld ?r0
  case h0 =>
    intro wS hSw
    (try dsimp only at hSw)
    go_simp
    try with_reducible rfl
  case r0 =>
  simp only [Act.put, List.setIfInBounds_toArray, List.set_cons_zero, List.set_cons_succ]
  refine wpAnyH_take (i := 1) (oi := { dst := some 16, op := Go.Op.nilCheck (Go.Operand.tmp 15), type := 0, pos := "l03_write.go:66", after := #[{ on := 0, ground := Go.Ground.data }], guard := none }) (v := ?v1) rfl (by kernel_rfl) (by kernel_rfl) (by kernel_rfl) (fun _ _ _ h => h) (Or.inl ⟨by rfl, ?h1⟩) hHeld ?r1
  case h1 =>
    intro wS hSw
    (try dsimp only at hSw)
    go_simp
    try with_reducible rfl
  case r1 =>
  simp only [Act.put, List.setIfInBounds_toArray, List.set_cons_zero, List.set_cons_succ]
  refine wpAnyH_take (i := 2) (oi := { dst := some 17, op := Go.Op.fieldAddr 27 (Go.Operand.tmp 16) 1, type := 0, pos := "l03_write.go:66", after := #[{ on := 1, ground := Go.Ground.data }], guard := none }) (v := ?v2) rfl (by kernel_rfl) (by kernel_rfl) (by kernel_rfl) (fun _ _ _ h => h) (Or.inl ⟨by rfl, ?h2⟩) hHeld ?r2
  case h2 =>
    intro wS hSw
    (try dsimp only at hSw)
    go_simp
    try with_reducible rfl
  case r2 =>
  simp only [Act.put, List.setIfInBounds_toArray, List.set_cons_zero, List.set_cons_succ]
  refine wpAnyH_take (i := 3) (oi := { dst := some 18, op := Go.Op.load 2 (Go.Operand.tmp 17), type := 2, pos := "l03_write.go:66", after := #[{ on := 2, ground := Go.Ground.data }], guard := none }) (v := ?v3) rfl (by kernel_rfl) (by kernel_rfl) (by kernel_rfl) (fun _ _ _ h => h) (Or.inl ⟨by rfl, ?h3⟩) hHeld ?r3
  case h3 =>
    intro wS hSw
    have y0 := (hSw.cell (p := ⟨b, o, none⟩) hbl).trans c0
    have y1 := (hSw.cell (p := ⟨b, o + 1, none⟩) hbl).trans c1
    have y2 := (hSw.cell (p := ⟨b, o + 2, none⟩) hbl).trans c2
    have y3 := (hSw.cell (p := ⟨b, o + 3, none⟩) hbl).trans c3
    have y4 := (hSw.cell (p := ⟨b, o + 4, none⟩) hbl).trans c4
    clear hSw
    (try dsimp only at hSw)
    go_simp
    try with_reducible rfl
  case r3 =>
  simp only [Act.put, List.setIfInBounds_toArray, List.set_cons_zero, List.set_cons_succ]
  refine wpAnyH_take (i := 7) (oi := { dst := some 22, op := Go.Op.move (Go.Operand.tmp 0), type := 73, pos := "l03_write.go:66", after := #[], guard := none }) (v := ?v7) rfl (by kernel_rfl) (by kernel_rfl) (by kernel_rfl) (fun _ _ _ h => h) (Or.inl ⟨by rfl, ?h7⟩) hHeld ?r7
  case h7 =>
    intro wS hSw
    (try dsimp only at hSw)
    go_simp
    try with_reducible rfl
  case r7 =>
  simp only [Act.put, List.setIfInBounds_toArray, List.set_cons_zero, List.set_cons_succ]
  refine wpAnyH_take (i := 8) (oi := { dst := some 23, op := Go.Op.nilCheck (Go.Operand.tmp 22), type := 0, pos := "l03_write.go:66", after := #[{ on := 7, ground := Go.Ground.data }], guard := none }) (v := ?v8) rfl (by kernel_rfl) (by kernel_rfl) (by kernel_rfl) (fun _ _ _ h => h) (Or.inl ⟨by rfl, ?h8⟩) hHeld ?r8
  case h8 =>
    intro wS hSw
    (try dsimp only at hSw)
    go_simp
    try with_reducible rfl
  case r8 =>
  simp only [Act.put, List.setIfInBounds_toArray, List.set_cons_zero, List.set_cons_succ]
  refine wpAnyH_take (i := 9) (oi := { dst := some 24, op := Go.Op.fieldAddr 27 (Go.Operand.tmp 23) 2, type := 0, pos := "l03_write.go:66", after := #[{ on := 8, ground := Go.Ground.data }], guard := none }) (v := ?v9) rfl (by kernel_rfl) (by kernel_rfl) (by kernel_rfl) (fun _ _ _ h => h) (Or.inl ⟨by rfl, ?h9⟩) hHeld ?r9
  case h9 =>
    intro wS hSw
    (try dsimp only at hSw)
    go_simp
    try with_reducible rfl
  case r9 =>
  simp only [Act.put, List.setIfInBounds_toArray, List.set_cons_zero, List.set_cons_succ]
  refine wpAnyH_take (i := 10) (oi := { dst := some 25, op := Go.Op.load 25 (Go.Operand.tmp 24), type := 25, pos := "l03_write.go:66", after := #[{ on := 9, ground := Go.Ground.data }], guard := none }) (v := ?v10) rfl (by kernel_rfl) (by kernel_rfl) (by kernel_rfl) (fun _ _ _ h => h) (Or.inl ⟨by rfl, ?h10⟩) hHeld ?r10
  case h10 =>
    intro wS hSw
    have y0 := (hSw.cell (p := ⟨b, o, none⟩) hbl).trans c0
    have y1 := (hSw.cell (p := ⟨b, o + 1, none⟩) hbl).trans c1
    have y2 := (hSw.cell (p := ⟨b, o + 2, none⟩) hbl).trans c2
    have y3 := (hSw.cell (p := ⟨b, o + 3, none⟩) hbl).trans c3
    have y4 := (hSw.cell (p := ⟨b, o + 4, none⟩) hbl).trans c4
    clear hSw
    (try dsimp only at hSw)
    go_simp
    try with_reducible rfl
  case r10 =>
  simp only [Act.put, List.setIfInBounds_toArray, List.set_cons_zero, List.set_cons_succ]
  refine wpAnyH_ready (rs := [4]) (by kernel_rfl) (by simp) ?_
  refine AllReadyH.cons (o := { dst := some 19, op := Go.Op.call { callee := Go.Callee.value (Go.Operand.func 36), args := #[Go.Operand.tmp 18], argTypes := #[2] }, type := 9, pos := "l03_write.go:66", after := #[{ on := 3, ground := Go.Ground.data }], guard := none }) rfl (fun K hK => ?_) AllReadyH.nil
  go_simp
  go_at_call 36
  refine (unhide DI _).mono ?_
  rintro e w2 ⟨rfl, hbw⟩
  try go_wp2_with fail
  refine hK.out _ _ (hHeld.trans (hbw.mono hHeld.size)) (fun hHeld => ?_)
  clear hK K
  try simp only [Act.put, List.setIfInBounds_toArray, List.set_cons_zero, List.set_cons_succ]
  refine wpAnyH_take (i := 5) (oi := { dst := some 20, op := Go.Op.binOp Go.BinOp.add 9 (Go.Operand.const (Go.Value.string { data := #[112, 117, 116, 32] })) (Go.Operand.tmp 19) 9, type := 9, pos := "l03_write.go:66", after := #[{ on := 4, ground := Go.Ground.data }], guard := none }) (v := ?v5) rfl (by kernel_rfl) (by kernel_rfl) (by kernel_rfl) (fun _ _ _ h => h) (Or.inl ⟨by rfl, ?h5⟩) hHeld ?r5
  case h5 =>
    intro wS hSw
    (try dsimp only at hSw)
    go_simp
    try with_reducible rfl
  case r5 =>
  simp only [Act.put, List.setIfInBounds_toArray, List.set_cons_zero, List.set_cons_succ]
  refine wpAnyH_take (i := 6) (oi := { dst := some 21, op := Go.Op.binOp Go.BinOp.add 9 (Go.Operand.tmp 20) (Go.Operand.const (Go.Value.string { data := #[32] })) 9, type := 9, pos := "l03_write.go:66", after := #[{ on := 5, ground := Go.Ground.data }], guard := none }) (v := ?v6) rfl (by kernel_rfl) (by kernel_rfl) (by kernel_rfl) (fun _ _ _ h => h) (Or.inl ⟨by rfl, ?h6⟩) hHeld ?r6
  case h6 =>
    intro wS hSw
    (try dsimp only at hSw)
    go_simp
    try with_reducible rfl
  case r6 =>
  simp only [Act.put, List.setIfInBounds_toArray, List.set_cons_zero, List.set_cons_succ]
  refine wpAnyH_ready (rs := [11]) (by kernel_rfl) (by simp) ?_
  refine AllReadyH.cons (o := { dst := some 26, op := Go.Op.call { callee := Go.Callee.value (Go.Operand.func 68), args := #[Go.Operand.tmp 25], argTypes := #[25] }, type := 9, pos := "l03_write.go:66", after := #[{ on := 10, ground := Go.Ground.data }, { on := 4, ground := Go.Ground.chain }], guard := none }) rfl (fun K hK => ?_) AllReadyH.nil
  go_simp
  go_at_call 68
  refine (unhide DV _ hHeld).mono ?_
  rintro e w3 ⟨rfl, hbw⟩
  try go_wp2_with fail
  refine hK.out _ _ (hHeld.trans (hbw.mono hHeld.size)) (fun hHeld => ?_)
  clear hK K
  try simp only [Act.put, List.setIfInBounds_toArray, List.set_cons_zero, List.set_cons_succ]
  refine wpAnyH_take (i := 12) (oi := { dst := some 27, op := Go.Op.binOp Go.BinOp.add 9 (Go.Operand.tmp 21) (Go.Operand.tmp 26) 9, type := 9, pos := "l03_write.go:66", after := #[{ on := 6, ground := Go.Ground.data }, { on := 11, ground := Go.Ground.data }], guard := none }) (v := ?v12) rfl (by kernel_rfl) (by kernel_rfl) (by kernel_rfl) (fun _ _ _ h => h) (Or.inl ⟨by rfl, ?h12⟩) hHeld ?r12
  case h12 =>
    intro wS hSw
    (try dsimp only at hSw)
    go_simp
    try with_reducible rfl
  case r12 =>
  simp only [Act.put, List.setIfInBounds_toArray, List.set_cons_zero, List.set_cons_succ]
  refine wpAnyH_take (i := 13) (oi := { dst := some 3, op := Go.Op.assign (Go.Operand.tmp 27), type := 9, pos := "l03_write.go:66", after := #[{ on := 12, ground := Go.Ground.data }, { on := 11, ground := Go.Ground.chain }, { on := 0, ground := Go.Ground.phase }, { on := 1, ground := Go.Ground.phase }, { on := 2, ground := Go.Ground.phase }, { on := 3, ground := Go.Ground.phase }, { on := 4, ground := Go.Ground.phase }, { on := 5, ground := Go.Ground.phase }, { on := 6, ground := Go.Ground.phase }, { on := 7, ground := Go.Ground.phase }, { on := 8, ground := Go.Ground.phase }, { on := 9, ground := Go.Ground.phase }, { on := 10, ground := Go.Ground.phase }, { on := 11, ground := Go.Ground.phase }, { on := 12, ground := Go.Ground.phase }], guard := none }) (v := ?v13) rfl (by kernel_rfl) (by kernel_rfl) (by kernel_rfl) (fun _ _ _ h => h) (Or.inl ⟨by rfl, ?h13⟩) hHeld ?r13
  case h13 =>
    intro wS hSw
    (try dsimp only at hSw)
    go_simp
    try with_reducible rfl
  case r13 =>
  simp only [Act.put, List.setIfInBounds_toArray, List.set_cons_zero, List.set_cons_succ]
  refine wpAnyH_done (by kernel_rfl) ?_ _
  refine NoPanic.normal ?_
  have HB2 := hide hHeld
  clear hHeld HB k0
  go_wp2_with fail
  refine wp_region_noPanic ?_
  refine wp_region_held_drew (S := fun w' => Below w.heap.size w w') (by kernel_rfl) (unhide HB2).drew (fun hHeld => ?_)
  generalize w3.drew = wF at hHeld ⊢
  refine wpAnyH_take (i := 0) (oi := { dst := some 28, op := Go.Op.move (Go.Operand.tmp 3), type := 9, pos := "l03_write.go:68", after := #[], guard := none }) (v := ?vb0) rfl (by kernel_rfl) (by kernel_rfl) (by kernel_rfl) (fun _ _ _ h => h) (Or.inl ⟨by rfl, ?hb0⟩) hHeld ?rb0
  case hb0 =>
    intro wS hSw
    (try dsimp only at hSw)
    go_simp
    try with_reducible rfl
  case rb0 =>
  simp only [Act.put, List.setIfInBounds_toArray, List.set_cons_zero, List.set_cons_succ]
  refine wpAnyH_take (i := 1) (oi := { dst := some 29, op := Go.Op.binOp Go.BinOp.add 9 (Go.Operand.tmp 28) (Go.Operand.const (Go.Value.string { data := #[32, 98, 121, 32] })) 9, type := 9, pos := "l03_write.go:68", after := #[{ on := 0, ground := Go.Ground.data }], guard := none }) (v := ?vb1) rfl (by kernel_rfl) (by kernel_rfl) (by kernel_rfl) (fun _ _ _ h => h) (Or.inl ⟨by rfl, ?hb1⟩) hHeld ?rb1
  case hb1 =>
    intro wS hSw
    (try dsimp only at hSw)
    go_simp
    try with_reducible rfl
  case rb1 =>
  simp only [Act.put, List.setIfInBounds_toArray, List.set_cons_zero, List.set_cons_succ]
  refine wpAnyH_take (i := 2) (oi := { dst := some 30, op := Go.Op.move (Go.Operand.tmp 0), type := 73, pos := "l03_write.go:68", after := #[], guard := none }) (v := ?vb2) rfl (by kernel_rfl) (by kernel_rfl) (by kernel_rfl) (fun _ _ _ h => h) (Or.inl ⟨by rfl, ?hb2⟩) hHeld ?rb2
  case hb2 =>
    intro wS hSw
    (try dsimp only at hSw)
    go_simp
    try with_reducible rfl
  case rb2 =>
  simp only [Act.put, List.setIfInBounds_toArray, List.set_cons_zero, List.set_cons_succ]
  refine wpAnyH_take (i := 3) (oi := { dst := some 31, op := Go.Op.nilCheck (Go.Operand.tmp 30), type := 0, pos := "l03_write.go:68", after := #[{ on := 2, ground := Go.Ground.data }], guard := none }) (v := ?vb3) rfl (by kernel_rfl) (by kernel_rfl) (by kernel_rfl) (fun _ _ _ h => h) (Or.inl ⟨by rfl, ?hb3⟩) hHeld ?rb3
  case hb3 =>
    intro wS hSw
    (try dsimp only at hSw)
    go_simp
    try with_reducible rfl
  case rb3 =>
  simp only [Act.put, List.setIfInBounds_toArray, List.set_cons_zero, List.set_cons_succ]
  refine wpAnyH_take (i := 4) (oi := { dst := some 32, op := Go.Op.fieldAddr 27 (Go.Operand.tmp 31) 3, type := 0, pos := "l03_write.go:68", after := #[{ on := 3, ground := Go.Ground.data }], guard := none }) (v := ?vb4) rfl (by kernel_rfl) (by kernel_rfl) (by kernel_rfl) (fun _ _ _ h => h) (Or.inl ⟨by rfl, ?hb4⟩) hHeld ?rb4
  case hb4 =>
    intro wS hSw
    (try dsimp only at hSw)
    go_simp
    try with_reducible rfl
  case rb4 =>
  simp only [Act.put, List.setIfInBounds_toArray, List.set_cons_zero, List.set_cons_succ]
  refine wpAnyH_take (i := 5) (oi := { dst := some 33, op := Go.Op.load 2 (Go.Operand.tmp 32), type := 2, pos := "l03_write.go:68", after := #[{ on := 4, ground := Go.Ground.data }], guard := none }) (v := ?vb5) rfl (by kernel_rfl) (by kernel_rfl) (by kernel_rfl) (fun _ _ _ h => h) (Or.inl ⟨by rfl, ?hb5⟩) hHeld ?rb5
  case hb5 =>
    intro wS hSw
    have y0 := (hSw.cell (p := ⟨b, o, none⟩) hbl).trans c0
    have y1 := (hSw.cell (p := ⟨b, o + 1, none⟩) hbl).trans c1
    have y2 := (hSw.cell (p := ⟨b, o + 2, none⟩) hbl).trans c2
    have y3 := (hSw.cell (p := ⟨b, o + 3, none⟩) hbl).trans c3
    have y4 := (hSw.cell (p := ⟨b, o + 4, none⟩) hbl).trans c4
    clear hSw
    (try dsimp only at hSw)
    go_simp
    try with_reducible rfl
  case rb5 =>
  simp only [Act.put, List.setIfInBounds_toArray, List.set_cons_zero, List.set_cons_succ]
  refine wpAnyH_take (i := 9) (oi := { dst := some 37, op := Go.Op.move (Go.Operand.tmp 0), type := 73, pos := "l03_write.go:68", after := #[], guard := none }) (v := ?vb9) rfl (by kernel_rfl) (by kernel_rfl) (by kernel_rfl) (fun _ _ _ h => h) (Or.inl ⟨by rfl, ?hb9⟩) hHeld ?rb9
  case hb9 =>
    intro wS hSw
    (try dsimp only at hSw)
    go_simp
    try with_reducible rfl
  case rb9 =>
  simp only [Act.put, List.setIfInBounds_toArray, List.set_cons_zero, List.set_cons_succ]
  refine wpAnyH_take (i := 10) (oi := { dst := some 38, op := Go.Op.nilCheck (Go.Operand.tmp 37), type := 0, pos := "l03_write.go:68", after := #[{ on := 9, ground := Go.Ground.data }], guard := none }) (v := ?vb10) rfl (by kernel_rfl) (by kernel_rfl) (by kernel_rfl) (fun _ _ _ h => h) (Or.inl ⟨by rfl, ?hb10⟩) hHeld ?rb10
  case hb10 =>
    intro wS hSw
    (try dsimp only at hSw)
    go_simp
    try with_reducible rfl
  case rb10 =>
  simp only [Act.put, List.setIfInBounds_toArray, List.set_cons_zero, List.set_cons_succ]
  refine wpAnyH_take (i := 11) (oi := { dst := some 39, op := Go.Op.fieldAddr 27 (Go.Operand.tmp 38) 4, type := 0, pos := "l03_write.go:68", after := #[{ on := 10, ground := Go.Ground.data }], guard := none }) (v := ?vb11) rfl (by kernel_rfl) (by kernel_rfl) (by kernel_rfl) (fun _ _ _ h => h) (Or.inl ⟨by rfl, ?hb11⟩) hHeld ?rb11
  case hb11 =>
    intro wS hSw
    (try dsimp only at hSw)
    go_simp
    try with_reducible rfl
  case rb11 =>
  simp only [Act.put, List.setIfInBounds_toArray, List.set_cons_zero, List.set_cons_succ]
  refine wpAnyH_take (i := 12) (oi := { dst := some 40, op := Go.Op.load 2 (Go.Operand.tmp 39), type := 2, pos := "l03_write.go:68", after := #[{ on := 11, ground := Go.Ground.data }], guard := none }) (v := ?vb12) rfl (by kernel_rfl) (by kernel_rfl) (by kernel_rfl) (fun _ _ _ h => h) (Or.inl ⟨by rfl, ?hb12⟩) hHeld ?rb12
  case hb12 =>
    intro wS hSw
    have y0 := (hSw.cell (p := ⟨b, o, none⟩) hbl).trans c0
    have y1 := (hSw.cell (p := ⟨b, o + 1, none⟩) hbl).trans c1
    have y2 := (hSw.cell (p := ⟨b, o + 2, none⟩) hbl).trans c2
    have y3 := (hSw.cell (p := ⟨b, o + 3, none⟩) hbl).trans c3
    have y4 := (hSw.cell (p := ⟨b, o + 4, none⟩) hbl).trans c4
    clear hSw
    (try dsimp only at hSw)
    go_simp
    try with_reducible rfl
  case rb12 =>
  simp only [Act.put, List.setIfInBounds_toArray, List.set_cons_zero, List.set_cons_succ]
  refine wpAnyH_ready (rs := [6]) (by kernel_rfl) (by simp) ?_
  refine AllReadyH.cons (o := { dst := some 34, op := Go.Op.call { callee := Go.Callee.value (Go.Operand.func 36), args := #[Go.Operand.tmp 33], argTypes := #[2] }, type := 9, pos := "l03_write.go:68", after := #[{ on := 5, ground := Go.Ground.data }], guard := none }) rfl (fun K hK => ?_) AllReadyH.nil
  go_simp
  go_at_call 36
  refine (unhide DS _).mono ?_
  rintro e w4 ⟨rfl, hbw⟩
  try go_wp2_with fail
  refine hK.out _ _ (hHeld.trans (hbw.mono hHeld.size)) (fun hHeld => ?_)
  clear hK K
  try simp only [Act.put, List.setIfInBounds_toArray, List.set_cons_zero, List.set_cons_succ]
  refine wpAnyH_take (i := 7) (oi := { dst := some 35, op := Go.Op.binOp Go.BinOp.add 9 (Go.Operand.tmp 29) (Go.Operand.tmp 34) 9, type := 9, pos := "l03_write.go:68", after := #[{ on := 1, ground := Go.Ground.data }, { on := 6, ground := Go.Ground.data }], guard := none }) (v := ?vb7) rfl (by kernel_rfl) (by kernel_rfl) (by kernel_rfl) (fun _ _ _ h => h) (Or.inl ⟨by rfl, ?hb7⟩) hHeld ?rb7
  case hb7 =>
    intro wS hSw
    (try dsimp only at hSw)
    go_simp
    try with_reducible rfl
  case rb7 =>
  simp only [Act.put, List.setIfInBounds_toArray, List.set_cons_zero, List.set_cons_succ]
  refine wpAnyH_take (i := 8) (oi := { dst := some 36, op := Go.Op.binOp Go.BinOp.add 9 (Go.Operand.tmp 35) (Go.Operand.const (Go.Value.string { data := #[32] })) 9, type := 9, pos := "l03_write.go:68", after := #[{ on := 7, ground := Go.Ground.data }], guard := none }) (v := ?vb8) rfl (by kernel_rfl) (by kernel_rfl) (by kernel_rfl) (fun _ _ _ h => h) (Or.inl ⟨by rfl, ?hb8⟩) hHeld ?rb8
  case hb8 =>
    intro wS hSw
    (try dsimp only at hSw)
    go_simp
    try with_reducible rfl
  case rb8 =>
  simp only [Act.put, List.setIfInBounds_toArray, List.set_cons_zero, List.set_cons_succ]
  refine wpAnyH_ready (rs := [13]) (by kernel_rfl) (by simp) ?_
  refine AllReadyH.cons (o := { dst := some 41, op := Go.Op.call { callee := Go.Callee.value (Go.Operand.func 36), args := #[Go.Operand.tmp 40], argTypes := #[2] }, type := 9, pos := "l03_write.go:68", after := #[{ on := 12, ground := Go.Ground.data }, { on := 6, ground := Go.Ground.chain }], guard := none }) rfl (fun K hK => ?_) AllReadyH.nil
  go_simp
  go_at_call 36
  refine (unhide DQ _).mono ?_
  rintro e w5 ⟨rfl, hbw⟩
  try go_wp2_with fail
  refine hK.out _ _ (hHeld.trans (hbw.mono hHeld.size)) (fun hHeld => ?_)
  clear hK K
  try simp only [Act.put, List.setIfInBounds_toArray, List.set_cons_zero, List.set_cons_succ]
  refine wpAnyH_take (i := 14) (oi := { dst := some 42, op := Go.Op.binOp Go.BinOp.add 9 (Go.Operand.tmp 36) (Go.Operand.tmp 41) 9, type := 9, pos := "l03_write.go:68", after := #[{ on := 8, ground := Go.Ground.data }, { on := 13, ground := Go.Ground.data }], guard := none }) (v := ?vb14) rfl (by kernel_rfl) (by kernel_rfl) (by kernel_rfl) (fun _ _ _ h => h) (Or.inl ⟨by rfl, ?hb14⟩) hHeld ?rb14
  case hb14 =>
    intro wS hSw
    (try dsimp only at hSw)
    go_simp
    try with_reducible rfl
  case rb14 =>
  simp only [Act.put, List.setIfInBounds_toArray, List.set_cons_zero, List.set_cons_succ]
  refine wpAnyH_take (i := 15) (oi := { dst := some 2, op := Go.Op.assign (Go.Operand.tmp 42), type := 9, pos := "l03_write.go:68", after := #[{ on := 14, ground := Go.Ground.data }, { on := 13, ground := Go.Ground.chain }, { on := 0, ground := Go.Ground.phase }, { on := 1, ground := Go.Ground.phase }, { on := 2, ground := Go.Ground.phase }, { on := 3, ground := Go.Ground.phase }, { on := 4, ground := Go.Ground.phase }, { on := 5, ground := Go.Ground.phase }, { on := 6, ground := Go.Ground.phase }, { on := 7, ground := Go.Ground.phase }, { on := 8, ground := Go.Ground.phase }, { on := 9, ground := Go.Ground.phase }, { on := 10, ground := Go.Ground.phase }, { on := 11, ground := Go.Ground.phase }, { on := 12, ground := Go.Ground.phase }, { on := 13, ground := Go.Ground.phase }, { on := 14, ground := Go.Ground.phase }], guard := none }) (v := ?vb15) rfl (by kernel_rfl) (by kernel_rfl) (by kernel_rfl) (fun _ _ _ h => h) (Or.inl ⟨by rfl, ?hb15⟩) hHeld ?rb15
  case hb15 =>
    intro wS hSw
    (try dsimp only at hSw)
    go_simp
    try with_reducible rfl
  case rb15 =>
  simp only [Act.put, List.setIfInBounds_toArray, List.set_cons_zero, List.set_cons_succ]
  refine wpAnyH_done (by kernel_rfl) ?_ _
  refine NoPanic.normal ?_
  have HB9 := hide hHeld
  clear hHeld
  go_wp2_with fail
  go_ret
  exact ⟨rfl, unhide HB9⟩

set_option maxRecDepth 100000 in
set_option maxHeartbeats 4000000 in
theorem l3Text_drop (b o : Nat) (i s q : Int) (v : Value) (w : World) (hc : WriteAtO w b o 2 i v s q) (hi : 1 ≤ i ∧ i ≤ 999) (hs : 1 ≤ s ∧ s ≤ 9) (hq : 1 ≤ q ∧ q ≤ 999) :
    Calls Tryz.prog 37 #[.pointer (some ⟨b, o, none⟩)] w fun e w' => e = .returned (str (writeTail s q (writeHead 2 i []))) ∧ Below w.heap.size w w' := by
  obtain ⟨c0, c1, c2, c3, c4⟩ := hc
  have hbl : b < w.heap.size := World.block_lt_of_cell? _ _ c0
  have l0 := dec_len i
  have l1 := dec_len s
  have l2 := dec_len q
  have HT : Hid (writeHead 2 i [] = [100, 114, 111, 112, 32] ++ dec i) := rfl
  have DI : Hid (∀ W, Calls Tryz.prog 36 #[.int .i64 i] W fun e w' => e = .returned (str (dec i)) ∧ Below W.heap.size W w') := fun W => digits i W (by omega) (by omega)
  have DS : Hid (∀ W, Calls Tryz.prog 36 #[.int .i64 s] W fun e w' => e = .returned (str (dec s)) ∧ Below W.heap.size W w') := fun W => digits s W (by omega) (by omega)
  have DQ : Hid (∀ W, Calls Tryz.prog 36 #[.int .i64 q] W fun e w' => e = .returned (str (dec q)) ∧ Below W.heap.size W w') := fun W => digits q W (by omega) (by omega)
  simp only [str] at DI DS DQ
  rw [unhide HT]
  unfold writeTail
  clear HT
  generalize dec i = di at *
  generalize dec s = ds at *
  generalize dec q = dq at *
  obtain ⟨e1, he1⟩ : ∃ e1, [100, 114, 111, 112, 32] ++ di = e1 := ⟨_, rfl⟩
  have s1 := addS he1 (by rw [← he1]; simp; omega)
  rw [he1]
  obtain ⟨p4, hp4⟩ : ∃ p4, e1 ++ [32, 98, 121, 32] = p4 := ⟨_, rfl⟩
  have s5 := addS hp4 (by rw [← hp4, ← he1]; simp; omega)
  obtain ⟨p5, hp5⟩ : ∃ p5, p4 ++ ds = p5 := ⟨_, rfl⟩
  have s6 := addS hp5 (by rw [← hp5, ← hp4, ← he1]; simp; omega)
  obtain ⟨p6, hp6⟩ : ∃ p6, p5 ++ [32] = p6 := ⟨_, rfl⟩
  have s7 := addS hp6 (by rw [← hp6, ← hp5, ← hp4, ← he1]; simp; omega)
  obtain ⟨p7, hp7⟩ : ∃ p7, p6 ++ dq = p7 := ⟨_, rfl⟩
  have s8 := addS hp7 (by rw [← hp7, ← hp6, ← hp5, ← hp4, ← he1]; simp; omega)
  rw [hp4, hp5, hp6, hp7]
  clear hp4 hp5 hp6 hp7 he1 l0 l1 l2
  simp only [str]
  go_enter Tryz.func37, Tryz.ntmps37
  go_wp2_with fail
  refine (unhide DI _).mono ?_
  rintro e w1 ⟨rfl, hb1⟩
  have HB := hide hb1
  have k0 := cell_keep hb1 c0
  clear hb1
  go_wp2_with fail
  refine wp_region_noPanic ?_
  refine wp_region_held_drew (S := fun w' => Below w.heap.size w w') (by kernel_rfl) (unhide HB).drew (fun hHeld => ?_)
  generalize w1.drew = wF at hHeld ⊢
  refine wpAnyH_take (i := 0) (oi := { dst := some 28, op := Go.Op.move (Go.Operand.tmp 3), type := 9, pos := "l03_write.go:68", after := #[], guard := none }) (v := ?vb0) rfl (by kernel_rfl) (by kernel_rfl) (by kernel_rfl) (fun _ _ _ h => h) (Or.inl ⟨by rfl, ?hb0⟩) hHeld ?rb0
  case hb0 =>
    intro wS hSw
    (try dsimp only at hSw)
    go_simp
    try with_reducible rfl
  case rb0 =>
  simp only [Act.put, List.setIfInBounds_toArray, List.set_cons_zero, List.set_cons_succ]
  refine wpAnyH_take (i := 1) (oi := { dst := some 29, op := Go.Op.binOp Go.BinOp.add 9 (Go.Operand.tmp 28) (Go.Operand.const (Go.Value.string { data := #[32, 98, 121, 32] })) 9, type := 9, pos := "l03_write.go:68", after := #[{ on := 0, ground := Go.Ground.data }], guard := none }) (v := ?vb1) rfl (by kernel_rfl) (by kernel_rfl) (by kernel_rfl) (fun _ _ _ h => h) (Or.inl ⟨by rfl, ?hb1⟩) hHeld ?rb1
  case hb1 =>
    intro wS hSw
    (try dsimp only at hSw)
    go_simp
    try with_reducible rfl
  case rb1 =>
  simp only [Act.put, List.setIfInBounds_toArray, List.set_cons_zero, List.set_cons_succ]
  refine wpAnyH_take (i := 2) (oi := { dst := some 30, op := Go.Op.move (Go.Operand.tmp 0), type := 73, pos := "l03_write.go:68", after := #[], guard := none }) (v := ?vb2) rfl (by kernel_rfl) (by kernel_rfl) (by kernel_rfl) (fun _ _ _ h => h) (Or.inl ⟨by rfl, ?hb2⟩) hHeld ?rb2
  case hb2 =>
    intro wS hSw
    (try dsimp only at hSw)
    go_simp
    try with_reducible rfl
  case rb2 =>
  simp only [Act.put, List.setIfInBounds_toArray, List.set_cons_zero, List.set_cons_succ]
  refine wpAnyH_take (i := 3) (oi := { dst := some 31, op := Go.Op.nilCheck (Go.Operand.tmp 30), type := 0, pos := "l03_write.go:68", after := #[{ on := 2, ground := Go.Ground.data }], guard := none }) (v := ?vb3) rfl (by kernel_rfl) (by kernel_rfl) (by kernel_rfl) (fun _ _ _ h => h) (Or.inl ⟨by rfl, ?hb3⟩) hHeld ?rb3
  case hb3 =>
    intro wS hSw
    (try dsimp only at hSw)
    go_simp
    try with_reducible rfl
  case rb3 =>
  simp only [Act.put, List.setIfInBounds_toArray, List.set_cons_zero, List.set_cons_succ]
  refine wpAnyH_take (i := 4) (oi := { dst := some 32, op := Go.Op.fieldAddr 27 (Go.Operand.tmp 31) 3, type := 0, pos := "l03_write.go:68", after := #[{ on := 3, ground := Go.Ground.data }], guard := none }) (v := ?vb4) rfl (by kernel_rfl) (by kernel_rfl) (by kernel_rfl) (fun _ _ _ h => h) (Or.inl ⟨by rfl, ?hb4⟩) hHeld ?rb4
  case hb4 =>
    intro wS hSw
    (try dsimp only at hSw)
    go_simp
    try with_reducible rfl
  case rb4 =>
  simp only [Act.put, List.setIfInBounds_toArray, List.set_cons_zero, List.set_cons_succ]
  refine wpAnyH_take (i := 5) (oi := { dst := some 33, op := Go.Op.load 2 (Go.Operand.tmp 32), type := 2, pos := "l03_write.go:68", after := #[{ on := 4, ground := Go.Ground.data }], guard := none }) (v := ?vb5) rfl (by kernel_rfl) (by kernel_rfl) (by kernel_rfl) (fun _ _ _ h => h) (Or.inl ⟨by rfl, ?hb5⟩) hHeld ?rb5
  case hb5 =>
    intro wS hSw
    have y0 := (hSw.cell (p := ⟨b, o, none⟩) hbl).trans c0
    have y1 := (hSw.cell (p := ⟨b, o + 1, none⟩) hbl).trans c1
    have y2 := (hSw.cell (p := ⟨b, o + 2, none⟩) hbl).trans c2
    have y3 := (hSw.cell (p := ⟨b, o + 3, none⟩) hbl).trans c3
    have y4 := (hSw.cell (p := ⟨b, o + 4, none⟩) hbl).trans c4
    clear hSw
    (try dsimp only at hSw)
    go_simp
    try with_reducible rfl
  case rb5 =>
  simp only [Act.put, List.setIfInBounds_toArray, List.set_cons_zero, List.set_cons_succ]
  refine wpAnyH_take (i := 9) (oi := { dst := some 37, op := Go.Op.move (Go.Operand.tmp 0), type := 73, pos := "l03_write.go:68", after := #[], guard := none }) (v := ?vb9) rfl (by kernel_rfl) (by kernel_rfl) (by kernel_rfl) (fun _ _ _ h => h) (Or.inl ⟨by rfl, ?hb9⟩) hHeld ?rb9
  case hb9 =>
    intro wS hSw
    (try dsimp only at hSw)
    go_simp
    try with_reducible rfl
  case rb9 =>
  simp only [Act.put, List.setIfInBounds_toArray, List.set_cons_zero, List.set_cons_succ]
  refine wpAnyH_take (i := 10) (oi := { dst := some 38, op := Go.Op.nilCheck (Go.Operand.tmp 37), type := 0, pos := "l03_write.go:68", after := #[{ on := 9, ground := Go.Ground.data }], guard := none }) (v := ?vb10) rfl (by kernel_rfl) (by kernel_rfl) (by kernel_rfl) (fun _ _ _ h => h) (Or.inl ⟨by rfl, ?hb10⟩) hHeld ?rb10
  case hb10 =>
    intro wS hSw
    (try dsimp only at hSw)
    go_simp
    try with_reducible rfl
  case rb10 =>
  simp only [Act.put, List.setIfInBounds_toArray, List.set_cons_zero, List.set_cons_succ]
  refine wpAnyH_take (i := 11) (oi := { dst := some 39, op := Go.Op.fieldAddr 27 (Go.Operand.tmp 38) 4, type := 0, pos := "l03_write.go:68", after := #[{ on := 10, ground := Go.Ground.data }], guard := none }) (v := ?vb11) rfl (by kernel_rfl) (by kernel_rfl) (by kernel_rfl) (fun _ _ _ h => h) (Or.inl ⟨by rfl, ?hb11⟩) hHeld ?rb11
  case hb11 =>
    intro wS hSw
    (try dsimp only at hSw)
    go_simp
    try with_reducible rfl
  case rb11 =>
  simp only [Act.put, List.setIfInBounds_toArray, List.set_cons_zero, List.set_cons_succ]
  refine wpAnyH_take (i := 12) (oi := { dst := some 40, op := Go.Op.load 2 (Go.Operand.tmp 39), type := 2, pos := "l03_write.go:68", after := #[{ on := 11, ground := Go.Ground.data }], guard := none }) (v := ?vb12) rfl (by kernel_rfl) (by kernel_rfl) (by kernel_rfl) (fun _ _ _ h => h) (Or.inl ⟨by rfl, ?hb12⟩) hHeld ?rb12
  case hb12 =>
    intro wS hSw
    have y0 := (hSw.cell (p := ⟨b, o, none⟩) hbl).trans c0
    have y1 := (hSw.cell (p := ⟨b, o + 1, none⟩) hbl).trans c1
    have y2 := (hSw.cell (p := ⟨b, o + 2, none⟩) hbl).trans c2
    have y3 := (hSw.cell (p := ⟨b, o + 3, none⟩) hbl).trans c3
    have y4 := (hSw.cell (p := ⟨b, o + 4, none⟩) hbl).trans c4
    clear hSw
    (try dsimp only at hSw)
    go_simp
    try with_reducible rfl
  case rb12 =>
  simp only [Act.put, List.setIfInBounds_toArray, List.set_cons_zero, List.set_cons_succ]
  refine wpAnyH_ready (rs := [6]) (by kernel_rfl) (by simp) ?_
  refine AllReadyH.cons (o := { dst := some 34, op := Go.Op.call { callee := Go.Callee.value (Go.Operand.func 36), args := #[Go.Operand.tmp 33], argTypes := #[2] }, type := 9, pos := "l03_write.go:68", after := #[{ on := 5, ground := Go.Ground.data }], guard := none }) rfl (fun K hK => ?_) AllReadyH.nil
  go_simp
  go_at_call 36
  refine (unhide DS _).mono ?_
  rintro e w4 ⟨rfl, hbw⟩
  try go_wp2_with fail
  refine hK.out _ _ (hHeld.trans (hbw.mono hHeld.size)) (fun hHeld => ?_)
  clear hK K
  try simp only [Act.put, List.setIfInBounds_toArray, List.set_cons_zero, List.set_cons_succ]
  refine wpAnyH_take (i := 7) (oi := { dst := some 35, op := Go.Op.binOp Go.BinOp.add 9 (Go.Operand.tmp 29) (Go.Operand.tmp 34) 9, type := 9, pos := "l03_write.go:68", after := #[{ on := 1, ground := Go.Ground.data }, { on := 6, ground := Go.Ground.data }], guard := none }) (v := ?vb7) rfl (by kernel_rfl) (by kernel_rfl) (by kernel_rfl) (fun _ _ _ h => h) (Or.inl ⟨by rfl, ?hb7⟩) hHeld ?rb7
  case hb7 =>
    intro wS hSw
    (try dsimp only at hSw)
    go_simp
    try with_reducible rfl
  case rb7 =>
  simp only [Act.put, List.setIfInBounds_toArray, List.set_cons_zero, List.set_cons_succ]
  refine wpAnyH_take (i := 8) (oi := { dst := some 36, op := Go.Op.binOp Go.BinOp.add 9 (Go.Operand.tmp 35) (Go.Operand.const (Go.Value.string { data := #[32] })) 9, type := 9, pos := "l03_write.go:68", after := #[{ on := 7, ground := Go.Ground.data }], guard := none }) (v := ?vb8) rfl (by kernel_rfl) (by kernel_rfl) (by kernel_rfl) (fun _ _ _ h => h) (Or.inl ⟨by rfl, ?hb8⟩) hHeld ?rb8
  case hb8 =>
    intro wS hSw
    (try dsimp only at hSw)
    go_simp
    try with_reducible rfl
  case rb8 =>
  simp only [Act.put, List.setIfInBounds_toArray, List.set_cons_zero, List.set_cons_succ]
  refine wpAnyH_ready (rs := [13]) (by kernel_rfl) (by simp) ?_
  refine AllReadyH.cons (o := { dst := some 41, op := Go.Op.call { callee := Go.Callee.value (Go.Operand.func 36), args := #[Go.Operand.tmp 40], argTypes := #[2] }, type := 9, pos := "l03_write.go:68", after := #[{ on := 12, ground := Go.Ground.data }, { on := 6, ground := Go.Ground.chain }], guard := none }) rfl (fun K hK => ?_) AllReadyH.nil
  go_simp
  go_at_call 36
  refine (unhide DQ _).mono ?_
  rintro e w5 ⟨rfl, hbw⟩
  try go_wp2_with fail
  refine hK.out _ _ (hHeld.trans (hbw.mono hHeld.size)) (fun hHeld => ?_)
  clear hK K
  try simp only [Act.put, List.setIfInBounds_toArray, List.set_cons_zero, List.set_cons_succ]
  refine wpAnyH_take (i := 14) (oi := { dst := some 42, op := Go.Op.binOp Go.BinOp.add 9 (Go.Operand.tmp 36) (Go.Operand.tmp 41) 9, type := 9, pos := "l03_write.go:68", after := #[{ on := 8, ground := Go.Ground.data }, { on := 13, ground := Go.Ground.data }], guard := none }) (v := ?vb14) rfl (by kernel_rfl) (by kernel_rfl) (by kernel_rfl) (fun _ _ _ h => h) (Or.inl ⟨by rfl, ?hb14⟩) hHeld ?rb14
  case hb14 =>
    intro wS hSw
    (try dsimp only at hSw)
    go_simp
    try with_reducible rfl
  case rb14 =>
  simp only [Act.put, List.setIfInBounds_toArray, List.set_cons_zero, List.set_cons_succ]
  refine wpAnyH_take (i := 15) (oi := { dst := some 2, op := Go.Op.assign (Go.Operand.tmp 42), type := 9, pos := "l03_write.go:68", after := #[{ on := 14, ground := Go.Ground.data }, { on := 13, ground := Go.Ground.chain }, { on := 0, ground := Go.Ground.phase }, { on := 1, ground := Go.Ground.phase }, { on := 2, ground := Go.Ground.phase }, { on := 3, ground := Go.Ground.phase }, { on := 4, ground := Go.Ground.phase }, { on := 5, ground := Go.Ground.phase }, { on := 6, ground := Go.Ground.phase }, { on := 7, ground := Go.Ground.phase }, { on := 8, ground := Go.Ground.phase }, { on := 9, ground := Go.Ground.phase }, { on := 10, ground := Go.Ground.phase }, { on := 11, ground := Go.Ground.phase }, { on := 12, ground := Go.Ground.phase }, { on := 13, ground := Go.Ground.phase }, { on := 14, ground := Go.Ground.phase }], guard := none }) (v := ?vb15) rfl (by kernel_rfl) (by kernel_rfl) (by kernel_rfl) (fun _ _ _ h => h) (Or.inl ⟨by rfl, ?hb15⟩) hHeld ?rb15
  case hb15 =>
    intro wS hSw
    (try dsimp only at hSw)
    go_simp
    try with_reducible rfl
  case rb15 =>
  simp only [Act.put, List.setIfInBounds_toArray, List.set_cons_zero, List.set_cons_succ]
  refine wpAnyH_done (by kernel_rfl) ?_ _
  refine NoPanic.normal ?_
  have HB9 := hide hHeld
  clear hHeld
  go_wp2_with fail
  go_ret
  exact ⟨rfl, unhide HB9⟩

/-- The model's l3Text. -/
theorem l3TextO (b o : Nat) (k i : Int) (v : Value) (s q : Int) (zs : List Int) (w : World) (hc : WriteAtO w b o k i v s q) (h : IsInts w v zs) (hf : writeFault k i zs s q = 0) :
    Calls Tryz.prog 37 #[.pointer (some ⟨b, o, none⟩)] w fun e w' => e = .returned (str (writeText k i zs s q)) ∧ Below w.heap.size w w' := by
  rw [writeText, if_pos hf]
  obtain ⟨hi, hs, hq, hk⟩ := writeFault_zero hf
  rcases hk with ⟨rfl, hv⟩ | ⟨rfl, rfl⟩
  · obtain ⟨vb, off, cap, x, y, z, rfl, rfl, -, z0, z1, z2⟩ := h.three (vecFault_zero hv).1
    obtain ⟨bx, bY, bz⟩ := fault3 hv
    exact l3Text_put b o i s q x y z vb off cap w hc z0 z1 z2 hi hs hq bx bY bz
  · exact l3Text_drop b o i s q v w hc hi hs hq
theorem l3Text (b : Nat) (k i : Int) (v : Value) (s q : Int) (zs : List Int) (w : World) (hc : WriteAt w b k i v s q) (h : IsInts w v zs) (hf : writeFault k i zs s q = 0) :
    Calls Tryz.prog 37 #[.pointer (some ⟨b, 0, none⟩)] w fun e w' => e = .returned (str (writeText k i zs s q)) ∧ Below w.heap.size w w' :=
  l3TextO b 0 k i v s q zs w ⟨hc.1, hc.2.1, hc.2.2.1, hc.2.2.2.1, hc.2.2.2.2⟩ h hf

end Go.Proofs.YtkmfkaljdngigaaGreatDoor

namespace Go.Proofs.YtkmfkaljdngigaaGreatDoor
open Go.RowKit

structure DTextResult where
  code : Int
  text : ByteArray

def Lay.tTextResult : Lay DTextResult := Lay.via (Lay.pair Lay.int Lay.str) (fun x => (x.code, x.text)) (fun p => ⟨p.1, p.2⟩)

theorem lies_TextResult {w : World} {cs : List Value} {x : DTextResult} {bl : List Nat} : Lay.tTextResult.lies w cs x bl ↔ cs = [.int .i64 x.code, .string x.text] ∧ bl = [] ∧ (Lit.int .i64 x.code).wf = true := by
  constructor
  · intro h
    obtain ⟨c0_, r0_, e0_, s0_, rfl, rfl, h0, h1⟩ := h
    obtain ⟨rfl, w0, rfl⟩ := h0
    obtain ⟨rfl, rfl⟩ := h1
    exact ⟨by simp, by simp, w0⟩
  · rintro ⟨rfl, hbl, w0⟩
    rw [hbl]
    exact ⟨[.int .i64 x.code], [.string x.text], [], [], rfl, by simp, ⟨rfl, w0, rfl⟩, ⟨rfl, rfl⟩⟩

end Go.Proofs.YtkmfkaljdngigaaGreatDoor

namespace Go.Proofs.YtkmfkaljdngigaaGreatDoor
open Go.RowKit

def restM (x : DMsg) : Bytes := [32] ++ dec x.epoch ++ [32] ++ dec x.src ++ [32] ++ dec x.dst ++ [32] ++ dec x.index
def wtext (y : DWrite) : Bytes := writeText y.kind y.id y.vec y.session y.seq
def textM (x : DMsg) : Bytes := if x.kind = 2 then [97, 99, 107] ++ restM x else [102, 111, 114, 119, 97, 114, 100] ++ restM x ++ [32] ++ wtext x.write
def textMR (x : DMsg) : DTextResult := if msgFault x = 0 then ⟨0, ⟨(textM x).toArray⟩⟩ else ⟨msgFault x, ⟨#[]⟩⟩
/-- A message without a fault. -/
structure MsgOK (x : DMsg) : Prop where
  epoch : 1 ≤ x.epoch ∧ x.epoch ≤ 999
  src : 1 ≤ x.src ∧ x.src ≤ 5
  dst : 1 ≤ x.dst ∧ x.dst ≤ 5
  index : 0 ≤ x.index ∧ x.index ≤ 40
  kind : x.kind = 2 ∨ x.kind = 1 ∧ wF x.write = 0
theorem msgFault_ok {x : DMsg} (h : msgFault x = 0) : MsgOK x := by
  unfold msgFault at h
  split at h
  · simp at h
  · rename_i h1
    split at h
    · simp at h
    · rename_i h2
      have hk : 1 ≤ x.kind ∧ x.kind ≤ 2 := Decidable.byContradiction fun q => h1 (Or.inl q)
      refine ⟨Decidable.byContradiction fun q => h2 (Or.inl q), Decidable.byContradiction fun q => h2 (Or.inr (Or.inl q)), Decidable.byContradiction fun q => h2 (Or.inr (Or.inr (Or.inl q))), Decidable.byContradiction fun q => h2 (Or.inr (Or.inr (Or.inr (Or.inl q)))), ?_⟩
      split at h
      · exact Or.inl ‹_›
      · exact Or.inr ⟨by omega, h⟩
theorem restM_len (x : DMsg) : (restM x).length ≤ 24 := by
  have := dec_len x.epoch
  have := dec_len x.src
  have := dec_len x.dst
  have := dec_len x.index
  simp [restM]
  omega
theorem wtext_len (y : DWrite) : (wtext y).length ≤ 60 := by
  have h := writeText_len y.kind y.id y.vec y.session y.seq
  exact Nat.le_trans h (by omega)
theorem lies_textRM {w : World} {c : Int} {s : ByteArray} {lo hi : Nat} (hc : (Lit.int .i64 c).wf = true) : Lay.tTextResult.OwnIn w [.int .i64 c, .string s] ⟨c, s⟩ lo hi :=
  ⟨[], ⟨lies_TextResult.2 ⟨rfl, rfl, hc⟩, by simp, by simp⟩, by simp⟩
end Go.Proofs.YtkmfkaljdngigaaGreatDoor

namespace Go.Proofs.YtkmfkaljdngigaaGreatDoor
open Go.RowKit

set_option maxRecDepth 100000 in
set_option maxHeartbeats 4000000 in
theorem specMText_ok (a2 : Option Addr) (d2 : Nat) (x : DMsg) (w : World) (RX : (Lay.sl Lay.int).Reads w [.slice a2 x.write.vec.length d2] x.write.vec) (hm : msgFault x = 0) :
    Calls Tryz.prog 12 #[.agg #[.int .i64 x.kind, .int .i64 x.epoch, .int .i64 x.src, .int .i64 x.dst, .int .i64 x.index, .int .i64 x.write.kind, .int .i64 x.write.id, .slice a2 x.write.vec.length d2, .int .i64 x.write.session, .int .i64 x.write.seq]] w fun e w' => e = .returned (.agg #[.int .i64 0, .string ⟨(textM x).toArray⟩]) ∧ Below w.heap.size w w' := by
  have nb : Below w.heap.size w ((w.alloc (.cells #[.int .i64 x.kind, .int .i64 x.epoch, .int .i64 x.src, .int .i64 x.dst, .int .i64 x.index, .int .i64 x.write.kind, .int .i64 x.write.id, .slice a2 x.write.vec.length d2, .int .i64 x.write.session, .int .i64 x.write.seq] 29)).alloc (.cells #[.int .i64 0, .string ⟨#[]⟩] 40)) := ((Below.refl _ _).alloc (Nat.le_refl _) _).alloc (by simp) _
  have hX : Box 0 #[.int .i64 x.kind, .int .i64 x.epoch, .int .i64 x.src, .int .i64 x.dst, .int .i64 x.index, .int .i64 x.write.kind, .int .i64 x.write.id, .slice a2 x.write.vec.length d2, .int .i64 x.write.session, .int .i64 x.write.seq] 29 ((w.alloc (.cells #[.int .i64 x.kind, .int .i64 x.epoch, .int .i64 x.src, .int .i64 x.dst, .int .i64 x.index, .int .i64 x.write.kind, .int .i64 x.write.id, .slice a2 x.write.vec.length d2, .int .i64 x.write.session, .int .i64 x.write.seq] 29)).alloc (.cells #[.int .i64 0, .string ⟨#[]⟩] 40)) w.heap.size := (newBox (Nat.zero_le _)).grow _
  have bR : Box 0 #[.int .i64 0, .string ⟨#[]⟩] 40 ((w.alloc (.cells #[.int .i64 x.kind, .int .i64 x.epoch, .int .i64 x.src, .int .i64 x.dst, .int .i64 x.index, .int .i64 x.write.kind, .int .i64 x.write.id, .slice a2 x.write.vec.length d2, .int .i64 x.write.session, .int .i64 x.write.seq] 29)).alloc (.cells #[.int .i64 0, .string ⟨#[]⟩] 40)) (w.heap.size + 1) := newBoxAt (Nat.zero_le _) (by simp)
  have HF := hide (l11MsgC w.heap.size 0 a2 d2 x _ (msgAt_box hX) (RX.later nb))
  rw [hm] at HF
  have HRX := hide RX
  have HB := hide nb
  have HX := hide hX
  have HR := hide bR
  have ok := msgFault_ok hm
  obtain ⟨b1, b2, b3, b4, hk⟩ := ok
  have D1 : Hid (∀ W, Calls Tryz.prog 36 #[.int .i64 x.epoch] W fun e w' => e = .returned (str (dec x.epoch)) ∧ Below W.heap.size W w') := fun W => digits x.epoch W (by omega) (by omega)
  have D2 : Hid (∀ W, Calls Tryz.prog 36 #[.int .i64 x.src] W fun e w' => e = .returned (str (dec x.src)) ∧ Below W.heap.size W w') := fun W => digits x.src W (by omega) (by omega)
  have D3 : Hid (∀ W, Calls Tryz.prog 36 #[.int .i64 x.dst] W fun e w' => e = .returned (str (dec x.dst)) ∧ Below W.heap.size W w') := fun W => digits x.dst W (by omega) (by omega)
  have D4 : Hid (∀ W, Calls Tryz.prog 36 #[.int .i64 x.index] W fun e w' => e = .returned (str (dec x.index)) ∧ Below W.heap.size W w') := fun W => digits x.index W (by omega) (by omega)
  simp only [str] at D1 D2 D3 D4
  have l1 := dec_len x.epoch
  have l2 := dec_len x.src
  have l3 := dec_len x.dst
  have l4 := dec_len x.index
  have lw := wtext_len x.write
  have HTX : Hid (textM x = if x.kind = 2 then [97, 99, 107] ++ ([32] ++ dec x.epoch ++ [32] ++ dec x.src ++ [32] ++ dec x.dst ++ [32] ++ dec x.index) else [102, 111, 114, 119, 97, 114, 100] ++ ([32] ++ dec x.epoch ++ [32] ++ dec x.src ++ [32] ++ dec x.dst ++ [32] ++ dec x.index) ++ [32] ++ wtext x.write) := rfl
  have HWT : Hid (x.kind = 1 → ∀ W, Below w.heap.size w W → Box 0 #[.int .i64 x.kind, .int .i64 x.epoch, .int .i64 x.src, .int .i64 x.dst, .int .i64 x.index, .int .i64 x.write.kind, .int .i64 x.write.id, .slice a2 x.write.vec.length d2, .int .i64 x.write.session, .int .i64 x.write.seq] 29 W w.heap.size → Calls Tryz.prog 37 #[.pointer (some ⟨w.heap.size, 5, none⟩)] W fun e w' => e = .returned (.string ⟨(wtext x.write).toArray⟩) ∧ Below W.heap.size W w') := fun q W hW hXW => by
    have hwf : wF x.write = 0 := by rcases hk with h | h; omega; exact h.2
    have q := msgAt_box hXW
    exact l3TextO w.heap.size 5 x.write.kind x.write.id _ x.write.session x.write.seq x.write.vec W ⟨q.2.2.2.2.2.1, q.2.2.2.2.2.2.1, q.2.2.2.2.2.2.2.1, q.2.2.2.2.2.2.2.2.1, q.2.2.2.2.2.2.2.2.2⟩ (Lay.ints_reads (RX.later hW)) hwf
  have hk2 : x.kind = 2 ∨ x.kind = 1 := by rcases hk with h | h; exact Or.inl h; exact Or.inr h.1
  generalize dec x.epoch = de at *
  generalize dec x.src = ds at *
  generalize dec x.dst = dt at *
  generalize dec x.index = di at *
  generalize wtext x.write = wt at *
  obtain ⟨p1, h1⟩ : ∃ p1, [32] ++ de = p1 := ⟨_, rfl⟩
  obtain ⟨p2, h2⟩ : ∃ p2, p1 ++ [32] = p2 := ⟨_, rfl⟩
  obtain ⟨p3, h3⟩ : ∃ p3, p2 ++ ds = p3 := ⟨_, rfl⟩
  obtain ⟨p4, h4⟩ : ∃ p4, p3 ++ [32] = p4 := ⟨_, rfl⟩
  obtain ⟨p5, h5⟩ : ∃ p5, p4 ++ dt = p5 := ⟨_, rfl⟩
  obtain ⟨p6, h6⟩ : ∃ p6, p5 ++ [32] = p6 := ⟨_, rfl⟩
  obtain ⟨p7, h7⟩ : ∃ p7, p6 ++ di = p7 := ⟨_, rfl⟩
  have e1 : p1.length ≤ 10 := by rw [← h1]; simp; omega
  have e2 : p2.length ≤ 20 := by rw [← h2]; simp; omega
  have e3 : p3.length ≤ 30 := by rw [← h3]; simp; omega
  have e4 : p4.length ≤ 40 := by rw [← h4]; simp; omega
  have e5 : p5.length ≤ 50 := by rw [← h5]; simp; omega
  have e6 : p6.length ≤ 60 := by rw [← h6]; simp; omega
  have e7 : p7.length ≤ 70 := by rw [← h7]; simp; omega
  have s1 := addS h1 (by omega)
  have s2 := addS h2 (by omega)
  have s3 := addS h3 (by omega)
  have s4 := addS h4 (by omega)
  have s5 := addS h5 (by omega)
  have s6 := addS h6 (by omega)
  have s7 := addS h7 (by omega)
  replace HTX : Hid (textM x = if x.kind = 2 then [97, 99, 107] ++ p7 else [102, 111, 114, 119, 97, 114, 100] ++ p7 ++ [32] ++ wt) := by
    have q := unhide HTX
    rw [h1, h2, h3, h4, h5, h6, h7] at q
    exact q
  clear h1 h2 h3 h4 h5 h6 h7 e1 e2 e3 e4 e5 e6 l1 l2 l3 l4 hm nb hX bR RX hk
  go_enter Tryz.func12, Tryz.ntmps12
  go_wp2_with fail
  generalize (w.alloc (.cells #[.int .i64 x.kind, .int .i64 x.epoch, .int .i64 x.src, .int .i64 x.dst, .int .i64 x.index, .int .i64 x.write.kind, .int .i64 x.write.id, .slice a2 x.write.vec.length d2, .int .i64 x.write.session, .int .i64 x.write.seq] 29)).alloc (.cells #[.int .i64 0, .string ⟨#[]⟩] 40) = W0 at *
  refine (unhide HF).mono ?_
  rintro e W ⟨rfl, hb⟩
  replace HX := hide ((unhide HX).keep hb)
  replace HR := hide ((unhide HR).keep hb)
  replace HB := hide ((unhide HB).trans (hb.mono (unhide HB).size))
  clear HF hb
  have hxl := (unhide HX).lt
  have c1 : W.cell? ⟨w.heap.size, 1, none⟩ = some (.int .i64 x.epoch) := (unhide HX).at 1 _ rfl
  have c2 : W.cell? ⟨w.heap.size, 2, none⟩ = some (.int .i64 x.src) := (unhide HX).at 2 _ rfl
  have c3 : W.cell? ⟨w.heap.size, 3, none⟩ = some (.int .i64 x.dst) := (unhide HX).at 3 _ rfl
  have c4 : W.cell? ⟨w.heap.size, 4, none⟩ = some (.int .i64 x.index) := (unhide HX).at 4 _ rfl
  go_upto_region 4 with fail
  go_cut [4] from 10 to 28 (fun s4 wx => ∃ wz, wz = wx ∧ s4 = .string ⟨p7.toArray⟩ ∧ Below W.heap.size W wx)
  case first =>
    refine wp_region_noPanic ?_
    refine wp_region_held_drew (S := fun w' => Below W.heap.size W w') (by kernel_rfl) (Below.refl _ _).drew (fun hHeld => ?_)
    generalize W.drew = wD at hHeld ⊢
    refine wpAnyH_take (i := 0) (oi := { dst := some 10, op := Go.Op.fieldAddr 29 (Go.Operand.tmp 1) 1, type := 0, pos := "l11_net.go:107", after := #[], guard := none }) (v := ?v0_1) rfl (by kernel_rfl) (by kernel_rfl) (by kernel_rfl) (fun _ _ _ h => h) (Or.inl ⟨by rfl, ?h0_1⟩) hHeld ?r0_1
    case h0_1 =>
      intro wS hSw
      (try dsimp only at hSw)
      go_simp
      try with_reducible rfl
    case r0_1 =>
    simp only [Act.put, List.setIfInBounds_toArray, List.set_cons_zero, List.set_cons_succ]
    refine wpAnyH_take (i := 1) (oi := { dst := some 11, op := Go.Op.load 2 (Go.Operand.tmp 10), type := 2, pos := "l11_net.go:107", after := #[{ on := 0, ground := Go.Ground.data }], guard := none }) (v := ?v1_2) rfl (by kernel_rfl) (by kernel_rfl) (by kernel_rfl) (fun _ _ _ h => h) (Or.inl ⟨by rfl, ?h1_2⟩) hHeld ?r1_2
    case h1_2 =>
      intro wS hSw
      have q := (hSw.cell (p := ⟨w.heap.size, 1, none⟩) hxl).trans c1
      clear hSw
      (try dsimp only at hSw)
      go_simp
      try with_reducible rfl
    case r1_2 =>
    simp only [Act.put, List.setIfInBounds_toArray, List.set_cons_zero, List.set_cons_succ]
    refine wpAnyH_take (i := 5) (oi := { dst := some 15, op := Go.Op.fieldAddr 29 (Go.Operand.tmp 1) 2, type := 0, pos := "l11_net.go:107", after := #[], guard := none }) (v := ?v5_3) rfl (by kernel_rfl) (by kernel_rfl) (by kernel_rfl) (fun _ _ _ h => h) (Or.inl ⟨by rfl, ?h5_3⟩) hHeld ?r5_3
    case h5_3 =>
      intro wS hSw
      (try dsimp only at hSw)
      go_simp
      try with_reducible rfl
    case r5_3 =>
    simp only [Act.put, List.setIfInBounds_toArray, List.set_cons_zero, List.set_cons_succ]
    refine wpAnyH_take (i := 6) (oi := { dst := some 16, op := Go.Op.load 2 (Go.Operand.tmp 15), type := 2, pos := "l11_net.go:107", after := #[{ on := 5, ground := Go.Ground.data }], guard := none }) (v := ?v6_4) rfl (by kernel_rfl) (by kernel_rfl) (by kernel_rfl) (fun _ _ _ h => h) (Or.inl ⟨by rfl, ?h6_4⟩) hHeld ?r6_4
    case h6_4 =>
      intro wS hSw
      have q := (hSw.cell (p := ⟨w.heap.size, 2, none⟩) hxl).trans c2
      clear hSw
      (try dsimp only at hSw)
      go_simp
      try with_reducible rfl
    case r6_4 =>
    simp only [Act.put, List.setIfInBounds_toArray, List.set_cons_zero, List.set_cons_succ]
    refine wpAnyH_take (i := 10) (oi := { dst := some 20, op := Go.Op.fieldAddr 29 (Go.Operand.tmp 1) 3, type := 0, pos := "l11_net.go:107", after := #[], guard := none }) (v := ?v10_5) rfl (by kernel_rfl) (by kernel_rfl) (by kernel_rfl) (fun _ _ _ h => h) (Or.inl ⟨by rfl, ?h10_5⟩) hHeld ?r10_5
    case h10_5 =>
      intro wS hSw
      (try dsimp only at hSw)
      go_simp
      try with_reducible rfl
    case r10_5 =>
    simp only [Act.put, List.setIfInBounds_toArray, List.set_cons_zero, List.set_cons_succ]
    refine wpAnyH_take (i := 11) (oi := { dst := some 21, op := Go.Op.load 2 (Go.Operand.tmp 20), type := 2, pos := "l11_net.go:107", after := #[{ on := 10, ground := Go.Ground.data }], guard := none }) (v := ?v11_6) rfl (by kernel_rfl) (by kernel_rfl) (by kernel_rfl) (fun _ _ _ h => h) (Or.inl ⟨by rfl, ?h11_6⟩) hHeld ?r11_6
    case h11_6 =>
      intro wS hSw
      have q := (hSw.cell (p := ⟨w.heap.size, 3, none⟩) hxl).trans c3
      clear hSw
      (try dsimp only at hSw)
      go_simp
      try with_reducible rfl
    case r11_6 =>
    simp only [Act.put, List.setIfInBounds_toArray, List.set_cons_zero, List.set_cons_succ]
    refine wpAnyH_take (i := 15) (oi := { dst := some 25, op := Go.Op.fieldAddr 29 (Go.Operand.tmp 1) 4, type := 0, pos := "l11_net.go:107", after := #[], guard := none }) (v := ?v15_7) rfl (by kernel_rfl) (by kernel_rfl) (by kernel_rfl) (fun _ _ _ h => h) (Or.inl ⟨by rfl, ?h15_7⟩) hHeld ?r15_7
    case h15_7 =>
      intro wS hSw
      (try dsimp only at hSw)
      go_simp
      try with_reducible rfl
    case r15_7 =>
    simp only [Act.put, List.setIfInBounds_toArray, List.set_cons_zero, List.set_cons_succ]
    refine wpAnyH_take (i := 16) (oi := { dst := some 26, op := Go.Op.load 2 (Go.Operand.tmp 25), type := 2, pos := "l11_net.go:107", after := #[{ on := 15, ground := Go.Ground.data }], guard := none }) (v := ?v16_8) rfl (by kernel_rfl) (by kernel_rfl) (by kernel_rfl) (fun _ _ _ h => h) (Or.inl ⟨by rfl, ?h16_8⟩) hHeld ?r16_8
    case h16_8 =>
      intro wS hSw
      have q := (hSw.cell (p := ⟨w.heap.size, 4, none⟩) hxl).trans c4
      clear hSw
      (try dsimp only at hSw)
      go_simp
      try with_reducible rfl
    case r16_8 =>
    simp only [Act.put, List.setIfInBounds_toArray, List.set_cons_zero, List.set_cons_succ]
    refine wpAnyH_ready (rs := [2]) (by kernel_rfl) (by simp) ?_
    refine AllReadyH.cons (o := { dst := some 12, op := Go.Op.call { callee := Go.Callee.value (Go.Operand.func 36), args := #[Go.Operand.tmp 11], argTypes := #[2] }, type := 9, pos := "l11_net.go:107", after := #[{ on := 1, ground := Go.Ground.data }], guard := none }) rfl (fun K hK => ?_) AllReadyH.nil
    go_simp
    go_at_call 36
    refine (unhide D1 _).mono ?_
    rintro e v1 ⟨rfl, hbw⟩
    have hSv1 := hHeld.trans (hbw.mono hHeld.size)
    clear hbw
    try go_wp2_with fail
    refine hK.out _ _ hSv1 (fun hHeld => ?_)
    clear hK K
    try simp only [Act.put, List.setIfInBounds_toArray, List.set_cons_zero, List.set_cons_succ]
    refine wpAnyH_take (i := 3) (oi := { dst := some 13, op := Go.Op.binOp Go.BinOp.add 9 (Go.Operand.const (Go.Value.string { data := #[32] })) (Go.Operand.tmp 12) 9, type := 9, pos := "l11_net.go:107", after := #[{ on := 2, ground := Go.Ground.data }], guard := none }) (v := ?v3_9) rfl (by kernel_rfl) (by kernel_rfl) (by kernel_rfl) (fun _ _ _ h => h) (Or.inl ⟨by rfl, ?h3_9⟩) hHeld ?r3_9
    case h3_9 =>
      intro wS hSw
      clear hSw
      (try dsimp only at hSw)
      go_simp
      try with_reducible rfl
    case r3_9 =>
    simp only [Act.put, List.setIfInBounds_toArray, List.set_cons_zero, List.set_cons_succ]
    refine wpAnyH_take (i := 4) (oi := { dst := some 14, op := Go.Op.binOp Go.BinOp.add 9 (Go.Operand.tmp 13) (Go.Operand.const (Go.Value.string { data := #[32] })) 9, type := 9, pos := "l11_net.go:107", after := #[{ on := 3, ground := Go.Ground.data }], guard := none }) (v := ?v4_10) rfl (by kernel_rfl) (by kernel_rfl) (by kernel_rfl) (fun _ _ _ h => h) (Or.inl ⟨by rfl, ?h4_10⟩) hHeld ?r4_10
    case h4_10 =>
      intro wS hSw
      clear hSw
      (try dsimp only at hSw)
      go_simp
      try with_reducible rfl
    case r4_10 =>
    simp only [Act.put, List.setIfInBounds_toArray, List.set_cons_zero, List.set_cons_succ]
    refine wpAnyH_ready (rs := [7]) (by kernel_rfl) (by simp) ?_
    refine AllReadyH.cons (o := { dst := some 17, op := Go.Op.call { callee := Go.Callee.value (Go.Operand.func 36), args := #[Go.Operand.tmp 16], argTypes := #[2] }, type := 9, pos := "l11_net.go:107", after := #[{ on := 6, ground := Go.Ground.data }, { on := 2, ground := Go.Ground.chain }], guard := none }) rfl (fun K hK => ?_) AllReadyH.nil
    go_simp
    go_at_call 36
    refine (unhide D2 _).mono ?_
    rintro e v2 ⟨rfl, hbw⟩
    have hSv2 := hHeld.trans (hbw.mono hHeld.size)
    clear hbw
    try go_wp2_with fail
    refine hK.out _ _ hSv2 (fun hHeld => ?_)
    clear hK K
    try simp only [Act.put, List.setIfInBounds_toArray, List.set_cons_zero, List.set_cons_succ]
    refine wpAnyH_take (i := 8) (oi := { dst := some 18, op := Go.Op.binOp Go.BinOp.add 9 (Go.Operand.tmp 14) (Go.Operand.tmp 17) 9, type := 9, pos := "l11_net.go:107", after := #[{ on := 4, ground := Go.Ground.data }, { on := 7, ground := Go.Ground.data }], guard := none }) (v := ?v8_11) rfl (by kernel_rfl) (by kernel_rfl) (by kernel_rfl) (fun _ _ _ h => h) (Or.inl ⟨by rfl, ?h8_11⟩) hHeld ?r8_11
    case h8_11 =>
      intro wS hSw
      clear hSw
      (try dsimp only at hSw)
      go_simp
      try with_reducible rfl
    case r8_11 =>
    simp only [Act.put, List.setIfInBounds_toArray, List.set_cons_zero, List.set_cons_succ]
    refine wpAnyH_take (i := 9) (oi := { dst := some 19, op := Go.Op.binOp Go.BinOp.add 9 (Go.Operand.tmp 18) (Go.Operand.const (Go.Value.string { data := #[32] })) 9, type := 9, pos := "l11_net.go:107", after := #[{ on := 8, ground := Go.Ground.data }], guard := none }) (v := ?v9_12) rfl (by kernel_rfl) (by kernel_rfl) (by kernel_rfl) (fun _ _ _ h => h) (Or.inl ⟨by rfl, ?h9_12⟩) hHeld ?r9_12
    case h9_12 =>
      intro wS hSw
      clear hSw
      (try dsimp only at hSw)
      go_simp
      try with_reducible rfl
    case r9_12 =>
    simp only [Act.put, List.setIfInBounds_toArray, List.set_cons_zero, List.set_cons_succ]
    refine wpAnyH_ready (rs := [12]) (by kernel_rfl) (by simp) ?_
    refine AllReadyH.cons (o := { dst := some 22, op := Go.Op.call { callee := Go.Callee.value (Go.Operand.func 36), args := #[Go.Operand.tmp 21], argTypes := #[2] }, type := 9, pos := "l11_net.go:107", after := #[{ on := 11, ground := Go.Ground.data }, { on := 7, ground := Go.Ground.chain }], guard := none }) rfl (fun K hK => ?_) AllReadyH.nil
    go_simp
    go_at_call 36
    refine (unhide D3 _).mono ?_
    rintro e v3 ⟨rfl, hbw⟩
    have hSv3 := hHeld.trans (hbw.mono hHeld.size)
    clear hbw
    try go_wp2_with fail
    refine hK.out _ _ hSv3 (fun hHeld => ?_)
    clear hK K
    try simp only [Act.put, List.setIfInBounds_toArray, List.set_cons_zero, List.set_cons_succ]
    refine wpAnyH_take (i := 13) (oi := { dst := some 23, op := Go.Op.binOp Go.BinOp.add 9 (Go.Operand.tmp 19) (Go.Operand.tmp 22) 9, type := 9, pos := "l11_net.go:107", after := #[{ on := 9, ground := Go.Ground.data }, { on := 12, ground := Go.Ground.data }], guard := none }) (v := ?v13_13) rfl (by kernel_rfl) (by kernel_rfl) (by kernel_rfl) (fun _ _ _ h => h) (Or.inl ⟨by rfl, ?h13_13⟩) hHeld ?r13_13
    case h13_13 =>
      intro wS hSw
      clear hSw
      (try dsimp only at hSw)
      go_simp
      try with_reducible rfl
    case r13_13 =>
    simp only [Act.put, List.setIfInBounds_toArray, List.set_cons_zero, List.set_cons_succ]
    refine wpAnyH_take (i := 14) (oi := { dst := some 24, op := Go.Op.binOp Go.BinOp.add 9 (Go.Operand.tmp 23) (Go.Operand.const (Go.Value.string { data := #[32] })) 9, type := 9, pos := "l11_net.go:107", after := #[{ on := 13, ground := Go.Ground.data }], guard := none }) (v := ?v14_14) rfl (by kernel_rfl) (by kernel_rfl) (by kernel_rfl) (fun _ _ _ h => h) (Or.inl ⟨by rfl, ?h14_14⟩) hHeld ?r14_14
    case h14_14 =>
      intro wS hSw
      clear hSw
      (try dsimp only at hSw)
      go_simp
      try with_reducible rfl
    case r14_14 =>
    simp only [Act.put, List.setIfInBounds_toArray, List.set_cons_zero, List.set_cons_succ]
    refine wpAnyH_ready (rs := [17]) (by kernel_rfl) (by simp) ?_
    refine AllReadyH.cons (o := { dst := some 27, op := Go.Op.call { callee := Go.Callee.value (Go.Operand.func 36), args := #[Go.Operand.tmp 26], argTypes := #[2] }, type := 9, pos := "l11_net.go:107", after := #[{ on := 16, ground := Go.Ground.data }, { on := 12, ground := Go.Ground.chain }], guard := none }) rfl (fun K hK => ?_) AllReadyH.nil
    go_simp
    go_at_call 36
    refine (unhide D4 _).mono ?_
    rintro e v4 ⟨rfl, hbw⟩
    have hSv4 := hHeld.trans (hbw.mono hHeld.size)
    clear hbw
    try go_wp2_with fail
    refine hK.out _ _ hSv4 (fun hHeld => ?_)
    clear hK K
    try simp only [Act.put, List.setIfInBounds_toArray, List.set_cons_zero, List.set_cons_succ]
    refine wpAnyH_take (i := 18) (oi := { dst := some 28, op := Go.Op.binOp Go.BinOp.add 9 (Go.Operand.tmp 24) (Go.Operand.tmp 27) 9, type := 9, pos := "l11_net.go:107", after := #[{ on := 14, ground := Go.Ground.data }, { on := 17, ground := Go.Ground.data }], guard := none }) (v := ?v18_15) rfl (by kernel_rfl) (by kernel_rfl) (by kernel_rfl) (fun _ _ _ h => h) (Or.inl ⟨by rfl, ?h18_15⟩) hHeld ?r18_15
    case h18_15 =>
      intro wS hSw
      clear hSw
      (try dsimp only at hSw)
      go_simp
      try with_reducible rfl
    case r18_15 =>
    simp only [Act.put, List.setIfInBounds_toArray, List.set_cons_zero, List.set_cons_succ]
    refine wpAnyH_take (i := 19) (oi := { dst := some 4, op := Go.Op.assign (Go.Operand.tmp 28), type := 9, pos := "l11_net.go:107", after := #[{ on := 18, ground := Go.Ground.data }, { on := 17, ground := Go.Ground.chain }, { on := 0, ground := Go.Ground.phase }, { on := 1, ground := Go.Ground.phase }, { on := 2, ground := Go.Ground.phase }, { on := 3, ground := Go.Ground.phase }, { on := 4, ground := Go.Ground.phase }, { on := 5, ground := Go.Ground.phase }, { on := 6, ground := Go.Ground.phase }, { on := 7, ground := Go.Ground.phase }, { on := 8, ground := Go.Ground.phase }, { on := 9, ground := Go.Ground.phase }, { on := 10, ground := Go.Ground.phase }, { on := 11, ground := Go.Ground.phase }, { on := 12, ground := Go.Ground.phase }, { on := 13, ground := Go.Ground.phase }, { on := 14, ground := Go.Ground.phase }, { on := 15, ground := Go.Ground.phase }, { on := 16, ground := Go.Ground.phase }, { on := 17, ground := Go.Ground.phase }, { on := 18, ground := Go.Ground.phase }], guard := none }) (v := ?v19_16) rfl (by kernel_rfl) (by kernel_rfl) (by kernel_rfl) (fun _ _ _ h => h) (Or.inl ⟨by rfl, ?h19_16⟩) hHeld ?r19_16
    case h19_16 =>
      intro wS hSw
      (try dsimp only at hSw)
      go_simp
      try with_reducible rfl
    case r19_16 =>
    simp only [Act.put, List.setIfInBounds_toArray, List.set_cons_zero, List.set_cons_succ]
    refine wpAnyH_done (by kernel_rfl) ?_ _
    refine NoPanic.normal ?_
    have HS := hide hHeld
    clear hHeld
    go_wp2_with fail
    go_meet
    exact ⟨_, rfl, rfl, unhide HS⟩
  case rest =>
    obtain ⟨wz, rfl, rfl, hBZ⟩ := hcut
    clear s1 s2 s3 s4 s5 s6 s7 D1 D2 D3 D4 c1 c2 c3 c4
    have HXZ := hide ((unhide HX).keep hBZ)
    have HRZ := hide ((unhide HR).keep hBZ)
    have HBZ := hide ((unhide HB).trans (hBZ.mono (unhide HB).size))
    have hxz := (unhide HXZ).lt
    have c0 : wz.cell? ⟨w.heap.size, 0, none⟩ = some (.int .i64 x.kind) := (unhide HXZ).at 0 _ rfl
    clear HX HR HB hBZ hxl
    by_cases h2 : x.kind = 2
    · have HF : Hid (textM x = [97, 99, 107] ++ p7) := (unhide HTX).trans (if_pos h2)
      obtain ⟨t, ht⟩ : ∃ t, [97, 99, 107] ++ p7 = t := ⟨_, rfl⟩
      have s8 := addS ht (by rw [← ht]; simp; omega)
      rw [ht] at HF
      have hd : (x.kind == 2) = true := by simpa using h2
      have z0 : wz.cell? ⟨w.heap.size + 1, 0, none⟩ = some (.int .i64 0) := (unhide HRZ).at 0 _ rfl
      have z1 : wz.cell? ⟨w.heap.size + 1, 1, none⟩ = some (.string ⟨#[]⟩) := (unhide HRZ).at 1 _ rfl
      have ff := (unhide HRZ).soft
      have l0 := (unhide HRZ).lt
      have HB2 := hide (below_setAll (unhide HBZ) (w.heap.size + 1) 0 [.int .i64 0, .string ⟨t.toArray⟩] (by omega))
      clear HTX HWT ht h2 hk2 HRZ HXZ HBZ
      go_wp2_with fail
      refine bodyPost_ret (v := .agg #[.int .i64 0, .string ⟨t.toArray⟩]) (by simp [results, Tryz.results12, go_sem, z0, z1]) rfl ?_
      exact ⟨by rw [unhide HF], unhide HB2⟩
    · have HF : Hid (textM x = [102, 111, 114, 119, 97, 114, 100] ++ p7 ++ [32] ++ wt) := (unhide HTX).trans (if_neg h2)
      have hk1 : x.kind = 1 := by omega
      have HL := hide (unhide HWT hk1 wz (unhide HBZ) (unhide HXZ))
      obtain ⟨t1, ht1⟩ : ∃ t, [102, 111, 114, 119, 97, 114, 100] ++ p7 = t := ⟨_, rfl⟩
      obtain ⟨t2, ht2⟩ : ∃ t, t1 ++ [32] = t := ⟨_, rfl⟩
      obtain ⟨t, ht⟩ : ∃ t, t2 ++ wt = t := ⟨_, rfl⟩
      have g1 : t1.length ≤ 100 := by rw [← ht1]; simp; omega
      have g2 : t2.length ≤ 110 := by rw [← ht2]; simp; omega
      have s8 := addS ht1 (by omega)
      have s9 := addS ht2 (by omega)
      have s10 := addS ht (by rw [← ht]; simp; omega)
      rw [ht1, ht2, ht] at HF
      have hd : (x.kind == 2) = false := by simpa using h2
      clear HTX HWT ht ht1 ht2 g1 g2 h2 hk2 hk1
      go_wp2_with fail
      refine (unhide HL).mono ?_
      rintro e w9 ⟨rfl, hb⟩
      have bR := (unhide HRZ).keep hb
      have z0 : w9.cell? ⟨w.heap.size + 1, 0, none⟩ = some (.int .i64 0) := bR.at 0 _ rfl
      have z1 : w9.cell? ⟨w.heap.size + 1, 1, none⟩ = some (.string ⟨#[]⟩) := bR.at 1 _ rfl
      have ff := bR.soft
      have l0 := bR.lt
      have HB2 := hide (below_setAll ((unhide HBZ).trans (hb.mono (unhide HBZ).size)) (w.heap.size + 1) 0 [.int .i64 0, .string ⟨t.toArray⟩] (by omega))
      clear hb bR HL HRZ HXZ HBZ c0
      go_wp2_with fail
      refine bodyPost_ret (v := .agg #[.int .i64 0, .string ⟨t.toArray⟩]) (by simp [results, Tryz.results12, go_sem, z0, z1]) rfl ?_
      exact ⟨by rw [unhide HF], unhide HB2⟩

set_option maxRecDepth 10000 in
set_option maxHeartbeats 1000000 in
theorem specMText_bad (a2 : Option Addr) (d2 : Nat) (x : DMsg) (w : World) (RX : (Lay.sl Lay.int).Reads w [.slice a2 x.write.vec.length d2] x.write.vec) (hm : msgFault x ≠ 0) :
    Calls Tryz.prog 12 #[.agg #[.int .i64 x.kind, .int .i64 x.epoch, .int .i64 x.src, .int .i64 x.dst, .int .i64 x.index, .int .i64 x.write.kind, .int .i64 x.write.id, .slice a2 x.write.vec.length d2, .int .i64 x.write.session, .int .i64 x.write.seq]] w fun e w' => e = .returned (.agg #[.int .i64 (msgFault x), .string ⟨#[]⟩]) ∧ Below w.heap.size w w' := by
  have nb : Below w.heap.size w ((w.alloc (.cells #[.int .i64 x.kind, .int .i64 x.epoch, .int .i64 x.src, .int .i64 x.dst, .int .i64 x.index, .int .i64 x.write.kind, .int .i64 x.write.id, .slice a2 x.write.vec.length d2, .int .i64 x.write.session, .int .i64 x.write.seq] 29)).alloc (.cells #[.int .i64 0, .string ⟨#[]⟩] 40)) := ((Below.refl _ _).alloc (Nat.le_refl _) _).alloc (by simp) _
  have hX : Box 0 #[.int .i64 x.kind, .int .i64 x.epoch, .int .i64 x.src, .int .i64 x.dst, .int .i64 x.index, .int .i64 x.write.kind, .int .i64 x.write.id, .slice a2 x.write.vec.length d2, .int .i64 x.write.session, .int .i64 x.write.seq] 29 ((w.alloc (.cells #[.int .i64 x.kind, .int .i64 x.epoch, .int .i64 x.src, .int .i64 x.dst, .int .i64 x.index, .int .i64 x.write.kind, .int .i64 x.write.id, .slice a2 x.write.vec.length d2, .int .i64 x.write.session, .int .i64 x.write.seq] 29)).alloc (.cells #[.int .i64 0, .string ⟨#[]⟩] 40)) w.heap.size := (newBox (Nat.zero_le _)).grow _
  have bR : Box 0 #[.int .i64 0, .string ⟨#[]⟩] 40 ((w.alloc (.cells #[.int .i64 x.kind, .int .i64 x.epoch, .int .i64 x.src, .int .i64 x.dst, .int .i64 x.index, .int .i64 x.write.kind, .int .i64 x.write.id, .slice a2 x.write.vec.length d2, .int .i64 x.write.session, .int .i64 x.write.seq] 29)).alloc (.cells #[.int .i64 0, .string ⟨#[]⟩] 40)) (w.heap.size + 1) := newBoxAt (Nat.zero_le _) (by simp)
  have HF := hide (l11MsgC w.heap.size 0 a2 d2 x _ (msgAt_box hX) (RX.later nb))
  have HB := hide nb
  have HR := hide bR
  have hd : (msgFault x != 0) = true := by simpa using hm
  clear hm nb hX bR RX
  obtain ⟨f, hf⟩ : ∃ f, f = msgFault x := ⟨_, rfl⟩
  rw [← hf] at HF hd
  have HFF := hide hf
  clear hf
  go_enter Tryz.func12, Tryz.ntmps12
  go_wp2_with fail
  generalize (w.alloc (.cells #[.int .i64 x.kind, .int .i64 x.epoch, .int .i64 x.src, .int .i64 x.dst, .int .i64 x.index, .int .i64 x.write.kind, .int .i64 x.write.id, .slice a2 x.write.vec.length d2, .int .i64 x.write.session, .int .i64 x.write.seq] 29)).alloc (.cells #[.int .i64 0, .string ⟨#[]⟩] 40) = W0 at *
  refine (unhide HF).mono ?_
  rintro e W ⟨rfl, hb⟩
  have bR := (unhide HR).keep hb
  have z0 : W.cell? ⟨w.heap.size + 1, 0, none⟩ = some (.int .i64 0) := bR.at 0 _ rfl
  have z1 : W.cell? ⟨w.heap.size + 1, 1, none⟩ = some (.string ⟨#[]⟩) := bR.at 1 _ rfl
  have ff := bR.soft
  have l0 := bR.lt
  have HB2 := hide (below_setAll ((unhide HB).trans (hb.mono (unhide HB).size)) (w.heap.size + 1) 0 [.int .i64 f, .string ⟨#[]⟩] (by omega))
  clear hb bR HF HB HR
  go_wp2_with fail
  refine bodyPost_ret (v := .agg #[.int .i64 f, .string ⟨#[]⟩]) (by simp [results, Tryz.results12, go_sem, z0, z1]) rfl ?_
  exact ⟨by rw [unhide HFF], unhide HB2⟩

theorem specMsgText (cs : List Value) (x : DMsg) (w : World) (h : Lay.tMsg.Reads w cs x) :
    Calls Tryz.prog 12 #[.agg cs.toArray] w fun e w' => ∃ cs, e = .returned (.agg cs.toArray) ∧ Lay.tTextResult.OwnIn w' cs (textMR x) w.heap.size w'.heap.size ∧ Below w.heap.size w w' := by
  obtain ⟨a, d, rfl, R⟩ := open_Msg h
  by_cases hf : msgFault x = 0
  · refine (specMText_ok a d x w (write_vec R) hf).mono ?_
    rintro e w' ⟨rfl, hb⟩
    rw [textMR, if_pos hf]
    exact ⟨[_, _], rfl, lies_textRM (by decide), hb⟩
  · refine (specMText_bad a d x w (write_vec R) hf).mono ?_
    rintro e w' ⟨rfl, hb⟩
    rw [textMR, if_neg hf]
    have := msgFault_vals x
    exact ⟨[_, _], rfl, lies_textRM (wf_of_bd (by omega)), hb⟩
end Go.Proofs.YtkmfkaljdngigaaGreatDoor

namespace Go.Proofs.YtkmfkaljdngigaaGreatDoor
open Go.RowKit

/-- How what checks ends: a panic that carries the code, if there is one. -/
def wrongP (c : Int) : List PanicEntry := [{ v := .iface 109 (.agg #[.int .i64 c]), recovered := false }]
def wrongE (c : Int) : Ending := if c = 0 then .returned (.tuple #[]) else .panicked (wrongP c)
theorem wrongE_ok {c : Int} (h : c = 0) : wrongE c = .returned (.tuple #[]) := by rw [wrongE, if_pos h]
theorem wrongE_bad {c : Int} (h : c ≠ 0) : wrongE c = .panicked (wrongP c) := by rw [wrongE, if_neg h]

def workE (v : Value) (c : Int) : Ending := if c = 0 then .returned v else .panicked (wrongP c)
theorem workE_ok {v : Value} {c : Int} (h : c = 0) : workE v c = .returned v := by rw [workE, if_pos h]
theorem workE_bad {v : Value} {c : Int} (h : c ≠ 0) : workE v c = .panicked (wrongP c) := by rw [workE, if_neg h]

theorem mustT (c : Int) (w : World) :
    Calls Tryz.prog 50 #[.bool true, .int .i64 c] w fun e w' => e = .returned (.tuple #[]) ∧ w' = w := by
  go_enter Tryz.func50, Tryz.ntmps50
  go_wp2_with fail
  go_end0
  exact ⟨rfl, rfl⟩
theorem mustF (c : Int) (w : World) :
    Calls Tryz.prog 50 #[.bool false, .int .i64 c] w fun e w' => e = .panicked (wrongP c) ∧ w' = w := by
  go_enter Tryz.func50, Tryz.ntmps50
  go_wp2_with fail
  exact ⟨rfl, rfl, rfl⟩
end Go.Proofs.YtkmfkaljdngigaaGreatDoor

namespace Go.Proofs.YtkmfkaljdngigaaGreatDoor
open Go.RowKit

theorem isUpToC (n m : Int) (w : World) :
    Calls Tryz.prog 90 #[.int .i64 n, .int .i64 m] w fun e w' => e = .returned (.bool (decide (0 ≤ n) && decide (n ≤ m))) ∧ w' = w := by
  by_cases h1 : 0 ≤ n
  · have d1 : decide (0 ≤ n) = true := by simpa using h1
    rw [d1]
    cases d2 : decide (n ≤ m) <;>
    · go_enter Tryz.func90, Tryz.ntmps90
      go_wp2_with fail
      go_ret
      exact ⟨rfl, rfl⟩
  · have d1 : decide (0 ≤ n) = false := by simpa using h1
    rw [d1]
    go_enter Tryz.func90, Tryz.ntmps90
    go_wp2_with fail
    go_ret
    exact ⟨rfl, rfl⟩
end Go.Proofs.YtkmfkaljdngigaaGreatDoor

namespace Go.Proofs.YtkmfkaljdngigaaGreatDoor
open Go.RowKit

theorem isNodeIdC (n : Int) (w : World) :
    Calls Tryz.prog 71 #[.int .i64 n] w fun e w' => e = .returned (.bool (decide (1 ≤ n) && decide (n ≤ 5))) ∧ w' = w := by
  by_cases h1 : 1 ≤ n
  · have d1 : decide (1 ≤ n) = true := by simpa using h1
    rw [d1]
    cases d2 : decide (n ≤ 5) <;>
    · go_enter Tryz.func71, Tryz.ntmps71
      go_wp2_with fail
      go_ret
      exact ⟨rfl, rfl⟩
  · have d1 : decide (1 ≤ n) = false := by simpa using h1
    rw [d1]
    go_enter Tryz.func71, Tryz.ntmps71
    go_wp2_with fail
    go_ret
    exact ⟨rfl, rfl⟩
end Go.Proofs.YtkmfkaljdngigaaGreatDoor

namespace Go.Proofs.YtkmfkaljdngigaaGreatDoor
open Go.RowKit

theorem ne_at_slEqual {ps qs : List Int} {k : Nat} (h : ps.getD k 0 ≠ qs.getD k 0) : decide (ps = qs) = false := by
  simp only [decide_eq_false_iff_not]
  rintro rfl
  exact h rfl
theorem eq_all_slEqual {ps qs : List Int} (hl : ps.length = qs.length) (h : ∀ j, j < ps.length → ps.getD j 0 = qs.getD j 0) : decide (ps = qs) = true := by
  simp only [decide_eq_true_eq]
  refine List.ext_getElem hl fun j h1 h2 => ?_
  have := h j h1
  simpa [List.getD, h1, h2] using this

set_option maxHeartbeats 800000 in
theorem slEqual_pos (b off cap b2 off2 cap2 : Nat) (ps qs : List Int) (w : World) (hl : ps.length = qs.length) (hn : ps.length ≤ 9223372036854775807) (hc : ∀ j, j < ps.length → w.cell? ⟨b, off + j, none⟩ = some (.int .i64 (ps.getD j 0)))
    (hc2 : ∀ j, j < ps.length → w.cell? ⟨b2, off2 + j, none⟩ = some (.int .i64 (qs.getD j 0))) :
    Calls Tryz.prog 89 #[.slice (some ⟨b, off, none⟩) ps.length cap, .slice (some ⟨b2, off2, none⟩) ps.length cap2] w fun e w' => e = .returned (.bool (decide (ps = qs))) ∧ Below w.heap.size w w' := by
  have HL := hide hl
  clear hl
  go_enter Tryz.func89, Tryz.ntmps89
  go_wp2
  go_loopw [13] (fun i wr => ∃ k : Nat, k ≤ ps.length ∧ i = .int .i64 k ∧ Below w.heap.size w wr ∧ ∀ j, j < k → ps.getD j 0 = qs.getD j 0) (fun i _ => ps.length - (intOf i).toNat)
  case atStart => exact ⟨0, Nat.zero_le _, rfl, Below.refl _ _, fun j hj => by omega⟩
  case round =>
    obtain ⟨k, hk, rfl, hB, hq⟩ := hrel
    by_cases hlt : k < ps.length
    · have hcx : wr.cell? ⟨b, off + k, none⟩ = some (.int .i64 (ps.getD k 0)) := (hB.cell (World.block_lt_of_cell? _ _ (hc k hlt))).trans (hc k hlt)
      have hcy : wr.cell? ⟨b2, off2 + k, none⟩ = some (.int .i64 (qs.getD k 0)) := (hB.cell (World.block_lt_of_cell? _ _ (hc2 k hlt))).trans (hc2 k hlt)
      have HQ := hide hq
      have HB := hide hB
      clear hc hc2 hq hB
      by_cases he : ps.getD k 0 = qs.getD k 0
      · have HE := hide he
        rw [← he] at hcy
        clear he
        generalize ps.getD k 0 = x at hcx hcy
        have hxx : (x != x) = false := by simp
        go_wp2
        go_quiet (fail)
        go_wp2
        go_roundw
        case rel =>
          refine ⟨k + 1, by omega, by go_num, below_drewN (unhide HB) _, fun j hj => ?_⟩
          by_cases hjk : j < k
          · exact unhide HQ j hjk
          · obtain rfl : j = k := by omega
            exact unhide HE
        case measure => simp [intOf]; omega
      · have HN := hide (ne_at_slEqual he)
        have hxy : (ps.getD k 0 != qs.getD k 0) = true := by rw [bne_iff_ne]; exact he
        clear he
        generalize ps.getD k 0 = x at hcx hxy
        generalize qs.getD k 0 = y at hcy hxy
        go_wp2
        go_quiet (fail)
        go_wp2
        go_ret
        exact ⟨by rw [unhide HN]; rfl, below_drewN (unhide HB) _⟩
    · obtain rfl : k = ps.length := by omega
      have HN := hide (eq_all_slEqual (unhide HL) hq)
      have HB := hide hB
      clear hc hc2 hq hB
      go_wp2
      go_ret
      exact ⟨by rw [unhide HN]; rfl, unhide HB⟩
set_option maxHeartbeats 400000 in
theorem slEqual_len (ao ao2 : Option Addr) (n m cap cap2 : Nat) (w : World) (h : n ≠ m) :
    Calls Tryz.prog 89 #[.slice ao n cap, .slice ao2 m cap2] w fun e w' => e = .returned (.bool false) ∧ Below w.heap.size w w' := by
  have hd : ((n : Int) != (m : Int)) = true := by rw [bne_iff_ne]; omega
  go_enter Tryz.func89, Tryz.ntmps89
  go_wp2
  go_ret
  exact ⟨rfl, Below.refl _ _⟩
theorem slEqual_zero (ao ao2 : Option Addr) (cap cap2 : Nat) (w : World) :
    Calls Tryz.prog 89 #[.slice ao 0 cap, .slice ao2 0 cap2] w fun e w' => e = .returned (.bool true) ∧ Below w.heap.size w w' := by
  go_enter Tryz.func89, Tryz.ntmps89
  go_wp2
  refine wp_loop_rounds 1 ?_
  rw [rounds_succ]
  go_wp2
  go_ret
  exact ⟨rfl, Below.refl _ _⟩
/-- Whether two lists of numbers are the same. -/
theorem slEqual (v v2 : Value) (ps qs : List Int) (w : World) (h : IsInts w v ps) (h2 : IsInts w v2 qs) (hn : ps.length ≤ 9223372036854775807) :
    Calls Tryz.prog 89 #[v, v2] w fun e w' => e = .returned (.bool (decide (ps = qs))) ∧ Below w.heap.size w w' := by
  obtain ⟨ao, cap, rfl, hwf, hc⟩ := h
  obtain ⟨ao2, cap2, rfl, _, hc2⟩ := h2
  by_cases hl : ps.length = qs.length
  · by_cases hp : 0 < ps.length
    · obtain ⟨b, off, rfl, hc1⟩ := hc hp
      obtain ⟨b2, off2, rfl, hc3⟩ := hc2 (by omega)
      rw [← hl] at hc3 ⊢
      exact slEqual_pos b off cap b2 off2 cap2 ps qs w hl hn hc1 hc3
    · obtain rfl : ps = [] := List.eq_nil_of_length_eq_zero (by omega)
      obtain rfl : qs = [] := List.eq_nil_of_length_eq_zero (by simpa using hl.symm)
      exact slEqual_zero ao ao2 cap cap2 w
  · rw [show decide (ps = qs) = false by simp only [decide_eq_false_iff_not]; rintro rfl; exact hl rfl]
    exact slEqual_len ao ao2 _ _ cap cap2 w hl

end Go.Proofs.YtkmfkaljdngigaaGreatDoor

namespace Go.Proofs.YtkmfkaljdngigaaGreatDoor
open Go.RowKit

set_option maxRecDepth 10000 in
set_option maxHeartbeats 2000000 in
theorem sameWrite (cs cs2 : List Value) (x y : DWrite) (w : World) (h : Lay.tWrite.Reads w cs x) (h2 : Lay.tWrite.Reads w cs2 y) :
    Calls Tryz.prog 69 #[.agg cs.toArray, .agg cs2.toArray] w fun e w' => e = .returned (.bool (sameW x y)) ∧ Below w.heap.size w w' := by
  obtain ⟨a2, d2, rfl, R2⟩ := open_Write h
  obtain ⟨a2z, d2z, rfl, R2z⟩ := open_Write h2
  clear h h2
  have HB : Hid (Below w.heap.size w ((w.alloc (.cells #[.int .i64 x.kind, .int .i64 x.id, .slice a2 x.vec.length d2, .int .i64 x.session, .int .i64 x.seq] 27)).alloc (.cells #[.int .i64 y.kind, .int .i64 y.id, .slice a2z y.vec.length d2z, .int .i64 y.session, .int .i64 y.seq] 27))) := ((Below.refl _ _).alloc (Nat.le_refl _) _).alloc (by simp) _
  cases e0 : (x.kind == y.kind) with
  | false =>
    have HS : Hid (sameW x y = false) := by
      show sameW x y = false
      simp [sameW, e0]
    go_enter Tryz.func69, Tryz.ntmps69
    go_wp2_with fail
    go_ret
    exact ⟨by rw [unhide HS]; rfl, unhide HB⟩
  | true =>
    cases e1 : (x.id == y.id) with
    | false =>
      have HS : Hid (sameW x y = false) := by
        show sameW x y = false
        simp [sameW, e0, e1]
      go_enter Tryz.func69, Tryz.ntmps69
      go_wp2_with fail
      go_ret
      exact ⟨by rw [unhide HS]; rfl, unhide HB⟩
    | true =>
      cases e2 : (x.session == y.session) with
      | false =>
        have HS : Hid (sameW x y = false) := by
          show sameW x y = false
          simp [sameW, e0, e1, e2]
        go_enter Tryz.func69, Tryz.ntmps69
        go_wp2_with fail
        go_ret
        exact ⟨by rw [unhide HS]; rfl, unhide HB⟩
      | true =>
        cases e3 : (x.seq == y.seq) with
        | false =>
          have HS : Hid (sameW x y = false) := by
            show sameW x y = false
            simp [sameW, e0, e1, e2, e3]
          go_enter Tryz.func69, Tryz.ntmps69
          go_wp2_with fail
          go_ret
          exact ⟨by rw [unhide HS]; rfl, unhide HB⟩
        | true =>
          have HS : Hid (sameW x y = decide (x.vec = y.vec)) := by
            show sameW x y = decide (x.vec = y.vec)
            simp [sameW, e0, e1, e2, e3]
          have L := hide (slEqual _ _ x.vec y.vec _ ((Lay.ints_reads R2).later (unhide HB)) ((Lay.ints_reads R2z).later (unhide HB)) R2.big)
          clear R2 R2z
          go_enter Tryz.func69, Tryz.ntmps69
          go_wp2_with fail
          refine (unhide L).mono ?_
          rintro e w1 ⟨rfl, hb⟩
          have HB1 := hide ((unhide HB).trans (hb.mono (unhide HB).size))
          clear hb L HB
          go_wp2_with fail
          go_ret
          exact ⟨by rw [unhide HS]; rfl, unhide HB1⟩
end Go.Proofs.YtkmfkaljdngigaaGreatDoor

namespace Go.Proofs.YtkmfkaljdngigaaGreatDoor
open Go.RowKit

/-- A put of three parts, and a drop, as deeds. -/
def putV (x y z : Int) : Value := .iface 134 (.agg #[.int .i64 x, .int .i64 y, .int .i64 z])
def dropV : Value := .iface 128 (.agg #[])
def deedV (k : Int) (zs : List Int) : Value := if k = 1 then putV (zs.getD 0 0) (zs.getD 1 0) (zs.getD 2 0) else dropV
def deedRes (k i : Int) (zs : List Int) (s q : Int) : Value := if writeFault k i zs s q = 0 then deedV k zs else .nilIface

def Bds (i s q : Int) : Prop := (1 ≤ i ∧ i ≤ 999) ∧ (1 ≤ s ∧ s ≤ 9) ∧ 1 ≤ q ∧ q ≤ 999
theorem bound_yes {i s q : Int} (h : Bds i s q) : boundB i s q = true := by
  obtain ⟨⟨a, b⟩, ⟨c, d⟩, e, f⟩ := h
  simp [boundB, a, b, c, d, e, f]
theorem bound_no {i s q : Int} (h : ¬ Bds i s q) : boundB i s q = false := by
  rw [Bool.eq_false_iff]
  intro hb
  simp only [boundB, Bool.and_eq_true, decide_eq_true_eq] at hb
  exact h ⟨hb.1, hb.2.1, hb.2.2⟩
theorem fault_out {k i s q : Int} {zs : List Int} (hk : kindB k zs.length = true) (h : ¬ Bds i s q) : writeFault k i zs s q = 3 := by
  rw [writeFault, hk, if_pos rfl, bound_no h]; rfl
theorem fault_drop {i s q : Int} (h : Bds i s q) : writeFault 2 i [] s q = 0 := by
  rw [writeFault, show kindB 2 ([] : List Int).length = true from rfl, if_pos rfl, bound_yes h]; rfl
theorem fault_in {k i s q : Int} {zs : List Int} (hk : kindB k zs.length = true) (h : Bds i s q) : writeFault k i zs s q = if k = 1 then vecFault zs else 0 := by
  rw [writeFault, hk, if_pos rfl, bound_yes h, if_pos rfl]

def ToldDeed (w w' : World) (e : Ending) (k i : Int) (zs : List Int) (s q : Int) : Prop := e = .returned (.tuple #[deedRes k i zs s q, .int .i64 (writeFault k i zs s q)]) ∧ Below w.heap.size w w'
theorem toldDeed_bad {w w' : World} {k i s q c : Int} {zs : List Int} (hc : writeFault k i zs s q = c) (h0 : c ≠ 0) (hb : Below w.heap.size w w') : ToldDeed w w' (.returned (.tuple #[.nilIface, .int .i64 c])) k i zs s q := by
  refine ⟨?_, hb⟩
  rw [deedRes, hc, if_neg h0]
theorem toldDeed_ok {w w' : World} {k i s q : Int} {zs : List Int} {v : Value} (hc : writeFault k i zs s q = 0) (hv : v = deedV k zs) (hb : Below w.heap.size w w') : ToldDeed w w' (.returned (.tuple #[v, .int .i64 0])) k i zs s q := by
  refine ⟨?_, hb⟩
  rw [deedRes, hc, if_pos rfl, hv]

theorem isIdC (n : Int) (w : World) : Calls Tryz.prog 95 #[.int .i64 n] w fun e w' => e = .returned (.bool (decide (1 ≤ n) && decide (n ≤ 999))) ∧ w' = w := by
  by_cases h1 : 1 ≤ n
  · have d1 : decide (1 ≤ n) = true := by simpa using h1
    rw [d1]
    cases d2 : decide (n ≤ 999) <;>
    · go_enter Tryz.func95, Tryz.ntmps95
      go_wp2
      go_ret
      exact ⟨rfl, rfl⟩
  · have d1 : decide (1 ≤ n) = false := by simpa using h1
    rw [d1]
    go_enter Tryz.func95, Tryz.ntmps95
    go_wp2
    go_ret
    exact ⟨rfl, rfl⟩
theorem isSessionC (n : Int) (w : World) : Calls Tryz.prog 96 #[.int .i64 n] w fun e w' => e = .returned (.bool (decide (1 ≤ n) && decide (n ≤ 9))) ∧ w' = w := by
  by_cases h1 : 1 ≤ n
  · have d1 : decide (1 ≤ n) = true := by simpa using h1
    rw [d1]
    cases d2 : decide (n ≤ 9) <;>
    · go_enter Tryz.func96, Tryz.ntmps96
      go_wp2
      go_ret
      exact ⟨rfl, rfl⟩
  · have d1 : decide (1 ≤ n) = false := by simpa using h1
    rw [d1]
    go_enter Tryz.func96, Tryz.ntmps96
    go_wp2
    go_ret
    exact ⟨rfl, rfl⟩
theorem isSeqC (n : Int) (w : World) : Calls Tryz.prog 97 #[.int .i64 n] w fun e w' => e = .returned (.bool (decide (1 ≤ n) && decide (n ≤ 999))) ∧ w' = w := by
  by_cases h1 : 1 ≤ n
  · have d1 : decide (1 ≤ n) = true := by simpa using h1
    rw [d1]
    cases d2 : decide (n ≤ 999) <;>
    · go_enter Tryz.func97, Tryz.ntmps97
      go_wp2
      go_ret
      exact ⟨rfl, rfl⟩
  · have d1 : decide (1 ≤ n) = false := by simpa using h1
    rw [d1]
    go_enter Tryz.func97, Tryz.ntmps97
    go_wp2
    go_ret
    exact ⟨rfl, rfl⟩

set_option maxHeartbeats 2000000 in
theorem deedOf_put_out (i : Int) (ao : Option Addr) (cap : Nat) (s q : Int) (zs : List Int) (w : World) (hb : ¬ Bds i s q) :
    Calls Tryz.prog 85 #[.agg #[.int .i64 1, .int .i64 i, .slice ao zs.length cap, .int .i64 s, .int .i64 q]] w fun e w' => ToldDeed w w' e 1 i zs s q := by
  have HB : Hid (∀ o, Below w.heap.size w (w.alloc o)) := fun o => (Below.refl _ _).alloc (Nat.le_refl _) o
  have HF : Hid (writeFault 1 i zs s q = 3) := fault_out rfl hb
  have hbb := bound_no hb
  unfold boundB at hbb
  clear hb
  cases dI : (decide (1 ≤ i) && decide (i ≤ 999)) with
  | false =>
    clear hbb
    go_enter Tryz.func85, Tryz.ntmps85
    go_wp2_with fail
    refine (isIdC i _).mono ?_
    rintro e w1 ⟨rfl, rfl⟩
    rw [dI]
    go_wp2_with fail
    go_ret2
    exact toldDeed_bad (unhide HF) (by omega) (unhide HB _)
  | true =>
    cases dS : (decide (1 ≤ s) && decide (s ≤ 9)) with
    | false =>
      clear hbb
      go_enter Tryz.func85, Tryz.ntmps85
      go_wp2_with fail
      refine (isIdC i _).mono ?_
      rintro e w1 ⟨rfl, rfl⟩
      rw [dI]
      go_wp2_with fail
      refine (isSessionC s _).mono ?_
      rintro e w1 ⟨rfl, rfl⟩
      rw [dS]
      go_wp2_with fail
      go_ret2
      exact toldDeed_bad (unhide HF) (by omega) (unhide HB _)
    | true =>
      have dQ : (decide (1 ≤ q) && decide (q ≤ 999)) = false := by rw [dI, dS] at hbb; simpa using hbb
      clear hbb
      go_enter Tryz.func85, Tryz.ntmps85
      go_wp2_with fail
      refine (isIdC i _).mono ?_
      rintro e w1 ⟨rfl, rfl⟩
      rw [dI]
      go_wp2_with fail
      refine (isSessionC s _).mono ?_
      rintro e w1 ⟨rfl, rfl⟩
      rw [dS]
      go_wp2_with fail
      refine (isSeqC q _).mono ?_
      rintro e w1 ⟨rfl, rfl⟩
      rw [dQ]
      go_wp2_with fail
      go_ret2
      exact toldDeed_bad (unhide HF) (by omega) (unhide HB _)

set_option maxHeartbeats 2000000 in
theorem deedOf_drop_out (i : Int) (ao : Option Addr) (cap : Nat) (s q : Int) (w : World) (hb : ¬ Bds i s q) :
    Calls Tryz.prog 85 #[.agg #[.int .i64 2, .int .i64 i, .slice ao 0 cap, .int .i64 s, .int .i64 q]] w fun e w' => ToldDeed w w' e 2 i [] s q := by
  have HB : Hid (∀ o, Below w.heap.size w (w.alloc o)) := fun o => (Below.refl _ _).alloc (Nat.le_refl _) o
  have HF : Hid (writeFault 2 i [] s q = 3) := fault_out rfl hb
  have hbb := bound_no hb
  unfold boundB at hbb
  clear hb
  cases dI : (decide (1 ≤ i) && decide (i ≤ 999)) with
  | false =>
    clear hbb
    go_enter Tryz.func85, Tryz.ntmps85
    go_wp2_with fail
    refine (isIdC i _).mono ?_
    rintro e w1 ⟨rfl, rfl⟩
    rw [dI]
    go_wp2_with fail
    go_ret2
    exact toldDeed_bad (unhide HF) (by omega) (unhide HB _)
  | true =>
    cases dS : (decide (1 ≤ s) && decide (s ≤ 9)) with
    | false =>
      clear hbb
      go_enter Tryz.func85, Tryz.ntmps85
      go_wp2_with fail
      refine (isIdC i _).mono ?_
      rintro e w1 ⟨rfl, rfl⟩
      rw [dI]
      go_wp2_with fail
      refine (isSessionC s _).mono ?_
      rintro e w1 ⟨rfl, rfl⟩
      rw [dS]
      go_wp2_with fail
      go_ret2
      exact toldDeed_bad (unhide HF) (by omega) (unhide HB _)
    | true =>
      have dQ : (decide (1 ≤ q) && decide (q ≤ 999)) = false := by rw [dI, dS] at hbb; simpa using hbb
      clear hbb
      go_enter Tryz.func85, Tryz.ntmps85
      go_wp2_with fail
      refine (isIdC i _).mono ?_
      rintro e w1 ⟨rfl, rfl⟩
      rw [dI]
      go_wp2_with fail
      refine (isSessionC s _).mono ?_
      rintro e w1 ⟨rfl, rfl⟩
      rw [dS]
      go_wp2_with fail
      refine (isSeqC q _).mono ?_
      rintro e w1 ⟨rfl, rfl⟩
      rw [dQ]
      go_wp2_with fail
      go_ret2
      exact toldDeed_bad (unhide HF) (by omega) (unhide HB _)

set_option maxHeartbeats 2000000 in
theorem deedOf_drop (i : Int) (ao : Option Addr) (cap : Nat) (s q : Int) (w : World) (hb : Bds i s q) :
    Calls Tryz.prog 85 #[.agg #[.int .i64 2, .int .i64 i, .slice ao 0 cap, .int .i64 s, .int .i64 q]] w fun e w' => ToldDeed w w' e 2 i [] s q := by
  have HB : Hid (∀ o, Below w.heap.size w (w.alloc o)) := fun o => (Below.refl _ _).alloc (Nat.le_refl _) o
  have HF : Hid (writeFault 2 i [] s q = 0) := fault_drop hb
  obtain ⟨⟨i1, i2⟩, ⟨s1, s2⟩, q1, q2⟩ := hb
  have dI : (decide (1 ≤ i) && decide (i ≤ 999)) = true := by simp [i1, i2]
  have dS : (decide (1 ≤ s) && decide (s ≤ 9)) = true := by simp [s1, s2]
  have dQ : (decide (1 ≤ q) && decide (q ≤ 999)) = true := by simp [q1, q2]
  go_enter Tryz.func85, Tryz.ntmps85
  go_wp2_with fail
  refine (isIdC i _).mono ?_
  rintro e w1 ⟨rfl, rfl⟩
  rw [dI]
  go_wp2_with fail
  refine (isSessionC s _).mono ?_
  rintro e w1 ⟨rfl, rfl⟩
  rw [dS]
  go_wp2_with fail
  refine (isSeqC q _).mono ?_
  rintro e w1 ⟨rfl, rfl⟩
  rw [dQ]
  go_wp2_with fail
  go_ret2
  exact toldDeed_ok (unhide HF) rfl (unhide HB _)

set_option maxHeartbeats 1000000 in
theorem deedOf_many (i : Int) (ao : Option Addr) (cap n : Nat) (s q : Int) (zs : List Int) (w : World) (hn : zs.length = n + 1) :
    Calls Tryz.prog 85 #[.agg #[.int .i64 2, .int .i64 i, .slice ao (n + 1) cap, .int .i64 s, .int .i64 q]] w fun e w' => ToldDeed w w' e 2 i zs s q := by
  have B0 : ∀ o, Below w.heap.size w (w.alloc o) := fun o => (Below.refl _ _).alloc (Nat.le_refl _) o
  have HB := hide B0
  have hF : writeFault 2 i zs s q = 1 := by
    have : kindB 2 zs.length = false := by simp [kindB]; omega
    rw [writeFault, this]; rfl
  have HF := hide hF
  clear B0 hF hn
  go_enter Tryz.func85, Tryz.ntmps85
  go_wp2
  go_ret2
  exact toldDeed_bad (unhide HF) (by omega) (unhide HB _)

set_option maxHeartbeats 1000000 in
theorem deedOf_none (k i : Int) (ao : Option Addr) (cap : Nat) (s q : Int) (zs : List Int) (w : World) (h1 : k ≠ 1) (h2 : k ≠ 2) :
    Calls Tryz.prog 85 #[.agg #[.int .i64 k, .int .i64 i, .slice ao zs.length cap, .int .i64 s, .int .i64 q]] w fun e w' => ToldDeed w w' e k i zs s q := by
  have B0 : ∀ o, Below w.heap.size w (w.alloc o) := fun o => (Below.refl _ _).alloc (Nat.le_refl _) o
  have HB := hide B0
  have hF : writeFault k i zs s q = 1 := by
    have : kindB k zs.length = false := by simp [kindB]; omega
    rw [writeFault, this]; rfl
  have HF := hide hF
  clear B0 hF
  go_enter Tryz.func85, Tryz.ntmps85
  go_wp2
  go_ret2
  exact toldDeed_bad (unhide HF) (by omega) (unhide HB _)

theorem vectorOf_any (v : Value) (zs : List Int) (w : World) (h : IsInts w v zs) :
    Calls Tryz.prog 98 #[v] w fun e w' => e = .returned (.tuple #[if vecFault zs = 0 then arr3 (zs.getD 0 0) (zs.getD 1 0) (zs.getD 2 0) else arr3 0 0 0, .int .i64 (vecFault zs)]) ∧ Below w.heap.size w w' := by
  by_cases hf : vecFault zs = 0
  · obtain ⟨hl, -⟩ := vecFault_zero hf
    match zs, hl with
    | [x, y, z], _ =>
      rw [if_pos hf]
      refine (vectorOf_ok v x y z w h hf).mono ?_
      rintro e w' ⟨rfl, hb⟩
      exact ⟨by rw [hf]; rfl, hb⟩
  · rw [if_neg hf]
    exact vectorOf_bad v zs w h hf

set_option maxHeartbeats 2000000 in
theorem deedOf_put (i : Int) (ao : Option Addr) (cap : Nat) (s q : Int) (zs : List Int) (w : World) (h : IsInts w (.slice ao zs.length cap) zs) (hb : Bds i s q) :
    Calls Tryz.prog 85 #[.agg #[.int .i64 1, .int .i64 i, .slice ao zs.length cap, .int .i64 s, .int .i64 q]] w fun e w' => ToldDeed w w' e 1 i zs s q := by
  have B0 : Below w.heap.size w (w.alloc (.cells #[.int .i64 1, .int .i64 i, .slice ao zs.length cap, .int .i64 s, .int .i64 q] 27)) := (Below.refl _ _).alloc (Nat.le_refl _) _
  have HB := hide B0
  have H := hide (h.later B0)
  clear h B0
  have HF : Hid (writeFault 1 i zs s q = vecFault zs) := fault_in rfl hb
  obtain ⟨⟨i1, i2⟩, ⟨s1, s2⟩, q1, q2⟩ := hb
  have dI : (decide (1 ≤ i) && decide (i ≤ 999)) = true := by simp [i1, i2]
  have dS : (decide (1 ≤ s) && decide (s ≤ 9)) = true := by simp [s1, s2]
  have dQ : (decide (1 ≤ q) && decide (q ≤ 999)) = true := by simp [q1, q2]
  go_enter Tryz.func85, Tryz.ntmps85
  go_wp2_with fail
  refine (isIdC i _).mono ?_
  rintro e w1 ⟨rfl, rfl⟩
  rw [dI]
  go_wp2_with fail
  refine (isSessionC s _).mono ?_
  rintro e w1 ⟨rfl, rfl⟩
  rw [dS]
  go_wp2_with fail
  refine (isSeqC q _).mono ?_
  rintro e w1 ⟨rfl, rfl⟩
  rw [dQ]
  go_wp2_with fail
  refine (vectorOf_any _ zs _ (unhide H)).mono ?_
  rintro e w1 ⟨rfl, hb1⟩
  have HB1 := hide ((unhide HB).trans (hb1.mono (unhide HB).size))
  have hz : w.heap.size ≤ w1.heap.size := (unhide HB1).size
  clear HB hb1 H
  generalize hV : vecFault zs = F at *
  by_cases hf : F = 0
  · subst hf
    rw [if_pos rfl]
    simp only [arr3]
    go_wp2_with fail
    go_ret2
    refine toldDeed_ok (unhide HF) ?_ ?_
    · rw [deedV, if_pos rfl]; rfl
    · exact (unhide HB1).alloc hz _
  · rw [if_neg hf]
    have hd : (F != 0) = true := by rw [bne_iff_ne]; exact hf
    have HN := hide hf
    clear hf
    simp only [arr3]
    go_wp2_with fail
    go_ret2
    exact toldDeed_bad (unhide HF) (unhide HN) ((unhide HB1).alloc hz _)

/-- deedOf of the program. -/
theorem implDeed (k i : Int) (v : Value) (s q : Int) (zs : List Int) (w : World) (h : IsInts w v zs) :
    Calls Tryz.prog 85 #[.agg #[.int .i64 k, .int .i64 i, v, .int .i64 s, .int .i64 q]] w fun e w' => ToldDeed w w' e k i zs s q := by
  have h' := h
  obtain ⟨ao, cap, rfl, -⟩ := h'
  by_cases h1 : k = 1
  · subst h1
    by_cases hb : Bds i s q
    · exact deedOf_put i ao cap s q zs w h hb
    · exact deedOf_put_out i ao cap s q zs w hb
  · by_cases h2 : k = 2
    · subst h2
      rcases Nat.eq_zero_or_pos zs.length with h0 | h0
      · obtain rfl : zs = [] := List.eq_nil_of_length_eq_zero h0
        by_cases hb : Bds i s q
        · exact deedOf_drop i ao cap s q w hb
        · exact deedOf_drop_out i ao cap s q w hb
      · obtain ⟨n, hn⟩ : ∃ n, zs.length = n + 1 := ⟨zs.length - 1, by omega⟩
        rw [hn]
        exact deedOf_many i ao cap n s q zs w hn
    · exact deedOf_none k i ao cap s q zs w h1 h2

end Go.Proofs.YtkmfkaljdngigaaGreatDoor

namespace Go.Proofs.YtkmfkaljdngigaaGreatDoor
open Go.RowKit

/-- WriteFault of the program. -/
theorem implWriteFault (k i : Int) (v : Value) (s q : Int) (zs : List Int) (w : World) (h : IsInts w v zs) :
    Calls Tryz.prog 73 #[.agg #[.int .i64 k, .int .i64 i, v, .int .i64 s, .int .i64 q]] w fun e w' => e = .returned (.int .i64 (writeFault k i zs s q)) ∧ Below w.heap.size w w' := by
  have h' := h
  obtain ⟨ao, cap, rfl, -⟩ := h'
  have B0 : Below w.heap.size w (w.alloc (.cells #[.int .i64 k, .int .i64 i, .slice ao zs.length cap, .int .i64 s, .int .i64 q] 27)) := (Below.refl _ _).alloc (Nat.le_refl _) _
  have L := hide (implDeed k i (.slice ao zs.length cap) s q zs _ (h.later B0))
  have HB := hide B0
  clear B0 h
  go_enter Tryz.func73, Tryz.ntmps73
  go_wp2_with fail
  refine (unhide L).mono ?_
  rintro e w1 ⟨rfl, hb1⟩
  have HB1 := hide ((unhide HB).trans (hb1.mono (unhide HB).size))
  clear hb1 HB L
  go_wp2_with fail
  go_ret
  exact ⟨rfl, unhide HB1⟩

end Go.Proofs.YtkmfkaljdngigaaGreatDoor

namespace Go.Proofs.YtkmfkaljdngigaaGreatDoor
open Go.RowKit

theorem isChainEpochC (n : Int) (w : World) :
    Calls Tryz.prog 70 #[.int .i64 n] w fun e w' => e = .returned (.bool (decide (1 ≤ n) && decide (n ≤ 999))) ∧ w' = w := by
  by_cases h1 : 1 ≤ n
  · have d1 : decide (1 ≤ n) = true := by simpa using h1
    rw [d1]
    cases d2 : decide (n ≤ 999) <;>
    · go_enter Tryz.func70, Tryz.ntmps70
      go_wp2_with fail
      go_ret
      exact ⟨rfl, rfl⟩
  · have d1 : decide (1 ≤ n) = false := by simpa using h1
    rw [d1]
    go_enter Tryz.func70, Tryz.ntmps70
    go_wp2_with fail
    go_ret
    exact ⟨rfl, rfl⟩
/-- Whether an index fits a message. -/
def idxB (x : DMsg) : Bool := (decide (0 ≤ x.index) && decide (x.index ≤ 40)) && (x.kind == 2 || decide (0 < x.index))
set_option maxRecDepth 10000 in
theorem isMsgIndexC (a : Option Addr) (d : Nat) (x : DMsg) (w : World) :
    Calls Tryz.prog 72 #[.agg #[.int .i64 x.kind, .int .i64 x.epoch, .int .i64 x.src, .int .i64 x.dst, .int .i64 x.index, .int .i64 x.write.kind, .int .i64 x.write.id, .slice a x.write.vec.length d, .int .i64 x.write.session, .int .i64 x.write.seq]] w fun e w' => e = .returned (.bool (idxB x)) ∧ Below w.heap.size w w' := by
  have HB : Hid (Below w.heap.size w (w.alloc (.cells #[.int .i64 x.kind, .int .i64 x.epoch, .int .i64 x.src, .int .i64 x.dst, .int .i64 x.index, .int .i64 x.write.kind, .int .i64 x.write.id, .slice a x.write.vec.length d, .int .i64 x.write.session, .int .i64 x.write.seq] 29))) := (Below.refl _ _).alloc (Nat.le_refl _) _
  have L := hide (isUpToC x.index 40 (w.alloc (.cells #[.int .i64 x.kind, .int .i64 x.epoch, .int .i64 x.src, .int .i64 x.dst, .int .i64 x.index, .int .i64 x.write.kind, .int .i64 x.write.id, .slice a x.write.vec.length d, .int .i64 x.write.session, .int .i64 x.write.seq] 29)))
  cases d1 : (decide (0 ≤ x.index) && decide (x.index ≤ 40))
  · have HI : Hid (idxB x = false) := by show idxB x = false; rw [idxB, d1]; rfl
    rw [d1] at L
    clear d1
    go_enter Tryz.func72, Tryz.ntmps72
    go_wp2_with fail
    refine (unhide L).mono ?_
    rintro e w1 ⟨rfl, h1⟩
    subst w1
    clear L
    go_wp2_with fail
    go_ret
    exact ⟨by rw [unhide HI]; rfl, unhide HB⟩
  · rw [d1] at L
    cases d2 : (x.kind == 2)
    · have HI : Hid (idxB x = decide (0 < x.index)) := by show idxB x = _; rw [idxB, d1, d2]; rfl
      clear d1
      go_enter Tryz.func72, Tryz.ntmps72
      go_wp2_with fail
      refine (unhide L).mono ?_
      rintro e w1 ⟨rfl, h1⟩
      subst w1
      clear L
      go_wp2_with fail
      go_ret
      exact ⟨by rw [unhide HI]; rfl, unhide HB⟩
    · have HI : Hid (idxB x = true) := by show idxB x = _; rw [idxB, d1, d2]; rfl
      clear d1
      go_enter Tryz.func72, Tryz.ntmps72
      go_wp2_with fail
      refine (unhide L).mono ?_
      rintro e w1 ⟨rfl, h1⟩
      subst w1
      clear L
      go_wp2_with fail
      go_ret
      exact ⟨by rw [unhide HI]; rfl, unhide HB⟩

def zeroW : DWrite := ⟨0, 0, [], 0, 0⟩
theorem sameW_zero (y : DWrite) : sameW y zeroW = true ↔ noW y := by
  constructor
  · intro h
    simp only [sameW, zeroW, Bool.and_eq_true, beq_iff_eq] at h
    exact ⟨h.1, h.2.1, h.2.2.1, h.2.2.2.1, by rw [of_decide_eq_true h.2.2.2.2]; rfl⟩
  · rintro ⟨h1, h2, h3, h4, h5⟩
    have h6 : y.vec = [] := List.eq_nil_of_length_eq_zero h5
    simp only [sameW, zeroW, Bool.and_eq_true, beq_iff_eq]
    exact ⟨h1, h2, h3, h4, decide_eq_true h6⟩
theorem zeroW_reads (w : World) : Lay.tWrite.Reads w [.int .i64 0, .int .i64 0, .slice none 0 0, .int .i64 0, .int .i64 0] zeroW :=
  ⟨[], lies_Write.2 ⟨none, 0, [], rfl, rfl, by decide, by decide, ⟨none, 0, rfl, ⟨by simp [zeroW], by simp [zeroW]⟩, Or.inl ⟨rfl, rfl⟩⟩, by decide, by decide⟩⟩

/-! What comes first. -/
theorem mfi_kind {x : DMsg} (h : (x.kind == 1) = false) (h2 : (x.kind == 2) = false) : msgFault x = 1 := by
  have h1 : ¬ x.kind = 1 := by simpa using h
  have h3 : ¬ x.kind = 2 := by simpa using h2
  rw [msgFault, if_pos (Or.inl (by omega))]
theorem mfi_self {x : DMsg} (h : (x.src != x.dst) = false) : msgFault x = 1 := by
  rw [msgFault, if_pos (Or.inr (Or.inl (by simpa using h)))]
theorem mfi_ack {x : DMsg} (h : (x.kind == 2) = true) (h2 : sameW x.write zeroW = false) : msgFault x = 1 := by
  rw [msgFault, if_pos (Or.inr (Or.inr ⟨by simpa using h, fun q => by rw [(sameW_zero _).2 q] at h2; simp at h2⟩))]
/-- The form is right. -/
def formM (x : DMsg) : Prop := (1 ≤ x.kind ∧ x.kind ≤ 2) ∧ x.src ≠ x.dst ∧ (x.kind = 2 → noW x.write)
theorem mfi_form {x : DMsg} (h : formM x) : msgFault x = if ¬ (1 ≤ x.epoch ∧ x.epoch ≤ 999) ∨ ¬ (1 ≤ x.src ∧ x.src ≤ 5) ∨ ¬ (1 ≤ x.dst ∧ x.dst ≤ 5) ∨ ¬ (0 ≤ x.index ∧ x.index ≤ 40) ∨ (x.kind ≠ 2 ∧ x.index = 0) then 3
  else if x.kind = 2 then 0 else wF x.write := by
  rw [msgFault, if_neg]
  rintro (h1 | h1 | h1)
  · exact h1 h.1
  · exact h.2.1 h1
  · exact h1.2 (h.2.2 h1.1)
theorem mfi_epoch {x : DMsg} (h : formM x) (h2 : (decide (1 ≤ x.epoch) && decide (x.epoch ≤ 999)) = false) : msgFault x = 3 := by
  rw [mfi_form h, if_pos (Or.inl fun q => by simp at h2; omega)]
theorem mfi_src {x : DMsg} (h : formM x) (h2 : (decide (1 ≤ x.src) && decide (x.src ≤ 5)) = false) : msgFault x = 3 := by
  rw [mfi_form h, if_pos (Or.inr (Or.inl fun q => by simp at h2; omega))]
theorem mfi_dst {x : DMsg} (h : formM x) (h2 : (decide (1 ≤ x.dst) && decide (x.dst ≤ 5)) = false) : msgFault x = 3 := by
  rw [mfi_form h, if_pos (Or.inr (Or.inr (Or.inl fun q => by simp at h2; omega)))]
theorem mfi_idx {x : DMsg} (h : formM x) (h2 : idxB x = false) : msgFault x = 3 := by
  rw [mfi_form h, if_pos]
  have : ¬ (0 ≤ x.index ∧ x.index ≤ 40) ∨ (x.kind ≠ 2 ∧ x.index = 0) := by
    refine Decidable.byContradiction fun q => ?_
    rw [idxB] at h2
    have q1 : 0 ≤ x.index ∧ x.index ≤ 40 := Decidable.byContradiction fun z => q (Or.inl z)
    rw [decide_eq_true q1.1, decide_eq_true q1.2] at h2
    simp at h2
    exact q (Or.inr ⟨h2.1, by omega⟩)
  exact Or.inr (Or.inr (Or.inr this))
theorem mfi_rest {x : DMsg} (h : formM x) (h1 : (decide (1 ≤ x.epoch) && decide (x.epoch ≤ 999)) = true) (h2 : (decide (1 ≤ x.src) && decide (x.src ≤ 5)) = true) (h3 : (decide (1 ≤ x.dst) && decide (x.dst ≤ 5)) = true) (h4 : idxB x = true) : msgFault x = if x.kind = 2 then 0 else wF x.write := by
  simp only [Bool.and_eq_true, decide_eq_true_eq] at h1 h2 h3
  simp only [idxB, Bool.and_eq_true, Bool.or_eq_true, decide_eq_true_eq, beq_iff_eq] at h4
  rw [mfi_form h, if_neg]
  rintro (q | q | q | q | q)
  · exact q h1
  · exact q h2
  · exact q h3
  · exact q h4.1
  · rcases h4.2 with z | z
    · exact q.1 z
    · omega
theorem vec_of {w : World} {x : DWrite} {a : Option Addr} {d : Nat} (h : Lay.tWrite.Reads w [.int .i64 x.kind, .int .i64 x.id, .slice a x.vec.length d, .int .i64 x.session, .int .i64 x.seq] x) : (Lay.sl Lay.int).Reads w [.slice a x.vec.length d] x.vec := by
  obtain ⟨a2, d2, e, R⟩ := open_Write h
  simp only [List.cons.injEq, Value.slice.injEq, and_true, true_and] at e
  obtain ⟨rfl, rfl⟩ := e
  exact R
set_option maxRecDepth 10000 in
set_option maxHeartbeats 4000000 in
theorem mustBeMsgC (cs : List Value) (x : DMsg) (w : World) (h : Lay.tMsg.Reads w cs x) :
    Calls Tryz.prog 39 #[.agg cs.toArray] w fun e w' => e = wrongE (msgFault x) ∧ Below w.heap.size w w' := by
  obtain ⟨a, d, rfl, R⟩ := open_Msg h
  have nb : Below w.heap.size w (w.alloc (.cells #[.int .i64 x.kind, .int .i64 x.epoch, .int .i64 x.src, .int .i64 x.dst, .int .i64 x.index, .int .i64 x.write.kind, .int .i64 x.write.id, .slice a x.write.vec.length d, .int .i64 x.write.session, .int .i64 x.write.seq] 29)) := (Below.refl _ _).alloc (Nat.le_refl _) _
  have HR := hide (R.later nb)
  have HB := hide nb
  have HX : Hid (Box 0 #[.int .i64 x.kind, .int .i64 x.epoch, .int .i64 x.src, .int .i64 x.dst, .int .i64 x.index, .int .i64 x.write.kind, .int .i64 x.write.id, .slice a x.write.vec.length d, .int .i64 x.write.session, .int .i64 x.write.seq] 29 (w.alloc (.cells #[.int .i64 x.kind, .int .i64 x.epoch, .int .i64 x.src, .int .i64 x.dst, .int .i64 x.index, .int .i64 x.write.kind, .int .i64 x.write.id, .slice a x.write.vec.length d, .int .i64 x.write.session, .int .i64 x.write.seq] 29)) w.heap.size) := newBox (Nat.zero_le _)
  clear R h nb
  go_enter Tryz.func39, Tryz.ntmps39
  go_upto_region 1 with fail
  generalize (w.alloc (.cells #[.int .i64 x.kind, .int .i64 x.epoch, .int .i64 x.src, .int .i64 x.dst, .int .i64 x.index, .int .i64 x.write.kind, .int .i64 x.write.id, .slice a x.write.vec.length d, .int .i64 x.write.session, .int .i64 x.write.seq] 29)) = W1 at *
  have z0 : W1.cell? ⟨w.heap.size, 0, none⟩ = some (.int .i64 x.kind) := (unhide HX).at 0 _ rfl
  have z1 : W1.cell? ⟨w.heap.size, 1, none⟩ = some (.int .i64 x.epoch) := (unhide HX).at 1 _ rfl
  have z2 : W1.cell? ⟨w.heap.size, 2, none⟩ = some (.int .i64 x.src) := (unhide HX).at 2 _ rfl
  have z3 : W1.cell? ⟨w.heap.size, 3, none⟩ = some (.int .i64 x.dst) := (unhide HX).at 3 _ rfl
  have z4 : W1.cell? ⟨w.heap.size, 4, none⟩ = some (.int .i64 x.index) := (unhide HX).at 4 _ rfl
  have z5 : W1.cell? ⟨w.heap.size, 5, none⟩ = some (.int .i64 x.write.kind) := (unhide HX).at 5 _ rfl
  have z6 : W1.cell? ⟨w.heap.size, 6, none⟩ = some (.int .i64 x.write.id) := (unhide HX).at 6 _ rfl
  have z7 : W1.cell? ⟨w.heap.size, 7, none⟩ = some (.slice a x.write.vec.length d) := (unhide HX).at 7 _ rfl
  have z8 : W1.cell? ⟨w.heap.size, 8, none⟩ = some (.int .i64 x.write.session) := (unhide HX).at 8 _ rfl
  have z9 : W1.cell? ⟨w.heap.size, 9, none⟩ = some (.int .i64 x.write.seq) := (unhide HX).at 9 _ rfl
  cases e1 : (x.kind == 1)
  · cases e2 : (x.kind == 2)
    · have HF := hide (mfi_kind e1 e2)
      go_wp2_with fail
      refine (mustF 1 _).mono ?_
      rintro e w9 ⟨rfl, h9⟩
      subst w9
      go_wp2_with fail
      exact ⟨rfl, by rw [unhide HF]; rfl, unhide HB⟩
    · go_wp2_with fail
      refine (mustT 1 _).mono ?_
      rintro e w9 ⟨rfl, h9⟩
      subst w9
      cases e3 : (x.src != x.dst)
      · have HF := hide (mfi_self e3)
        go_wp2_with fail
        refine (mustF 1 _).mono ?_
        rintro e w9 ⟨rfl, h9⟩
        subst w9
        go_wp2_with fail
        exact ⟨rfl, by rw [unhide HF]; rfl, unhide HB⟩
      · go_wp2_with fail
        refine (mustT 1 _).mono ?_
        rintro e w9 ⟨rfl, h9⟩
        subst w9
        have HL := hide (sameWrite _ _ x.write zeroW W1 (unhide HR) (zeroW_reads W1))
        go_wp2_with fail
        refine (unhide HL).mono ?_
        rintro e Wa ⟨rfl, hb⟩
        replace HX := hide ((unhide HX).keep hb)
        replace HR := hide ((unhide HR).later hb)
        replace HB := hide ((unhide HB).trans (hb.mono (unhide HB).size))
        clear hb z0 z1 z2 z3 z4 z5 z6 z7 z8 z9
        have z0 : Wa.cell? ⟨w.heap.size, 0, none⟩ = some (.int .i64 x.kind) := (unhide HX).at 0 _ rfl
        have z1 : Wa.cell? ⟨w.heap.size, 1, none⟩ = some (.int .i64 x.epoch) := (unhide HX).at 1 _ rfl
        have z2 : Wa.cell? ⟨w.heap.size, 2, none⟩ = some (.int .i64 x.src) := (unhide HX).at 2 _ rfl
        have z3 : Wa.cell? ⟨w.heap.size, 3, none⟩ = some (.int .i64 x.dst) := (unhide HX).at 3 _ rfl
        have z4 : Wa.cell? ⟨w.heap.size, 4, none⟩ = some (.int .i64 x.index) := (unhide HX).at 4 _ rfl
        have z5 : Wa.cell? ⟨w.heap.size, 5, none⟩ = some (.int .i64 x.write.kind) := (unhide HX).at 5 _ rfl
        have z6 : Wa.cell? ⟨w.heap.size, 6, none⟩ = some (.int .i64 x.write.id) := (unhide HX).at 6 _ rfl
        have z7 : Wa.cell? ⟨w.heap.size, 7, none⟩ = some (.slice a x.write.vec.length d) := (unhide HX).at 7 _ rfl
        have z8 : Wa.cell? ⟨w.heap.size, 8, none⟩ = some (.int .i64 x.write.session) := (unhide HX).at 8 _ rfl
        have z9 : Wa.cell? ⟨w.heap.size, 9, none⟩ = some (.int .i64 x.write.seq) := (unhide HX).at 9 _ rfl
        clear HL
        cases e9 : sameW x.write zeroW
        · have HF := hide (mfi_ack e2 e9)
          clear e9
          go_wp2_with fail
          refine (mustF 1 _).mono ?_
          rintro e w9 ⟨rfl, h9⟩
          subst w9
          go_wp2_with fail
          exact ⟨rfl, by rw [unhide HF]; rfl, unhide HB⟩
        · have HFM : Hid (formM x) := ⟨by simp at e2; omega, by simpa using e3, fun _ => (sameW_zero _).1 e9⟩
          clear e9
          go_wp2_with fail
          refine (mustT 1 _).mono ?_
          rintro e w9 ⟨rfl, h9⟩
          subst w9
          cases e4 : (decide (1 ≤ x.epoch) && decide (x.epoch ≤ 999))
          · have HL := hide (isChainEpochC x.epoch Wa)
            rw [e4] at HL
            have HF := hide (mfi_epoch (unhide HFM) e4)
            clear e4
            go_wp2_with fail
            refine (unhide HL).mono ?_
            rintro e w9 ⟨rfl, h9⟩
            subst w9
            clear HL
            go_wp2_with fail
            refine (mustF 3 _).mono ?_
            rintro e w9 ⟨rfl, h9⟩
            subst w9
            go_wp2_with fail
            exact ⟨rfl, by rw [unhide HF]; rfl, unhide HB⟩
          · have HL := hide (isChainEpochC x.epoch Wa)
            rw [e4] at HL
            have HE := hide e4
            clear e4
            go_wp2_with fail
            refine (unhide HL).mono ?_
            rintro e w9 ⟨rfl, h9⟩
            subst w9
            clear HL
            go_wp2_with fail
            refine (mustT 3 _).mono ?_
            rintro e w9 ⟨rfl, h9⟩
            subst w9
            cases e5 : (decide (1 ≤ x.src) && decide (x.src ≤ 5))
            · have HL := hide (isNodeIdC x.src Wa)
              rw [e5] at HL
              have HF := hide (mfi_src (unhide HFM) e5)
              clear e5
              go_wp2_with fail
              refine (unhide HL).mono ?_
              rintro e w9 ⟨rfl, h9⟩
              subst w9
              clear HL
              go_wp2_with fail
              refine (mustF 3 _).mono ?_
              rintro e w9 ⟨rfl, h9⟩
              subst w9
              go_wp2_with fail
              exact ⟨rfl, by rw [unhide HF]; rfl, unhide HB⟩
            · have HL := hide (isNodeIdC x.src Wa)
              rw [e5] at HL
              have HS := hide e5
              clear e5
              go_wp2_with fail
              refine (unhide HL).mono ?_
              rintro e w9 ⟨rfl, h9⟩
              subst w9
              clear HL
              cases e6 : (decide (1 ≤ x.dst) && decide (x.dst ≤ 5))
              · have HL := hide (isNodeIdC x.dst Wa)
                rw [e6] at HL
                have HF := hide (mfi_dst (unhide HFM) e6)
                clear e6
                go_wp2_with fail
                refine (unhide HL).mono ?_
                rintro e w9 ⟨rfl, h9⟩
                subst w9
                clear HL
                go_wp2_with fail
                refine (mustF 3 _).mono ?_
                rintro e w9 ⟨rfl, h9⟩
                subst w9
                go_wp2_with fail
                exact ⟨rfl, by rw [unhide HF]; rfl, unhide HB⟩
              · have HL := hide (isNodeIdC x.dst Wa)
                rw [e6] at HL
                have HD := hide e6
                clear e6
                go_wp2_with fail
                refine (unhide HL).mono ?_
                rintro e w9 ⟨rfl, h9⟩
                subst w9
                clear HL
                go_wp2_with fail
                refine (mustT 3 _).mono ?_
                rintro e w9 ⟨rfl, h9⟩
                subst w9
                have HL := hide (isMsgIndexC a d x Wa)
                go_wp2_with fail
                refine (unhide HL).mono ?_
                rintro e W2 ⟨rfl, hb⟩
                replace HX := hide ((unhide HX).keep hb)
                replace HR := hide ((unhide HR).later hb)
                replace HB := hide ((unhide HB).trans (hb.mono (unhide HB).size))
                clear hb z0 z1 z2 z3 z4 z5 z6 z7 z8 z9
                have z0 : W2.cell? ⟨w.heap.size, 0, none⟩ = some (.int .i64 x.kind) := (unhide HX).at 0 _ rfl
                have z1 : W2.cell? ⟨w.heap.size, 1, none⟩ = some (.int .i64 x.epoch) := (unhide HX).at 1 _ rfl
                have z2 : W2.cell? ⟨w.heap.size, 2, none⟩ = some (.int .i64 x.src) := (unhide HX).at 2 _ rfl
                have z3 : W2.cell? ⟨w.heap.size, 3, none⟩ = some (.int .i64 x.dst) := (unhide HX).at 3 _ rfl
                have z4 : W2.cell? ⟨w.heap.size, 4, none⟩ = some (.int .i64 x.index) := (unhide HX).at 4 _ rfl
                have z5 : W2.cell? ⟨w.heap.size, 5, none⟩ = some (.int .i64 x.write.kind) := (unhide HX).at 5 _ rfl
                have z6 : W2.cell? ⟨w.heap.size, 6, none⟩ = some (.int .i64 x.write.id) := (unhide HX).at 6 _ rfl
                have z7 : W2.cell? ⟨w.heap.size, 7, none⟩ = some (.slice a x.write.vec.length d) := (unhide HX).at 7 _ rfl
                have z8 : W2.cell? ⟨w.heap.size, 8, none⟩ = some (.int .i64 x.write.session) := (unhide HX).at 8 _ rfl
                have z9 : W2.cell? ⟨w.heap.size, 9, none⟩ = some (.int .i64 x.write.seq) := (unhide HX).at 9 _ rfl
                clear HL
                cases e7 : idxB x
                · have HF := hide (mfi_idx (unhide HFM) e7)
                  clear e7
                  go_wp2_with fail
                  refine (mustF 3 _).mono ?_
                  rintro e w9 ⟨rfl, h9⟩
                  subst w9
                  go_wp2_with fail
                  exact ⟨rfl, by rw [unhide HF]; rfl, unhide HB⟩
                · have HF := hide (mfi_rest (unhide HFM) (unhide HE) (unhide HS) (unhide HD) e7)
                  clear e7
                  go_wp2_with fail
                  refine (mustT 3 _).mono ?_
                  rintro e w9 ⟨rfl, h9⟩
                  subst w9
                  replace HF := hide ((unhide HF).trans (if_pos (by simpa using e2)))
                  go_wp2_with fail
                  go_end0
                  exact ⟨by rw [unhide HF]; rfl, unhide HB⟩
  · go_wp2_with fail
    refine (mustT 1 _).mono ?_
    rintro e w9 ⟨rfl, h9⟩
    subst w9
    cases e3 : (x.src != x.dst)
    · have HF := hide (mfi_self e3)
      go_wp2_with fail
      refine (mustF 1 _).mono ?_
      rintro e w9 ⟨rfl, h9⟩
      subst w9
      go_wp2_with fail
      exact ⟨rfl, by rw [unhide HF]; rfl, unhide HB⟩
    · have HFM : Hid (formM x) := ⟨by simp at e1; omega, by simpa using e3, fun q => by simp at e1; omega⟩
      go_wp2_with fail
      refine (mustT 1 _).mono ?_
      rintro e w9 ⟨rfl, h9⟩
      subst w9
      go_wp2_with fail
      refine (mustT 1 _).mono ?_
      rintro e w9 ⟨rfl, h9⟩
      subst w9
      cases e4 : (decide (1 ≤ x.epoch) && decide (x.epoch ≤ 999))
      · have HL := hide (isChainEpochC x.epoch W1)
        rw [e4] at HL
        have HF := hide (mfi_epoch (unhide HFM) e4)
        clear e4
        go_wp2_with fail
        refine (unhide HL).mono ?_
        rintro e w9 ⟨rfl, h9⟩
        subst w9
        clear HL
        go_wp2_with fail
        refine (mustF 3 _).mono ?_
        rintro e w9 ⟨rfl, h9⟩
        subst w9
        go_wp2_with fail
        exact ⟨rfl, by rw [unhide HF]; rfl, unhide HB⟩
      · have HL := hide (isChainEpochC x.epoch W1)
        rw [e4] at HL
        have HE := hide e4
        clear e4
        go_wp2_with fail
        refine (unhide HL).mono ?_
        rintro e w9 ⟨rfl, h9⟩
        subst w9
        clear HL
        go_wp2_with fail
        refine (mustT 3 _).mono ?_
        rintro e w9 ⟨rfl, h9⟩
        subst w9
        cases e5 : (decide (1 ≤ x.src) && decide (x.src ≤ 5))
        · have HL := hide (isNodeIdC x.src W1)
          rw [e5] at HL
          have HF := hide (mfi_src (unhide HFM) e5)
          clear e5
          go_wp2_with fail
          refine (unhide HL).mono ?_
          rintro e w9 ⟨rfl, h9⟩
          subst w9
          clear HL
          go_wp2_with fail
          refine (mustF 3 _).mono ?_
          rintro e w9 ⟨rfl, h9⟩
          subst w9
          go_wp2_with fail
          exact ⟨rfl, by rw [unhide HF]; rfl, unhide HB⟩
        · have HL := hide (isNodeIdC x.src W1)
          rw [e5] at HL
          have HS := hide e5
          clear e5
          go_wp2_with fail
          refine (unhide HL).mono ?_
          rintro e w9 ⟨rfl, h9⟩
          subst w9
          clear HL
          cases e6 : (decide (1 ≤ x.dst) && decide (x.dst ≤ 5))
          · have HL := hide (isNodeIdC x.dst W1)
            rw [e6] at HL
            have HF := hide (mfi_dst (unhide HFM) e6)
            clear e6
            go_wp2_with fail
            refine (unhide HL).mono ?_
            rintro e w9 ⟨rfl, h9⟩
            subst w9
            clear HL
            go_wp2_with fail
            refine (mustF 3 _).mono ?_
            rintro e w9 ⟨rfl, h9⟩
            subst w9
            go_wp2_with fail
            exact ⟨rfl, by rw [unhide HF]; rfl, unhide HB⟩
          · have HL := hide (isNodeIdC x.dst W1)
            rw [e6] at HL
            have HD := hide e6
            clear e6
            go_wp2_with fail
            refine (unhide HL).mono ?_
            rintro e w9 ⟨rfl, h9⟩
            subst w9
            clear HL
            go_wp2_with fail
            refine (mustT 3 _).mono ?_
            rintro e w9 ⟨rfl, h9⟩
            subst w9
            have HL := hide (isMsgIndexC a d x W1)
            go_wp2_with fail
            refine (unhide HL).mono ?_
            rintro e W2 ⟨rfl, hb⟩
            replace HX := hide ((unhide HX).keep hb)
            replace HR := hide ((unhide HR).later hb)
            replace HB := hide ((unhide HB).trans (hb.mono (unhide HB).size))
            clear hb z0 z1 z2 z3 z4 z5 z6 z7 z8 z9
            have z0 : W2.cell? ⟨w.heap.size, 0, none⟩ = some (.int .i64 x.kind) := (unhide HX).at 0 _ rfl
            have z1 : W2.cell? ⟨w.heap.size, 1, none⟩ = some (.int .i64 x.epoch) := (unhide HX).at 1 _ rfl
            have z2 : W2.cell? ⟨w.heap.size, 2, none⟩ = some (.int .i64 x.src) := (unhide HX).at 2 _ rfl
            have z3 : W2.cell? ⟨w.heap.size, 3, none⟩ = some (.int .i64 x.dst) := (unhide HX).at 3 _ rfl
            have z4 : W2.cell? ⟨w.heap.size, 4, none⟩ = some (.int .i64 x.index) := (unhide HX).at 4 _ rfl
            have z5 : W2.cell? ⟨w.heap.size, 5, none⟩ = some (.int .i64 x.write.kind) := (unhide HX).at 5 _ rfl
            have z6 : W2.cell? ⟨w.heap.size, 6, none⟩ = some (.int .i64 x.write.id) := (unhide HX).at 6 _ rfl
            have z7 : W2.cell? ⟨w.heap.size, 7, none⟩ = some (.slice a x.write.vec.length d) := (unhide HX).at 7 _ rfl
            have z8 : W2.cell? ⟨w.heap.size, 8, none⟩ = some (.int .i64 x.write.session) := (unhide HX).at 8 _ rfl
            have z9 : W2.cell? ⟨w.heap.size, 9, none⟩ = some (.int .i64 x.write.seq) := (unhide HX).at 9 _ rfl
            clear HL
            cases e7 : idxB x
            · have HF := hide (mfi_idx (unhide HFM) e7)
              clear e7
              go_wp2_with fail
              refine (mustF 3 _).mono ?_
              rintro e w9 ⟨rfl, h9⟩
              subst w9
              go_wp2_with fail
              exact ⟨rfl, by rw [unhide HF]; rfl, unhide HB⟩
            · have HF := hide (mfi_rest (unhide HFM) (unhide HE) (unhide HS) (unhide HD) e7)
              clear e7
              go_wp2_with fail
              refine (mustT 3 _).mono ?_
              rintro e w9 ⟨rfl, h9⟩
              subst w9
              replace HF := hide ((unhide HF).trans (if_neg (by simp at e1; omega)))
              have HL := hide (implWriteFault x.write.kind x.write.id _ x.write.session x.write.seq x.write.vec W2 (Lay.ints_reads (vec_of (unhide HR))))
              go_wp2_with fail
              refine (unhide HL).mono ?_
              rintro e W3 ⟨rfl, hb⟩
              replace HX := hide ((unhide HX).keep hb)
              replace HR := hide ((unhide HR).later hb)
              replace HB := hide ((unhide HB).trans (hb.mono (unhide HB).size))
              clear hb z0 z1 z2 z3 z4 z5 z6 z7 z8 z9
              have z0 : W3.cell? ⟨w.heap.size, 0, none⟩ = some (.int .i64 x.kind) := (unhide HX).at 0 _ rfl
              have z1 : W3.cell? ⟨w.heap.size, 1, none⟩ = some (.int .i64 x.epoch) := (unhide HX).at 1 _ rfl
              have z2 : W3.cell? ⟨w.heap.size, 2, none⟩ = some (.int .i64 x.src) := (unhide HX).at 2 _ rfl
              have z3 : W3.cell? ⟨w.heap.size, 3, none⟩ = some (.int .i64 x.dst) := (unhide HX).at 3 _ rfl
              have z4 : W3.cell? ⟨w.heap.size, 4, none⟩ = some (.int .i64 x.index) := (unhide HX).at 4 _ rfl
              have z5 : W3.cell? ⟨w.heap.size, 5, none⟩ = some (.int .i64 x.write.kind) := (unhide HX).at 5 _ rfl
              have z6 : W3.cell? ⟨w.heap.size, 6, none⟩ = some (.int .i64 x.write.id) := (unhide HX).at 6 _ rfl
              have z7 : W3.cell? ⟨w.heap.size, 7, none⟩ = some (.slice a x.write.vec.length d) := (unhide HX).at 7 _ rfl
              have z8 : W3.cell? ⟨w.heap.size, 8, none⟩ = some (.int .i64 x.write.session) := (unhide HX).at 8 _ rfl
              have z9 : W3.cell? ⟨w.heap.size, 9, none⟩ = some (.int .i64 x.write.seq) := (unhide HX).at 9 _ rfl
              clear HL
              replace HF : Hid (msgFault x = writeFault x.write.kind x.write.id x.write.vec x.write.session x.write.seq) := unhide HF
              generalize writeFault x.write.kind x.write.id x.write.vec x.write.session x.write.seq = f at *
              cases e8 : (f == 0)
              · have hf : f ≠ 0 := by simpa using e8
                have HG := hide hf
                clear hf
                go_wp2_with fail
                refine (mustF f _).mono ?_
                rintro e w9 ⟨rfl, h9⟩
                subst w9
                go_wp2_with fail
                exact ⟨rfl, by rw [unhide HF]; exact (wrongE_bad (unhide HG)).symm, unhide HB⟩
              · have hf : f = 0 := by simpa using e8
                subst hf
                clear e8
                go_wp2_with fail
                refine (mustT 0 _).mono ?_
                rintro e w9 ⟨rfl, h9⟩
                subst w9
                go_wp2_with fail
                go_end0
                exact ⟨by rw [unhide HF]; rfl, unhide HB⟩
end Go.Proofs.YtkmfkaljdngigaaGreatDoor

namespace Go.Proofs.YtkmfkaljdngigaaGreatDoor
open Go.RowKit

theorem infoS : (Tryz.prog.info? 9).map (fun i => (i.zero, i.size, i.bytes)) = some (some (.string ⟨#[]⟩), 1, 16) := by kernel_rfl

/-- At an operation of a plain region: the new texts lie in a block of their own. -/
theorem wpList_append_strs {w1 : World} {base : Nat} {v : Value} {n : Nat} {xs : List Value} (hown : w1.ownsRow base 9 1 v n xs) (cs : List ByteArray) {ops : Array Oper} {rest : List Oper} {o : Oper} {a : Act} {Q : Exit → Act → World → Prop} (hgd : o.guard = none) (s x : Operand)
    (ho : o.op = .call { callee := .builtin .append, args := #[s, x], argTypes := #[61, 61] }) (hs : a.eval s = v) (m : Nat) (hx : a.eval x = .slice (some ⟨w1.heap.size, 0, none⟩) m m) (hm : cs.length = m) (hm0 : 0 < m)
    (hn : n + m ≤ 100000000) (hbase : base ≤ w1.heap.size)
    (h : ∀ g cap w', w'.ownsRow base 9 1 (.slice (some ⟨g, 0, none⟩) (n + m) cap) (n + m) (xs ++ cs.map Value.string) → w1.grownBy w' v.ownBlock → Below base w1 w' → g < w'.heap.size → w1.heap.size < w'.heap.size → wpList Tryz.prog ops Q rest (a.put o.dst (.slice (some ⟨g, 0, none⟩) (n + m) cap)) w') :
    wpList Tryz.prog ops Q (o :: rest) a (w1.alloc (.cells (cs.map Value.string).toArray 9)) := by
  obtain ⟨i0, hi0, hz0, hz1, hz2⟩ := info_parts infoS
  refine wpList_append_lies _ hgd s x 61 ho base 9 i0 _ 1 16 Tryz.underlying61 hi0 hz0 hz1 hz2 rfl (by omega) v n xs hs (hown.alloc _) ⟨w1.heap.size, 0, none⟩ m m (cs.map Value.string) hx (by simp [hm]) (World.news_of_block (cs := (cs.map Value.string).toArray) (t := 9) (fr := (0, 0)) (heap_alloc_new w1 _)) (by simp [Value.oneCell']) hm0 (by unfold maxLen; omega) (by omega) (by simp; omega) (w1.heap.size + 1) (by simp) ?_
  intro g cap w' h2 h3 _ h5
  have hg := grown_alloc h3
  have hsz := h3.size
  simp only [World.size_alloc] at hsz
  exact h g cap w' h2 hg ((Below.refl _ _).grown hg hbase (fun j hj => (hown.lt j hj).1)) h5 (by omega)

/-- At a step of a region that draws its order. -/
theorem step_append_strs {w1 : World} {base : Nat} {v : Value} {n : Nat} {xs : List Value} (hown : w1.ownsRow base 9 1 v n xs) (cs : List ByteArray) {ops : Array Oper} {o : Oper} {a : Act} {K : Act → World → Prop} {Q : Exit → Act → World → Prop} {E : Prop} (hgd : o.guard = none) (s x : Operand)
    (ho : o.op = .call { callee := .builtin .append, args := #[s, x], argTypes := #[61, 61] }) (hs : a.eval s = v) (m B : Nat) (hx : a.eval x = .slice (some ⟨B, 0, none⟩) m m) (hB : w1.heap[B]? = some (.cells (cs.map Value.string).toArray 9 (0, 0))) (hm : cs.length = m) (hm0 : 0 < m)
    (hn : n + m ≤ 100000000) (hbase : base ≤ w1.heap.size)
    (h : ∀ g cap w', w'.ownsRow base 9 1 (.slice (some ⟨g, 0, none⟩) (n + m) cap) (n + m) (xs ++ cs.map Value.string) → Below base w1 w' → g < w'.heap.size → w1.heap.size ≤ w'.heap.size → K (a.put o.dst (.slice (some ⟨g, 0, none⟩) (n + m) cap)) w') :
    if Region.wanted o (yielded ops a.tmps) = true then Oper.wp Tryz.prog o a w1 K Q else E := by
  obtain ⟨i0, hi0, hz0, hz1, hz2⟩ := info_parts infoS
  refine step_append_lies _ hgd s x 61 ho base 9 i0 _ 1 16 Tryz.underlying61 hi0 hz0 hz1 hz2 rfl (by omega) v n xs hs hown ⟨B, 0, none⟩ m m (cs.map Value.string) hx (by simp [hm]) (World.news_of_block (cs := (cs.map Value.string).toArray) (t := 9) (fr := (0, 0)) hB) (by simp [Value.oneCell']) hm0 (by unfold maxLen; omega) (by omega) hbase w1.heap.size rfl ?_
  intro g cap w' h2 h3 _ h5
  exact h g cap w' h2 ((Below.refl _ _).grown h3 hbase (fun j hj => (hown.lt j hj).1)) h5 h3.size

end Go.Proofs.YtkmfkaljdngigaaGreatDoor

namespace Go.Proofs.YtkmfkaljdngigaaGreatDoor
open Go.RowKit

theorem methPut (n : Nat) (v : Value) (w : World) : (method (n + 1) 134 v "loop.example/g00357/impl.verb").run Tryz.prog w = .ok (133, v) w := by kernel_rfl
theorem methDrop (n : Nat) (v : Value) (w : World) : (method (n + 1) 128 v "loop.example/g00357/impl.verb").run Tryz.prog w = .ok (132, v) w := by kernel_rfl
theorem verbPut (x y z : Int) (w : World) : Calls Tryz.prog 133 #[.agg #[.int .i64 x, .int .i64 y, .int .i64 z]] w fun e w' => e = .returned (.string ⟨#[112, 117, 116]⟩) ∧ Below w.heap.size w w' := by
  go_enter Tryz.func133, Tryz.ntmps133
  go_wp2_with fail
  go_ret
  exact ⟨rfl, (Below.refl _ _).alloc (Nat.le_refl _) _⟩
theorem verbDrop (w : World) : Calls Tryz.prog 132 #[.agg #[]] w fun e w' => e = .returned (.string ⟨#[100, 114, 111, 112]⟩) ∧ Below w.heap.size w w' := by
  go_enter Tryz.func132, Tryz.ntmps132
  go_wp2_with fail
  go_ret
  exact ⟨rfl, (Below.refl _ _).alloc (Nat.le_refl _) _⟩
theorem assertPut2 (v : Value) (w : World) : (Instr.typeAssert (.iface 134 v) 120 134 true).run Tryz.prog w = .ok (.tuple #[v, .bool true]) w := by kernel_rfl
theorem assertDrop2 (v : Value) (w : World) : (Instr.typeAssert (.iface 128 v) 120 134 true).run Tryz.prog w = .ok (.tuple #[.agg #[.int .i64 0, .int .i64 0, .int .i64 0], .bool false]) w := by kernel_rfl

end Go.Proofs.YtkmfkaljdngigaaGreatDoor

namespace Go.Proofs
open Go.Shelf
def Tryz.lays156_ren : Go.Shelf.Ren := ⟨fun | 156 => 32 | 165 => 64 | 166 => 65 | 169 => 66 | 240 => 87 | 241 => 88 | 276 => 101 | 277 => 102 | n => n, fun | 31 => 61 | 9 => 9 | 3 => 3 | 4 => 4 | 0 => 0 | 20 => 20 | 72 => 97 | 76 => 101 | 70 => 95 | 37 => 22 | 75 => 100 | 127 => 124 | 164 => 137 | 5 => 5 | 80 => 103 | n => n, fun | n => n⟩
theorem Tryz.lays156 : Go.Proofs.Lays.n156 Tryz.prog Tryz.lays156_ren := {
  mixed := by kernel_rfl
  f156 := Tryz.func32.trans (congrArg some (by kernel_rfl))
  f165 := Tryz.func64.trans (congrArg some (by kernel_rfl))
  f166 := Tryz.func65.trans (congrArg some (by kernel_rfl))
  f169 := Tryz.func66.trans (congrArg some (by kernel_rfl))
  f240 := Tryz.func87.trans (congrArg some (by kernel_rfl))
  f241 := Tryz.func88.trans (congrArg some (by kernel_rfl))
  f276 := Tryz.func101.trans (congrArg some (by kernel_rfl))
  f277 := Tryz.func102.trans (congrArg some (by kernel_rfl))
  t0 := Tryz.underlying0
  a0 := Tryz.isAgg0
  z0 := Tryz.sizeOf0
  v0 := Tryz.zeroValue0
  t3 := Tryz.underlying3
  a3 := Tryz.isAgg3
  z3 := Tryz.sizeOf3
  v3 := Tryz.zeroValue3
  t4 := Tryz.underlying4
  a4 := Tryz.isAgg4
  z4 := Tryz.sizeOf4
  v4 := Tryz.zeroValue4
  t9 := Tryz.underlying9
  a9 := Tryz.isAgg9
  z9 := Tryz.sizeOf9
  v9 := Tryz.zeroValue9
  t20 := Tryz.underlying20
  a20 := Tryz.isAgg20
  z20 := Tryz.sizeOf20
  v20 := Tryz.zeroValue20
  t31 := Tryz.underlying61
  a31 := Tryz.isAgg61
  z31 := Tryz.sizeOf61
  v31 := Tryz.zeroValue61
  t37 := Tryz.underlying22
  a37 := Tryz.isAgg22
  z37 := Tryz.sizeOf22
  v37 := Tryz.zeroValue22
  t70 := Tryz.underlying95
  a70 := Tryz.isAgg95
  z70 := Tryz.sizeOf95
  v70 := Tryz.zeroValue95
  t72 := Tryz.underlying97
  a72 := Tryz.isAgg97
  z72 := Tryz.sizeOf97
  v72 := Tryz.zeroValue97
  t75 := Tryz.underlying100
  a75 := Tryz.isAgg100
  z75 := Tryz.sizeOf100
  v75 := Tryz.zeroValue100
  t76 := Tryz.underlying101
  a76 := Tryz.isAgg101
  z76 := Tryz.sizeOf101
  v76 := Tryz.zeroValue101
  t127 := Tryz.underlying124
  a127 := Tryz.isAgg124
  z127 := Tryz.sizeOf124
  v127 := Tryz.zeroValue124
  t164 := Tryz.underlying137
  a164 := Tryz.isAgg137
  z164 := Tryz.sizeOf137
  v164 := Tryz.zeroValue137 }
theorem Tryz.Builder_Extra_156 : Builder.Extra Tryz.prog Tryz.lays156_ren := {
  sizeBuilder := by kernel_rfl
  liesBuilder := by kernel_rfl
  t5 := Tryz.underlying5
  a5 := Tryz.isAgg5
  z5 := Tryz.sizeOf5
  v5 := Tryz.zeroValue5
  infoByte := by kernel_rfl
  cellsByte := by kernel_rfl
  sizeByte := by kernel_rfl
  neB5 := by decide }
open Go.RowKit in
theorem Tryz.strings_Join (bk o c : Nat) (xs : List ByteArray) (sep : ByteArray) (w : World) (hcells : ∀ (j : Nat) x, xs[j]? = some x → w.cell? ⟨bk, o + j, none⟩ = some (.string x)) (hbk : bk < w.heap.size) (hN : xs.length ≤ 140737488355328) (hcap : xs.length ≤ c) (hlen : (Lib.join (xs.map (·.data.toList)) sep.data.toList).length ≤ 140737488355328) :
    Calls Tryz.prog 32 #[.slice (some ⟨bk, o, none⟩) xs.length c, .string sep] w fun e w' => e = .returned (.string ⟨(Lib.join (xs.map (·.data.toList)) sep.data.toList).toArray⟩) ∧ Below w.heap.size w w' := Any.strings_Join Tryz.lays156 Tryz.Builder_Extra_156 bk o c xs sep w hcells hbk hN hcap hlen
def Tryz.laysM173_ren : Go.Shelf.Ren := ⟨fun | 173 => 83 | 246 => 94 | 283 => 103 | 284 => 104 | 285 => 105 | 286 => 106 | 129 => 109 | 317 => 108 | 318 => 110 | 319 => 111 | 320 => 112 | 337 => 114 | 338 => 115 | n => n, fun | 2 => 2 | 3 => 3 | 9 => 9 | 4 => 4 | 171 => 141 | 0 => 0 | 53 => 142 | 37 => 22 | 5 => 5 | 173 => 145 | 212 => 149 | 51 => 150 | 20 => 20 | 213 => 151 | 46 => 153 | 232 => 156 | 233 => 157 | n => n, fun | 17 => 1 | 18 => 2 | 19 => 3 | n => n⟩
theorem Tryz.laysM173 : Go.Proofs.LaysM.n173 Tryz.prog Tryz.laysM173_ren := {
  mixed := by kernel_rfl
  f129 := Tryz.func109.trans (congrArg some (by kernel_rfl))
  f173 := Tryz.func83.trans (congrArg some (by kernel_rfl))
  f246 := Tryz.func94.trans (congrArg some (by kernel_rfl))
  f283 := Tryz.func103.trans (congrArg some (by kernel_rfl))
  f284 := Tryz.func104.trans (congrArg some (by kernel_rfl))
  f285 := Tryz.func105.trans (congrArg some (by kernel_rfl))
  f286 := Tryz.func106.trans (congrArg some (by kernel_rfl))
  f317 := Tryz.func108.trans (congrArg some (by kernel_rfl))
  f318 := Tryz.func110.trans (congrArg some (by kernel_rfl))
  f319 := Tryz.func111.trans (congrArg some (by kernel_rfl))
  f320 := Tryz.func112.trans (congrArg some (by kernel_rfl))
  f337 := Tryz.func114.trans (congrArg some (by kernel_rfl))
  f338 := Tryz.func115.trans (congrArg some (by kernel_rfl))
  t0 := Tryz.underlying0
  a0 := Tryz.isAgg0
  z0 := Tryz.sizeOf0
  v0 := Tryz.zeroValue0
  t2 := Tryz.underlying2
  a2 := Tryz.isAgg2
  z2 := Tryz.sizeOf2
  v2 := Tryz.zeroValue2
  t3 := Tryz.underlying3
  a3 := Tryz.isAgg3
  z3 := Tryz.sizeOf3
  v3 := Tryz.zeroValue3
  t4 := Tryz.underlying4
  a4 := Tryz.isAgg4
  z4 := Tryz.sizeOf4
  v4 := Tryz.zeroValue4
  t5 := Tryz.underlying5
  a5 := Tryz.isAgg5
  z5 := Tryz.sizeOf5
  v5 := Tryz.zeroValue5
  t9 := Tryz.underlying9
  a9 := Tryz.isAgg9
  z9 := Tryz.sizeOf9
  v9 := Tryz.zeroValue9
  t20 := Tryz.underlying20
  a20 := Tryz.isAgg20
  z20 := Tryz.sizeOf20
  v20 := Tryz.zeroValue20
  t37 := Tryz.underlying22
  a37 := Tryz.isAgg22
  z37 := Tryz.sizeOf22
  v37 := Tryz.zeroValue22
  t46 := Tryz.underlying153
  a46 := Tryz.isAgg153
  z46 := Tryz.sizeOf153
  v46 := Tryz.zeroValue153
  t51 := Tryz.underlying150
  a51 := Tryz.isAgg150
  z51 := Tryz.sizeOf150
  v51 := Tryz.zeroValue150
  t53 := Tryz.underlying142
  a53 := Tryz.isAgg142
  z53 := Tryz.sizeOf142
  v53 := Tryz.zeroValue142
  t171 := Tryz.underlying141
  a171 := Tryz.isAgg141
  z171 := Tryz.sizeOf141
  v171 := Tryz.zeroValue141
  t173 := Tryz.underlying145
  a173 := Tryz.isAgg145
  z173 := Tryz.sizeOf145
  v173 := Tryz.zeroValue145
  t212 := Tryz.underlying149
  a212 := Tryz.isAgg149
  z212 := Tryz.sizeOf149
  v212 := Tryz.zeroValue149
  t213 := Tryz.underlying151
  a213 := Tryz.isAgg151
  z213 := Tryz.sizeOf151
  t232 := Tryz.underlying156
  a232 := Tryz.isAgg156
  z232 := Tryz.sizeOf156
  v232 := Tryz.zeroValue156
  t233 := Tryz.underlying157
  a233 := Tryz.isAgg157
  z233 := Tryz.sizeOf157
  v233 := Tryz.zeroValue157
  g17 := by kernel_rfl
  g18 := by kernel_rfl
  g19 := by kernel_rfl
  i0 := by kernel_rfl
  i2 := by kernel_rfl
  i3 := by kernel_rfl
  i4 := by kernel_rfl
  i5 := by kernel_rfl
  i9 := by kernel_rfl
  i20 := by kernel_rfl
  i37 := by kernel_rfl
  i46 := by kernel_rfl
  i51 := by kernel_rfl
  i53 := by kernel_rfl
  i171 := by kernel_rfl
  i173 := by kernel_rfl
  i212 := by kernel_rfl
  i232 := by kernel_rfl
  i233 := by kernel_rfl
  m17 := by kernel_rfl
  m18 := by kernel_rfl
  m19 := by kernel_rfl }
open Go.RowKit Go.Sort Go.Lib in
theorem Tryz.strconv_FormatInt_10 (n : Int) (h0 : -9223372036854775808 ≤ n) (h1 : n ≤ 9223372036854775807) (w : World) (htab : Lib.TabIs Tryz.prog w "internal/strconv.uint64pow10" .u64 Lib.pow10Tab) :
    Calls Tryz.prog 83 #[.int .i64 n, .int .i64 10] w fun e w' => e = .returned (.string ⟨(Lib.itoa n).toArray⟩) ∧ ∃ k os, w' = grow (w.drewN k) os := Any.strconv_FormatInt_10 Tryz.laysM173 n h0 h1 w htab
end Go.Proofs

namespace Go.Proofs.YtkmfkaljdngigaaGreatDoor
open Go.RowKit

theorem decF_digits (f : Nat) : ∀ n, n < 10 ^ (f + 1) → decF (f + 1) n = Lib.decDigits n := by
  induction f with
  | zero =>
    intro n hn
    have h : n < 10 := by omega
    rw [decF, if_pos h, Lib.decDigits, dif_pos h]
    rfl
  | succ f ih =>
    intro n hn
    by_cases h : n < 10
    · rw [decF, if_pos h, Lib.decDigits, dif_pos h]
      rfl
    · rw [decF, if_neg h, Lib.decDigits, dif_neg h, ih (n / 10) (by rw [Nat.pow_succ] at hn; omega)]
      rfl
theorem dec_itoa (n : Int) (h1 : -9999 ≤ n) (h2 : n ≤ 9999) : Lib.itoa n = dec n := by
  unfold Lib.itoa dec
  by_cases h : n < 0
  · rw [if_pos h, if_pos h, decF_digits 3 _ (by omega)]
  · rw [if_neg h, if_neg h, decF_digits 3 _ (by omega)]

def Tab (w : World) : Prop := Lib.TabIs Tryz.prog w "internal/strconv.uint64pow10" .u64 Lib.pow10Tab
theorem Tab.later {w w' : World} (h : Tab w) (hb : Below w.heap.size w w') : Tab w' := Lib.tabBelow_of_tabIs h w' hb

theorem grow_below (w : World) (k : Nat) (os : Array Obj) : Below w.heap.size w (Go.Sort.grow (w.drewN k) os) :=
  ⟨rfl, rfl, rfl, by simp [Go.Sort.grow], fun i hi => by simp [Go.Sort.grow, Array.getElem?_append, hi]⟩

theorem formatC (n : Int) (w : World) (h1 : -9999 ≤ n) (h2 : n ≤ 9999) (ht : Tab w) :
    Calls Tryz.prog 83 #[.int .i64 n, .int .i64 10] w fun e w' => e = .returned (str (dec n)) ∧ Below w.heap.size w w' := by
  refine (Tryz.strconv_FormatInt_10 n (by omega) (by omega) w ht).mono ?_
  rintro e w' ⟨rfl, k, os, rfl⟩
  rw [dec_itoa n h1 h2]
  exact ⟨rfl, grow_below _ _ _⟩


end Go.Proofs.YtkmfkaljdngigaaGreatDoor

namespace Go.Proofs.YtkmfkaljdngigaaGreatDoor
open Go.RowKit

theorem join3 (a b c : Bytes) : Lib.join [a, b, c] [44] = a ++ 44 :: (b ++ 44 :: c) := by
  simp [Lib.join, List.intercalate]
/-- A block of new cells that may be written, here three of them, is there. -/
def Row3 (w : World) (g : Nat) (a b c : Value) : Prop := g < w.heap.size ∧ (∀ o, w.frozen? ⟨g, o, none⟩ = false) ∧ w.cell? ⟨g, 0, none⟩ = some a ∧ w.cell? ⟨g, 1, none⟩ = some b ∧ w.cell? ⟨g, 2, none⟩ = some c
def Row2 (w : World) (g : Nat) (a b : Value) : Prop := g < w.heap.size ∧ (∀ o, w.frozen? ⟨g, o, none⟩ = false) ∧ w.cell? ⟨g, 0, none⟩ = some a ∧ w.cell? ⟨g, 1, none⟩ = some b
theorem Row3.later {w w' : World} {g : Nat} {a b c : Value} (h : Row3 w g a b c) (hb : Below w.heap.size w w') : Row3 w' g a b c :=
  ⟨Nat.lt_of_lt_of_le h.1 hb.size, fun o => (hb.frozen (p := ⟨g, o, none⟩) h.1).trans (h.2.1 o), cell_keep hb h.2.2.1, cell_keep hb h.2.2.2.1, cell_keep hb h.2.2.2.2⟩
theorem Row2.later {w w' : World} {g : Nat} {a b : Value} (h : Row2 w g a b) (hb : Below w.heap.size w w') : Row2 w' g a b :=
  ⟨Nat.lt_of_lt_of_le h.1 hb.size, fun o => (hb.frozen (p := ⟨g, o, none⟩) h.1).trans (h.2.1 o), cell_keep hb h.2.2.1, cell_keep hb h.2.2.2⟩
theorem Row3.set0 {w : World} {g : Nat} {a b c : Value} (h : Row3 w g a b c) (v : Value) : Row3 (w.setCell ⟨g, 0, none⟩ v) g v b c := by
  obtain ⟨h0, h1, h2, h3, h4⟩ := h
  refine ⟨by simpa using h0, fun o => ?_, ?_, ?_, ?_⟩ <;> simp [go_sem, h1, h2, h3, h4]
theorem Row3.set1 {w : World} {g : Nat} {a b c : Value} (h : Row3 w g a b c) (v : Value) : Row3 (w.setCell ⟨g, 1, none⟩ v) g a v c := by
  obtain ⟨h0, h1, h2, h3, h4⟩ := h
  refine ⟨by simpa using h0, fun o => ?_, ?_, ?_, ?_⟩ <;> simp [go_sem, h1, h2, h3, h4]
theorem Row3.set2 {w : World} {g : Nat} {a b c : Value} (h : Row3 w g a b c) (v : Value) : Row3 (w.setCell ⟨g, 2, none⟩ v) g a b v := by
  obtain ⟨h0, h1, h2, h3, h4⟩ := h
  refine ⟨by simpa using h0, fun o => ?_, ?_, ?_, ?_⟩ <;> simp [go_sem, h1, h2, h3, h4]
theorem Row2.setOther {w : World} {g k : Nat} {a b : Value} (h : Row2 w g a b) (hk : g ≠ k) (o : Nat) (v : Value) : Row2 (w.setCell ⟨k, o, none⟩ v) g a b := by
  obtain ⟨h0, h1, h2, h3⟩ := h
  refine ⟨by simpa using h0, fun o => ?_, ?_, ?_⟩ <;> simp [go_sem, h1, h2, h3]
theorem Row3.new {w : World} {T : TypeId} {a b c : Value} : Row3 (w.alloc (.cells #[a, b, c] T)) w.heap.size a b c := by
  refine ⟨by simp, fun o => ?_, ?_, ?_, ?_⟩ <;> simp [go_sem]
theorem Row2.new {w : World} {T : TypeId} {a b : Value} : Row2 (w.alloc (.cells #[a, b] T)) w.heap.size a b := by
  refine ⟨by simp, fun o => ?_, ?_, ?_⟩ <;> simp [go_sem]

/-- What the world keeps while the words are written: the answer's block, the words' block. -/
def Words (w : World) (r g : Nat) (w0 : World) (a b c : Bytes) : Prop := Row2 w r (.int .i64 0) (str []) ∧ Row3 w g (str a) (str b) (str c) ∧ Below w0.heap.size w0 w ∧ w0.heap.size ≤ r ∧ r < g
theorem Words.later {w w' : World} {r g : Nat} {w0 : World} {a b c : Bytes} (h : Words w r g w0 a b c) (hb : Below w.heap.size w w') : Words w' r g w0 a b c :=
  ⟨h.1.later hb, h.2.1.later hb, below_keep h.2.2.1 hb, h.2.2.2⟩
theorem Words.set0 {w : World} {r g : Nat} {w0 : World} {a b c : Bytes} (h : Words w r g w0 a b c) (v : Bytes) : Words (w.setCell ⟨g, 0, none⟩ (str v)) r g w0 v b c :=
  ⟨h.1.setOther (by have := h.2.2.2; omega) _ _, h.2.1.set0 _, h.2.2.1.setCell (by have := h.2.2.2; show w0.heap.size ≤ g; omega) _, h.2.2.2⟩
theorem Words.set1 {w : World} {r g : Nat} {w0 : World} {a b c : Bytes} (h : Words w r g w0 a b c) (v : Bytes) : Words (w.setCell ⟨g, 1, none⟩ (str v)) r g w0 a v c :=
  ⟨h.1.setOther (by have := h.2.2.2; omega) _ _, h.2.1.set1 _, h.2.2.1.setCell (by have := h.2.2.2; show w0.heap.size ≤ g; omega) _, h.2.2.2⟩
theorem Words.set2 {w : World} {r g : Nat} {w0 : World} {a b c : Bytes} (h : Words w r g w0 a b c) (v : Bytes) : Words (w.setCell ⟨g, 2, none⟩ (str v)) r g w0 a b v :=
  ⟨h.1.setOther (by have := h.2.2.2; omega) _ _, h.2.1.set2 _, h.2.2.1.setCell (by have := h.2.2.2; show w0.heap.size ≤ g; omega) _, h.2.2.2⟩

theorem joinC (g : Nat) (a b c : Bytes) (w : World) (h : Row3 w g (str a) (str b) (str c)) (hl : (a ++ 44 :: (b ++ 44 :: c)).length ≤ 1000) :
    Calls Tryz.prog 32 #[.slice (some ⟨g, 0, none⟩) 3 3, .string ⟨#[44]⟩] w fun e w' => e = .returned (str (a ++ 44 :: (b ++ 44 :: c))) ∧ Below w.heap.size w w' := by
  obtain ⟨g0, -, g2, g3, g4⟩ := h
  have e : Lib.join ([⟨a.toArray⟩, ⟨b.toArray⟩, ⟨c.toArray⟩].map fun x : ByteArray => x.data.toList) (⟨#[44]⟩ : ByteArray).data.toList = a ++ 44 :: (b ++ 44 :: c) := by
    rw [← join3]
    simp
  have := Tryz.strings_Join g 0 3 [⟨a.toArray⟩, ⟨b.toArray⟩, ⟨c.toArray⟩] ⟨#[44]⟩ w (fun j x hj => by
    match j, hj with
    | 0, hj => simp at hj; subst hj; exact g2
    | 1, hj => simp at hj; subst hj; exact g3
    | 2, hj => simp at hj; subst hj; exact g4
    | j + 3, hj => simp at hj) g0 (by simp) (by simp) (by rw [e]; omega)
  rw [e] at this
  exact this

set_option maxHeartbeats 1000000 in
theorem implText_ok (v : Value) (x y z : Int) (w : World) (h : IsInts w v [x, y, z]) (hf : vecFault [x, y, z] = 0) (ht : Tab w) :
    Calls Tryz.prog 99 #[v] w fun e w' => e = .returned (.agg #[.int .i64 0, str (text3 x y z)]) ∧ Below w.heap.size w w' := by
  obtain ⟨hx, hy, hz⟩ := fault3 hf
  have HT := hide ht
  clear ht
  have hmk : ∀ w : World, (Instr.makeSlice 61 (.int .i64 3) (.int .i64 3)).run Tryz.prog w = .ok (.slice (some ⟨w.heap.size, 0, none⟩) 3 3) (w.alloc (.cells #[.string ⟨#[]⟩, .string ⟨#[]⟩, .string ⟨#[]⟩] 9)) := fun _ => by kernel_rfl
  have i0 : ∀ w : World, (Instr.index 130 (.agg #[.int .i64 x, .int .i64 y, .int .i64 z]) (.int .i64 0)).run Tryz.prog w = .ok (.int .i64 x) w := fun _ => by kernel_rfl
  have i1 : ∀ w : World, (Instr.index 130 (.agg #[.int .i64 x, .int .i64 y, .int .i64 z]) (.int .i64 1)).run Tryz.prog w = .ok (.int .i64 y) w := fun _ => by kernel_rfl
  have i2 : ∀ w : World, (Instr.index 130 (.agg #[.int .i64 x, .int .i64 y, .int .i64 z]) (.int .i64 2)).run Tryz.prog w = .ok (.int .i64 z) w := fun _ => by kernel_rfl
  go_enter Tryz.func99, Tryz.ntmps99
  go_wp2_with fail
  refine (vectorOf_ok v x y z _ (h.later ((Below.refl _ _).alloc (Nat.le_refl _) _)) hf).mono ?_
  rintro e w1 ⟨rfl, hb⟩
  have hr : Row2 w1 w.heap.size (.int .i64 0) (str []) := Row2.new.later hb
  have hB1 : Below w.heap.size w w1 := ((Below.refl _ _).alloc (Nat.le_refl _) _).trans (hb.mono (by simp))
  have hz0 := hr.1
  have HR := hide hr
  have HB := hide hB1
  clear hb hB1 h hf hr
  simp only [arr3]
  go_wp2_with fail
  refine wp_loop_rounds 4 ?_
  rw [rounds_succ]
  go_wp2_with fail
  have wa : Words ((w1.alloc (.cells #[.int .i64 x, .int .i64 y, .int .i64 z] 130)).alloc (.cells #[.string ⟨#[]⟩, .string ⟨#[]⟩, .string ⟨#[]⟩] 9)) w.heap.size (w1.heap.size + 1) w [] [] [] := by
    refine ⟨((unhide HR).later ((Below.refl _ _).alloc (Nat.le_refl _) _)).later ((Below.refl _ _).alloc (Nat.le_refl _) _), ?_, ((unhide HB).alloc (by omega) _).alloc (by simp; omega) _, Nat.le_refl _, by omega⟩
    have := Row3.new (w := w1.alloc (.cells #[.int .i64 x, .int .i64 y, .int .i64 z] 130)) (T := 9) (a := str []) (b := str []) (c := str [])
    simpa [str] using this
  refine (formatC x _ (by omega) (by omega) ((unhide HT).later wa.2.2.1)).mono ?_
  rintro e w2 ⟨rfl, hb2⟩
  have wb := wa.later hb2
  have hz2 : w1.heap.size < w2.heap.size := by have := hb2.size; simp at this; omega
  obtain ⟨-, ⟨g0, g1, g2, g3, g4⟩, -, -, -⟩ := id wb
  have WB := hide wb
  clear wa hb2 wb HB HR
  simp only [str] at g2 g3 g4 ⊢
  go_wp2_with fail
  rw [rounds_succ]
  go_wp2_with fail
  have wa : Words (w2.setCell ⟨w1.heap.size + 1, 0, none⟩ (str (dec x))) w.heap.size (w1.heap.size + 1) w (dec x) [] [] := (unhide WB).set0 (dec x)
  clear g0 g1 g2 g3 g4 WB
  refine (formatC y _ (by omega) (by omega) ((unhide HT).later wa.2.2.1)).mono ?_
  rintro e w3 ⟨rfl, hb2⟩
  have wb := wa.later hb2
  have hz3 : w1.heap.size < w3.heap.size := by have := hb2.size; simp at this; omega
  obtain ⟨-, ⟨g0, g1, g2, g3, g4⟩, -, -, -⟩ := id wb
  have WB := hide wb
  clear wa hb2 wb
  simp only [str] at g2 g3 g4 ⊢
  go_wp2_with fail
  rw [rounds_succ]
  go_wp2_with fail
  have wa : Words (w3.setCell ⟨w1.heap.size + 1, 1, none⟩ (str (dec y))) w.heap.size (w1.heap.size + 1) w (dec x) (dec y) [] := (unhide WB).set1 (dec y)
  clear g0 g1 g2 g3 g4 WB
  refine (formatC z _ (by omega) (by omega) ((unhide HT).later wa.2.2.1)).mono ?_
  rintro e w4 ⟨rfl, hb2⟩
  have wb := wa.later hb2
  have hz4 : w1.heap.size < w4.heap.size := by have := hb2.size; simp at this; omega
  obtain ⟨-, ⟨g0, g1, g2, g3, g4⟩, -, -, -⟩ := id wb
  have WB := hide wb
  clear wa hb2 wb
  simp only [str] at g2 g3 g4 ⊢
  go_wp2_with fail
  rw [rounds_succ]
  go_wp2_with fail
  have wa : Words (w4.setCell ⟨w1.heap.size + 1, 2, none⟩ (str (dec z))) w.heap.size (w1.heap.size + 1) w (dec x) (dec y) (dec z) := (unhide WB).set2 (dec z)
  clear g0 g1 g2 g3 g4 WB
  have hl := text3_len x y z
  refine (joinC _ _ _ _ _ wa.2.1 (by unfold text3 at hl; omega)).mono ?_
  rintro e w5 ⟨rfl, hb2⟩
  have wb := wa.later hb2
  obtain ⟨⟨g0, g1, g2, g3⟩, -, g4, -, -⟩ := id wb
  have HB := hide g4
  have e3 : dec x ++ 44 :: (dec y ++ 44 :: dec z) = text3 x y z := rfl
  rw [e3]
  clear wa hb2 wb g4 hl
  simp only [str] at g2 g3 ⊢
  go_wp2_with fail
  refine bodyPost_ret (v := .agg #[.int .i64 0, str (text3 x y z)]) (by simp [results, Tryz.results99, go_sem, str, g2, g3]) rfl ⟨rfl, ?_⟩
  exact ((unhide HB).setCell (by simp) _).setCell (by simp) _

set_option maxHeartbeats 1000000 in
theorem implText_bad (v : Value) (zs : List Int) (w : World) (h : IsInts w v zs) (hf : vecFault zs ≠ 0) :
    Calls Tryz.prog 99 #[v] w fun e w' => e = .returned (.agg #[.int .i64 (vecFault zs), str []]) ∧ Below w.heap.size w w' := by
  have hne : (vecFault zs != 0) = true := by rw [bne_iff_ne]; exact hf
  go_enter Tryz.func99, Tryz.ntmps99
  go_wp2_with fail
  refine (vectorOf_bad v zs _ (h.later ((Below.refl _ _).alloc (Nat.le_refl _) _)) hf).mono ?_
  rintro e w1 ⟨rfl, hb⟩
  have hr : Row2 w1 w.heap.size (.int .i64 0) (str []) := Row2.new.later hb
  have hB1 : Below w.heap.size w w1 := ((Below.refl _ _).alloc (Nat.le_refl _) _).trans (hb.mono (by simp))
  obtain ⟨g0, g1, g2, g3⟩ := hr
  have HB := hide hB1
  clear hb hB1 h hf
  simp only [str] at g2 g3
  simp only [arr3]
  go_wp2_with fail
  refine bodyPost_ret (v := .agg #[.int .i64 (vecFault zs), str []]) (by simp [results, Tryz.results99, go_sem, str, g0, g2, g3]) rfl ⟨rfl, ?_⟩
  exact (((unhide HB).setCell (by simp) _).setCell (by simp) _).alloc (by simp; omega) _


theorem implText (v : Value) (zs : List Int) (w : World) (h : IsInts w v zs) (ht : Tab w) :
    Calls Tryz.prog 99 #[v] w fun e w' => e = .returned (.agg #[.int .i64 (vecFault zs), str (vecText zs)]) ∧ Below w.heap.size w w' := by
  by_cases hf : vecFault zs = 0
  · match zs, (vecFault_zero hf).1 with
    | [x, y, z], _ =>
      have e : vecText [x, y, z] = text3 x y z := by simp [vecText, hf]
      rw [e, hf]
      exact implText_ok v x y z w h hf ht
  · have e : vecText zs = [] := by simp [vecText, hf]
    rw [e]
    exact implText_bad v zs w h hf

end Go.Proofs.YtkmfkaljdngigaaGreatDoor

namespace Go.Proofs.YtkmfkaljdngigaaGreatDoor
open Go.RowKit

theorem decimalC (n : Int) (w : World) (h1 : -9999 ≤ n) (h2 : n ≤ 9999) (ht : Tab w) :
    Calls Tryz.prog 61 #[.int .i64 n] w fun e w' => e = .returned (str (dec n)) ∧ Below w.heap.size w w' := by
  have L := hide (formatC n w h1 h2 ht)
  clear ht
  go_enter Tryz.func61, Tryz.ntmps61
  go_wp2_with fail
  refine (unhide L).mono ?_
  rintro e w1 ⟨rfl, hb⟩
  have HB := hide hb
  clear hb L
  simp only [str]
  go_wp2_with fail
  go_ret
  exact ⟨rfl, unhide HB⟩

end Go.Proofs.YtkmfkaljdngigaaGreatDoor

namespace Go.Proofs.YtkmfkaljdngigaaGreatDoor
open Go.RowKit

set_option maxHeartbeats 400000 in
theorem listOf3 (x y z : Int) (w : World) :
    Calls Tryz.prog 100 #[arr3 x y z] w fun e w' => e = .returned (.slice (some ⟨w.heap.size + 1, 0, none⟩) 3 3) ∧
      (w.alloc (.cells #[.int .i64 x, .int .i64 y, .int .i64 z] 130)).alloc (.cells #[.int .i64 x, .int .i64 y, .int .i64 z] 2) = w' := by
  have hmk : ∀ w : World, (Instr.makeSlice 25 (.int .i64 3) (.int .i64 3)).run Tryz.prog w = .ok (.slice (some ⟨w.heap.size, 0, none⟩) 3 3) (w.alloc (.cells #[.int .i64 0, .int .i64 0, .int .i64 0] 2)) := fun _ => by kernel_rfl
  have i0 : ∀ w : World, (Instr.index 130 (.agg #[.int .i64 x, .int .i64 y, .int .i64 z]) (.int .i64 0)).run Tryz.prog w = .ok (.int .i64 x) w := fun _ => by kernel_rfl
  have i1 : ∀ w : World, (Instr.index 130 (.agg #[.int .i64 x, .int .i64 y, .int .i64 z]) (.int .i64 1)).run Tryz.prog w = .ok (.int .i64 y) w := fun _ => by kernel_rfl
  have i2 : ∀ w : World, (Instr.index 130 (.agg #[.int .i64 x, .int .i64 y, .int .i64 z]) (.int .i64 2)).run Tryz.prog w = .ok (.int .i64 z) w := fun _ => by kernel_rfl
  simp only [arr3]
  go_enter Tryz.func100, Tryz.ntmps100
  go_wp2
  refine wp_loop_rounds 4 ?_
  rw [rounds_succ]
  go_wp2
  rw [rounds_succ]
  go_wp2
  rw [rounds_succ]
  go_wp2
  rw [rounds_succ]
  go_wp2
  go_ret
  exact ⟨rfl, rfl⟩

end Go.Proofs.YtkmfkaljdngigaaGreatDoor

namespace Go.Proofs.YtkmfkaljdngigaaGreatDoor
open Go.RowKit

theorem listOwn (x y z : Int) (w : World) (hw : ∀ a ∈ [x, y, z], (Lit.int .i64 a).wf = true) :
    Calls Tryz.prog 100 #[arr3 x y z] w fun e w' => ∃ g, e = .returned (.slice (some ⟨g, 0, none⟩) 3 3) ∧ (Lay.sl Lay.int).OwnIn w' [.slice (some ⟨g, 0, none⟩) 3 3] [x, y, z] w.heap.size w'.heap.size ∧ Below w.heap.size w w' := by
  refine (listOf3 x y z w).mono ?_
  rintro e w' ⟨rfl, rfl⟩
  refine ⟨w.heap.size + 1, rfl, ?_, ((Below.refl _ _).alloc (Nat.le_refl _) _).alloc (by simp) _⟩
  refine Lay.ownInts (zs := [x, y, z]) (base := w.heap.size) (T := 2) hw (by simp) ?_
  exact own_new3 (W := w.alloc _) (by simp) (by simp)

end Go.Proofs.YtkmfkaljdngigaaGreatDoor
