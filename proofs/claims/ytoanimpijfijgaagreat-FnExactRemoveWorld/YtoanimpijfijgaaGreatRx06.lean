/-
  Texts of this proof in one: SpecMCopy, LayWritesResult, SeqPlain, LayOnceResult, AppPlain, LayNodeResult, NodePlain, NetsPlain, WorldPlain, OwnNetResult, NetKit, WorldOK, WorldSt, RowPut, WorldPut, WorldSpec, AppNode, AppEntry, AppHit, LayMore, AppHitsL, OwnNodeResult, NodeKitP, SpecWs, SpecLast5, SpecSess, SpecOnce, NodeKit, AppWrite, SpecWCopy, NodeEqs, RowIn.
  Their conditions stand in their theorems.
-/
import Derived.Test.YtoanimpijfijgaaGreatChecked
import Derived.Test.YtoanimpijfijgaaGreatRx05
import Derived.Deep.CutRange
import Derived.Test.YtoanimpijfijgaaGreatRx00
import Derived.Test.YtoanimpijfijgaaGreatRx01
import Derived.Test.YtoanimpijfijgaaGreatRx04
import Derived.Test.YtoanimpijfijgaaGreatRx03
import Derived.WalkKit
import Derived.Maps.AppendAt
import Derived.Deep.RegionHeld3
set_option maxRecDepth 100000
set_option maxHeartbeats 4000000
namespace Go.Proofs.YtoanimpijfijgaaGreat
open Go.RowKit
theorem mcopy_pos (b off cap : Nat) (ws : List DMsg) (w : World) (h : (Lay.sl Lay.tMsg).Reads w [.slice (some ⟨b, off, none⟩) ws.length cap] ws) (hbl : b < w.heap.size) (hn : ws.length ≤ 10000000) (hv : ∀ x ∈ ws, x.write.vec.length ≤ 100000000) :
  Calls Tryz.prog 210 #[.slice (some ⟨b, off, none⟩) ws.length cap] w fun e w' => ∃ v', e = .returned v' ∧ (∃ rows bls, Grow Lay.tMsg w' w.heap.size 89 v' rows ws bls ∧ ∀ c ∈ bls.flatten, w.heap.size ≤ c) ∧ Below w.heap.size w w' := by
 have H := yh h
 have HV := yh hv
 clear h hv
 have HG0 : Hid (Grow Lay.tMsg (w.alloc (.cells #[] 89)) w.heap.size 89 (.slice (some ⟨w.heap.size, 0, none⟩) 0 0) [] [] []) := Grow.nil (World.ownsRow_lit w #[] 0 (Nat.le_refl _) (Nat.zero_le _) rfl)
 have HB0 := yh ((Below.refl w.heap.size w).alloc (Nat.le_refl _) (.cells #[] 89))
 go_enter Tryz.func210, Tryz.ntmps210
 go_wp2_with fail
 go_loopw [3, 4] (fun v i wr => ∃ (k : Nat) (rows : List (List Value)) (bls : List (List Nat)), k ≤ ws.length ∧ i = .int .i64 k ∧ Grow Lay.tMsg wr w.heap.size 89 v rows (ws.take k) bls ∧ (∀ c ∈ bls.flatten, w.heap.size ≤ c) ∧ Below w.heap.size w wr) (fun _ i _ => ws.length - (intOf i).toNat)
 case atStart => exact ⟨0, [], [], Nat.zero_le _, rfl, uh HG0, by simp, uh HB0⟩
 case round =>
  obtain ⟨k, rows, bls, hk, rfl, hG, hSB, hB⟩ := hrel
  have HSB := yh hSB
  clear HG0 HB0 hSB
  by_cases hlt : k < ws.length
  ·
   obtain ⟨row, hc, hr⟩ := Lay.row_at ((uh H).later hB) hlt
   have hr2 := hr
   obtain ⟨a2, d2, rfl, R2w⟩ := open_Msg hr
   have R2 := write_vec R2w
   clear R2w
   have c0 : wr.cell? ⟨b, off + k * 10, none⟩ = some (.int .i64 (ws[k]).kind) := hc 0 (by decide)
   have c1 : wr.cell? ⟨b, off + k * 10 + 1, none⟩ = some (.int .i64 (ws[k]).epoch) := hc 1 (by decide)
   have c2 : wr.cell? ⟨b, off + k * 10 + 2, none⟩ = some (.int .i64 (ws[k]).src) := hc 2 (by decide)
   have c3 : wr.cell? ⟨b, off + k * 10 + 3, none⟩ = some (.int .i64 (ws[k]).dst) := hc 3 (by decide)
   have c4 : wr.cell? ⟨b, off + k * 10 + 4, none⟩ = some (.int .i64 (ws[k]).index) := hc 4 (by decide)
   have c5 : wr.cell? ⟨b, off + k * 10 + 5, none⟩ = some (.int .i64 (ws[k]).write.kind) := hc 5 (by decide)
   have c6 : wr.cell? ⟨b, off + k * 10 + 6, none⟩ = some (.int .i64 (ws[k]).write.id) := hc 6 (by decide)
   have c7 : wr.cell? ⟨b, off + k * 10 + 7, none⟩ = some (.slice a2 (ws[k]).write.vec.length d2) := hc 7 (by decide)
   have c8 : wr.cell? ⟨b, off + k * 10 + 8, none⟩ = some (.int .i64 (ws[k]).write.session) := hc 8 (by decide)
   have c9 : wr.cell? ⟨b, off + k * 10 + 9, none⟩ = some (.int .i64 (ws[k]).write.seq) := hc 9 (by decide)
   have HWF : Hid ((Lit.int .i64 (ws[k]).kind).wf = true ∧ (Lit.int .i64 (ws[k]).epoch).wf = true ∧ (Lit.int .i64 (ws[k]).src).wf = true ∧ (Lit.int .i64 (ws[k]).dst).wf = true ∧ (Lit.int .i64 (ws[k]).index).wf = true ∧ (Lit.int .i64 (ws[k]).write.kind).wf = true ∧ (Lit.int .i64 (ws[k]).write.id).wf = true ∧ (Lit.int .i64 (ws[k]).write.session).wf = true ∧ (Lit.int .i64 (ws[k]).write.seq).wf = true) := by
    obtain ⟨_, hq⟩ := hr2
    obtain ⟨_, _, _, _, _, q0, q1, q2, q3, q4, q5, q6, _, q8, q9⟩ := lies_Msg.1 hq
    exact ⟨q0, q1, q2, q3, q4, q5, q6, q8, q9⟩
   have HT : Hid (ws.take (k + 1) = ws.take k ++ [ws[k]]) := List.take_succ_eq_append_getElem hlt
   have HLn : Hid ((ws.take k).length = k) := by show (ws.take k).length = k; rw [List.length_take]; omega
   have HN := yh (uh HV ws[k] (List.getElem_mem hlt))
   clear hc hr hr2
   generalize hx : ws[k] = x at *
   clear hx
   have hbr : b < wr.heap.size := Nat.lt_of_lt_of_le hbl hB.size
   have nb : Below wr.heap.size wr (wr.alloc (.cells #[.int .i64 x.kind, .int .i64 x.epoch, .int .i64 x.src, .int .i64 x.dst, .int .i64 x.index, .int .i64 x.write.kind, .int .i64 x.write.id, .slice a2 x.write.vec.length d2, .int .i64 x.write.session, .int .i64 x.write.seq] 89)) := (Below.refl _ _).alloc (Nat.le_refl _) _
   have bI : Box 0 #[.int .i64 x.kind, .int .i64 x.epoch, .int .i64 x.src, .int .i64 x.dst, .int .i64 x.index, .int .i64 x.write.kind, .int .i64 x.write.id, .slice a2 x.write.vec.length d2, .int .i64 x.write.session, .int .i64 x.write.seq] 89 (wr.alloc (.cells #[.int .i64 x.kind, .int .i64 x.epoch, .int .i64 x.src, .int .i64 x.dst, .int .i64 x.index, .int .i64 x.write.kind, .int .i64 x.write.id, .slice a2 x.write.vec.length d2, .int .i64 x.write.session, .int .i64 x.write.seq] 89)) wr.heap.size := newBox (Nat.zero_le _)
   have HRW := yh (Lay.ints_reads R2).wf
   have HL := yh (l1Ints _ x.write.vec _ ((Lay.ints_reads R2).later nb) (uh HN))
   have HG := yh (hG.later nb)
   have HB := yh (hB.trans (nb.mono hB.size))
   have HBI := yh bI
   have HZW : Hid (w.heap.size ≤ wr.heap.size) := hB.size
   have HOW : Hid (∀ c, u3.ownBlock = some c → c < wr.heap.size) := fun c hc => (hG.own.lt c hc).2
   have HSL : Hid (∀ c ∈ bls.flatten, c < wr.heap.size) := fun c hc => hG.sub_lt c hc
   clear R2 hG hB nb bI
   go_wp2_with fail
   clear c0 c1 c2 c3 c4 c5 c6 c7 c8 c9
   refine (uh HL).mono ?_
   generalize hW0 : wr.alloc (.cells #[.int .i64 x.kind, .int .i64 x.epoch, .int .i64 x.src, .int .i64 x.dst, .int .i64 x.index, .int .i64 x.write.kind, .int .i64 x.write.id, .slice a2 x.write.vec.length d2, .int .i64 x.write.session, .int .i64 x.write.seq] 89) = W0 at *
   clear hW0
   rintro e w2 ⟨v2, rfl, hO, hb⟩
   have hO2 := Lay.ownInts (uh HRW) (by have := uh HN; omega) hO
   obtain ⟨ao2, cp2, rfl⟩ := open_sl hO2.reads
   obtain ⟨bl2, ⟨hl2, -, -⟩, hr2⟩ := hO2
   have bI2 := (uh HBI).keep hb
   have hZ0 : wr.heap.size < W0.heap.size := (uh HBI).lt
   have z0 : w2.cell? ⟨wr.heap.size, 0, none⟩ = some (.int .i64 x.kind) := bI2.at 0 _ rfl
   have z1 : w2.cell? ⟨wr.heap.size, 1, none⟩ = some (.int .i64 x.epoch) := bI2.at 1 _ rfl
   have z2 : w2.cell? ⟨wr.heap.size, 2, none⟩ = some (.int .i64 x.src) := bI2.at 2 _ rfl
   have z3 : w2.cell? ⟨wr.heap.size, 3, none⟩ = some (.int .i64 x.dst) := bI2.at 3 _ rfl
   have z4 : w2.cell? ⟨wr.heap.size, 4, none⟩ = some (.int .i64 x.index) := bI2.at 4 _ rfl
   have z5 : w2.cell? ⟨wr.heap.size, 5, none⟩ = some (.int .i64 x.write.kind) := bI2.at 5 _ rfl
   have z6 : w2.cell? ⟨wr.heap.size, 6, none⟩ = some (.int .i64 x.write.id) := bI2.at 6 _ rfl
   have z7 : w2.cell? ⟨wr.heap.size, 7, none⟩ = some (.slice a2 x.write.vec.length d2) := bI2.at 7 _ rfl
   have z8 : w2.cell? ⟨wr.heap.size, 8, none⟩ = some (.int .i64 x.write.session) := bI2.at 8 _ rfl
   have z9 : w2.cell? ⟨wr.heap.size, 9, none⟩ = some (.int .i64 x.write.seq) := bI2.at 9 _ rfl
   have f2 := bI2.soft 7
   have l2 := bI2.lt
   have hE : Ext (fun c => c = wr.heap.size) w2 (w2.setCell ⟨wr.heap.size, 7, none⟩ (.slice ao2 x.write.vec.length cp2)) := (Ext.refl (fun c => c = wr.heap.size) w2).setCell ⟨wr.heap.size, 7, none⟩ _ rfl
   have hl3 : Lay.tMsg.lies (w2.setCell ⟨wr.heap.size, 7, none⟩ (.slice ao2 x.write.vec.length cp2)) [.int .i64 x.kind, .int .i64 x.epoch, .int .i64 x.src, .int .i64 x.dst, .int .i64 x.index, .int .i64 x.write.kind, .int .i64 x.write.id, .slice ao2 x.write.vec.length cp2, .int .i64 x.write.session, .int .i64 x.write.seq] x bl2 := lies_Msg.2 ⟨ao2, cp2, bl2, rfl, rfl, (uh HWF).1, (uh HWF).2.1, (uh HWF).2.2.1, (uh HWF).2.2.2.1, (uh HWF).2.2.2.2.1, (uh HWF).2.2.2.2.2.1, (uh HWF).2.2.2.2.2.2.1, (Lay.sl Lay.int).keep hl2 (fun c hc => hE.block c ((Lay.sl Lay.int).lt hl2 c hc) (by have := (hr2 c hc).1; omega)), (uh HWF).2.2.2.2.2.2.2.1, (uh HWF).2.2.2.2.2.2.2.2⟩
   have hG2 := (uh HG).later hb
   have hoff : ∀ c ∈ bl2, u3.ownBlock ≠ some c := fun c hc e => by have h1 := (hr2 c hc).1; have h2 := uh HOW c e; omega
   have HB3 : Hid (Below w.heap.size w (w2.setCell ⟨wr.heap.size, 7, none⟩ (.slice ao2 x.write.vec.length cp2))) := ((uh HB).trans (hb.mono (uh HB).size)).setCell (by simpa using uh HZW) _
   have hG3 : Grow Lay.tMsg (w2.setCell ⟨wr.heap.size, 7, none⟩ (.slice ao2 x.write.vec.length cp2)) w.heap.size 89 u3 rows (ws.take k) bls := hG2.kept (by
    obtain ⟨h1, h2⟩ := hG2.own
    refine ⟨h1, ?_⟩
    rcases h2 with h2 | ⟨gb, cap', cur, hv, hg, hh, r⟩
    ·
     exact Or.inl h2
    ·
     exact Or.inr ⟨gb, cap', cur, hv, hg, (hE.block gb (lt_of_block hh) (by have := uh HOW gb (by rw [hv]; rfl); omega)).trans hh, r⟩) (fun c hc => hE.block c (hG2.sub_lt c hc) (fun e => by
    have := uh HSL c hc
    omega))
   have hZ3 : w.heap.size ≤ (w2.setCell ⟨wr.heap.size, 7, none⟩ (.slice ao2 x.write.vec.length cp2)).heap.size := (uh HB3).size
   have hK : (ws.take k).length + 1 ≤ 100000000 := by rw [uh HLn]; omega
   have y0 : (w2.setCell ⟨wr.heap.size, 7, none⟩ (.slice ao2 x.write.vec.length cp2)).cell? ⟨wr.heap.size, 0, none⟩ = some (.int .i64 x.kind) := (bI2.set 7 _).at 0 _ rfl
   have y1 : (w2.setCell ⟨wr.heap.size, 7, none⟩ (.slice ao2 x.write.vec.length cp2)).cell? ⟨wr.heap.size, 1, none⟩ = some (.int .i64 x.epoch) := (bI2.set 7 _).at 1 _ rfl
   have y2 : (w2.setCell ⟨wr.heap.size, 7, none⟩ (.slice ao2 x.write.vec.length cp2)).cell? ⟨wr.heap.size, 2, none⟩ = some (.int .i64 x.src) := (bI2.set 7 _).at 2 _ rfl
   have y3 : (w2.setCell ⟨wr.heap.size, 7, none⟩ (.slice ao2 x.write.vec.length cp2)).cell? ⟨wr.heap.size, 3, none⟩ = some (.int .i64 x.dst) := (bI2.set 7 _).at 3 _ rfl
   have y4 : (w2.setCell ⟨wr.heap.size, 7, none⟩ (.slice ao2 x.write.vec.length cp2)).cell? ⟨wr.heap.size, 4, none⟩ = some (.int .i64 x.index) := (bI2.set 7 _).at 4 _ rfl
   have y5 : (w2.setCell ⟨wr.heap.size, 7, none⟩ (.slice ao2 x.write.vec.length cp2)).cell? ⟨wr.heap.size, 5, none⟩ = some (.int .i64 x.write.kind) := (bI2.set 7 _).at 5 _ rfl
   have y6 : (w2.setCell ⟨wr.heap.size, 7, none⟩ (.slice ao2 x.write.vec.length cp2)).cell? ⟨wr.heap.size, 6, none⟩ = some (.int .i64 x.write.id) := (bI2.set 7 _).at 6 _ rfl
   have y7 : (w2.setCell ⟨wr.heap.size, 7, none⟩ (.slice ao2 x.write.vec.length cp2)).cell? ⟨wr.heap.size, 7, none⟩ = some (.slice ao2 x.write.vec.length cp2) := (bI2.set 7 _).at 7 _ rfl
   have y8 : (w2.setCell ⟨wr.heap.size, 7, none⟩ (.slice ao2 x.write.vec.length cp2)).cell? ⟨wr.heap.size, 8, none⟩ = some (.int .i64 x.write.session) := (bI2.set 7 _).at 8 _ rfl
   have y9 : (w2.setCell ⟨wr.heap.size, 7, none⟩ (.slice ao2 x.write.vec.length cp2)).cell? ⟨wr.heap.size, 9, none⟩ = some (.int .i64 x.write.seq) := (bI2.set 7 _).at 9 _ rfl
   have HSB5 : Hid (∀ c ∈ (bls ++ [bl2]).flatten, w.heap.size ≤ c) := by
    intro c hc
    rw [List.flatten_append] at hc
    rcases List.mem_append.1 hc with hc | hc
    ·
     exact uh HSB c hc
    have h1 := (hr2 c (by simpa using hc)).1
    have h2 := uh HZW
    omega
   clear z0 z1 z2 z3 z4 z5 z6 z8 z9 bI2 hE hG2 hl2 hO HG HL HB HBI HRW HN HWF hb hr2 hZ0
   go_upto_region 7 with fail
   generalize w2.setCell ⟨wr.heap.size, 7, none⟩ (.slice ao2 x.write.vec.length cp2) = W3 at *
   go_wp2_with (at_builtin; refine wpList_append_Msg hG3 hl3 hoff rfl _ _ rfl rfl rfl hK hZ3 ?_)
   intro g5 cap5 w5 hG5 hb5 hE5 hg5 hz5 hor5
   have HG5 := yh hG5
   have HB5 := yh ((uh HB3).trans hb5)
   clear hG3 hl3 hoff hZ3 hK hG5 hb5 hE5 hg5 hz5 hor5 HB3 y0 y1 y2 y3 y4 y5 y6 y7 y8 y9 z7 f2 l2
   go_wp2_with fail
   go_roundw
   case rel =>
    have hg := uh HG5
    rw [← uh HT] at hg
    try rw [uh HLn] at hg
    exact ⟨k + 1, _, _, by omega, by go_num, hg, uh HSB5, uh HB5⟩
   case measure => simp [intOf]; omega
  obtain rfl : k = ws.length := by omega
  rw [List.take_length] at hG
  have HG := yh hG
  have HB := yh hB
  clear hG hB H
  go_wp2_with fail
  go_ret
  exact ⟨_, rfl, ⟨_, _, uh HG, uh HSB⟩, uh HB⟩
theorem mcopyC (v : Value) (ws : List DMsg) (w : World) (h : (Lay.sl Lay.tMsg).Reads w [v] ws) (hn : ws.length ≤ 10000000) (hv : ∀ x ∈ ws, x.write.vec.length ≤ 100000000) :
  Calls Tryz.prog 210 #[v] w fun e w' => ∃ v', e = .returned v' ∧ (∃ rows bls, Grow Lay.tMsg w' w.heap.size 89 v' rows ws bls ∧ ∀ c ∈ bls.flatten, w.heap.size ≤ c) ∧ Below w.heap.size w w' := by
 obtain ⟨ao, cap, rfl⟩ := open_sl h
 by_cases hp : 0 < ws.length
 ·
  obtain ⟨b, off, rfl, hbl⟩ := Lay.sl_addr h hp
  exact mcopy_pos b off cap ws w h hbl hn hv
 obtain rfl : ws = [] := List.eq_nil_of_length_eq_zero (by omega)
 clear h hp hn hv
 have HB := yh ((Below.refl w.heap.size w).alloc (Nat.le_refl _) (.cells #[] 89))
 have HG : Hid (Grow Lay.tMsg (w.alloc (.cells #[] 89)) w.heap.size 89 (.slice (some ⟨w.heap.size, 0, none⟩) 0 0) [] [] []) := Grow.nil (World.ownsRow_lit w #[] 0 (Nat.le_refl _) (Nat.zero_le _) rfl)
 go_enter Tryz.func210, Tryz.ntmps210
 go_wp2_with fail
 refine wp_loop_rounds 1 ?_
 rw [rounds_succ]
 go_wp2_with fail
 go_ret
 exact ⟨_, rfl, ⟨_, _, uh HG, by simp⟩, uh HB⟩
def nodeFault (x : DNode) : Int :=
 if 1 ≤ x.id ∧ x.id ≤ 5 ∧ 0 ≤ x.epoch ∧ x.epoch ≤ 999 ∧ 0 ≤ x.lease ∧ x.lease ≤ 9999 then
  if 40 < x.writes.length then 2
  else if wsFrom x.writes ≠ 0 then wsFrom x.writes
  else if onceB [] x.writes = false then 6
  else if 0 ≤ x.sure ∧ x.sure ≤ x.writes.length ∧ 0 ≤ x.clean ∧ x.clean ≤ x.sure then
   if x.up = false ∧ ¬ (x.sure = x.writes.length ∧ x.clean = 0 ∧ x.lease = 0) then 1 else 0
  else 3
 else 3
def noNode : DNode := ⟨0, false, 0, 0, [], 0, 0⟩
theorem nodeFault_vals (x : DNode) : 0 ≤ nodeFault x ∧ nodeFault x ≤ 6 := by
 have := wsFrom_vals x.writes
 unfold nodeFault
 split
 ·
  split
  ·
   omega
  split
  ·
   omega
  split
  ·
   omega
  split
  ·
   split <;> omega
  omega
 omega
structure NodeOK (x : DNode) : Prop where
 id : 1 ≤ x.id ∧ x.id ≤ 5
 epoch : 0 ≤ x.epoch ∧ x.epoch ≤ 999
 lease : 0 ≤ x.lease ∧ x.lease ≤ 9999
 len : x.writes.length ≤ 40
 ws : ∀ y ∈ x.writes, wF y = 0
 once : onceB [] x.writes = true
 sure : 0 ≤ x.sure ∧ x.sure ≤ x.writes.length
 clean : 0 ≤ x.clean ∧ x.clean ≤ x.sure
 down : x.up = false → x.sure = x.writes.length ∧ x.clean = 0 ∧ x.lease = 0
theorem nodeFault_zero {x : DNode} (h : nodeFault x = 0) : NodeOK x := by
 unfold nodeFault at h
 split at h
 ·
  rename_i h1
  split at h
  ·
   simp at h
  rename_i h2
  split at h
  ·
   rename_i h3; exact absurd h h3
  rename_i h3
  split at h
  ·
   simp at h
  rename_i h4
  split at h
  ·
   rename_i h5
   split at h
   ·
    simp at h
   rename_i h6
   refine ⟨by omega, by omega, by omega, by omega, wsFrom_zero (by simpa using h3), by simpa using h4, by omega, by omega, fun hu => ?_⟩
   exact Classical.byContradiction fun hc => h6 ⟨hu, hc⟩
  simp at h
 simp at h
theorem netFault_zero {xs : List DMsg} (h : netFault xs = 0) : xs.length ≤ 40 ∧ ∀ x ∈ xs, msgFault x = 0 := by
 unfold netFault at h
 split at h
 ·
  simp at h
 exact ⟨by omega, msgsFrom_zero h⟩
def nodeIn (x : DWorld) (id : Int) : Bool := decide (1 ≤ id) && decide (id ≤ (x.nodes.length : Int))
def nodesF (c : DChain) : Nat → List DNode → Int
 | _, [] => 0
 | i, n :: ns =>
  if nodeFault n ≠ 0 then nodeFault n
  else if n.id ≠ (i : Int) + 1 then 1
  else if c.epoch < n.epoch ∨ (n.up = true ∧ 0 ≤ placeC c.ids n.id ∧ n.epoch ≠ c.epoch) then 7
  else nodesF c (i + 1) ns
def nodesFault (x : DWorld) : Int :=
 if nodesF x.chain 0 x.nodes ≠ 0 then nodesF x.chain 0 x.nodes
 else if x.chain.ids.all (nodeIn x) then 0 else 4
def entryB (x : DWorld) (e : DEntry) : Bool :=
 (decide (1 ≤ e.kind) && decide (e.kind ≤ 3)) && ((decide (1 ≤ e.start) && decide (e.start ≤ x.events)) && ((e.fin == 0 || (decide (e.start ≤ e.fin) && decide (e.fin ≤ x.events))) && (decide (0 ≤ e.place) && decide (e.place ≤ 40))))
def worldFault (x : DWorld) : Int :=
 if ¬ (0 ≤ x.now ∧ x.now ≤ 9000) ∨ ¬ (0 ≤ x.events ∧ x.events ≤ 9999) then 3
 else if chainFault x.chain ≠ 0 then chainFault x.chain
 else if x.nodes.length < 1 ∨ 5 < x.nodes.length then 2
 else if nodesFault x ≠ 0 then nodesFault x
 else if netFault x.msgs ≠ 0 then netFault x.msgs
 else if 60 < x.history.length then 2
 else if x.history.all (entryB x) then 0 else 3
def noWorld : DWorld := ⟨0, 0, noChain, [], [], []⟩
def badWorld (c : Int) : DWorldResult := ⟨c, false, noWorld⟩
def nodeOf (x : DWorld) (id : Int) : DNode := x.nodes.getD (id - 1).toNat noNode
def askedW (x : DWorld) (id : Int) : Int := if worldFault x ≠ 0 then worldFault x else if nodeIn x id = false then 4 else if 9999 ≤ x.events then 2 else 0
def nextW (x : DWorld) : DWorld := ⟨x.now, x.events + 1, x.chain, x.nodes, x.msgs, x.history⟩
theorem nodesF_vals (c : DChain) : ∀ (i : Nat) (ns : List DNode), 0 ≤ nodesF c i ns ∧ nodesF c i ns ≤ 10
 | _, [] => by simp [nodesF]
 | i, n :: ns => by
  have h1 := nodeFault_vals n
  have h2 := nodesF_vals c (i + 1) ns
  rw [nodesF]
  split
  ·
   omega
  split
  ·
   omega
  split
  ·
   omega
  exact h2
theorem nodesFault_vals (x : DWorld) : 0 ≤ nodesFault x ∧ nodesFault x ≤ 10 := by
 have := nodesF_vals x.chain 0 x.nodes
 unfold nodesFault
 split
 ·
  omega
 split <;> omega
theorem worldFault_vals (x : DWorld) (hc : 0 ≤ chainFault x.chain ∧ chainFault x.chain ≤ 6) : 0 ≤ worldFault x ∧ worldFault x ≤ 10 := by
 have h1 := nodesFault_vals x
 have h2 := netFault_vals x.msgs
 unfold worldFault
 repeat' split
 all_goals omega
theorem msg_vec {x : DMsg} (h : msgFault x = 0) : x.write.vec.length ≤ 100000000 := by
 unfold msgFault at h
 split at h
 ·
  simp at h
 rename_i h1
 split at h
 ·
  simp at h
 split at h
 ·
  rename_i h3
  have h4 : noW x.write := Decidable.byContradiction fun q => h1 (Or.inr (Or.inr ⟨h3, q⟩))
  have := h4.2.2.2.2
  omega
 obtain ⟨-, -, -, hk⟩ := writeFault_zero h
 rcases hk with ⟨-, hv⟩ | ⟨-, hv⟩
 ·
  have := (vecFault_zero hv).1; omega
 rw [hv]; simp
theorem msgs_vec {xs : List DMsg} (h : netFault xs = 0) : ∀ x ∈ xs, x.write.vec.length ≤ 100000000 := fun x hx => msg_vec ((netFault_zero h).2 x hx)
structure WorldOK (x : DWorld) : Prop where
 now : 0 ≤ x.now ∧ x.now ≤ 9000
 events : 0 ≤ x.events ∧ x.events ≤ 9999
 chain : chainFault x.chain = 0
 some : 1 ≤ x.nodes.length ∧ x.nodes.length ≤ 5
 nodes : ∀ k (h : k < x.nodes.length), nodeFault x.nodes[k] = 0 ∧ x.nodes[k].id = (k : Int) + 1 ∧ x.nodes[k].epoch ≤ x.chain.epoch
 ids : ∀ z ∈ x.chain.ids, nodeIn x z = true
 net : netFault x.msgs = 0
 few : x.history.length ≤ 60
 told : ∀ e ∈ x.history, entryB x e = true
theorem nodesF_zero (c : DChain) : ∀ (ns : List DNode) (i : Nat), nodesF c i ns = 0 → ∀ k (h : k < ns.length), nodeFault ns[k] = 0 ∧ ns[k].id = ((i + k : Nat) : Int) + 1 ∧ ns[k].epoch ≤ c.epoch
 | [], _, _, k, h => by simp at h
 | n :: ns, i, h0, k, h => by
  rw [nodesF] at h0
  split at h0
  ·
   rename_i q; exact absurd h0 q
  rename_i q1
  split at h0
  ·
   simp at h0
  rename_i q2
  split at h0
  ·
   simp at h0
  rename_i q3
  cases k with
  | zero => exact ⟨by simpa using q1, by simpa using q2, by
    have : ¬ c.epoch < n.epoch := fun q => q3 (Or.inl q)
    simp
    omega⟩
  | succ k =>
   have := nodesF_zero c ns (i + 1) h0 k (by simpa using h)
   obtain ⟨a1, a2, a3⟩ := this
   refine ⟨by simpa using a1, ?_, by simpa using a3⟩
   simp only [List.getElem_cons_succ]
   rw [a2]
   omega
theorem worldFault_zero {x : DWorld} (h : worldFault x = 0) : WorldOK x := by
 unfold worldFault at h
 split at h
 ·
  simp at h
 rename_i h1
 split at h
 ·
  rename_i q; exact absurd h q
 rename_i h2
 split at h
 ·
  simp at h
 rename_i h3
 split at h
 ·
  rename_i q; exact absurd h q
 rename_i h4
 split at h
 ·
  rename_i q; exact absurd h q
 rename_i h5
 split at h
 ·
  simp at h
 rename_i h6
 split at h
 ·
  rename_i h7
  have h4' : nodesFault x = 0 := by simpa using h4
  unfold nodesFault at h4'
  have h8 : nodesF x.chain 0 x.nodes = 0 ∧ x.chain.ids.all (nodeIn x) = true := by
   split at h4'
   ·
    rename_i q; exact absurd h4' q
   rename_i q
   split at h4'
   ·
    rename_i q2; exact ⟨by simpa using q, q2⟩
   simp at h4'
  refine ⟨by omega, by omega, by simpa using h2, by omega, fun k hk => ?_, fun z hz => List.all_eq_true.1 h8.2 z hz, by simpa using h5, by omega, fun e he => List.all_eq_true.1 h7 e he⟩
  have := nodesF_zero x.chain x.nodes 0 h8.1 k hk
  simpa using this
 simp at h
def Fits (x : DWorld) : Prop := ∀ e ∈ x.history, e.query.length ≤ 10000000 ∧ e.vec.length ≤ 10000000 ∧ e.hits.length ≤ 10000000
theorem fits_of_sz {x : DWorld} (h : Lay.tWorld.sz x ≤ 1048576) : Fits x := fun e he => by
 have h1 : Lay.tWorld.sz x = 0 + (0 + (Lay.tChain.sz x.chain + ((Lay.sl Lay.tNode).sz x.nodes + ((Lay.sl Lay.tMsg).sz x.msgs + (Lay.sl Lay.tEntry).sz x.history)))) := rfl
 obtain ⟨j, hj, rfl⟩ := List.getElem_of_mem he
 have h2 := Lay.sz_elem (A := Lay.tEntry) hj
 have h3 : Lay.tEntry.sz x.history[j] = 0 + (0 + (0 + (0 + ((Lay.sl Lay.int).sz x.history[j].query + (0 + (0 + (0 + (0 + ((Lay.sl Lay.int).sz x.history[j].vec + (Lay.sl Lay.tHit).sz x.history[j].hits))))))))) := rfl
 have h4 := Lay.sz_len (A := Lay.int) (xs := x.history[j].query)
 have h5 := Lay.sz_len (A := Lay.int) (xs := x.history[j].vec)
 have h6 := Lay.sz_len (A := Lay.tHit) (xs := x.history[j].hits)
 omega
theorem wf_World {w : World} {cs : List Value} {x : DWorld} (h : Lay.tWorld.Reads w cs x) : (Lit.int .i64 x.now).wf = true ∧ (Lit.int .i64 x.events).wf = true ∧ (Lit.int .i64 x.chain.epoch).wf = true := by
 obtain ⟨bl, h⟩ := h
 obtain ⟨_, _, _, _, _, _, _, _, _, _, _, _, -, -, w0, w1, w2, -⟩ := lies_World.1 h
 exact ⟨w0, w1, w2⟩
theorem own_worldC {w : World} {x : DWorld} {v3 v4 v5 v6 : Value} {l3 h3 l4 h4 l5 h5 l6 h6 : Nat} (p3 : (Lay.sl Lay.int).OwnIn w [v3] x.chain.ids l3 h3) (p4 : (Lay.sl Lay.tNode).OwnIn w [v4] x.nodes l4 h4) (p5 : (Lay.sl Lay.tMsg).OwnIn w [v5] x.msgs l5 h5) (p6 : (Lay.sl Lay.tEntry).OwnIn w [v6] x.history l6 h6)
  (e1 : h3 ≤ l4) (e2 : h4 ≤ l5) (e3 : h5 ≤ l6) (e4 : l3 ≤ h3) (e5 : l4 ≤ h4) (e6 : l5 ≤ h5) (e7 : l6 ≤ h6) (hw : (Lit.int .i64 x.now).wf = true ∧ (Lit.int .i64 x.events).wf = true ∧ (Lit.int .i64 x.chain.epoch).wf = true) :
  Lay.tWorld.OwnIn w [.int .i64 x.now, .int .i64 x.events, .int .i64 x.chain.epoch, v3, v4, v5, v6] x l3 h6 := by
 obtain ⟨b3, O3, i3⟩ := p3
 obtain ⟨b4, O4, i4⟩ := p4
 obtain ⟨b5, O5, i5⟩ := p5
 obtain ⟨b6, O6, i6⟩ := p6
 obtain ⟨w0, w1, w2⟩ := hw
 have hm : ∀ c, c ∈ b3 ++ (b4 ++ (b5 ++ b6)) → (l3 ≤ c ∧ c < h3 ∧ c ∈ b3) ∨ (l4 ≤ c ∧ c < h4 ∧ c ∈ b4) ∨ (l5 ≤ c ∧ c < h5 ∧ c ∈ b5) ∨ (l6 ≤ c ∧ c < h6 ∧ c ∈ b6) := by
  intro c hc
  simp only [List.mem_append] at hc
  rcases hc with hc | hc | hc | hc
  ·
   exact Or.inl ⟨(i3 c hc).1, (i3 c hc).2, hc⟩
  ·
   exact Or.inr (Or.inl ⟨(i4 c hc).1, (i4 c hc).2, hc⟩)
  ·
   exact Or.inr (Or.inr (Or.inl ⟨(i5 c hc).1, (i5 c hc).2, hc⟩))
  exact Or.inr (Or.inr (Or.inr ⟨(i6 c hc).1, (i6 c hc).2, hc⟩))
 refine ⟨b3 ++ (b4 ++ (b5 ++ b6)), mkOwn_World (mkOwn_Chain O3 w2 O3.2.1) O4 O5 O6 w0 w1 ?_, fun c hc => by have := hm c hc; omega⟩
 rw [List.nodup_append, List.nodup_append, List.nodup_append]
 refine ⟨O3.2.1, ⟨O4.2.1, ⟨O5.2.1, O6.2.1, fun a ha c hc e => ?_⟩, fun a ha c hc e => ?_⟩, fun a ha c hc e => ?_⟩
 ·
  have := i5 a ha; have := i6 c hc; omega
 ·
  have := i4 a ha
  rcases List.mem_append.1 hc with hc | hc
  ·
   have := i5 c hc; omega
  have := i6 c hc; omega
 have := i3 a ha
 simp only [List.mem_append] at hc
 rcases hc with hc | hc | hc
 ·
  have := i4 c hc; omega
 ·
  have := i5 c hc; omega
 have := i6 c hc; omega
theorem node_bounds {x : DNode} (h : nodeFault x = 0) : x.writes.length ≤ 1000000 ∧ ∀ y ∈ x.writes, y.vec.length ≤ 10000000 := by
 have hk := nodeFault_zero h
 refine ⟨by have := hk.len; omega, fun y hy => ?_⟩
 obtain ⟨-, -, -, hq⟩ := writeFault_zero (hk.ws y hy)
 rcases hq with ⟨-, hv⟩ | ⟨-, hv⟩
 ·
  have := (vecFault_zero hv).1; omega
 rw [hv]; simp
theorem msg_bounds {x : DMsg} (h : msgFault x = 0) : x.write.vec.length ≤ 10000000 := by
 unfold msgFault at h
 split at h
 ·
  simp at h
 rename_i h1
 split at h
 ·
  simp at h
 split at h
 ·
  rename_i h3
  have h4 : noW x.write := Decidable.byContradiction fun q => h1 (Or.inr (Or.inr ⟨h3, q⟩))
  have := h4.2.2.2.2
  omega
 obtain ⟨-, -, -, hk⟩ := writeFault_zero h
 rcases hk with ⟨-, hv⟩ | ⟨-, hv⟩
 ·
  have := (vecFault_zero hv).1; omega
 rw [hv]; simp
def WOwn (w : World) (lo g : Nat) (cells : List Value) (x : DWorld) : Prop := ∃ bl, Lay.tWorld.Own w cells x bl ∧ g ∉ bl ∧ ∀ b ∈ bl, lo ≤ b ∧ b < w.heap.size
theorem WOwn.ext {S : Nat → Prop} {w w' : World} {lo g : Nat} {cells : List Value} {x : DWorld} (h : WOwn w lo g cells x) (e : Ext S w w') (hs : ∀ k, lo ≤ k → k < w.heap.size → k ≠ g → ¬ S k) : WOwn w' lo g cells x := by
 obtain ⟨bl, O, hg, hb⟩ := h
 exact ⟨bl, O.ext e (fun b hm => hs b (hb b hm).1 (hb b hm).2 (fun q => hg (q ▸ hm))), hg, fun b hm => ⟨(hb b hm).1, Nat.lt_of_lt_of_le (hb b hm).2 e.size⟩⟩
theorem WOwn.later {w w' : World} {lo g : Nat} {cells : List Value} {x : DWorld} (h : WOwn w lo g cells x) (hb : Below w.heap.size w w') : WOwn w' lo g cells x := h.ext (ext_of_below hb nowhere) fun _ _ _ _ q => q
theorem WOwn.reads {w : World} {lo g : Nat} {cells : List Value} {x : DWorld} (h : WOwn w lo g cells x) : Lay.tWorld.Reads w cells x := by
 obtain ⟨bl, O, -⟩ := h
 exact ⟨bl, O.1⟩
theorem WOwn.ownIn {w : World} {lo g : Nat} {cells : List Value} {x : DWorld} (h : WOwn w lo g cells x) : Lay.tWorld.OwnIn w cells x lo w.heap.size := by
 obtain ⟨bl, O, -, hb⟩ := h
 exact ⟨bl, O, hb⟩
theorem wown_new {w : World} {lo hi g : Nat} {cells : List Value} {x : DWorld} (h : Lay.tWorld.OwnIn w cells x lo hi) (hg : hi ≤ g) (hh : hi ≤ w.heap.size) : WOwn w lo g cells x := by
 obtain ⟨bl, O, hb⟩ := h
 exact ⟨bl, O, fun q => by have := hb g q; omega, fun b hm => by have := hb b hm; omega⟩
theorem own_nextW {w : World} {x : DWorld} {v3 v4 v5 v6 : Value} {lo g : Nat} (h : WOwn w lo g [.int .i64 x.now, .int .i64 x.events, .int .i64 x.chain.epoch, v3, v4, v5, v6] x) (he : -1000000000 ≤ x.events + 1 ∧ x.events + 1 ≤ 1000000000) : WOwn w lo g [.int .i64 x.now, .int .i64 (x.events + 1), .int .i64 x.chain.epoch, v3, v4, v5, v6] (nextW x) := by
 obtain ⟨bl, O, hg, hb⟩ := h
 obtain ⟨a3, d3, a4, d4, a5, d5, a6, d6, g2, g4, g5, g6, hq, rfl, O2, O4, O5, O6, w0, w1⟩ := own_World O
 simp only [List.cons.injEq, and_true, true_and] at hq
 obtain ⟨rfl, rfl, rfl, rfl⟩ := hq
 exact ⟨_, mkOwn_World (x := nextW x) O2 O4 O5 O6 w0 (wf_of_bd he) O.2.1, hg, hb⟩
theorem own_badW {w : World} {c : Int} {lo hi : Nat} (hc : -1000000000 ≤ c ∧ c ≤ 1000000000) (h : lo ≤ hi) : Lay.tWorldResult.OwnIn w [.int .i64 c, .bool false, .int .i64 0, .int .i64 0, .int .i64 0, .slice none 0 0, .slice none 0 0, .slice none 0 0, .slice none 0 0] (badWorld c) lo hi := by
 have q : Lay.tWorld.OwnIn w [.int .i64 0, .int .i64 0, .int .i64 0, .slice none 0 0, .slice none 0 0, .slice none 0 0, .slice none 0 0] noWorld lo hi :=
  (own_worldC (x := noWorld) (l3 := lo) (h3 := lo) (l4 := lo) (h4 := lo) (l5 := lo) (h5 := lo) (l6 := lo) (h6 := lo) nil_own nil_own nil_own nil_own (Nat.le_refl _) (Nat.le_refl _) (Nat.le_refl _) (Nat.le_refl _) (Nat.le_refl _) (Nat.le_refl _) (Nat.le_refl _) ⟨by decide, by decide, by decide⟩).mono (Nat.le_refl _) h
 obtain ⟨bl, O, hb⟩ := q
 exact ⟨bl, mkOwn_WorldResult (x := badWorld c) O (wf_of_bd hc) O.2.1, hb⟩
theorem own_okW {w : World} {m : Bool} {cells : List Value} {x : DWorld} {lo hi : Nat} (h : Lay.tWorld.OwnIn w cells x lo hi) : Lay.tWorldResult.OwnIn w ([.int .i64 0] ++ ([.bool m] ++ cells)) ⟨0, m, x⟩ lo hi := by
 obtain ⟨bl, O, hb⟩ := h
 exact ⟨bl, mkOwn_WorldResult (x := ⟨0, m, x⟩) O (show (Lit.int .i64 0).wf = true by decide) O.2.1, hb⟩
def resW (c : Int) (mv : Bool) (z : DWorld) : DWorldResult := if c = 0 then ⟨0, mv, z⟩ else badWorld c
def StepC (L N : Nat) (cap : Array Value) (y : DWorld) (c : Int) (mv : Bool) (z : DWorld) (W : World) : Prop :=
 ∀ (g lo : Nat) (v3 v4 v5 v6 : Value), L ≤ lo → Box 0 #[.int .i64 y.now, .int .i64 y.events, .int .i64 y.chain.epoch, v3, v4, v5, v6] 36 W g → lo ≤ g → WOwn W lo g [.int .i64 y.now, .int .i64 y.events, .int .i64 y.chain.epoch, v3, v4, v5, v6] y →
  Calls Tryz.prog N (#[.pointer (some ⟨g, 0, none⟩)] ++ cap) W fun e W' => ∃ m, e = .returned (.tuple #[.bool m, .int .i64 c]) ∧ (c = 0 → m = mv ∧ ∃ (u3 u4 u5 u6 : Value), Box 0 #[.int .i64 z.now, .int .i64 z.events, .int .i64 z.chain.epoch, u3, u4, u5, u6] 36 W' g ∧ WOwn W' lo g [.int .i64 z.now, .int .i64 z.events, .int .i64 z.chain.epoch, u3, u4, u5, u6] z) ∧ Ext (fun q => lo ≤ q) W W'
theorem below_of_ext {w w' : World} {lo : Nat} (e : Ext (fun q => lo ≤ q) w w') (h : lo ≤ w.heap.size) : Below lo w w' := e.below h fun k hk hn => by omega
namespace Lay
variable {α : Type} {A : Lay α} {w w' : World}
def Apart (A : Lay α) (w : World) (v : Value) (xs : List α) (b : Nat) (r : List Nat) : Prop := (sl A).lies w [v] xs (b :: r) ∧ b ∉ r ∧ ∀ o, w.frozen? ⟨b, o, none⟩ = false
theorem apart_of_own {v : Value} {xs : List α} {bl : List Nat} (h : (sl A).Own w [v] xs bl) (hp : 0 < xs.length) : ∃ b off cap r, v = .slice (some ⟨b, off, none⟩) xs.length cap ∧ bl = b :: r ∧ A.Apart w v xs b r := by
 obtain ⟨hl, hnd, hf⟩ := h
 have hl2 := hl
 obtain ⟨ao, cp, e, hsz, hor⟩ := hl2
 obtain rfl : v = .slice ao xs.length cp := by simpa using e
 rcases hor with ⟨rfl, -⟩ | ⟨b, off, rows, bls, rfl, hb, rfl, hr, hbl, hj⟩
 ·
  simp at hp
 rw [List.nodup_cons] at hnd
 exact ⟨b, off, cp, bls.flatten, rfl, rfl, hl, hnd.1, fun o => hf b (by simp) o⟩
theorem Apart.row {b off cap k n : Nat} {xs : List α} {r : List Nat} (h : A.Apart w (.slice (some ⟨b, off, none⟩) n cap) xs b r) (hk : k < xs.length) : ∃ row, RowAt w w b (off + k * A.n) A.n row [] ∧ ∃ blk, A.lies w row xs[k] blk ∧ (∀ c ∈ blk, c ∈ r) := by
 obtain ⟨⟨ao, cp, e, hsz, hor⟩, hnb, hf⟩ := h
 simp only [List.cons.injEq, Value.slice.injEq, and_true] at e
 obtain ⟨rfl, rfl, rfl⟩ := e
 rcases hor with ⟨rfl, h0⟩ | ⟨b', off', rows, bls, e2, hb, e3, hr, hbl, hj⟩
 ·
  simp at hk
 simp only [Option.some.injEq, Addr.mk.injEq, and_true] at e2
 obtain ⟨rfl, rfl⟩ := e2
 rw [List.cons.injEq] at e3
 obtain ⟨-, rfl⟩ := e3
 obtain ⟨hc, hlie⟩ := hj k hk (by omega) (by omega)
 exact ⟨rows[k]'(by omega), ⟨A.len hlie, hc, fun _ _ => rfl, hf, hb, Ext.refl _ _⟩, bls[k]'(by omega), hlie, fun c hc => List.mem_flatten.2 ⟨_, List.getElem_mem _, hc⟩⟩
theorem Apart.put {b off cap k n : Nat} {xs : List α} {r : List Nat} (h : A.Apart w (.slice (some ⟨b, off, none⟩) n cap) xs b r) (hk : k < xs.length) {row' : List Value} {x' : α} {blk' : List Nat}
  (hR : RowAt w w' b (off + k * A.n) A.n row' []) (hO : A.lies w' row' x' blk') (hd : b ∉ blk') :
  ∃ r', A.Apart w' (.slice (some ⟨b, off, none⟩) n cap) (xs.set k x') b r' ∧ (∀ c ∈ r', c ∈ r ∨ c ∈ blk') ∧ (r.Nodup → blk'.Nodup → (∀ c ∈ blk', c ∉ r) → r'.Nodup) := by
 obtain ⟨⟨ao, cp, e, hsz, hor⟩, hnb, hf⟩ := h
 simp only [List.cons.injEq, Value.slice.injEq, and_true] at e
 obtain ⟨rfl, rfl, rfl⟩ := e
 rcases hor with ⟨rfl, h0⟩ | ⟨b', off', rows, bls, e2, hb, e3, hr, hbl, hj⟩
 ·
  simp at hk
 simp only [Option.some.injEq, Addr.mk.injEq, and_true] at e2
 obtain ⟨rfl, rfl⟩ := e2
 rw [List.cons.injEq] at e3
 obtain ⟨-, rfl⟩ := e3
 have hkb : k < bls.length := by omega
 have hmem : ∀ c ∈ (bls.set k blk').flatten, c ∈ bls.flatten ∨ c ∈ blk' := by
  intro c hc
  obtain ⟨l, hl1, hl2⟩ := List.mem_flatten.1 hc
  rcases List.mem_or_eq_of_mem_set hl1 with q | rfl
  ·
   exact Or.inl (List.mem_flatten.2 ⟨l, q, hl2⟩)
  exact Or.inr hl2
 have hkeep : ∀ c, c < w.heap.size → c ≠ b → w'.heap[c]? = w.heap[c]? := fun c hlt h1 => hR.ext.block c hlt (by rintro (h | h); exact h1 h; cases h)
 refine ⟨(bls.set k blk').flatten, ⟨⟨some ⟨b, off, none⟩, cap, by simp, by simpa using hsz, Or.inr ⟨b, off, rows.set k row', bls.set k blk', rfl, hR.lt, rfl, by simpa using hr, by simpa using hbl, fun j h1 h2 h3 => ?_⟩⟩, ?_, fun o => hR.soft o⟩, hmem, ?_⟩
 ·
  have h1' : j < xs.length := by simpa using h1
  have h2' : j < rows.length := by simpa using h2
  have h3' : j < bls.length := by simpa using h3
  by_cases e : j = k
  ·
   subst e
   rw [List.getElem_set_self, List.getElem_set_self, List.getElem_set_self]
   exact ⟨hR.cells, hO⟩
  rw [List.getElem_set_ne (by omega), List.getElem_set_ne (by omega), List.getElem_set_ne (by omega)]
  obtain ⟨c1, c2⟩ := hj j h1' h2' h3'
  refine ⟨fun m hm => ?_, A.keep c2 fun c hm => hkeep c (A.lt c2 c hm) (fun e3 => hnb (e3 ▸ List.mem_flatten.2 ⟨_, List.getElem_mem h3', hm⟩))⟩
  rw [hR.others _ ?_]
  ·
   exact c1 m hm
  rcases Nat.lt_or_ge j k with h | h
  ·
   left
   have : (j + 1) * A.n ≤ k * A.n := Nat.mul_le_mul_right _ h
   rw [Nat.add_mul] at this
   omega
  right
  have : (k + 1) * A.n ≤ j * A.n := Nat.mul_le_mul_right _ (by omega)
  rw [Nat.add_mul] at this
  omega
 ·
  intro hc
  rcases hmem b hc with q | q
  ·
   exact hnb q
  exact hd q
 intro hn1 hn2 hn3
 have hfl := nodup_flat hn1
 rw [List.nodup_iff_pairwise_ne, List.pairwise_flatten]
 refine ⟨fun l hl => ?_, ?_⟩
 ·
  rcases List.mem_or_eq_of_mem_set hl with q | rfl
  ·
   exact List.nodup_iff_pairwise_ne.1 (hfl.1 l q)
  exact List.nodup_iff_pairwise_ne.1 hn2
 rw [List.pairwise_iff_getElem]
 intro i j hi hj2 hij x hx y hy exy
 subst exy
 have hi' : i < bls.length := by simpa using hi
 have hj' : j < bls.length := by simpa using hj2
 by_cases e1 : i = k
 ·
  subst e1
  rw [List.getElem_set_self] at hx
  rw [List.getElem_set_ne (by omega)] at hy
  exact hn3 x hx (List.mem_flatten.2 ⟨_, List.getElem_mem hj', hy⟩)
 rw [List.getElem_set_ne (by omega)] at hx
 by_cases e2 : j = k
 ·
  subst e2
  rw [List.getElem_set_self] at hy
  exact hn3 x hy (List.mem_flatten.2 ⟨_, List.getElem_mem hi', hx⟩)
 rw [List.getElem_set_ne (by omega)] at hy
 exact hfl.2 i j hi' hj' (by omega) x hx hy
end Lay
def setN (y : DWorld) (k : Nat) (n : DNode) : DWorld := ⟨y.now, y.events, y.chain, y.nodes.set k n, y.msgs, y.history⟩
theorem Lay.Apart.ext {α : Type} {A : Lay α} {w w' : World} {v : Value} {xs : List α} {b : Nat} {r : List Nat} {S : Nat → Prop} (h : A.Apart w v xs b r) (e : Ext S w w') (hb : ¬ S b) (hr : ∀ c ∈ r, ¬ S c) : A.Apart w' v xs b r := by
 obtain ⟨hl, hn, hf⟩ := h
 have hlt := (Lay.sl A).lt hl
 have hk : ∀ c ∈ b :: r, w'.heap[c]? = w.heap[c]? := fun c hc => e.block c (hlt c hc) (by
  rcases List.mem_cons.1 hc with rfl | hc
  ·
   exact hb
  exact hr c hc)
 exact ⟨(Lay.sl A).keep hl hk, hn, fun o => (frozen_of_heap (hk b (by simp)) o).trans (hf o)⟩
structure WBl where
 a3 : Option Addr
 d3 : Nat
 b : Nat
 off : Nat
 d4 : Nat
 a5 : Option Addr
 d5 : Nat
 a6 : Option Addr
 d6 : Nat
 l3 : List Nat
 r : List Nat
 l5 : List Nat
 l6 : List Nat
def WBl.cells (q : WBl) (x : DWorld) : List Value := [.int .i64 x.now, .int .i64 x.events, .int .i64 x.chain.epoch, .slice q.a3 x.chain.ids.length q.d3, .slice (some ⟨q.b, q.off, none⟩) x.nodes.length q.d4, .slice q.a5 x.msgs.length q.d5, .slice q.a6 x.history.length q.d6]
structure WLie (W : World) (q : WBl) (x : DWorld) : Prop where
 w0 : (Lit.int .i64 x.now).wf = true
 w1 : (Lit.int .i64 x.events).wf = true
 w2 : (Lit.int .i64 x.chain.epoch).wf = true
 i3 : (Lay.sl Lay.int).lies W [.slice q.a3 x.chain.ids.length q.d3] x.chain.ids q.l3
 i4 : Lay.tNode.Apart W (.slice (some ⟨q.b, q.off, none⟩) x.nodes.length q.d4) x.nodes q.b q.r
 i5 : (Lay.sl Lay.tMsg).lies W [.slice q.a5 x.msgs.length q.d5] x.msgs q.l5
 i6 : (Lay.sl Lay.tEntry).lies W [.slice q.a6 x.history.length q.d6] x.history q.l6
 n3 : q.b ∉ q.l3
 n5 : q.b ∉ q.l5
 n6 : q.b ∉ q.l6
def WSt (W : World) (lo hi : Nat) (G : Nat → Prop) (cells : List Value) (x : DWorld) : Prop := ∃ q : WBl, cells = q.cells x ∧ WLie W q x ∧ (lo ≤ q.b ∧ q.b < hi) ∧ ¬ G q.b ∧ (∀ c ∈ q.l3, ¬ G c) ∧ (∀ c ∈ q.r, ¬ G c) ∧ (∀ c ∈ q.l5, ¬ G c) ∧ (∀ c ∈ q.l6, ¬ G c)
def WNew (W : World) (lo hi : Nat) (cells : List Value) (x : DWorld) : Prop := ∃ q : WBl, cells = q.cells x ∧ WLie W q x ∧ (lo ≤ q.b ∧ q.b < hi) ∧ (∀ c ∈ q.l3, lo ≤ c ∧ c < hi) ∧ (∀ c ∈ q.r, lo ≤ c ∧ c < hi) ∧ (∀ c ∈ q.l5, lo ≤ c ∧ c < hi) ∧ (∀ c ∈ q.l6, lo ≤ c ∧ c < hi)
theorem WLie.ext {W W' : World} {q : WBl} {x : DWorld} {S : Nat → Prop} (h : WLie W q x) (e : Ext S W W') (hs : ∀ c, c < W.heap.size → (c = q.b ∨ c ∈ q.l3 ∨ c ∈ q.r ∨ c ∈ q.l5 ∨ c ∈ q.l6) → ¬ S c) : WLie W' q x := by
 have l3 := (Lay.sl Lay.int).lt h.i3
 have l4 := (Lay.sl Lay.tNode).lt h.i4.1
 have l5 := (Lay.sl Lay.tMsg).lt h.i5
 have l6 := (Lay.sl Lay.tEntry).lt h.i6
 exact ⟨h.w0, h.w1, h.w2, (Lay.sl Lay.int).keep h.i3 (fun c hc => e.block c (l3 c hc) (hs c (l3 c hc) (Or.inr (Or.inl hc)))),
  h.i4.ext e (hs q.b (l4 q.b (by simp)) (Or.inl rfl)) (fun c hc => hs c (l4 c (by simp [hc])) (Or.inr (Or.inr (Or.inl hc)))),
  (Lay.sl Lay.tMsg).keep h.i5 (fun c hc => e.block c (l5 c hc) (hs c (l5 c hc) (Or.inr (Or.inr (Or.inr (Or.inl hc)))))),
  (Lay.sl Lay.tEntry).keep h.i6 (fun c hc => e.block c (l6 c hc) (hs c (l6 c hc) (Or.inr (Or.inr (Or.inr (Or.inr hc)))))), h.n3, h.n5, h.n6⟩
theorem WLie.reads {W : World} {q : WBl} {x : DWorld} (h : WLie W q x) : Lay.tWorld.Reads W (q.cells x) x :=
 ⟨q.l3 ++ ((q.b :: q.r) ++ (q.l5 ++ q.l6)), lies_World.2 ⟨q.a3, q.d3, q.l3, _, q.d4, _, q.a5, q.d5, q.l5, q.a6, q.d6, q.l6, rfl, rfl, h.w0, h.w1, h.w2, h.i3, h.i4.1, h.i5, h.i6⟩⟩
theorem WSt.reads {W : World} {lo hi : Nat} {G : Nat → Prop} {cells : List Value} {x : DWorld} (h : WSt W lo hi G cells x) : Lay.tWorld.Reads W cells x := by
 obtain ⟨q, rfl, hl, -⟩ := h
 exact hl.reads
theorem WSt.ext {S : Nat → Prop} {W W' : World} {lo hi : Nat} {G : Nat → Prop} {cells : List Value} {x : DWorld} (h : WSt W lo hi G cells x) (e : Ext S W W') (hs : ∀ k, k < W.heap.size → ¬ G k → ¬ S k) : WSt W' lo hi G cells x := by
 obtain ⟨q, rfl, hl, hb, h4, h3, hr, h5, h6⟩ := h
 refine ⟨q, rfl, hl.ext e (fun c hc hm => hs c hc ?_), hb, h4, h3, hr, h5, h6⟩
 rcases hm with rfl | hm | hm | hm | hm
 ·
  exact h4
 ·
  exact h3 c hm
 ·
  exact hr c hm
 ·
  exact h5 c hm
 exact h6 c hm
theorem WSt.liesIn {W : World} {lo hi B : Nat} {G : Nat → Prop} {cells : List Value} {x : DWorld} (h : WSt W lo hi G cells x) (hB : ∀ c, ¬ G c → B ≤ c) : Lay.tWorld.LiesIn W cells x B W.heap.size := by
 obtain ⟨q, rfl, hl, hb, h4, h3, hr, h5, h6⟩ := h
 refine ⟨q.l3 ++ ((q.b :: q.r) ++ (q.l5 ++ q.l6)), lies_World.2 ⟨q.a3, q.d3, q.l3, _, q.d4, _, q.a5, q.d5, q.l5, q.a6, q.d6, q.l6, rfl, rfl, hl.w0, hl.w1, hl.w2, hl.i3, hl.i4.1, hl.i5, hl.i6⟩, fun c hc => ?_⟩
 rcases List.mem_append.1 hc with hm | hm
 ·
  exact ⟨hB c (h3 c hm), (Lay.sl Lay.int).lt hl.i3 c hm⟩
 rcases List.mem_append.1 hm with hm | hm
 ·
  refine ⟨hB c ?_, (Lay.sl Lay.tNode).lt hl.i4.1 c hm⟩
  rcases List.mem_cons.1 hm with rfl | hm
  ·
   exact h4
  exact hr c hm
 rcases List.mem_append.1 hm with hm | hm
 ·
  exact ⟨hB c (h5 c hm), (Lay.sl Lay.tMsg).lt hl.i5 c hm⟩
 exact ⟨hB c (h6 c hm), (Lay.sl Lay.tEntry).lt hl.i6 c hm⟩
theorem okR_lies {W : World} {m : Bool} {cells : List Value} {x : DWorld} {lo hi : Nat} (h : Lay.tWorld.LiesIn W cells x lo hi) : Lay.tWorldResult.LiesIn W ([.int .i64 0] ++ ([.bool m] ++ cells)) ⟨0, m, x⟩ lo hi := by
 obtain ⟨bl, l, hb⟩ := h
 exact ⟨bl, ⟨[.int .i64 0], [.bool m] ++ cells, [], bl, rfl, by simp, ⟨rfl, (show (Lit.int .i64 0).wf = true by decide), rfl⟩, ⟨[.bool m], cells, [], bl, rfl, by simp, ⟨rfl, rfl⟩, l⟩⟩, hb⟩
theorem WSt.later {W W' : World} {lo hi : Nat} {G : Nat → Prop} {cells : List Value} {x : DWorld} (h : WSt W lo hi G cells x) (hb : Below W.heap.size W W') : WSt W' lo hi G cells x := h.ext (ext_of_below hb nowhere) fun _ _ _ q => q
theorem WNew.later {W W' : World} {lo hi : Nat} {cells : List Value} {x : DWorld} (h : WNew W lo hi cells x) (hb : Below W.heap.size W W') : WNew W' lo hi cells x := by
 obtain ⟨q, rfl, hl, r⟩ := h
 exact ⟨q, rfl, hl.ext (ext_of_below hb nowhere) fun _ _ _ q => q, r⟩
theorem WNew.mono {W : World} {lo hi lo' hi' : Nat} {cells : List Value} {x : DWorld} (h : WNew W lo hi cells x) (h1 : lo' ≤ lo) (h2 : hi ≤ hi') : WNew W lo' hi' cells x := by
 obtain ⟨q, rfl, hl, hb, h3, hr, h5, h6⟩ := h
 exact ⟨q, rfl, hl, by omega, fun c hc => by have := h3 c hc; omega, fun c hc => by have := hr c hc; omega, fun c hc => by have := h5 c hc; omega, fun c hc => by have := h6 c hc; omega⟩
theorem WNew.reads {W : World} {lo hi : Nat} {cells : List Value} {x : DWorld} (h : WNew W lo hi cells x) : Lay.tWorld.Reads W cells x := by
 obtain ⟨q, rfl, hl, -⟩ := h
 exact hl.reads
theorem WNew.st {W : World} {lo hi : Nat} {G : Nat → Prop} {cells : List Value} {x : DWorld} (h : WNew W lo hi cells x) (hg : ∀ k, G k → hi ≤ k ∨ k < lo) : WSt W lo hi G cells x := by
 obtain ⟨q, rfl, hl, hb, h3, hr, h5, h6⟩ := h
 exact ⟨q, rfl, hl, hb, fun e => by have := hg _ e; omega, fun c hm e => by have := h3 c hm; have := hg c e; omega, fun c hm e => by have := hr c hm; have := hg c e; omega, fun c hm e => by have := h5 c hm; have := hg c e; omega, fun c hm e => by have := h6 c hm; have := hg c e; omega⟩
theorem WNew.count {W : World} {lo hi : Nat} {v3 v4 v5 v6 : Value} {x : DWorld} (h : WNew W lo hi [.int .i64 x.now, .int .i64 x.events, .int .i64 x.chain.epoch, v3, v4, v5, v6] x) (n e : Int) (hn : (Lit.int .i64 n).wf = true) (he : (Lit.int .i64 e).wf = true) : WNew W lo hi [.int .i64 n, .int .i64 e, .int .i64 x.chain.epoch, v3, v4, v5, v6] { x with now := n, events := e } := by
 obtain ⟨q, hq, hl, r⟩ := h
 simp only [WBl.cells, List.cons.injEq, and_true, true_and] at hq
 obtain ⟨rfl, rfl, rfl, rfl⟩ := hq
 exact ⟨q, rfl, ⟨hn, he, hl.w2, hl.i3, hl.i4, hl.i5, hl.i6, hl.n3, hl.n5, hl.n6⟩, r⟩
theorem WSt.msgs {W : World} {lo hi : Nat} {G : Nat → Prop} {v3 v4 v5 v6 : Value} {x : DWorld} (h : WSt W lo hi G [.int .i64 x.now, .int .i64 x.events, .int .i64 x.chain.epoch, v3, v4, v5, v6] x) {a : Option Addr} {n d : Nat} {ms : List DMsg} {bl : List Nat} (hm : (Lay.sl Lay.tMsg).lies W [.slice a n d] ms bl) (hb : ∀ c ∈ bl, (c < lo ∨ hi ≤ c) ∧ ¬ G c) : WSt W lo hi G [.int .i64 x.now, .int .i64 x.events, .int .i64 x.chain.epoch, v3, v4, .slice a n d, v6] { x with msgs := ms } := by
 obtain ⟨q, hq, hl, h1, h4, h3, hr, h5, h6⟩ := h
 simp only [WBl.cells, List.cons.injEq, and_true, true_and] at hq
 obtain ⟨rfl, rfl, rfl, rfl⟩ := hq
 have hn : n = ms.length := by
  obtain ⟨ao, cp, e, -⟩ := hm
  simp only [List.cons.injEq, Value.slice.injEq, and_true] at e
  exact e.2.1
 subst hn
 exact ⟨⟨q.a3, q.d3, q.b, q.off, q.d4, a, d, q.a6, q.d6, q.l3, q.r, bl, q.l6⟩, rfl, ⟨hl.w0, hl.w1, hl.w2, hl.i3, hl.i4, hm, hl.i6, hl.n3, fun (hc : q.b ∈ bl) => by have := (hb _ hc).1; omega, hl.n6⟩, h1, h4, h3, hr, fun c hc => (hb c hc).2, h6⟩
theorem WSt.chain {W : World} {lo hi : Nat} {G : Nat → Prop} {v3 v4 v5 v6 : Value} {x : DWorld} (h : WSt W lo hi G [.int .i64 x.now, .int .i64 x.events, .int .i64 x.chain.epoch, v3, v4, v5, v6] x) {a : Option Addr} {d : Nat} {c : DChain} {bl : List Nat} (hm : Lay.tChain.lies W [.int .i64 c.epoch, .slice a c.ids.length d] c bl) (hb : ∀ k ∈ bl, (k < lo ∨ hi ≤ k) ∧ ¬ G k) : WSt W lo hi G [.int .i64 x.now, .int .i64 x.events, .int .i64 c.epoch, .slice a c.ids.length d, v4, v5, v6] { x with chain := c } := by
 obtain ⟨q, hq, hl, h1, h4, h3, hr, h5, h6⟩ := h
 simp only [WBl.cells, List.cons.injEq, and_true, true_and] at hq
 obtain ⟨rfl, rfl, rfl, rfl⟩ := hq
 obtain ⟨a', d', b', e, rfl, hw, hm⟩ := lies_Chain.1 hm
 simp only [List.cons.injEq, Value.slice.injEq, and_true, true_and] at e
 obtain ⟨rfl, rfl⟩ := e
 exact ⟨⟨a, d, q.b, q.off, q.d4, q.a5, q.d5, q.a6, q.d6, bl, q.r, q.l5, q.l6⟩, rfl, ⟨hl.w0, hl.w1, hw, hm, hl.i4, hl.i5, hl.i6, fun (hc : q.b ∈ bl) => by have := (hb _ hc).1; omega, hl.n5, hl.n6⟩, h1, h4, fun c hc => (hb c hc).2, hr, h5, h6⟩
theorem wst_put {W : World} {lo hi k : Nat} {G : Nat → Prop} {v3 v4 v5 v6 : Value} {y : DWorld} (h : WSt W lo hi G [.int .i64 y.now, .int .i64 y.events, .int .i64 y.chain.epoch, v3, v4, v5, v6] y) (hk : k < y.nodes.length) :
  ∃ b off d4 row0, v4 = .slice (some ⟨b, off, none⟩) y.nodes.length d4 ∧ lo ≤ b ∧ b < hi ∧ b < W.heap.size ∧ ¬ G b ∧ RowAt W W b (off + k * 7) 7 row0 [] ∧ (∃ blk0, Lay.tNode.lies W row0 y.nodes[k] blk0 ∧ ∀ c ∈ blk0, c ≠ b ∧ ¬ G c) ∧ (∀ V, Ext (fun q => q = b) W V → Lay.tChain.Reads V [.int .i64 y.chain.epoch, v3] y.chain) ∧
   ∀ (W2 : World) (row : List Value) (n : DNode) (blk : List Nat), Lay.tNode.lies W2 row n blk → (∀ c ∈ blk, c ≠ b ∧ ¬ G c) → RowAt W W2 b (off + k * 7) 7 row [] → WSt W2 lo hi G [.int .i64 y.now, .int .i64 y.events, .int .i64 y.chain.epoch, v3, v4, v5, v6] (setN y k n) := by
 obtain ⟨q, hq, hl, h1, h4, h3, hr, h5, h6⟩ := h
 simp only [WBl.cells, List.cons.injEq, and_true, true_and] at hq
 obtain ⟨rfl, rfl, rfl, rfl⟩ := hq
 obtain ⟨row0, hR0, blk0, hl0, hm0⟩ := hl.i4.row hk
 have hlt := (Lay.sl Lay.tNode).lt hl.i4.1 q.b (by simp)
 refine ⟨q.b, q.off, q.d4, row0, rfl, h1.1, h1.2, hlt, h4, hR0, ⟨blk0, hl0, fun c hc => ⟨fun e => hl.i4.2.1 (e ▸ hm0 c hc), hr c (hm0 c hc)⟩⟩, fun V e => ?_, fun W2 row n blk hO hd hR => ?_⟩
 ·
  exact ⟨_, lies_Chain.2 ⟨q.a3, q.d3, _, rfl, rfl, hl.w2, (Lay.sl Lay.int).keep hl.i3 (fun c hc => e.block c ((Lay.sl Lay.int).lt hl.i3 c hc) (fun e2 => hl.n3 (e2 ▸ hc)))⟩⟩
 have hE : Ext (fun c => c = q.b) W W2 := hR.ext.mono (fun c _ e => by rcases e with e | e; exact e; cases e)
 obtain ⟨r', hA', hm', -⟩ := hl.i4.put hk (x' := n) hR hO (fun hc => (hd _ hc).1 rfl)
 have key : ∀ {α : Type} {A : Lay α} {v : Value} {xs : List α} {bl : List Nat}, (Lay.sl A).lies W [v] xs bl → q.b ∉ bl → (Lay.sl A).lies W2 [v] xs bl := fun hli hni => (Lay.sl _).keep hli (fun c hc => hE.block c ((Lay.sl _).lt hli c hc) (fun e2 => hni (e2 ▸ hc)))
 refine ⟨⟨q.a3, q.d3, q.b, q.off, q.d4, q.a5, q.d5, q.a6, q.d6, q.l3, r', q.l5, q.l6⟩, by simp [WBl.cells, setN], ⟨hl.w0, hl.w1, hl.w2, key hl.i3 hl.n3, by simpa [setN] using hA', key hl.i5 hl.n5, key hl.i6 hl.n6, hl.n3, hl.n5, hl.n6⟩, h1, h4, h3, fun c hc => ?_, h5, h6⟩
 rcases hm' c hc with e | e
 ·
  exact hr c e
 exact (hd c e).2
def wfM (n : DNode) : Prop := (Lit.int .i64 n.id).wf = true ∧ (Lit.int .i64 n.epoch).wf = true ∧ (Lit.int .i64 n.lease).wf = true ∧ (Lit.int .i64 n.sure).wf = true ∧ (Lit.int .i64 n.clean).wf = true
theorem wst_upd {W : World} {lo hi k : Nat} {G : Nat → Prop} {v3 v4 v5 v6 : Value} {y : DWorld} (h : WSt W lo hi G [.int .i64 y.now, .int .i64 y.events, .int .i64 y.chain.epoch, v3, v4, v5, v6] y) (hk : k < y.nodes.length) :
  ∃ b off d4 an dn, v4 = .slice (some ⟨b, off, none⟩) y.nodes.length d4 ∧ lo ≤ b ∧ b < hi ∧ b < W.heap.size ∧ ¬ G b ∧ RowAt W W b (off + k * 7) 7 [.int .i64 y.nodes[k].id, .bool y.nodes[k].up, .int .i64 y.nodes[k].epoch, .int .i64 y.nodes[k].lease, .slice an y.nodes[k].writes.length dn, .int .i64 y.nodes[k].sure, .int .i64 y.nodes[k].clean] [] ∧ wfM y.nodes[k] ∧ (∀ V, Ext (fun q => q = b) W V → Lay.tChain.Reads V [.int .i64 y.chain.epoch, v3] y.chain) ∧ Lay.tNode.Reads W [.int .i64 y.nodes[k].id, .bool y.nodes[k].up, .int .i64 y.nodes[k].epoch, .int .i64 y.nodes[k].lease, .slice an y.nodes[k].writes.length dn, .int .i64 y.nodes[k].sure, .int .i64 y.nodes[k].clean] y.nodes[k] ∧
   ∀ (W2 : World) (n : DNode), n.writes = y.nodes[k].writes → wfM n → RowAt W W2 b (off + k * 7) 7 [.int .i64 n.id, .bool n.up, .int .i64 n.epoch, .int .i64 n.lease, .slice an y.nodes[k].writes.length dn, .int .i64 n.sure, .int .i64 n.clean] [] → WSt W2 lo hi G [.int .i64 y.now, .int .i64 y.events, .int .i64 y.chain.epoch, v3, v4, v5, v6] (setN y k n) := by
 obtain ⟨b, off, d4, row0, rfl, h1, h2, h3, h4, hR, ⟨blk, hl, hd⟩, hc, hput⟩ := wst_put h hk
 have hl2 := hl
 obtain ⟨an, dn, gn, rfl, rfl, n0, n2, n3, hw, n5, n6⟩ := lies_Node.1 hl
 refine ⟨b, off, d4, an, dn, rfl, h1, h2, h3, h4, hR, ⟨n0, n2, n3, n5, n6⟩, hc, ⟨_, hl2⟩, fun W2 n hn hwf hR2 => ?_⟩
 have hE : Ext (fun c => c = b) W W2 := hR2.ext.mono (fun c _ e => by rcases e with e | e; exact e; cases e)
 have hw2 := (Lay.sl Lay.tWrite).keep hw (fun c hc => hE.block c ((Lay.sl Lay.tWrite).lt hw c hc) (fun e => (hd c hc).1 e))
 obtain ⟨m0, m2, m3, m5, m6⟩ := hwf
 refine hput W2 _ n _ (lies_Node.2 ⟨an, dn, _, by rw [hn], rfl, m0, m2, m3, by rw [hn]; exact hw2, m5, m6⟩) hd hR2
theorem infoAppNode : (Tryz.prog.info? 84).map (fun i => (i.zero, i.size, i.bytes)) = some (some (.agg #[.int .i64 0, .bool false, .int .i64 0, .int .i64 0, .slice none 0 0, .int .i64 0, .int .i64 0]), 7, 72) := by kernel_rfl
theorem one_Node {w : World} {row : List Value} {x : DNode} {bl : List Nat} (h : Lay.tNode.lies w row x bl) : (∀ u ∈ row, u.oneCell' = true) ∧ row.length = 1 * 7 := by
 obtain ⟨_, _, _, rfl, -⟩ := lies_Node.1 h
 simp [Value.oneCell']
theorem wpList_append_Node {w1 : World} {base : Nat} {v : Value} {rows : List (List Value)} {xs : List DNode} {bls : List (List Nat)} (hG : Grow Lay.tNode w1 base 84 v rows xs bls) {row : List Value} {x : DNode} {bl : List Nat} (hl : Lay.tNode.lies w1 row x bl) (hbl : ∀ b ∈ bl, v.ownBlock ≠ some b) {ops : Array Oper} {rest : List Oper} {o : Oper} {a : Act} {Q : Exit → Act → World → Prop} (hgd : o.guard = none) (s y : Operand)
  (ho : o.op = .call { callee := .builtin .append, args := #[s, y], argTypes := #[32, 32] }) (hs : a.eval s = v) (hy : a.eval y = .slice (some ⟨w1.heap.size, 0, none⟩) 1 1) (hn : xs.length + 1 ≤ 100000000) (hbase : base ≤ w1.heap.size)
  (h : ∀ g cap w', Grow Lay.tNode w' base 84 (.slice (some ⟨g, 0, none⟩) (xs.length + 1) cap) (rows ++ [row]) (xs ++ [x]) (bls ++ [bl]) → Below base w1 w' → Ext (fun q => v.ownBlock = some q) w1 w' → g < w'.heap.size → w1.heap.size ≤ w'.heap.size → (v.ownBlock = some g ∨ w1.heap.size ≤ g) → wpList Tryz.prog ops Q rest (a.put o.dst (.slice (some ⟨g, 0, none⟩) (xs.length + 1) cap)) w') :
  wpList Tryz.prog ops Q (o :: rest) a (w1.alloc (.cells row.toArray 84)) := by
 obtain ⟨i0, hi0, hz0, hz1, hz2⟩ := info_parts infoAppNode
 obtain ⟨h1, hlen⟩ := one_Node hl
 refine wpList_append_lies _ hgd s y 32 ho base 84 i0 _ 7 72 Tryz.underlying32 hi0 hz0 hz1 hz2 rfl (by omega) v xs.length rows.flatten hs (hG.own.alloc _) ⟨w1.heap.size, 0, none⟩ 1 1 row hy hlen (World.news_of_block (cs := row.toArray) (t := 84) (fr := (0, 0)) (heap_alloc_new w1 _)) h1 (by omega) (by unfold maxLen; omega) (by omega) (by simp; omega) (w1.alloc (.cells row.toArray 84)).heap.size rfl ?_
 intro g cap w' h2 h3 h4 h5
 have hg := grown_alloc h3
 have hbw : Below base w1 w' := (Below.refl _ _).grown hg hbase (fun j hj => (hG.own.lt j hj).1)
 have hor : v.ownBlock = some g ∨ w1.heap.size ≤ g := by
  rcases h4 with h4 | h4
  ·
   exact Or.inl h4
  exact Or.inr (by rw [h4]; simp)
 exact h g cap w' (hG.snoc hl hbl h2 hg hor) hbw ⟨hbw.os, hbw.tape, hbw.output, hbw.size, fun k hk hn => hg.block k hk (fun e => hn e.symm)⟩ h5 hbw.size hor
theorem step_append_Node {w1 : World} {base : Nat} {v : Value} {rows : List (List Value)} {xs : List DNode} {bls : List (List Nat)} (hG : Grow Lay.tNode w1 base 84 v rows xs bls) {row : List Value} {x : DNode} {bl : List Nat} (hl : Lay.tNode.lies w1 row x bl) (hbl : ∀ b ∈ bl, v.ownBlock ≠ some b) {ops : Array Oper} {o : Oper} {a : Act} {K : Act → World → Prop} {Q : Exit → Act → World → Prop} {E : Prop} (hgd : o.guard = none) (s y : Operand)
  (ho : o.op = .call { callee := .builtin .append, args := #[s, y], argTypes := #[32, 32] }) (hs : a.eval s = v) (hy : a.eval y = .slice (some ⟨w1.heap.size, 0, none⟩) 1 1) (hn : xs.length + 1 ≤ 100000000) (hbase : base ≤ w1.heap.size)
  (h : ∀ g cap w', Grow Lay.tNode w' base 84 (.slice (some ⟨g, 0, none⟩) (xs.length + 1) cap) (rows ++ [row]) (xs ++ [x]) (bls ++ [bl]) → Below base w1 w' → Ext (fun q => v.ownBlock = some q) w1 w' → g < w'.heap.size → w1.heap.size ≤ w'.heap.size → (v.ownBlock = some g ∨ w1.heap.size ≤ g) → K (a.put o.dst (.slice (some ⟨g, 0, none⟩) (xs.length + 1) cap)) w') :
  if Region.wanted o (yielded ops a.tmps) = true then Oper.wp Tryz.prog o a (w1.alloc (.cells row.toArray 84)) K Q else E := by
 obtain ⟨i0, hi0, hz0, hz1, hz2⟩ := info_parts infoAppNode
 obtain ⟨h1, hlen⟩ := one_Node hl
 refine step_append_lies _ hgd s y 32 ho base 84 i0 _ 7 72 Tryz.underlying32 hi0 hz0 hz1 hz2 rfl (by omega) v xs.length rows.flatten hs (hG.own.alloc _) ⟨w1.heap.size, 0, none⟩ 1 1 row hy hlen (World.news_of_block (cs := row.toArray) (t := 84) (fr := (0, 0)) (heap_alloc_new w1 _)) h1 (by omega) (by unfold maxLen; omega) (by omega) (by simp; omega) (w1.alloc (.cells row.toArray 84)).heap.size rfl ?_
 intro g cap w' h2 h3 h4 h5
 have hg := grown_alloc h3
 have hbw : Below base w1 w' := (Below.refl _ _).grown hg hbase (fun j hj => (hG.own.lt j hj).1)
 have hor : v.ownBlock = some g ∨ w1.heap.size ≤ g := by
  rcases h4 with h4 | h4
  ·
   exact Or.inl h4
  exact Or.inr (by rw [h4]; simp)
 exact h g cap w' (hG.snoc hl hbl h2 hg hor) hbw ⟨hbw.os, hbw.tape, hbw.output, hbw.size, fun k hk hn => hg.block k hk (fun e => hn e.symm)⟩ h5 hbw.size hor
theorem infoAppEntry : (Tryz.prog.info? 127).map (fun i => (i.zero, i.size, i.bytes)) = some (some (.agg #[.int .i64 0, .int .i64 0, .int .i64 0, .int .i64 0, .slice none 0 0, .int .i64 0, .int .i64 0, .int .i64 0, .int .i64 0, .slice none 0 0, .slice none 0 0]), 11, 136) := by kernel_rfl
theorem one_Entry {w : World} {row : List Value} {x : DEntry} {bl : List Nat} (h : Lay.tEntry.lies w row x bl) : (∀ u ∈ row, u.oneCell' = true) ∧ row.length = 1 * 11 := by
 obtain ⟨_, _, _, _, _, _, _, _, _, rfl, -⟩ := lies_Entry.1 h
 simp [Value.oneCell']
theorem wpList_append_Entry {w1 : World} {base : Nat} {v : Value} {rows : List (List Value)} {xs : List DEntry} {bls : List (List Nat)} (hG : Grow Lay.tEntry w1 base 127 v rows xs bls) {row : List Value} {x : DEntry} {bl : List Nat} (hl : Lay.tEntry.lies w1 row x bl) (hbl : ∀ b ∈ bl, v.ownBlock ≠ some b) {ops : Array Oper} {rest : List Oper} {o : Oper} {a : Act} {Q : Exit → Act → World → Prop} (hgd : o.guard = none) (s y : Operand)
  (ho : o.op = .call { callee := .builtin .append, args := #[s, y], argTypes := #[34, 34] }) (hs : a.eval s = v) (hy : a.eval y = .slice (some ⟨w1.heap.size, 0, none⟩) 1 1) (hn : xs.length + 1 ≤ 100000000) (hbase : base ≤ w1.heap.size)
  (h : ∀ g cap w', Grow Lay.tEntry w' base 127 (.slice (some ⟨g, 0, none⟩) (xs.length + 1) cap) (rows ++ [row]) (xs ++ [x]) (bls ++ [bl]) → Below base w1 w' → Ext (fun q => v.ownBlock = some q) w1 w' → g < w'.heap.size → w1.heap.size ≤ w'.heap.size → (v.ownBlock = some g ∨ w1.heap.size ≤ g) → wpList Tryz.prog ops Q rest (a.put o.dst (.slice (some ⟨g, 0, none⟩) (xs.length + 1) cap)) w') :
  wpList Tryz.prog ops Q (o :: rest) a (w1.alloc (.cells row.toArray 127)) := by
 obtain ⟨i0, hi0, hz0, hz1, hz2⟩ := info_parts infoAppEntry
 obtain ⟨h1, hlen⟩ := one_Entry hl
 refine wpList_append_lies _ hgd s y 34 ho base 127 i0 _ 11 136 Tryz.underlying34 hi0 hz0 hz1 hz2 rfl (by omega) v xs.length rows.flatten hs (hG.own.alloc _) ⟨w1.heap.size, 0, none⟩ 1 1 row hy hlen (World.news_of_block (cs := row.toArray) (t := 127) (fr := (0, 0)) (heap_alloc_new w1 _)) h1 (by omega) (by unfold maxLen; omega) (by omega) (by simp; omega) (w1.alloc (.cells row.toArray 127)).heap.size rfl ?_
 intro g cap w' h2 h3 h4 h5
 have hg := grown_alloc h3
 have hbw : Below base w1 w' := (Below.refl _ _).grown hg hbase (fun j hj => (hG.own.lt j hj).1)
 have hor : v.ownBlock = some g ∨ w1.heap.size ≤ g := by
  rcases h4 with h4 | h4
  ·
   exact Or.inl h4
  exact Or.inr (by rw [h4]; simp)
 exact h g cap w' (hG.snoc hl hbl h2 hg hor) hbw ⟨hbw.os, hbw.tape, hbw.output, hbw.size, fun k hk hn => hg.block k hk (fun e => hn e.symm)⟩ h5 hbw.size hor
theorem infoAppHit : (Tryz.prog.info? 196).map (fun i => (i.zero, i.size, i.bytes)) = some (some (.agg #[.int .i64 0, .int .i64 0]), 2, 16) := by kernel_rfl
theorem one_Hit {w : World} {row : List Value} {x : DHit} {bl : List Nat} (h : Lay.tHit.lies w row x bl) : (∀ u ∈ row, u.oneCell' = true) ∧ row.length = 1 * 2 := by
 obtain ⟨rfl, -⟩ := lies_Hit.1 h
 simp [Value.oneCell']
theorem append_noneL {P : Program} (t ty e : TypeId) (i : TypeInfo) (ht : P.underlying t = some (.slice e)) (hi : P.info? e = some i) (bo : Option Addr) (n cap c : Nat) (hn : n ≤ cap) (w : World) :
  (Builtin.append_ #[t, t] ty #[.slice bo n cap, .slice none 0 c]).run P w = (Builtin.append_ #[t, t] ty #[.slice bo n cap, .slice (some ⟨0, 0, none⟩) 0 c]).run P w := by
 simp [Builtin.append_, run_underlying ht, sizeOf, typeInfo, hi, Builtin.lenOf, hn, Builtin.firstCells, loadCells, loadCellsFrom]
theorem flat_lenL {n : Nat} : ∀ {rows : List (List Value)}, (∀ r ∈ rows, r.length = n) → rows.flatten.length = rows.length * n
 | [], _ => by simp
 | r :: rows, h => by
  rw [List.flatten_cons, List.length_append, h r (by simp), flat_lenL (fun q hq => h q (List.mem_cons_of_mem _ hq)), List.length_cons, Nat.add_mul]
  omega
theorem addr_add (b off j : Nat) : (⟨b, off, none⟩ : Addr).add j = ⟨b, off + j, none⟩ := by unfold Addr.add; split <;> simp_all
theorem news_rows {α : Type} {A : Lay α} {w : World} {b off : Nat} {ys : List α} {rows : List (List Value)} {bls : List (List Nat)} (hn : 0 < A.n) (h : A.Rows w b off ys rows bls) :
  rows.flatten.length = ys.length * A.n ∧ ∀ j u, rows.flatten[j]? = some u → w.cell? ((⟨b, off, none⟩ : Addr).add j) = some u := by
 obtain ⟨h1, h2, h3⟩ := h
 have hl : ∀ r ∈ rows, r.length = A.n := fun r hr => by
  obtain ⟨j, hj, rfl⟩ := List.getElem_of_mem hr
  exact A.len (h3 j (by omega) hj (by omega)).2
 have hf := flat_lenL hl
 refine ⟨by rw [hf, h1], fun j u hu => ?_⟩
 have hj : j < rows.flatten.length := by
  rcases Nat.lt_or_ge j rows.flatten.length with hq | hq
  ·
   exact hq
  rw [List.getElem?_eq_none hq] at hu; simp at hu
 have hm : j % A.n < A.n := Nat.mod_lt _ hn
 have hd : j / A.n < rows.length := by
  rw [hf] at hj
  exact Nat.div_lt_of_lt_mul (by rw [Nat.mul_comm]; exact hj)
 have hjm : j / A.n * A.n + j % A.n = j := by rw [Nat.mul_comm]; exact Nat.div_add_mod j A.n
 have e1 := Lay.flat_at hl (j / A.n) (j % A.n) hd hm
 rw [hjm, hu] at e1
 have e2 := (h3 (j / A.n) (by omega) hd (by omega)).1 (j % A.n) hm
 rw [addr_add, ← hjm, ← Nat.add_assoc, e2, ← e1]
theorem Grow.more {α : Type} {A : Lay α} {P : Program} {w : World} {base e : Nat} {v : Value} {rows : List (List Value)} {xs : List α} {bls : List (List Nat)} (hG : Grow A w base e v rows xs bls)
  (hone : ∀ {w : World} {row : List Value} {x : α} {bl : List Nat}, A.lies w row x bl → ∀ u ∈ row, u.oneCell' = true) (hn0 : 0 < A.n)
  (t ty : TypeId) (i : TypeInfo) (z : Value) (bytes : Nat) (ht : P.underlying t = some (.slice e)) (hi : P.info? e = some i) (hz : i.zero = some z) (hsize : i.size = A.n) (hby : i.bytes = bytes) (hzs : z.cells.size = A.n)
  {X : Value} {ys : List α} (hX : (Lay.sl A).LiesIn w [X] ys 0 base) (hn : xs.length + ys.length ≤ 100000000) (hbytes : bytes ≤ 1000) (hbase : base ≤ w.heap.size) :
  ∃ v' w' rows' bls', (Builtin.append_ #[t, t] ty #[v, X]).run P w = .ok v' w' ∧ Grow A w' base e v' rows' (xs ++ ys) bls' ∧ w.grownBy w' v.ownBlock ∧ (v'.ownBlock = v.ownBlock ∨ v'.ownBlock = some w.heap.size) := by
 have hml : xs.length + ys.length ≤ maxLen := by unfold maxLen; omega
 have hbb : (xs.length + ys.length) * bytes ≤ 140737488355328 := by have := Nat.mul_le_mul hn hbytes; omega
 have hown := hG.own
 obtain ⟨bl, ⟨ao, cap, hv, hcap, hcase⟩, hlt⟩ := hX
 obtain rfl : X = .slice ao ys.length cap := by simpa using hv
 rcases hcase with ⟨rfl, rfl⟩ | ⟨b, off, rowsY, blsY, rfl, hb, rfl, hR⟩
 ·
  have key : ∃ v' w', (Builtin.append_ #[t, t] ty #[v, .slice ao 0 cap]).run P w = .ok v' w' ∧ w'.ownsRow base e A.n v' (xs.length + 0) (rows.flatten ++ []) ∧ w.grownBy w' v.ownBlock ∧ (v'.ownBlock = v.ownBlock ∨ v'.ownBlock = some w.heap.size) := by
   cases ao with
   | none =>
    obtain ⟨v', w', r1, r2, r3, -, r5⟩ := run_append_own_at (P := P) w base t ty e i z A.n bytes ht hi hz hsize hby hzs hn0 v xs.length rows.flatten hown ⟨0, 0, none⟩ 0 cap [] (by simp) (by simp) (by simp) hml hbb hbase
    refine ⟨v', w', ?_, r2, r3, r5⟩
    rcases hown.2 with ⟨rfl, h0⟩ | ⟨g, cp, cur, rfl, _, _, hle, _⟩
    ·
     exact (append_noneL _ _ _ i ht hi none 0 0 cap (Nat.le_refl _) w).trans r1
    exact (append_noneL _ _ _ i ht hi _ _ cp cap hle w).trans r1
   | some ad =>
    obtain ⟨v', w', r1, r2, r3, -, r5⟩ := run_append_own_at (P := P) w base t ty e i z A.n bytes ht hi hz hsize hby hzs hn0 v xs.length rows.flatten hown ad 0 cap [] (by simp) (by simp) (by simp) hml hbb hbase
    exact ⟨v', w', r1, r2, r3, r5⟩
  obtain ⟨v', w', r1, r2, r3, r5⟩ := key
  refine ⟨v', w', rows, bls, r1, ?_, r3, r5⟩
  rw [List.append_nil] at r2 ⊢
  have hk : ∀ b ∈ bls.flatten, w'.heap[b]? = w.heap[b]? := fun b hm => r3.block b (hG.sub_lt b hm) (fun e => hG.off b hm e.symm)
  refine ⟨r2, hG.nrows, hG.nbls, fun j h1 h2 h3 => A.keep (hG.lies j h1 h2 h3) fun b hb => hk b (List.mem_flatten.2 ⟨_, List.getElem_mem _, hb⟩), fun b hm e => ?_⟩
  rcases r5 with r5 | r5
  ·
   exact hG.off b hm (r5.symm.trans e)
  rw [r5] at e
  have := hG.sub_lt b hm
  have := Option.some.inj e
  omega
 obtain ⟨hfl, hnews⟩ := news_rows hn0 hR
 have hR2 := hR
 obtain ⟨q1, q2, q3⟩ := hR2
 obtain ⟨v', w', r1, r2, r3, -, r5⟩ := run_append_own_at (P := P) w base t ty e i z A.n bytes ht hi hz hsize hby hzs hn0 v xs.length rows.flatten hown ⟨b, off, none⟩ ys.length cap rowsY.flatten hfl hnews (fun u hu => by
  obtain ⟨r, hr, hur⟩ := List.mem_flatten.1 hu
  obtain ⟨j, hj, rfl⟩ := List.getElem_of_mem hr
  exact hone (q3 j (by omega) hj (by omega)).2 u hur) hml hbb hbase
 have hkX : ∀ c ∈ blsY.flatten, c < base := fun c hc => (hlt c (List.mem_cons_of_mem _ hc)).2
 have hk : ∀ b ∈ bls.flatten, w'.heap[b]? = w.heap[b]? := fun b hm => r3.block b (hG.sub_lt b hm) (fun e => hG.off b hm e.symm)
 have hk2 : ∀ c ∈ blsY.flatten, w'.heap[c]? = w.heap[c]? := fun c hm => r3.block c (by have := hkX c hm; omega) (fun e => by
  have := (hown.lt c e.symm).1
  have := hkX c hm
  omega)
 refine ⟨v', w', rows ++ rowsY, bls ++ blsY, r1, ⟨?_, by simp [hG.nrows, q1], by simp [hG.nbls, q2], fun j h1 h2 h3 => ?_, ?_⟩, r3, r5⟩
 ·
  rw [List.flatten_append, List.length_append]
  exact r2
 ·
  by_cases hj : j < xs.length
  ·
   have ee := hG.lies j hj (by have := hG.nrows; omega) (by have := hG.nbls; omega)
   rw [List.getElem_append_left (by have := hG.nrows; omega), List.getElem_append_left hj, List.getElem_append_left (by have := hG.nbls; omega)]
   exact A.keep ee fun b hm => hk b (List.mem_flatten.2 ⟨_, List.getElem_mem _, hm⟩)
  have n1 := hG.nrows
  have n2 := hG.nbls
  have n3 : j - xs.length < ys.length := by simp at h1; omega
  rw [List.getElem_append_right (by omega), List.getElem_append_right (by omega), List.getElem_append_right (by omega)]
  have ee := (q3 (j - xs.length) n3 (by omega) (by omega)).2
  simp only [n1, n2]
  exact A.keep ee fun b hm => hk2 b (List.mem_flatten.2 ⟨_, List.getElem_mem _, hm⟩)
 intro c hm ee
 rw [List.flatten_append] at hm
 rcases r5 with r5 | r5
 ·
  rcases List.mem_append.1 hm with hm | hm
  ·
   exact hG.off c hm (r5.symm.trans ee)
  have := (hown.lt c (r5.symm.trans ee)).1
  have := hkX c hm
  omega
 rw [r5] at ee
 have := Option.some.inj ee
 rcases List.mem_append.1 hm with hm | hm
 ·
  have := hG.sub_lt c hm
  omega
 have := hkX c hm
 omega
theorem run_append_hitsL {w : World} {base : Nat} {v : Value} {rows : List (List Value)} {xs : List DHit} {bls : List (List Nat)} (hG : Grow Lay.tHit w base 196 v rows xs bls) {X : Value} {ys : List DHit} (hX : (Lay.sl Lay.tHit).LiesIn w [X] ys 0 base) (hn : xs.length + ys.length ≤ 100000000) (hbase : base ≤ w.heap.size) (ty : TypeId) :
  ∃ v' w' rows' bls', (Builtin.append_ #[53, 53] ty #[v, X]).run Tryz.prog w = .ok v' w' ∧ Grow Lay.tHit w' base 196 v' rows' (xs ++ ys) bls' ∧ w.grownBy w' v.ownBlock ∧ (v'.ownBlock = v.ownBlock ∨ v'.ownBlock = some w.heap.size) := by
 obtain ⟨i0, hi0, hz0, hz1, hz2⟩ := info_parts infoAppHit
 exact hG.more (fun h => (one_Hit h).1) (by decide) 53 ty i0 _ 16 Tryz.underlying53 hi0 hz0 hz1 hz2 rfl hX hn (by omega) hbase
theorem wpList_append_hitsL {w : World} {base : Nat} {v : Value} {rows : List (List Value)} {xs : List DHit} {bls : List (List Nat)} (hG : Grow Lay.tHit w base 196 v rows xs bls) {X : Value} {ys : List DHit} (hX : (Lay.sl Lay.tHit).LiesIn w [X] ys 0 base) {ops : Array Oper} {rest : List Oper} {o : Oper} {a : Act} {Q : Exit → Act → World → Prop} (hgd : o.guard = none) (s y : Operand)
  (ho : o.op = .call { callee := .builtin .append, args := #[s, y], argTypes := #[53, 53] }) (hs : a.eval s = v) (hy : a.eval y = X) (hn : xs.length + ys.length ≤ 100000000) (hbase : base ≤ w.heap.size)
  (h : ∀ a' m' cap' w' rows' bls', Grow Lay.tHit w' base 196 (.slice a' m' cap') rows' (xs ++ ys) bls' → Below base w w' → m' = xs.length + ys.length → w.heap.size ≤ w'.heap.size → wpList Tryz.prog ops Q rest (a.put o.dst (.slice a' m' cap')) w') :
  wpList Tryz.prog ops Q (o :: rest) a w := by
 refine wpList_plain hgd fun K hK => ?_
 obtain ⟨v', w', rows', bls', hr, h2, h3, h4⟩ := run_append_hitsL hG hX hn hbase o.type
 unfold Oper.wp execOp
 simp only [ho, resolve, invoke, builtin, Sem.run_bind, Sem.run_pure, Result.andThen_ok, List.map_toArray, List.map_cons, List.map_nil, hs, hy, hr]
 have hbw : Below base w w' := (Below.refl _ _).grown h3 hbase (fun j hj => (hG.own.lt j hj).1)
 rcases h2.form with ⟨rfl, h0⟩ | ⟨g, cap, rfl, hg, hgl, hcap⟩
 ·
  refine hK _ _ (h _ _ _ w' rows' bls' h2 hbw ?_ hbw.size)
  have : (xs ++ ys).length = 0 := by rw [h0]; rfl
  rw [List.length_append] at this
  omega
 exact hK _ _ (h _ _ _ w' rows' bls' h2 hbw (by rw [List.length_append]) hbw.size)
theorem specWrites_pos (b off cap : Nat) (ws : List DWrite) (w : World) (h : (Lay.sl Lay.tWrite).Reads w [.slice (some ⟨b, off, none⟩) ws.length cap] ws) (hbl : b < w.heap.size) (hn : ws.length ≤ 200) :
  Calls Tryz.prog 285 #[.slice (some ⟨b, off, none⟩) ws.length cap] w fun e w' => e = .returned (.int .i64 (writesF ws)) ∧ w' = w := by
 have HW : Hid (writesF ws = wsFrom ws) := by show writesF ws = wsFrom ws; rw [writesF, if_neg (by omega)]
 have H := yh h
 clear h
 go_enter Tryz.func285, Tryz.ntmps285
 go_wp2_with fail
 go_loop [3] (fun i => ∃ k : Nat, k ≤ ws.length ∧ i = .int .i64 k ∧ (∀ j (hj : j < ws.length), j < k → wF ws[j] = 0)) (fun i => ws.length - (intOf i).toNat)
 case atStart => exact ⟨0, Nat.zero_le _, rfl, fun j _ hj => by omega⟩
 case round =>
  obtain ⟨k, hk, rfl, hz⟩ := hrel
  by_cases hlt : k < ws.length
  ·
   obtain ⟨row, hc, hr⟩ := Lay.row_at (uh H) hlt
   obtain ⟨a2, d2, rfl, R2⟩ := open_Write hr
   have c0 : w.cell? ⟨b, off + k * 5, none⟩ = some (.int .i64 (ws[k]).kind) := ((Below.refl w.heap.size w).cell (p := ⟨b, off + k * 5, none⟩) hbl).trans (hc 0 (by decide))
   have c1 : w.cell? ⟨b, off + k * 5 + 1, none⟩ = some (.int .i64 (ws[k]).id) := ((Below.refl w.heap.size w).cell (p := ⟨b, off + k * 5 + 1, none⟩) hbl).trans (hc 1 (by decide))
   have c2 : w.cell? ⟨b, off + k * 5 + 2, none⟩ = some (.slice a2 (ws[k]).vec.length d2) := ((Below.refl w.heap.size w).cell (p := ⟨b, off + k * 5 + 2, none⟩) hbl).trans (hc 2 (by decide))
   have c3 : w.cell? ⟨b, off + k * 5 + 3, none⟩ = some (.int .i64 (ws[k]).session) := ((Below.refl w.heap.size w).cell (p := ⟨b, off + k * 5 + 3, none⟩) hbl).trans (hc 3 (by decide))
   have c4 : w.cell? ⟨b, off + k * 5 + 4, none⟩ = some (.int .i64 (ws[k]).seq) := ((Below.refl w.heap.size w).cell (p := ⟨b, off + k * 5 + 4, none⟩) hbl).trans (hc 4 (by decide))
   have HZ := yh hz
   have HAT : Hid (wF ws[k] ≠ 0 → writesF ws = wF ws[k]) := fun hn => (uh HW).trans (wsFrom_at ws k hlt hz hn)
   have HZ2 : Hid (wF ws[k] = 0 → ∀ j (hj : j < ws.length), j < k + 1 → wF ws[j] = 0) := by
    intro h0 j hj hjk
    by_cases hjk2 : j < k
    ·
     exact uh HZ j hj hjk2
    obtain rfl : j = k := by omega
    exact h0
   clear hc hr hz HZ
   generalize hx : ws[k] = x at *
   clear hx
   have L := l3FaultO b (off + k * 5) x.kind x.id _ x.session x.seq x.vec w ⟨c0, c1, c2, c3, c4⟩ (Lay.ints_reads R2)
   rw [show writeFault x.kind x.id x.vec x.session x.seq = wF x from rfl] at L
   have HL := yh L
   clear L R2 c0 c1 c2 c3 c4
   go_wp2_with fail
   refine (uh HL).mono ?_
   rintro e w ⟨rfl, rfl⟩
   by_cases hf : wF x = 0
   ·
    rw [hf]
    have HZ3 := yh (uh HZ2 hf)
    clear hf HZ2 HAT HL
    go_wp2_with fail
    go_round
    case rel => exact ⟨k + 1, by omega, by go_num, uh HZ3⟩
    case measure => simp [intOf]; omega
   have hd : (wF x != 0) = true := by simpa using hf
   have HG := yh (uh HAT hf)
   clear hf HZ2 HAT HL
   go_wp2_with fail
   go_ret
   exact ⟨by rw [uh HG]; rfl, rfl⟩
  have HG : Hid (writesF ws = 0) := (uh HW).trans (wsFrom_all ws fun j hj => hz j hj (by omega))
  clear hz H
  go_wp2_with fail
  go_ret
  exact ⟨by rw [uh HG]; rfl, rfl⟩
theorem specWrites (v : Value) (ws : List DWrite) (w : World) (h : (Lay.sl Lay.tWrite).Reads w [v] ws) :
  Calls Tryz.prog 285 #[v] w fun e w' => e = .returned (.int .i64 (writesF ws)) ∧ w' = w := by
 obtain ⟨ao, cap, rfl⟩ := open_sl h
 by_cases hn : ws.length ≤ 200
 ·
  by_cases hp : 0 < ws.length
  ·
   obtain ⟨b, off, rfl, hbl⟩ := Lay.sl_addr h hp
   exact specWrites_pos b off cap ws w h hbl hn
  obtain rfl : ws = [] := List.eq_nil_of_length_eq_zero (by omega)
  clear h hn hp
  go_enter Tryz.func285, Tryz.ntmps285
  go_wp2_with fail
  refine wp_loop_rounds 1 ?_
  rw [rounds_succ]
  go_wp2_with fail
  go_ret
  exact ⟨rfl, rfl⟩
 have e : writesF ws = 2 := by rw [writesF, if_pos (by omega)]
 rw [e]
 have hd : decide ((200 : Int) < (ws.length : Int)) = true := by simp; omega
 clear h e
 go_enter Tryz.func285, Tryz.ntmps285
 go_wp2_with fail
 go_ret
 exact ⟨rfl, rfl⟩
theorem l1MaxC (x y : Int) (w : World) : Calls Tryz.prog 323 #[.int .i64 x, .int .i64 y] w fun e w' => e = .returned (.int .i64 (max x y)) ∧ w' = w := by
 by_cases h : y < x
 ·
  have d : decide (y < x) = true := by simpa using h
  have e : max x y = x := by omega
  rw [e]
  go_enter Tryz.func323, Tryz.ntmps323
  go_wp2
  go_ret
  exact ⟨rfl, rfl⟩
 have d : decide (y < x) = false := by simpa using h
 have e : max x y = y := by omega
 rw [e]
 go_enter Tryz.func323, Tryz.ntmps323
 go_wp2
 go_ret
 exact ⟨rfl, rfl⟩
theorem l5Last_pos (b off cap : Nat) (ws : List DWrite) (s : Int) (w : World) (h : (Lay.sl Lay.tWrite).Reads w [.slice (some ⟨b, off, none⟩) ws.length cap] ws) (hbl : b < w.heap.size) (hn : ws.length ≤ 10000000) :
  Calls Tryz.prog 310 #[.slice (some ⟨b, off, none⟩) ws.length cap, .int .i64 s] w fun e w' => e = .returned (.int .i64 (lastI ws s)) ∧ w' = w := by
 have H := yh h
 clear h
 go_enter Tryz.func310, Tryz.ntmps310
 go_wp2_with fail
 go_loop [5, 6] (fun m i => ∃ k : Nat, k ≤ ws.length ∧ i = .int .i64 k ∧ m = .int .i64 (lastI (ws.take k) s)) (fun _ i => ws.length - (intOf i).toNat)
 case atStart => exact ⟨0, Nat.zero_le _, rfl, rfl⟩
 case round =>
  obtain ⟨k, hk, rfl, rfl⟩ := hrel
  by_cases hlt : k < ws.length
  ·
   obtain ⟨row, hc, hr⟩ := Lay.row_at (uh H) hlt
   obtain ⟨a2, d2, rfl, R2⟩ := open_Write hr
   have c3 : w.cell? ⟨b, off + k * 5 + 3, none⟩ = some (.int .i64 (ws[k]).session) := hc 3 (by decide)
   have c4 : w.cell? ⟨b, off + k * 5 + 4, none⟩ = some (.int .i64 (ws[k]).seq) := hc 4 (by decide)
   have HT := yh (lastI_take ws k hlt s)
   clear hc hr R2
   generalize hx : ws[k] = x at *
   clear hx
   by_cases hs : x.session = s
   ·
    have ds : (x.session == s) = true := by simpa using hs
    have HL := yh (fun W => l1MaxC (lastI (ws.take k) s) x.seq W)
    have HT2 : Hid (lastI (ws.take (k + 1)) s = max (lastI (ws.take k) s) x.seq) := by
     have := uh HT
     rw [if_pos hs] at this
     exact this
    clear HT hs
    generalize hl : lastI (ws.take k) s = l at *
    clear hl
    go_wp2_with fail
    refine (uh HL _).mono ?_
    rintro e w2 ⟨rfl, rfl⟩
    go_wp2_with fail
    go_round
    case rel => exact ⟨k + 1, by omega, by go_num, by rw [uh HT2]⟩
    case measure => simp [intOf]; omega
   have ds : (x.session == s) = false := by simpa using hs
   have HT2 : Hid (lastI (ws.take (k + 1)) s = lastI (ws.take k) s) := by
    have := uh HT
    rw [if_neg hs] at this
    exact this
   clear HT hs
   go_wp2_with fail
   go_round
   case rel => exact ⟨k + 1, by omega, by go_num, by rw [uh HT2]⟩
   case measure => simp [intOf]; omega
  obtain rfl : k = ws.length := by omega
  rw [List.take_length]
  clear H
  go_wp2_with fail
  go_ret
  exact ⟨rfl, rfl⟩
theorem l5LastC (v : Value) (ws : List DWrite) (s : Int) (w : World) (h : (Lay.sl Lay.tWrite).Reads w [v] ws) (hn : ws.length ≤ 10000000) :
  Calls Tryz.prog 310 #[v, .int .i64 s] w fun e w' => e = .returned (.int .i64 (lastI ws s)) ∧ w' = w := by
 obtain ⟨ao, cap, rfl⟩ := open_sl h
 by_cases hp : 0 < ws.length
 ·
  obtain ⟨b, off, rfl, hbl⟩ := Lay.sl_addr h hp
  exact l5Last_pos b off cap ws s w h hbl hn
 obtain rfl : ws = [] := List.eq_nil_of_length_eq_zero (by omega)
 clear h hn hp
 go_enter Tryz.func310, Tryz.ntmps310
 go_wp2_with fail
 refine wp_loop_rounds 1 ?_
 rw [rounds_succ]
 go_wp2_with fail
 go_ret
 exact ⟨rfl, rfl⟩
theorem sl_take {α : Type} {A : Lay α} {w : World} {xs : List α} {b off cap : Nat} (h : (Lay.sl A).Reads w [.slice (some ⟨b, off, none⟩) xs.length cap] xs) (k : Nat) (hk : k ≤ xs.length) : (Lay.sl A).Reads w [.slice (some ⟨b, off, none⟩) k cap] (xs.take k) := by
 have hl : (xs.take k).length = k := by rw [List.length_take]; omega
 obtain ⟨bl, ao, cap', he, ⟨h1, h2⟩, hor⟩ := h
 simp only [List.cons.injEq, Value.slice.injEq, true_and, and_true] at he
 obtain ⟨rfl, rfl⟩ := he
 rcases hor with ⟨rfl, -⟩ | ⟨b', off', rows, bls, he, hb, -, n1, n2, hj⟩
 ·
  obtain rfl : k = 0 := by simpa using hk
  exact ⟨[], _, _, rfl, ⟨by simp, by simp⟩, Or.inl ⟨rfl, rfl⟩⟩
 simp only [Option.some.injEq, Addr.mk.injEq, and_true] at he
 obtain ⟨rfl, rfl⟩ := he
 refine ⟨b :: (bls.take k).flatten, _, _, by rw [hl], ⟨by omega, by omega⟩, Or.inr ⟨b, off, rows.take k, bls.take k, rfl, hb, rfl, by simp [n1], by simp [n2], fun j q1 q2 q3 => ?_⟩⟩
 simp only [List.getElem_take]
 rw [List.length_take] at q1 q2 q3
 exact hj j (by omega) (by omega) (by omega)
theorem l5Once_pos (b off cap : Nat) (ws : List DWrite) (w : World) (h : (Lay.sl Lay.tWrite).Reads w [.slice (some ⟨b, off, none⟩) ws.length cap] ws) (hn : ws.length ≤ 10000000) :
  Calls Tryz.prog 286 #[.slice (some ⟨b, off, none⟩) ws.length cap] w fun e w' => e = .returned (.bool (onceB [] ws)) ∧ Below w.heap.size w w' := by
 have H := yh h
 have hcap : ws.length ≤ cap := by obtain ⟨bl, ao, cap', he, ⟨h1, h2⟩, hor⟩ := h; simp only [List.cons.injEq, Value.slice.injEq, true_and, and_true] at he; omega
 clear h
 go_enter Tryz.func286, Tryz.ntmps286
 go_wp2_with fail
 go_loopw [3] (fun i wr => ∃ k : Nat, k ≤ ws.length ∧ i = .int .i64 k ∧ (∀ j (hj : j < ws.length), j < k → lastI ([] ++ ws.take j) (ws[j]).session < (ws[j]).seq) ∧ Below w.heap.size w wr) (fun i _ => ws.length - (intOf i).toNat)
 case atStart => exact ⟨0, Nat.zero_le _, rfl, fun j _ hj => by omega, Below.refl _ _⟩
 case round =>
  obtain ⟨k, hk, rfl, hz, hB⟩ := hrel
  by_cases hlt : k < ws.length
  ·
   obtain ⟨row, hc, hr⟩ := Lay.row_at ((uh H).later hB) hlt
   obtain ⟨a2, d2, rfl, R2⟩ := open_Write hr
   have c3 : wr.cell? ⟨b, off + k * 5 + 3, none⟩ = some (.int .i64 (ws[k]).session) := hc 3 (by decide)
   have c4 : wr.cell? ⟨b, off + k * 5 + 4, none⟩ = some (.int .i64 (ws[k]).seq) := hc 4 (by decide)
   have HP : Hid ((Lay.sl Lay.tWrite).Reads wr.drew [.slice (some ⟨b, off, none⟩) k cap] (ws.take k)) := sl_take ((uh H).later hB.drew) k hk
   have HAT : Hid ((ws[k]).seq ≤ lastI (ws.take k) (ws[k]).session → onceB [] ws = false) := fun he => onceB_at ws [] k hlt (by simpa using he)
   have HZ2 : Hid (lastI (ws.take k) (ws[k]).session < (ws[k]).seq → ∀ j (hj : j < ws.length), j < k + 1 → lastI ([] ++ ws.take j) (ws[j]).session < (ws[j]).seq) := by
    intro h0 j hj hjk
    by_cases hjk2 : j < k
    ·
     exact hz j hj hjk2
    obtain rfl : j = k := by omega
    simpa using h0
   have HB := yh hB
   clear hc hr R2 hz hB
   generalize hx : ws[k] = x at *
   clear hx
   have c3 : wr.drew.cell? ⟨b, off + k * 5 + 3, none⟩ = some (.int .i64 x.session) := c3
   have c4 : wr.drew.cell? ⟨b, off + k * 5 + 4, none⟩ = some (.int .i64 x.seq) := c4
   have i1 : (0 : Int) ≤ (k : Int) := by omega
   have i2 : (k : Int) < (ws.length : Int) := by omega
   have i3 : (k : Int) ≤ (cap : Int) := by omega
   go_wp2_with fail
   refine wp_region_noPanic ?_
   refine wp_region_held_drew (S := fun w' => w' = wr.drew) (by kernel_rfl) rfl (fun zq => ?_)
   refine tkH 0 zq ?_
   refine tkH 1 zq ?_
   refine tkJ 2 (v := ?v2) ?h2 zq ?r2
   case h2 =>
    intro wS hSw
    have y3 : wS.cell? ⟨b, off + k * 5 + 3, none⟩ = some (.int .i64 x.session) := by rw [hSw]; exact c3
    have y4 : wS.cell? ⟨b, off + k * 5 + 4, none⟩ = some (.int .i64 x.seq) := by rw [hSw]; exact c4
    clear hSw
    (try dsimp only at hSw)
    go_simp
    try with_reducible rfl
   refine tkH 3 zq ?_
   refine tkH 4 zq ?_
   refine tkJ 5 (v := ?v5) ?h5 zq ?r5
   case h5 =>
    intro wS hSw
    have y3 : wS.cell? ⟨b, off + k * 5 + 3, none⟩ = some (.int .i64 x.session) := by rw [hSw]; exact c3
    have y4 : wS.cell? ⟨b, off + k * 5 + 4, none⟩ = some (.int .i64 x.seq) := by rw [hSw]; exact c4
    clear hSw
    (try dsimp only at hSw)
    go_simp
    try with_reducible rfl
   refine tkH 6 zq ?_
   refine tkJ 7 (v := ?v7) ?h7 zq ?r7
   case h7 =>
    intro wS hSw
    have y3 : wS.cell? ⟨b, off + k * 5 + 3, none⟩ = some (.int .i64 x.session) := by rw [hSw]; exact c3
    have y4 : wS.cell? ⟨b, off + k * 5 + 4, none⟩ = some (.int .i64 x.seq) := by rw [hSw]; exact c4
    clear hSw
    (try dsimp only at hSw)
    go_simp
    try with_reducible rfl
   refine tkH 9 zq ?_
   refine tkH 10 zq ?_
   refine tkJ 11 (v := ?v11) ?h11 zq ?r11
   case h11 =>
    intro wS hSw
    have y3 : wS.cell? ⟨b, off + k * 5 + 3, none⟩ = some (.int .i64 x.session) := by rw [hSw]; exact c3
    have y4 : wS.cell? ⟨b, off + k * 5 + 4, none⟩ = some (.int .i64 x.seq) := by rw [hSw]; exact c4
    clear hSw
    (try dsimp only at hSw)
    go_simp
    try with_reducible rfl
   refine tkH 12 zq ?_
   refine tkJ 13 (v := ?v13) ?h13 zq ?r13
   case h13 =>
    intro wS hSw
    have y3 : wS.cell? ⟨b, off + k * 5 + 3, none⟩ = some (.int .i64 x.session) := by rw [hSw]; exact c3
    have y4 : wS.cell? ⟨b, off + k * 5 + 4, none⟩ = some (.int .i64 x.seq) := by rw [hSw]; exact c4
    clear hSw
    (try dsimp only at hSw)
    go_simp
    try with_reducible rfl
   refine rdH 8 (fun K hK => ?_)
   go_simp
   go_at_call 310
   refine (l5LastC _ (ws.take k) x.session _ (uh HP) (by rw [List.length_take]; omega)).mono ?_
   rintro e w3 ⟨rfl, rfl⟩
   try go_wp2_with fail
   refine hK.out _ _ rfl (fun zq => ?_)
   clear hK K
   try simp only [Act.put, pz, py, px]
   refine tkH 14 zq ?_
   refine wpAnyH_done (by kernel_rfl) ?_ _
   refine NoPanic.normal ?_
   clear zq c3 c4
   by_cases hq : x.seq ≤ lastI (ws.take k) x.session
   ·
    have hd : decide (x.seq ≤ lastI (ws.take k) x.session) = true := by simpa using hq
    have HG := yh (uh HAT hq)
    have HB2 := yh (uh HB).drew
    clear hq HAT HZ2 HP
    rw [hd]
    go_wp2_with fail
    go_ret
    exact ⟨by rw [uh HG]; first | done | rfl, uh HB2⟩
   ·
    have hd : decide (x.seq ≤ lastI (ws.take k) x.session) = false := by simpa using hq
    have HZ := yh (uh HZ2 (by omega))
    have HB2 := yh (uh HB).drew
    clear hq HAT HZ2 HP
    rw [hd]
    go_wp2_with fail
    go_roundw
    case rel => exact ⟨k + 1, by omega, by go_num, uh HZ, uh HB2⟩
    case measure => simp [intOf]; omega
  obtain rfl : k = ws.length := by omega
  have HG : Hid (onceB [] ws = true) := onceB_all ws [] fun j hj => hz j hj hj
  have HB := yh hB
  clear H hz hB
  go_wp2_with fail
  go_ret
  exact ⟨by rw [uh HG]; first | done | rfl, uh HB⟩
theorem l5OnceC (v : Value) (ws : List DWrite) (w : World) (h : (Lay.sl Lay.tWrite).Reads w [v] ws) (hn : ws.length ≤ 10000000) :
  Calls Tryz.prog 286 #[v] w fun e w' => e = .returned (.bool (onceB [] ws)) ∧ Below w.heap.size w w' := by
 obtain ⟨ao, cap, rfl⟩ := open_sl h
 by_cases hp : 0 < ws.length
 ·
  obtain ⟨b, off, rfl, -⟩ := Lay.sl_addr h hp
  exact l5Once_pos b off cap ws w h hn
 obtain rfl : ws = [] := List.eq_nil_of_length_eq_zero (by omega)
 clear h hn hp
 go_enter Tryz.func286, Tryz.ntmps286
 go_wp2_with fail
 refine wp_loop_rounds 1 ?_
 rw [rounds_succ]
 go_wp2_with fail
 go_ret
 exact ⟨rfl, Below.refl _ _⟩
end Go.Proofs.YtoanimpijfijgaaGreat

namespace Go.Proofs.YtoanimpijfijgaaGreat
end Go.Proofs.YtoanimpijfijgaaGreat

namespace Go.Proofs.YtoanimpijfijgaaGreat
open Go.RowKit
theorem infoAppWrite : (Tryz.prog.info? 87).map (fun i => (i.zero, i.size, i.bytes)) = some (some (.agg #[.int .i64 0, .int .i64 0, .slice none 0 0, .int .i64 0, .int .i64 0]), 5, 56) := by kernel_rfl
theorem one_Write {w : World} {row : List Value} {x : DWrite} {bl : List Nat} (h : Lay.tWrite.lies w row x bl) : (∀ u ∈ row, u.oneCell' = true) ∧ row.length = 1 * 5 := by
 obtain ⟨_, _, _, rfl, -⟩ := lies_Write.1 h
 simp [Value.oneCell']
theorem wpList_append_Write {w1 : World} {base : Nat} {v : Value} {rows : List (List Value)} {xs : List DWrite} {bls : List (List Nat)} (hG : Grow Lay.tWrite w1 base 87 v rows xs bls) {row : List Value} {x : DWrite} {bl : List Nat} (hl : Lay.tWrite.lies w1 row x bl) (hbl : ∀ b ∈ bl, v.ownBlock ≠ some b) {ops : Array Oper} {rest : List Oper} {o : Oper} {a : Act} {Q : Exit → Act → World → Prop} (hgd : o.guard = none) (s y : Operand)
  (ho : o.op = .call { callee := .builtin .append, args := #[s, y], argTypes := #[82, 82] }) (hs : a.eval s = v) (hy : a.eval y = .slice (some ⟨w1.heap.size, 0, none⟩) 1 1) (hn : xs.length + 1 ≤ 100000000) (hbase : base ≤ w1.heap.size)
  (h : ∀ g cap w', Grow Lay.tWrite w' base 87 (.slice (some ⟨g, 0, none⟩) (xs.length + 1) cap) (rows ++ [row]) (xs ++ [x]) (bls ++ [bl]) → Below base w1 w' → Ext (fun q => v.ownBlock = some q) w1 w' → g < w'.heap.size → w1.heap.size ≤ w'.heap.size → (v.ownBlock = some g ∨ w1.heap.size ≤ g) → wpList Tryz.prog ops Q rest (a.put o.dst (.slice (some ⟨g, 0, none⟩) (xs.length + 1) cap)) w') :
  wpList Tryz.prog ops Q (o :: rest) a (w1.alloc (.cells row.toArray 87)) := by
 obtain ⟨i0, hi0, hz0, hz1, hz2⟩ := info_parts infoAppWrite
 obtain ⟨h1, hlen⟩ := one_Write hl
 refine wpList_append_lies _ hgd s y 82 ho base 87 i0 _ 5 56 Tryz.underlying82 hi0 hz0 hz1 hz2 rfl (by omega) v xs.length rows.flatten hs (hG.own.alloc _) ⟨w1.heap.size, 0, none⟩ 1 1 row hy hlen (World.news_of_block (cs := row.toArray) (t := 87) (fr := (0, 0)) (heap_alloc_new w1 _)) h1 (by omega) (by unfold maxLen; omega) (by omega) (by simp; omega) (w1.alloc (.cells row.toArray 87)).heap.size rfl ?_
 intro g cap w' h2 h3 h4 h5
 have hg := grown_alloc h3
 have hbw : Below base w1 w' := (Below.refl _ _).grown hg hbase (fun j hj => (hG.own.lt j hj).1)
 have hor : v.ownBlock = some g ∨ w1.heap.size ≤ g := by
  rcases h4 with h4 | h4
  ·
   exact Or.inl h4
  exact Or.inr (by rw [h4]; simp)
 exact h g cap w' (hG.snoc hl hbl h2 hg hor) hbw ⟨hbw.os, hbw.tape, hbw.output, hbw.size, fun k hk hn => hg.block k hk (fun e => hn e.symm)⟩ h5 hbw.size hor
theorem step_append_Write {w1 : World} {base : Nat} {v : Value} {rows : List (List Value)} {xs : List DWrite} {bls : List (List Nat)} (hG : Grow Lay.tWrite w1 base 87 v rows xs bls) {row : List Value} {x : DWrite} {bl : List Nat} (hl : Lay.tWrite.lies w1 row x bl) (hbl : ∀ b ∈ bl, v.ownBlock ≠ some b) {ops : Array Oper} {o : Oper} {a : Act} {K : Act → World → Prop} {Q : Exit → Act → World → Prop} {E : Prop} (hgd : o.guard = none) (s y : Operand)
  (ho : o.op = .call { callee := .builtin .append, args := #[s, y], argTypes := #[82, 82] }) (hs : a.eval s = v) (hy : a.eval y = .slice (some ⟨w1.heap.size, 0, none⟩) 1 1) (hn : xs.length + 1 ≤ 100000000) (hbase : base ≤ w1.heap.size)
  (h : ∀ g cap w', Grow Lay.tWrite w' base 87 (.slice (some ⟨g, 0, none⟩) (xs.length + 1) cap) (rows ++ [row]) (xs ++ [x]) (bls ++ [bl]) → Below base w1 w' → Ext (fun q => v.ownBlock = some q) w1 w' → g < w'.heap.size → w1.heap.size ≤ w'.heap.size → (v.ownBlock = some g ∨ w1.heap.size ≤ g) → K (a.put o.dst (.slice (some ⟨g, 0, none⟩) (xs.length + 1) cap)) w') :
  if Region.wanted o (yielded ops a.tmps) = true then Oper.wp Tryz.prog o a (w1.alloc (.cells row.toArray 87)) K Q else E := by
 obtain ⟨i0, hi0, hz0, hz1, hz2⟩ := info_parts infoAppWrite
 obtain ⟨h1, hlen⟩ := one_Write hl
 refine step_append_lies _ hgd s y 82 ho base 87 i0 _ 5 56 Tryz.underlying82 hi0 hz0 hz1 hz2 rfl (by omega) v xs.length rows.flatten hs (hG.own.alloc _) ⟨w1.heap.size, 0, none⟩ 1 1 row hy hlen (World.news_of_block (cs := row.toArray) (t := 87) (fr := (0, 0)) (heap_alloc_new w1 _)) h1 (by omega) (by unfold maxLen; omega) (by omega) (by simp; omega) (w1.alloc (.cells row.toArray 87)).heap.size rfl ?_
 intro g cap w' h2 h3 h4 h5
 have hg := grown_alloc h3
 have hbw : Below base w1 w' := (Below.refl _ _).grown hg hbase (fun j hj => (hG.own.lt j hj).1)
 have hor : v.ownBlock = some g ∨ w1.heap.size ≤ g := by
  rcases h4 with h4 | h4
  ·
   exact Or.inl h4
  exact Or.inr (by rw [h4]; simp)
 exact h g cap w' (hG.snoc hl hbl h2 hg hor) hbw ⟨hbw.os, hbw.tape, hbw.output, hbw.size, fun k hk hn => hg.block k hk (fun e => hn e.symm)⟩ h5 hbw.size hor
theorem wcopy_pos (b off cap : Nat) (ws : List DWrite) (w : World) (h : (Lay.sl Lay.tWrite).Reads w [.slice (some ⟨b, off, none⟩) ws.length cap] ws) (hbl : b < w.heap.size) (hn : ws.length ≤ 10000000) (hv : ∀ x ∈ ws, x.vec.length ≤ 100000000) :
  Calls Tryz.prog 93 #[.slice (some ⟨b, off, none⟩) ws.length cap] w fun e w' => ∃ v', e = .returned v' ∧ (∃ rows bls, Grow Lay.tWrite w' w.heap.size 87 v' rows ws bls ∧ ∀ c ∈ bls.flatten, w.heap.size ≤ c) ∧ Below w.heap.size w w' := by
 have H := yh h
 have HV := yh hv
 clear h hv
 have HG0 : Hid (Grow Lay.tWrite (w.alloc (.cells #[] 87)) w.heap.size 87 (.slice (some ⟨w.heap.size, 0, none⟩) 0 0) [] [] []) := Grow.nil (World.ownsRow_lit w #[] 0 (Nat.le_refl _) (Nat.zero_le _) rfl)
 have HB0 := yh ((Below.refl w.heap.size w).alloc (Nat.le_refl _) (.cells #[] 87))
 go_enter Tryz.func93, Tryz.ntmps93
 go_wp2_with fail
 go_loopw [3, 4] (fun v i wr => ∃ (k : Nat) (rows : List (List Value)) (bls : List (List Nat)), k ≤ ws.length ∧ i = .int .i64 k ∧ Grow Lay.tWrite wr w.heap.size 87 v rows (ws.take k) bls ∧ (∀ c ∈ bls.flatten, w.heap.size ≤ c) ∧ Below w.heap.size w wr) (fun _ i _ => ws.length - (intOf i).toNat)
 case atStart => exact ⟨0, [], [], Nat.zero_le _, rfl, uh HG0, by simp, uh HB0⟩
 case round =>
  obtain ⟨k, rows, bls, hk, rfl, hG, hSB, hB⟩ := hrel
  have HSB := yh hSB
  clear HG0 HB0 hSB
  by_cases hlt : k < ws.length
  ·
   obtain ⟨row, hc, hr⟩ := Lay.row_at ((uh H).later hB) hlt
   have hr2 := hr
   obtain ⟨a2, d2, rfl, R2⟩ := open_Write hr
   have c0 : wr.cell? ⟨b, off + k * 5, none⟩ = some (.int .i64 (ws[k]).kind) := hc 0 (by decide)
   have c1 : wr.cell? ⟨b, off + k * 5 + 1, none⟩ = some (.int .i64 (ws[k]).id) := hc 1 (by decide)
   have c2 : wr.cell? ⟨b, off + k * 5 + 2, none⟩ = some (.slice a2 (ws[k]).vec.length d2) := hc 2 (by decide)
   have c3 : wr.cell? ⟨b, off + k * 5 + 3, none⟩ = some (.int .i64 (ws[k]).session) := hc 3 (by decide)
   have c4 : wr.cell? ⟨b, off + k * 5 + 4, none⟩ = some (.int .i64 (ws[k]).seq) := hc 4 (by decide)
   have HWF : Hid ((Lit.int .i64 (ws[k]).kind).wf = true ∧ (Lit.int .i64 (ws[k]).id).wf = true ∧ (Lit.int .i64 (ws[k]).session).wf = true ∧ (Lit.int .i64 (ws[k]).seq).wf = true) := by
    obtain ⟨_, hq⟩ := hr2
    obtain ⟨_, _, _, _, _, q0, q1, _, q3, q4⟩ := lies_Write.1 hq
    exact ⟨q0, q1, q3, q4⟩
   have HT : Hid (ws.take (k + 1) = ws.take k ++ [ws[k]]) := List.take_succ_eq_append_getElem hlt
   have HLn : Hid ((ws.take k).length = k) := by show (ws.take k).length = k; rw [List.length_take]; omega
   have HN := yh (uh HV ws[k] (List.getElem_mem hlt))
   clear hc hr hr2
   generalize hx : ws[k] = x at *
   clear hx
   have hbr : b < wr.heap.size := Nat.lt_of_lt_of_le hbl hB.size
   have nb : Below wr.heap.size wr (wr.alloc (.cells #[.int .i64 x.kind, .int .i64 x.id, .slice a2 x.vec.length d2, .int .i64 x.session, .int .i64 x.seq] 87)) := (Below.refl _ _).alloc (Nat.le_refl _) _
   have bI : Box 0 #[.int .i64 x.kind, .int .i64 x.id, .slice a2 x.vec.length d2, .int .i64 x.session, .int .i64 x.seq] 87 (wr.alloc (.cells #[.int .i64 x.kind, .int .i64 x.id, .slice a2 x.vec.length d2, .int .i64 x.session, .int .i64 x.seq] 87)) wr.heap.size := newBox (Nat.zero_le _)
   have HRW := yh (Lay.ints_reads R2).wf
   have HL := yh (l1Ints _ x.vec _ ((Lay.ints_reads R2).later nb) (uh HN))
   have HG := yh (hG.later nb)
   have HB := yh (hB.trans (nb.mono hB.size))
   have HBI := yh bI
   have HZW : Hid (w.heap.size ≤ wr.heap.size) := hB.size
   have HOW : Hid (∀ c, u3.ownBlock = some c → c < wr.heap.size) := fun c hc => (hG.own.lt c hc).2
   have HSL : Hid (∀ c ∈ bls.flatten, c < wr.heap.size) := fun c hc => hG.sub_lt c hc
   clear R2 hG hB nb bI
   go_wp2_with fail
   clear c0 c1 c2 c3 c4
   refine (uh HL).mono ?_
   generalize hW0 : wr.alloc (.cells #[.int .i64 x.kind, .int .i64 x.id, .slice a2 x.vec.length d2, .int .i64 x.session, .int .i64 x.seq] 87) = W0 at *
   clear hW0
   rintro e w2 ⟨v2, rfl, hO, hb⟩
   have hO2 := Lay.ownInts (uh HRW) (by have := uh HN; omega) hO
   obtain ⟨ao2, cp2, rfl⟩ := open_sl hO2.reads
   obtain ⟨bl2, ⟨hl2, -, -⟩, hr2⟩ := hO2
   have bI2 := (uh HBI).keep hb
   have hZ0 : wr.heap.size < W0.heap.size := (uh HBI).lt
   have z0 : w2.cell? ⟨wr.heap.size, 0, none⟩ = some (.int .i64 x.kind) := bI2.at 0 _ rfl
   have z1 : w2.cell? ⟨wr.heap.size, 1, none⟩ = some (.int .i64 x.id) := bI2.at 1 _ rfl
   have z2 : w2.cell? ⟨wr.heap.size, 2, none⟩ = some (.slice a2 x.vec.length d2) := bI2.at 2 _ rfl
   have z3 : w2.cell? ⟨wr.heap.size, 3, none⟩ = some (.int .i64 x.session) := bI2.at 3 _ rfl
   have z4 : w2.cell? ⟨wr.heap.size, 4, none⟩ = some (.int .i64 x.seq) := bI2.at 4 _ rfl
   have f2 := bI2.soft 2
   have l2 := bI2.lt
   have hE : Ext (fun c => c = wr.heap.size) w2 (w2.setCell ⟨wr.heap.size, 2, none⟩ (.slice ao2 x.vec.length cp2)) := (Ext.refl (fun c => c = wr.heap.size) w2).setCell ⟨wr.heap.size, 2, none⟩ _ rfl
   have hl3 : Lay.tWrite.lies (w2.setCell ⟨wr.heap.size, 2, none⟩ (.slice ao2 x.vec.length cp2)) [.int .i64 x.kind, .int .i64 x.id, .slice ao2 x.vec.length cp2, .int .i64 x.session, .int .i64 x.seq] x bl2 := lies_Write.2 ⟨ao2, cp2, bl2, rfl, rfl, (uh HWF).1, (uh HWF).2.1, (Lay.sl Lay.int).keep hl2 (fun c hc => hE.block c ((Lay.sl Lay.int).lt hl2 c hc) (by have := (hr2 c hc).1; omega)), (uh HWF).2.2.1, (uh HWF).2.2.2⟩
   have hG2 := (uh HG).later hb
   have hoff : ∀ c ∈ bl2, u3.ownBlock ≠ some c := fun c hc e => by have h1 := (hr2 c hc).1; have h2 := uh HOW c e; omega
   have HB3 : Hid (Below w.heap.size w (w2.setCell ⟨wr.heap.size, 2, none⟩ (.slice ao2 x.vec.length cp2))) := ((uh HB).trans (hb.mono (uh HB).size)).setCell (by simpa using uh HZW) _
   have hG3 : Grow Lay.tWrite (w2.setCell ⟨wr.heap.size, 2, none⟩ (.slice ao2 x.vec.length cp2)) w.heap.size 87 u3 rows (ws.take k) bls := hG2.kept (by
    obtain ⟨h1, h2⟩ := hG2.own
    refine ⟨h1, ?_⟩
    rcases h2 with h2 | ⟨gb, cap', cur, hv, hg, hh, r⟩
    ·
     exact Or.inl h2
    ·
     exact Or.inr ⟨gb, cap', cur, hv, hg, (hE.block gb (lt_of_block hh) (by have := uh HOW gb (by rw [hv]; rfl); omega)).trans hh, r⟩) (fun c hc => hE.block c (hG2.sub_lt c hc) (fun e => by
    have := uh HSL c hc
    omega))
   have hZ3 : w.heap.size ≤ (w2.setCell ⟨wr.heap.size, 2, none⟩ (.slice ao2 x.vec.length cp2)).heap.size := (uh HB3).size
   have hK : (ws.take k).length + 1 ≤ 100000000 := by rw [uh HLn]; omega
   have y0 : (w2.setCell ⟨wr.heap.size, 2, none⟩ (.slice ao2 x.vec.length cp2)).cell? ⟨wr.heap.size, 0, none⟩ = some (.int .i64 x.kind) := (bI2.set 2 _).at 0 _ rfl
   have y1 : (w2.setCell ⟨wr.heap.size, 2, none⟩ (.slice ao2 x.vec.length cp2)).cell? ⟨wr.heap.size, 1, none⟩ = some (.int .i64 x.id) := (bI2.set 2 _).at 1 _ rfl
   have y2 : (w2.setCell ⟨wr.heap.size, 2, none⟩ (.slice ao2 x.vec.length cp2)).cell? ⟨wr.heap.size, 2, none⟩ = some (.slice ao2 x.vec.length cp2) := (bI2.set 2 _).at 2 _ rfl
   have y3 : (w2.setCell ⟨wr.heap.size, 2, none⟩ (.slice ao2 x.vec.length cp2)).cell? ⟨wr.heap.size, 3, none⟩ = some (.int .i64 x.session) := (bI2.set 2 _).at 3 _ rfl
   have y4 : (w2.setCell ⟨wr.heap.size, 2, none⟩ (.slice ao2 x.vec.length cp2)).cell? ⟨wr.heap.size, 4, none⟩ = some (.int .i64 x.seq) := (bI2.set 2 _).at 4 _ rfl
   have HSB5 : Hid (∀ c ∈ (bls ++ [bl2]).flatten, w.heap.size ≤ c) := by
    intro c hc
    rw [List.flatten_append] at hc
    rcases List.mem_append.1 hc with hc | hc
    ·
     exact uh HSB c hc
    have h1 := (hr2 c (by simpa using hc)).1
    have h2 := uh HZW
    omega
   clear z0 z1 z3 z4 bI2 hE hG2 hl2 hO HG HL HB HBI HRW HN HWF hb hr2 hZ0
   go_upto_region 7 with fail
   generalize w2.setCell ⟨wr.heap.size, 2, none⟩ (.slice ao2 x.vec.length cp2) = W3 at *
   go_wp2_with (at_builtin; refine wpList_append_Write hG3 hl3 hoff rfl _ _ rfl rfl rfl hK hZ3 ?_)
   intro g5 cap5 w5 hG5 hb5 hE5 hg5 hz5 hor5
   have HG5 := yh hG5
   have HB5 := yh ((uh HB3).trans hb5)
   clear hG3 hl3 hoff hZ3 hK hG5 hb5 hE5 hg5 hz5 hor5 HB3 y0 y1 y2 y3 y4 z2 f2 l2
   go_wp2_with fail
   go_roundw
   case rel =>
    have hg := uh HG5
    rw [← uh HT] at hg
    try rw [uh HLn] at hg
    exact ⟨k + 1, _, _, by omega, by go_num, hg, uh HSB5, uh HB5⟩
   case measure => simp [intOf]; omega
  obtain rfl : k = ws.length := by omega
  rw [List.take_length] at hG
  have HG := yh hG
  have HB := yh hB
  clear hG hB H
  go_wp2_with fail
  go_ret
  exact ⟨_, rfl, ⟨_, _, uh HG, uh HSB⟩, uh HB⟩
theorem wcopyC (v : Value) (ws : List DWrite) (w : World) (h : (Lay.sl Lay.tWrite).Reads w [v] ws) (hn : ws.length ≤ 10000000) (hv : ∀ x ∈ ws, x.vec.length ≤ 100000000) :
  Calls Tryz.prog 93 #[v] w fun e w' => ∃ v', e = .returned v' ∧ (∃ rows bls, Grow Lay.tWrite w' w.heap.size 87 v' rows ws bls ∧ ∀ c ∈ bls.flatten, w.heap.size ≤ c) ∧ Below w.heap.size w w' := by
 obtain ⟨ao, cap, rfl⟩ := open_sl h
 by_cases hp : 0 < ws.length
 ·
  obtain ⟨b, off, rfl, hbl⟩ := Lay.sl_addr h hp
  exact wcopy_pos b off cap ws w h hbl hn hv
 obtain rfl : ws = [] := List.eq_nil_of_length_eq_zero (by omega)
 clear h hp hn hv
 have HB := yh ((Below.refl w.heap.size w).alloc (Nat.le_refl _) (.cells #[] 87))
 have HG : Hid (Grow Lay.tWrite (w.alloc (.cells #[] 87)) w.heap.size 87 (.slice (some ⟨w.heap.size, 0, none⟩) 0 0) [] [] []) := Grow.nil (World.ownsRow_lit w #[] 0 (Nat.le_refl _) (Nat.zero_le _) rfl)
 go_enter Tryz.func93, Tryz.ntmps93
 go_wp2_with fail
 refine wp_loop_rounds 1 ?_
 rw [rounds_succ]
 go_wp2_with fail
 go_ret
 exact ⟨_, rfl, ⟨_, _, uh HG, by simp⟩, uh HB⟩
def takenF (ws : List DWrite) : Int := if 40 < ws.length then 2 else if wsFrom ws ≠ 0 then wsFrom ws else if onceB [] ws = false then 6 else 0
def downB (x : DNode) : Bool := (x.sure == (x.writes.length : Int)) && (x.clean == 0 && x.lease == 0)
theorem nf_id {x : DNode} (h : (decide (1 ≤ x.id) && decide (x.id ≤ 5)) = false) : nodeFault x = 3 := by
 simp only [Bool.and_eq_false_iff, decide_eq_false_iff_not] at h
 rw [nodeFault, if_neg (by omega)]
theorem nf_epoch {x : DNode} (h : (decide (0 ≤ x.epoch) && decide (x.epoch ≤ 999)) = false) : nodeFault x = 3 := by
 simp only [Bool.and_eq_false_iff, decide_eq_false_iff_not] at h
 rw [nodeFault, if_neg (by omega)]
theorem nf_lease {x : DNode} (h : (decide (0 ≤ x.lease) && decide (x.lease ≤ 9999)) = false) : nodeFault x = 3 := by
 simp only [Bool.and_eq_false_iff, decide_eq_false_iff_not] at h
 rw [nodeFault, if_neg (by omega)]
theorem nf_rest {x : DNode} (h1 : (decide (1 ≤ x.id) && decide (x.id ≤ 5)) = true) (h2 : (decide (0 ≤ x.epoch) && decide (x.epoch ≤ 999)) = true) (h3 : (decide (0 ≤ x.lease) && decide (x.lease ≤ 9999)) = true) :
  nodeFault x = if takenF x.writes ≠ 0 then takenF x.writes else if (decide (0 ≤ x.sure) && decide (x.sure ≤ (x.writes.length : Int))) = true ∧ (decide (0 ≤ x.clean) && decide (x.clean ≤ x.sure)) = true then (if x.up = false ∧ downB x = false then 1 else 0) else 3 := by
 simp only [Bool.and_eq_true, decide_eq_true_eq] at *
 rw [nodeFault, if_pos (by omega), takenF]
 by_cases q1 : 40 < x.writes.length
 ·
  simp only [if_pos q1]; rfl
 simp only [if_neg q1]
 by_cases q2 : wsFrom x.writes ≠ 0
 ·
  simp only [if_pos q2]
 simp only [if_neg q2]
 by_cases q3 : onceB [] x.writes = false
 ·
  simp only [if_pos q3]; rfl
 simp only [if_neg q3]
 rw [if_neg (by simp : ¬ ((0 : Int) ≠ 0))]
 have e1 : (0 ≤ x.sure ∧ x.sure ≤ (x.writes.length : Int) ∧ 0 ≤ x.clean ∧ x.clean ≤ x.sure) ↔ ((0 ≤ x.sure ∧ x.sure ≤ (x.writes.length : Int)) ∧ 0 ≤ x.clean ∧ x.clean ≤ x.sure) := by constructor <;> (intro h; omega)
 have e2 : ¬ (x.sure = (x.writes.length : Int) ∧ x.clean = 0 ∧ x.lease = 0) ↔ downB x = false := by
  unfold downB
  rw [← Bool.not_eq_true]
  simp
 simp only [e1, e2]
structure RowIn (cs : Array Value) (w : World) (b o : Nat) : Prop where
 lt : b < w.heap.size
 cells : ∀ (i : Nat) (v : Value), cs[i]? = some v → w.cell? ⟨b, o + i, none⟩ = some v
variable {cs : Array Value} {w w' : World} {b o : Nat}
theorem RowIn.at (h : RowIn cs w b o) (i : Nat) (v : Value) (hi : cs[i]? = some v) : w.cell? ⟨b, o + i, none⟩ = some v := h.cells i v hi
theorem RowIn.keep (h : RowIn cs w b o) (hb : Below w.heap.size w w') : RowIn cs w' b o := ⟨Nat.lt_of_lt_of_le h.lt hb.size, fun i v hi => (hb.cell (p := ⟨b, o + i, none⟩) h.lt).trans (h.cells i v hi)⟩
theorem RowIn.drew (h : RowIn cs w b o) : RowIn cs w.drew b o := ⟨h.lt, h.cells⟩
theorem RowIn.ofRow {α : Type} {A : Lay α} {off k : Nat} {row : List Value} (hc : ∀ m, m < A.n → w.cell? ⟨b, off + k * A.n + m, none⟩ = row[m]?) (hl : row.length = A.n) (hb : b < w.heap.size) : RowIn row.toArray w b (off + k * A.n) := ⟨hb, fun i v hi => by
 have h1 : row[i]? = some v := by simpa using hi
 have h2 : i < A.n := by
  rw [← hl]
  rcases Nat.lt_or_ge i row.length with q | q
  ·
   exact q
  rw [List.getElem?_eq_none q] at h1; simp at h1
 rw [hc i h2, h1]⟩
end Go.Proofs.YtoanimpijfijgaaGreat
