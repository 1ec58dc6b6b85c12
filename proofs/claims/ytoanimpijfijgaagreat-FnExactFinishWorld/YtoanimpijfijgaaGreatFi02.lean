/-
  Texts of this proof in one: SzNodeS, SzMsg, SzMsgS, SzHit, SzHitS, SzEntry, SzEntryS, SzWorld, ToChain, ToWrite, ToWriteS, ToNode, ToNodeS, ToMsg, ToMsgS, ToHit, ToHitS.
  Their conditions stand in their theorems.
-/
import Derived.Test.YtoanimpijfijgaaGreatChecked
import Derived.Test.YtoanimpijfijgaaGreatFi01
import Derived.Test.YtoanimpijfijgaaGreatFi00
import Derived.WalkKit
set_option maxRecDepth 100000
set_option maxHeartbeats 4000000
namespace Go.Proofs.YtoanimpijfijgaaGreat
open Go.RowKit
theorem sz_NodeS (v : Value) (xs : List DNode) (l : Nat) (w : World) (h : (Lay.sl Lay.tNode).Reads w [v] xs) (hl : l ≤ 1048576) :
  Calls Tryz.prog 57 #[v, .int .i64 l] w fun e w' => e = .returned (.int .i64 (szR l ((Lay.sl Lay.tNode).sz xs))) ∧ Below w.heap.size w w' := by
 have hbig := h.big
 obtain ⟨ao, cap, rfl⟩ := open_sl h
 have HV : Hid ((Lay.sl Lay.tNode).sz xs = xs.length + cntAll Lay.tNode.sz xs) := rfl
 by_cases hn : xs.length ≤ l
 ·
  have e1 : (l : Int) - (xs.length : Int) = ((l - xs.length : Nat) : Int) := by omega
  have e2 : decide (((l - xs.length : Nat) : Int) < 0) = false := by simp
  by_cases hp : 0 < xs.length
  ·
   obtain ⟨b, off, rfl, hbl⟩ := Lay.sl_addr h hp
   have H := yh h
   clear h
   go_enter Tryz.func57, Tryz.ntmps57
   go_wp2_with fail
   go_loopw [1, 5] (fun lf i wr => ∃ k s : Nat, k ≤ xs.length ∧ i = .int .i64 k ∧ s = cntAll Lay.tNode.sz (xs.take k) ∧ xs.length + s ≤ l ∧ lf = .int .i64 ((l - (xs.length + s) : Nat) : Int) ∧ Below w.heap.size w wr) (fun _ i _ => xs.length - (intOf i).toNat)
   case atStart => exact ⟨0, 0, Nat.zero_le _, rfl, rfl, by omega, by simp, Below.refl _ _⟩
   case round =>
    obtain ⟨k, s, hk, rfl, hs, hsl, rfl, hB⟩ := hrel
    have HS := yh hs
    clear hs e1 e2
    by_cases hlt : k < xs.length
    ·
     obtain ⟨row, hc, hr⟩ := Lay.row_at (uh H) hlt
     replace hr := hr.later hB
     have hr2 := hr
     obtain ⟨a4, d4, rfl, -⟩ := open_Node hr2
     have c0 : wr.cell? ⟨b, off + k * 7, none⟩ = some (.int .i64 (xs[k]).id) := (hB.cell (p := ⟨b, off + k * 7, none⟩) hbl).trans (hc 0 (by decide))
     have c1 : wr.cell? ⟨b, off + k * 7 + 1, none⟩ = some (.bool (xs[k]).up) := (hB.cell (p := ⟨b, off + k * 7 + 1, none⟩) hbl).trans (hc 1 (by decide))
     have c2 : wr.cell? ⟨b, off + k * 7 + 2, none⟩ = some (.int .i64 (xs[k]).epoch) := (hB.cell (p := ⟨b, off + k * 7 + 2, none⟩) hbl).trans (hc 2 (by decide))
     have c3 : wr.cell? ⟨b, off + k * 7 + 3, none⟩ = some (.int .i64 (xs[k]).lease) := (hB.cell (p := ⟨b, off + k * 7 + 3, none⟩) hbl).trans (hc 3 (by decide))
     have c4 : wr.cell? ⟨b, off + k * 7 + 4, none⟩ = some (.slice a4 (xs[k]).writes.length d4) := (hB.cell (p := ⟨b, off + k * 7 + 4, none⟩) hbl).trans (hc 4 (by decide))
     have c5 : wr.cell? ⟨b, off + k * 7 + 5, none⟩ = some (.int .i64 (xs[k]).sure) := (hB.cell (p := ⟨b, off + k * 7 + 5, none⟩) hbl).trans (hc 5 (by decide))
     have c6 : wr.cell? ⟨b, off + k * 7 + 6, none⟩ = some (.int .i64 (xs[k]).clean) := (hB.cell (p := ⟨b, off + k * 7 + 6, none⟩) hbl).trans (hc 6 (by decide))
     have HB := yh hB
     have HR := yh hr
     have HT := yh (Lay.cntAll_take (f := Lay.tNode.sz) hlt)
     have HL := yh (Lay.cntAll_take_le (f := Lay.tNode.sz) (xs := xs) (k := k + 1))
     clear hB hr hc
     generalize hxk : xs[k] = x at *
     clear hxk
     go_wp2_with fail
     refine (sz_Node _ x (l - (xs.length + s)) wr (uh HR) (by omega)).mono ?_
     rintro e w2 ⟨rfl, hb⟩
     replace HB := yh ((uh HB).trans (hb.mono (uh HB).size))
     clear hb HR c0 c1 c2 c3 c4 c5 c6
     have ht := uh HT
     rw [← uh HS] at ht
     have hle := uh HL
     rw [ht] at hle
     have HQ := yh ht
     by_cases hq : xs.length + s + Lay.tNode.sz x ≤ l
     ·
      rw [szR_ok (by omega)]
      have e3 : l - (xs.length + s) - Lay.tNode.sz x = l - (xs.length + (s + Lay.tNode.sz x)) := by omega
      rw [e3]
      have e4 : decide (((l - (xs.length + (s + Lay.tNode.sz x)) : Nat) : Int) < 0) = false := by simp
      clear ht hle e3
      generalize hz : s + Lay.tNode.sz x = s2 at *
      have hs2 : xs.length + s2 ≤ l := by omega
      clear hz hq
      go_wp2_with fail
      go_roundw
      case rel => exact ⟨k + 1, s2, by omega, by go_num, (uh HQ).symm, hs2, rfl, uh HB⟩
      case measure => simp [intOf]; omega
     rw [szR_many (by omega)]
     have HN : Hid (l < xs.length + cntAll Lay.tNode.sz xs) := by
      show l < xs.length + cntAll Lay.tNode.sz xs
      omega
     clear ht hle
     go_wp2_with fail
     go_ret
     refine ⟨?_, uh HB⟩
     rw [uh HV, szR_many (uh HN)]
     rfl
    obtain rfl : k = xs.length := by omega
    have HE : Hid (s = cntAll Lay.tNode.sz xs) := by
     have := uh HS
     rw [List.take_length] at this
     exact this
    have HB := yh hB
    clear hB HS
    go_wp2_with fail
    go_ret
    refine ⟨?_, uh HB⟩
    rw [uh HV, ← uh HE, szR_ok hsl]
    rfl
  obtain rfl : xs = [] := List.eq_nil_of_length_eq_zero (by omega)
  clear h hp
  rw [uh HV]
  simp only [List.length_nil, cntAll, Nat.add_zero, Nat.sub_zero] at *
  rw [szR_ok (Nat.zero_le _)]
  have e3 : decide ((l : Int) < 0) = false := by simp
  go_enter Tryz.func57, Tryz.ntmps57
  go_wp2_with fail
  refine wp_loop_rounds 1 ?_
  rw [rounds_succ]
  go_wp2_with fail
  go_ret
  exact ⟨by simp, Below.refl _ _⟩
 have HN : Hid (szR l ((Lay.sl Lay.tNode).sz xs) = -1) := szR_many (by rw [uh HV]; omega)
 rw [uh HN]
 have e2 : decide ((l : Int) - (xs.length : Int) < 0) = true := by simp; omega
 clear h HV HN
 generalize xs.length = n at *
 go_enter Tryz.func57, Tryz.ntmps57
 go_wp2_with fail
 go_ret
 exact ⟨rfl, Below.refl _ _⟩
theorem szsum_Msg (x : DMsg) : Lay.tMsg.sz x = Lay.tWrite.sz x.write := by
 show 0 + (0 + (0 + (0 + (0 + (Lay.tWrite.sz x.write))))) = Lay.tWrite.sz x.write
 omega
theorem sz_Msg (cs : List Value) (x : DMsg) (l : Nat) (w : World) (h : Lay.tMsg.Reads w cs x) (hl : l ≤ 1048576) :
  Calls Tryz.prog 128 #[.agg cs.toArray, .int .i64 l] w fun e w' => e = .returned (.int .i64 (szR l (Lay.tMsg.sz x))) ∧ Below w.heap.size w w' := by
 obtain ⟨a7, d7, rfl, R5⟩ := open_Msg h
 clear h
 have HB0 : Below w.heap.size w (w.alloc (.cells #[.int .i64 x.kind, .int .i64 x.epoch, .int .i64 x.src, .int .i64 x.dst, .int .i64 x.index, .int .i64 x.write.kind, .int .i64 x.write.id, .slice a7 x.write.vec.length d7, .int .i64 x.write.session, .int .i64 x.write.seq] 152)) := (Below.refl _ _).alloc (Nat.le_refl _) _
 have bA : Box w.heap.size #[.int .i64 x.kind, .int .i64 x.epoch, .int .i64 x.src, .int .i64 x.dst, .int .i64 x.index, .int .i64 x.write.kind, .int .i64 x.write.id, .slice a7 x.write.vec.length d7, .int .i64 x.write.session, .int .i64 x.write.seq] 152 (w.alloc (.cells #[.int .i64 x.kind, .int .i64 x.epoch, .int .i64 x.src, .int .i64 x.dst, .int .i64 x.index, .int .i64 x.write.kind, .int .i64 x.write.id, .slice a7 x.write.vec.length d7, .int .i64 x.write.session, .int .i64 x.write.seq] 152)) w.heap.size := newBox (Nat.le_refl _)
 have HV := yh (szsum_Msg x)
 go_enter Tryz.func128, Tryz.ntmps128
 go_wp2_with fail
 generalize w.alloc (.cells #[.int .i64 x.kind, .int .i64 x.epoch, .int .i64 x.src, .int .i64 x.dst, .int .i64 x.index, .int .i64 x.write.kind, .int .i64 x.write.id, .slice a7 x.write.vec.length d7, .int .i64 x.write.session, .int .i64 x.write.seq] 152) = W0 at *
 replace R5 := R5.later HB0
 refine (sz_Write _ x.write (l) _ R5 (by omega)).mono ?_
 rintro e w1 ⟨rfl, hb⟩
 replace HB0 := HB0.trans (hb.mono HB0.size)
 replace bA := bA.keep hb
 clear hb R5
 by_cases hs0 : Lay.tWrite.sz x.write ≤ l
 ·
  rw [szR_ok hs0]
  have hq : decide (((l - Lay.tWrite.sz x.write : Nat) : Int) < 0) = false := by simp
  have HX := yh HB0
  have HA := yh bA
  clear HB0 bA
  go_wp2_with fail
  clear hq
  go_ret
  refine ⟨?_, uh HX⟩
  rw [uh HV, szR_ok (by omega), show l - (Lay.tWrite.sz x.write) = l - Lay.tWrite.sz x.write by omega]
  rfl
 rw [szR_many (by omega)]
 have HX := yh HB0
 clear HB0 bA
 go_wp2_with fail
 go_ret
 refine ⟨?_, uh HX⟩
 rw [uh HV, szR_many (by omega)]
 rfl
theorem sz_MsgS (v : Value) (xs : List DMsg) (l : Nat) (w : World) (h : (Lay.sl Lay.tMsg).Reads w [v] xs) (hl : l ≤ 1048576) :
  Calls Tryz.prog 58 #[v, .int .i64 l] w fun e w' => e = .returned (.int .i64 (szR l ((Lay.sl Lay.tMsg).sz xs))) ∧ Below w.heap.size w w' := by
 have hbig := h.big
 obtain ⟨ao, cap, rfl⟩ := open_sl h
 have HV : Hid ((Lay.sl Lay.tMsg).sz xs = xs.length + cntAll Lay.tMsg.sz xs) := rfl
 by_cases hn : xs.length ≤ l
 ·
  have e1 : (l : Int) - (xs.length : Int) = ((l - xs.length : Nat) : Int) := by omega
  have e2 : decide (((l - xs.length : Nat) : Int) < 0) = false := by simp
  by_cases hp : 0 < xs.length
  ·
   obtain ⟨b, off, rfl, hbl⟩ := Lay.sl_addr h hp
   have H := yh h
   clear h
   go_enter Tryz.func58, Tryz.ntmps58
   go_wp2_with fail
   go_loopw [1, 5] (fun lf i wr => ∃ k s : Nat, k ≤ xs.length ∧ i = .int .i64 k ∧ s = cntAll Lay.tMsg.sz (xs.take k) ∧ xs.length + s ≤ l ∧ lf = .int .i64 ((l - (xs.length + s) : Nat) : Int) ∧ Below w.heap.size w wr) (fun _ i _ => xs.length - (intOf i).toNat)
   case atStart => exact ⟨0, 0, Nat.zero_le _, rfl, rfl, by omega, by simp, Below.refl _ _⟩
   case round =>
    obtain ⟨k, s, hk, rfl, hs, hsl, rfl, hB⟩ := hrel
    have HS := yh hs
    clear hs e1 e2
    by_cases hlt : k < xs.length
    ·
     obtain ⟨row, hc, hr⟩ := Lay.row_at (uh H) hlt
     replace hr := hr.later hB
     have hr2 := hr
     obtain ⟨a7, d7, rfl, -⟩ := open_Msg hr2
     have c0 : wr.cell? ⟨b, off + k * 10, none⟩ = some (.int .i64 (xs[k]).kind) := (hB.cell (p := ⟨b, off + k * 10, none⟩) hbl).trans (hc 0 (by decide))
     have c1 : wr.cell? ⟨b, off + k * 10 + 1, none⟩ = some (.int .i64 (xs[k]).epoch) := (hB.cell (p := ⟨b, off + k * 10 + 1, none⟩) hbl).trans (hc 1 (by decide))
     have c2 : wr.cell? ⟨b, off + k * 10 + 2, none⟩ = some (.int .i64 (xs[k]).src) := (hB.cell (p := ⟨b, off + k * 10 + 2, none⟩) hbl).trans (hc 2 (by decide))
     have c3 : wr.cell? ⟨b, off + k * 10 + 3, none⟩ = some (.int .i64 (xs[k]).dst) := (hB.cell (p := ⟨b, off + k * 10 + 3, none⟩) hbl).trans (hc 3 (by decide))
     have c4 : wr.cell? ⟨b, off + k * 10 + 4, none⟩ = some (.int .i64 (xs[k]).index) := (hB.cell (p := ⟨b, off + k * 10 + 4, none⟩) hbl).trans (hc 4 (by decide))
     have c5 : wr.cell? ⟨b, off + k * 10 + 5, none⟩ = some (.int .i64 (xs[k]).write.kind) := (hB.cell (p := ⟨b, off + k * 10 + 5, none⟩) hbl).trans (hc 5 (by decide))
     have c6 : wr.cell? ⟨b, off + k * 10 + 6, none⟩ = some (.int .i64 (xs[k]).write.id) := (hB.cell (p := ⟨b, off + k * 10 + 6, none⟩) hbl).trans (hc 6 (by decide))
     have c7 : wr.cell? ⟨b, off + k * 10 + 7, none⟩ = some (.slice a7 (xs[k]).write.vec.length d7) := (hB.cell (p := ⟨b, off + k * 10 + 7, none⟩) hbl).trans (hc 7 (by decide))
     have c8 : wr.cell? ⟨b, off + k * 10 + 8, none⟩ = some (.int .i64 (xs[k]).write.session) := (hB.cell (p := ⟨b, off + k * 10 + 8, none⟩) hbl).trans (hc 8 (by decide))
     have c9 : wr.cell? ⟨b, off + k * 10 + 9, none⟩ = some (.int .i64 (xs[k]).write.seq) := (hB.cell (p := ⟨b, off + k * 10 + 9, none⟩) hbl).trans (hc 9 (by decide))
     have HB := yh hB
     have HR := yh hr
     have HT := yh (Lay.cntAll_take (f := Lay.tMsg.sz) hlt)
     have HL := yh (Lay.cntAll_take_le (f := Lay.tMsg.sz) (xs := xs) (k := k + 1))
     clear hB hr hc
     generalize hxk : xs[k] = x at *
     clear hxk
     go_wp2_with fail
     refine (sz_Msg _ x (l - (xs.length + s)) wr (uh HR) (by omega)).mono ?_
     rintro e w2 ⟨rfl, hb⟩
     replace HB := yh ((uh HB).trans (hb.mono (uh HB).size))
     clear hb HR c0 c1 c2 c3 c4 c5 c6 c7 c8 c9
     have ht := uh HT
     rw [← uh HS] at ht
     have hle := uh HL
     rw [ht] at hle
     have HQ := yh ht
     by_cases hq : xs.length + s + Lay.tMsg.sz x ≤ l
     ·
      rw [szR_ok (by omega)]
      have e3 : l - (xs.length + s) - Lay.tMsg.sz x = l - (xs.length + (s + Lay.tMsg.sz x)) := by omega
      rw [e3]
      have e4 : decide (((l - (xs.length + (s + Lay.tMsg.sz x)) : Nat) : Int) < 0) = false := by simp
      clear ht hle e3
      generalize hz : s + Lay.tMsg.sz x = s2 at *
      have hs2 : xs.length + s2 ≤ l := by omega
      clear hz hq
      go_wp2_with fail
      go_roundw
      case rel => exact ⟨k + 1, s2, by omega, by go_num, (uh HQ).symm, hs2, rfl, uh HB⟩
      case measure => simp [intOf]; omega
     rw [szR_many (by omega)]
     have HN : Hid (l < xs.length + cntAll Lay.tMsg.sz xs) := by
      show l < xs.length + cntAll Lay.tMsg.sz xs
      omega
     clear ht hle
     go_wp2_with fail
     go_ret
     refine ⟨?_, uh HB⟩
     rw [uh HV, szR_many (uh HN)]
     rfl
    obtain rfl : k = xs.length := by omega
    have HE : Hid (s = cntAll Lay.tMsg.sz xs) := by
     have := uh HS
     rw [List.take_length] at this
     exact this
    have HB := yh hB
    clear hB HS
    go_wp2_with fail
    go_ret
    refine ⟨?_, uh HB⟩
    rw [uh HV, ← uh HE, szR_ok hsl]
    rfl
  obtain rfl : xs = [] := List.eq_nil_of_length_eq_zero (by omega)
  clear h hp
  rw [uh HV]
  simp only [List.length_nil, cntAll, Nat.add_zero, Nat.sub_zero] at *
  rw [szR_ok (Nat.zero_le _)]
  have e3 : decide ((l : Int) < 0) = false := by simp
  go_enter Tryz.func58, Tryz.ntmps58
  go_wp2_with fail
  refine wp_loop_rounds 1 ?_
  rw [rounds_succ]
  go_wp2_with fail
  go_ret
  exact ⟨by simp, Below.refl _ _⟩
 have HN : Hid (szR l ((Lay.sl Lay.tMsg).sz xs) = -1) := szR_many (by rw [uh HV]; omega)
 rw [uh HN]
 have e2 : decide ((l : Int) - (xs.length : Int) < 0) = true := by simp; omega
 clear h HV HN
 generalize xs.length = n at *
 go_enter Tryz.func58, Tryz.ntmps58
 go_wp2_with fail
 go_ret
 exact ⟨rfl, Below.refl _ _⟩
theorem szsum_Hit (x : DHit) : Lay.tHit.sz x = 0 := by
 show 0 + (0) = 0
 omega
theorem sz_HitS (v : Value) (xs : List DHit) (l : Nat) (w : World) (h : (Lay.sl Lay.tHit).Reads w [v] xs) (hl : l ≤ 1048576) :
  Calls Tryz.prog 209 #[v, .int .i64 l] w fun e w' => e = .returned (.int .i64 (szR l ((Lay.sl Lay.tHit).sz xs))) ∧ Below w.heap.size w w' := by
 have hbig := h.big
 obtain ⟨ao, cap, rfl⟩ := open_sl h
 have HV : Hid ((Lay.sl Lay.tHit).sz xs = xs.length + cntAll Lay.tHit.sz xs) := rfl
 have e0 : cntAll Lay.tHit.sz xs = 0 := by
  clear h hbig HV
  induction xs with
  | nil => rfl
  | cons x xs ih => rw [cntAll, ih, szsum_Hit]
 rw [uh HV, e0, Nat.add_zero]
 generalize xs.length = n at *
 clear h HV e0
 by_cases hn : n ≤ l
 ·
  rw [szR_ok hn]
  have e1 : (l : Int) - (n : Int) = ((l - n : Nat) : Int) := by omega
  have e2 : decide (((l - n : Nat) : Int) < 0) = false := by simp
  go_enter Tryz.func209, Tryz.ntmps209
  go_wp2_with fail
  go_ret
  exact ⟨rfl, Below.refl _ _⟩
 rw [szR_many (by omega)]
 have e2 : decide ((l : Int) - (n : Int) < 0) = true := by simp; omega
 go_enter Tryz.func209, Tryz.ntmps209
 go_wp2_with fail
 go_ret
 exact ⟨rfl, Below.refl _ _⟩
theorem szsum_Entry (x : DEntry) : Lay.tEntry.sz x = (Lay.sl Lay.int).sz x.query + (Lay.sl Lay.int).sz x.vec + (Lay.sl Lay.tHit).sz x.hits := by
 show 0 + (0 + (0 + (0 + ((Lay.sl Lay.int).sz x.query + (0 + (0 + (0 + (0 + ((Lay.sl Lay.int).sz x.vec + ((Lay.sl Lay.tHit).sz x.hits)))))))))) = (Lay.sl Lay.int).sz x.query + (Lay.sl Lay.int).sz x.vec + (Lay.sl Lay.tHit).sz x.hits
 omega
theorem sz_Entry (cs : List Value) (x : DEntry) (l : Nat) (w : World) (h : Lay.tEntry.Reads w cs x) (hl : l ≤ 1048576) :
  Calls Tryz.prog 129 #[.agg cs.toArray, .int .i64 l] w fun e w' => e = .returned (.int .i64 (szR l (Lay.tEntry.sz x))) ∧ Below w.heap.size w w' := by
 obtain ⟨a4, d4, a9, d9, a10, d10, rfl, R4, R9, R10⟩ := open_Entry h
 clear h
 have HB0 : Below w.heap.size w (w.alloc (.cells #[.int .i64 x.kind, .int .i64 x.session, .int .i64 x.seq, .int .i64 x.id, .slice a4 x.query.length d4, .int .i64 x.k, .int .i64 x.start, .int .i64 x.fin, .int .i64 x.place, .slice a9 x.vec.length d9, .slice a10 x.hits.length d10] 156)) := (Below.refl _ _).alloc (Nat.le_refl _) _
 have bA : Box w.heap.size #[.int .i64 x.kind, .int .i64 x.session, .int .i64 x.seq, .int .i64 x.id, .slice a4 x.query.length d4, .int .i64 x.k, .int .i64 x.start, .int .i64 x.fin, .int .i64 x.place, .slice a9 x.vec.length d9, .slice a10 x.hits.length d10] 156 (w.alloc (.cells #[.int .i64 x.kind, .int .i64 x.session, .int .i64 x.seq, .int .i64 x.id, .slice a4 x.query.length d4, .int .i64 x.k, .int .i64 x.start, .int .i64 x.fin, .int .i64 x.place, .slice a9 x.vec.length d9, .slice a10 x.hits.length d10] 156)) w.heap.size := newBox (Nat.le_refl _)
 have HV := yh (szsum_Entry x)
 go_enter Tryz.func129, Tryz.ntmps129
 go_wp2_with fail
 generalize w.alloc (.cells #[.int .i64 x.kind, .int .i64 x.session, .int .i64 x.seq, .int .i64 x.id, .slice a4 x.query.length d4, .int .i64 x.k, .int .i64 x.start, .int .i64 x.fin, .int .i64 x.place, .slice a9 x.vec.length d9, .slice a10 x.hits.length d10] 156) = W0 at *
 replace R4 := R4.later HB0
 replace R9 := R9.later HB0
 replace R10 := R10.later HB0
 refine (sz_Int64S _ x.query (l) _ R4 (by omega)).mono ?_
 rintro e w1 ⟨rfl, hb⟩
 replace HB0 := HB0.trans (hb.mono HB0.size)
 replace bA := bA.keep hb
 replace R9 := R9.later hb
 replace R10 := R10.later hb
 clear hb R4
 by_cases hs0 : (Lay.sl Lay.int).sz x.query ≤ l
 ·
  rw [szR_ok hs0]
  have hq : decide (((l - (Lay.sl Lay.int).sz x.query : Nat) : Int) < 0) = false := by simp
  have p9 := bA.at 9 _ rfl
  have p10 := bA.at 10 _ rfl
  have HX := yh HB0
  have HA := yh bA
  clear HB0 bA
  have P9 := yh R9
  clear R9
  have P10 := yh R10
  clear R10
  go_wp2_with fail
  clear hq
  have HB0 := uh HX
  have bA := uh HA
  clear HX HA
  have R9 := uh P9
  clear P9
  have R10 := uh P10
  clear P10
  clear p9
  clear p10
  refine (sz_Int64S _ x.vec (l - (Lay.sl Lay.int).sz x.query) _ R9 (by omega)).mono ?_
  rintro e w2 ⟨rfl, hb⟩
  replace HB0 := HB0.trans (hb.mono HB0.size)
  replace bA := bA.keep hb
  replace R10 := R10.later hb
  clear hb R9
  by_cases hs1 : (Lay.sl Lay.int).sz x.vec ≤ l - (Lay.sl Lay.int).sz x.query
  ·
   rw [szR_ok hs1]
   have hq : decide (((l - (Lay.sl Lay.int).sz x.query - (Lay.sl Lay.int).sz x.vec : Nat) : Int) < 0) = false := by simp
   have p10 := bA.at 10 _ rfl
   have HX := yh HB0
   have HA := yh bA
   clear HB0 bA
   have P10 := yh R10
   clear R10
   go_wp2_with fail
   clear hq
   have HB0 := uh HX
   have bA := uh HA
   clear HX HA
   have R10 := uh P10
   clear P10
   clear p10
   refine (sz_HitS _ x.hits (l - (Lay.sl Lay.int).sz x.query - (Lay.sl Lay.int).sz x.vec) _ R10 (by omega)).mono ?_
   rintro e w3 ⟨rfl, hb⟩
   replace HB0 := HB0.trans (hb.mono HB0.size)
   replace bA := bA.keep hb
   clear hb R10
   by_cases hs2 : (Lay.sl Lay.tHit).sz x.hits ≤ l - (Lay.sl Lay.int).sz x.query - (Lay.sl Lay.int).sz x.vec
   ·
    rw [szR_ok hs2]
    have hq : decide (((l - (Lay.sl Lay.int).sz x.query - (Lay.sl Lay.int).sz x.vec - (Lay.sl Lay.tHit).sz x.hits : Nat) : Int) < 0) = false := by simp
    have HX := yh HB0
    have HA := yh bA
    clear HB0 bA
    go_wp2_with fail
    clear hq
    go_ret
    refine ⟨?_, uh HX⟩
    rw [uh HV, szR_ok (by omega), show l - ((Lay.sl Lay.int).sz x.query + (Lay.sl Lay.int).sz x.vec + (Lay.sl Lay.tHit).sz x.hits) = l - (Lay.sl Lay.int).sz x.query - (Lay.sl Lay.int).sz x.vec - (Lay.sl Lay.tHit).sz x.hits by omega]
    rfl
   rw [szR_many (by omega)]
   have HX := yh HB0
   clear HB0 bA
   go_wp2_with fail
   go_ret
   refine ⟨?_, uh HX⟩
   rw [uh HV, szR_many (by omega)]
   rfl
  rw [szR_many (by omega)]
  have HX := yh HB0
  clear HB0 bA
  go_wp2_with fail
  go_ret
  refine ⟨?_, uh HX⟩
  rw [uh HV, szR_many (by omega)]
  rfl
 rw [szR_many (by omega)]
 have HX := yh HB0
 clear HB0 bA
 go_wp2_with fail
 go_ret
 refine ⟨?_, uh HX⟩
 rw [uh HV, szR_many (by omega)]
 rfl
theorem sz_EntryS (v : Value) (xs : List DEntry) (l : Nat) (w : World) (h : (Lay.sl Lay.tEntry).Reads w [v] xs) (hl : l ≤ 1048576) :
  Calls Tryz.prog 59 #[v, .int .i64 l] w fun e w' => e = .returned (.int .i64 (szR l ((Lay.sl Lay.tEntry).sz xs))) ∧ Below w.heap.size w w' := by
 have hbig := h.big
 obtain ⟨ao, cap, rfl⟩ := open_sl h
 have HV : Hid ((Lay.sl Lay.tEntry).sz xs = xs.length + cntAll Lay.tEntry.sz xs) := rfl
 by_cases hn : xs.length ≤ l
 ·
  have e1 : (l : Int) - (xs.length : Int) = ((l - xs.length : Nat) : Int) := by omega
  have e2 : decide (((l - xs.length : Nat) : Int) < 0) = false := by simp
  by_cases hp : 0 < xs.length
  ·
   obtain ⟨b, off, rfl, hbl⟩ := Lay.sl_addr h hp
   have H := yh h
   clear h
   go_enter Tryz.func59, Tryz.ntmps59
   go_wp2_with fail
   go_loopw [1, 5] (fun lf i wr => ∃ k s : Nat, k ≤ xs.length ∧ i = .int .i64 k ∧ s = cntAll Lay.tEntry.sz (xs.take k) ∧ xs.length + s ≤ l ∧ lf = .int .i64 ((l - (xs.length + s) : Nat) : Int) ∧ Below w.heap.size w wr) (fun _ i _ => xs.length - (intOf i).toNat)
   case atStart => exact ⟨0, 0, Nat.zero_le _, rfl, rfl, by omega, by simp, Below.refl _ _⟩
   case round =>
    obtain ⟨k, s, hk, rfl, hs, hsl, rfl, hB⟩ := hrel
    have HS := yh hs
    clear hs e1 e2
    by_cases hlt : k < xs.length
    ·
     obtain ⟨row, hc, hr⟩ := Lay.row_at (uh H) hlt
     replace hr := hr.later hB
     have hr2 := hr
     obtain ⟨a4, d4, a9, d9, a10, d10, rfl, -, -, -⟩ := open_Entry hr2
     have c0 : wr.cell? ⟨b, off + k * 11, none⟩ = some (.int .i64 (xs[k]).kind) := (hB.cell (p := ⟨b, off + k * 11, none⟩) hbl).trans (hc 0 (by decide))
     have c1 : wr.cell? ⟨b, off + k * 11 + 1, none⟩ = some (.int .i64 (xs[k]).session) := (hB.cell (p := ⟨b, off + k * 11 + 1, none⟩) hbl).trans (hc 1 (by decide))
     have c2 : wr.cell? ⟨b, off + k * 11 + 2, none⟩ = some (.int .i64 (xs[k]).seq) := (hB.cell (p := ⟨b, off + k * 11 + 2, none⟩) hbl).trans (hc 2 (by decide))
     have c3 : wr.cell? ⟨b, off + k * 11 + 3, none⟩ = some (.int .i64 (xs[k]).id) := (hB.cell (p := ⟨b, off + k * 11 + 3, none⟩) hbl).trans (hc 3 (by decide))
     have c4 : wr.cell? ⟨b, off + k * 11 + 4, none⟩ = some (.slice a4 (xs[k]).query.length d4) := (hB.cell (p := ⟨b, off + k * 11 + 4, none⟩) hbl).trans (hc 4 (by decide))
     have c5 : wr.cell? ⟨b, off + k * 11 + 5, none⟩ = some (.int .i64 (xs[k]).k) := (hB.cell (p := ⟨b, off + k * 11 + 5, none⟩) hbl).trans (hc 5 (by decide))
     have c6 : wr.cell? ⟨b, off + k * 11 + 6, none⟩ = some (.int .i64 (xs[k]).start) := (hB.cell (p := ⟨b, off + k * 11 + 6, none⟩) hbl).trans (hc 6 (by decide))
     have c7 : wr.cell? ⟨b, off + k * 11 + 7, none⟩ = some (.int .i64 (xs[k]).fin) := (hB.cell (p := ⟨b, off + k * 11 + 7, none⟩) hbl).trans (hc 7 (by decide))
     have c8 : wr.cell? ⟨b, off + k * 11 + 8, none⟩ = some (.int .i64 (xs[k]).place) := (hB.cell (p := ⟨b, off + k * 11 + 8, none⟩) hbl).trans (hc 8 (by decide))
     have c9 : wr.cell? ⟨b, off + k * 11 + 9, none⟩ = some (.slice a9 (xs[k]).vec.length d9) := (hB.cell (p := ⟨b, off + k * 11 + 9, none⟩) hbl).trans (hc 9 (by decide))
     have c10 : wr.cell? ⟨b, off + k * 11 + 10, none⟩ = some (.slice a10 (xs[k]).hits.length d10) := (hB.cell (p := ⟨b, off + k * 11 + 10, none⟩) hbl).trans (hc 10 (by decide))
     have HB := yh hB
     have HR := yh hr
     have HT := yh (Lay.cntAll_take (f := Lay.tEntry.sz) hlt)
     have HL := yh (Lay.cntAll_take_le (f := Lay.tEntry.sz) (xs := xs) (k := k + 1))
     clear hB hr hc
     generalize hxk : xs[k] = x at *
     clear hxk
     go_wp2_with fail
     refine (sz_Entry _ x (l - (xs.length + s)) wr (uh HR) (by omega)).mono ?_
     rintro e w2 ⟨rfl, hb⟩
     replace HB := yh ((uh HB).trans (hb.mono (uh HB).size))
     clear hb HR c0 c1 c2 c3 c4 c5 c6 c7 c8 c9 c10
     have ht := uh HT
     rw [← uh HS] at ht
     have hle := uh HL
     rw [ht] at hle
     have HQ := yh ht
     by_cases hq : xs.length + s + Lay.tEntry.sz x ≤ l
     ·
      rw [szR_ok (by omega)]
      have e3 : l - (xs.length + s) - Lay.tEntry.sz x = l - (xs.length + (s + Lay.tEntry.sz x)) := by omega
      rw [e3]
      have e4 : decide (((l - (xs.length + (s + Lay.tEntry.sz x)) : Nat) : Int) < 0) = false := by simp
      clear ht hle e3
      generalize hz : s + Lay.tEntry.sz x = s2 at *
      have hs2 : xs.length + s2 ≤ l := by omega
      clear hz hq
      go_wp2_with fail
      go_roundw
      case rel => exact ⟨k + 1, s2, by omega, by go_num, (uh HQ).symm, hs2, rfl, uh HB⟩
      case measure => simp [intOf]; omega
     rw [szR_many (by omega)]
     have HN : Hid (l < xs.length + cntAll Lay.tEntry.sz xs) := by
      show l < xs.length + cntAll Lay.tEntry.sz xs
      omega
     clear ht hle
     go_wp2_with fail
     go_ret
     refine ⟨?_, uh HB⟩
     rw [uh HV, szR_many (uh HN)]
     rfl
    obtain rfl : k = xs.length := by omega
    have HE : Hid (s = cntAll Lay.tEntry.sz xs) := by
     have := uh HS
     rw [List.take_length] at this
     exact this
    have HB := yh hB
    clear hB HS
    go_wp2_with fail
    go_ret
    refine ⟨?_, uh HB⟩
    rw [uh HV, ← uh HE, szR_ok hsl]
    rfl
  obtain rfl : xs = [] := List.eq_nil_of_length_eq_zero (by omega)
  clear h hp
  rw [uh HV]
  simp only [List.length_nil, cntAll, Nat.add_zero, Nat.sub_zero] at *
  rw [szR_ok (Nat.zero_le _)]
  have e3 : decide ((l : Int) < 0) = false := by simp
  go_enter Tryz.func59, Tryz.ntmps59
  go_wp2_with fail
  refine wp_loop_rounds 1 ?_
  rw [rounds_succ]
  go_wp2_with fail
  go_ret
  exact ⟨by simp, Below.refl _ _⟩
 have HN : Hid (szR l ((Lay.sl Lay.tEntry).sz xs) = -1) := szR_many (by rw [uh HV]; omega)
 rw [uh HN]
 have e2 : decide ((l : Int) - (xs.length : Int) < 0) = true := by simp; omega
 clear h HV HN
 generalize xs.length = n at *
 go_enter Tryz.func59, Tryz.ntmps59
 go_wp2_with fail
 go_ret
 exact ⟨rfl, Below.refl _ _⟩
theorem szsum_World (x : DWorld) : Lay.tWorld.sz x = Lay.tChain.sz x.chain + (Lay.sl Lay.tNode).sz x.nodes + (Lay.sl Lay.tMsg).sz x.msgs + (Lay.sl Lay.tEntry).sz x.history := by
 show 0 + (0 + (Lay.tChain.sz x.chain + ((Lay.sl Lay.tNode).sz x.nodes + ((Lay.sl Lay.tMsg).sz x.msgs + ((Lay.sl Lay.tEntry).sz x.history))))) = Lay.tChain.sz x.chain + (Lay.sl Lay.tNode).sz x.nodes + (Lay.sl Lay.tMsg).sz x.msgs + (Lay.sl Lay.tEntry).sz x.history
 omega
theorem sz_World (cs : List Value) (x : DWorld) (l : Nat) (w : World) (h : Lay.tWorld.Reads w cs x) (hl : l ≤ 1048576) :
  Calls Tryz.prog 15 #[.agg cs.toArray, .int .i64 l] w fun e w' => e = .returned (.int .i64 (szR l (Lay.tWorld.sz x))) ∧ Below w.heap.size w w' := by
 obtain ⟨a3, d3, a4, d4, a5, d5, a6, d6, rfl, R2, R4, R5, R6⟩ := open_World h
 clear h
 have HB0 : Below w.heap.size w (w.alloc (.cells #[.int .i64 x.now, .int .i64 x.events, .int .i64 x.chain.epoch, .slice a3 x.chain.ids.length d3, .slice a4 x.nodes.length d4, .slice a5 x.msgs.length d5, .slice a6 x.history.length d6] 29)) := (Below.refl _ _).alloc (Nat.le_refl _) _
 have bA : Box w.heap.size #[.int .i64 x.now, .int .i64 x.events, .int .i64 x.chain.epoch, .slice a3 x.chain.ids.length d3, .slice a4 x.nodes.length d4, .slice a5 x.msgs.length d5, .slice a6 x.history.length d6] 29 (w.alloc (.cells #[.int .i64 x.now, .int .i64 x.events, .int .i64 x.chain.epoch, .slice a3 x.chain.ids.length d3, .slice a4 x.nodes.length d4, .slice a5 x.msgs.length d5, .slice a6 x.history.length d6] 29)) w.heap.size := newBox (Nat.le_refl _)
 have HV := yh (szsum_World x)
 go_enter Tryz.func15, Tryz.ntmps15
 go_wp2_with fail
 generalize w.alloc (.cells #[.int .i64 x.now, .int .i64 x.events, .int .i64 x.chain.epoch, .slice a3 x.chain.ids.length d3, .slice a4 x.nodes.length d4, .slice a5 x.msgs.length d5, .slice a6 x.history.length d6] 29) = W0 at *
 replace R2 := R2.later HB0
 replace R4 := R4.later HB0
 replace R5 := R5.later HB0
 replace R6 := R6.later HB0
 refine (sz_Chain _ x.chain (l) _ R2 (by omega)).mono ?_
 rintro e w1 ⟨rfl, hb⟩
 replace HB0 := HB0.trans (hb.mono HB0.size)
 replace bA := bA.keep hb
 replace R4 := R4.later hb
 replace R5 := R5.later hb
 replace R6 := R6.later hb
 clear hb R2
 by_cases hs0 : Lay.tChain.sz x.chain ≤ l
 ·
  rw [szR_ok hs0]
  have hq : decide (((l - Lay.tChain.sz x.chain : Nat) : Int) < 0) = false := by simp
  have p4 := bA.at 4 _ rfl
  have p5 := bA.at 5 _ rfl
  have p6 := bA.at 6 _ rfl
  have HX := yh HB0
  have HA := yh bA
  clear HB0 bA
  have P4 := yh R4
  clear R4
  have P5 := yh R5
  clear R5
  have P6 := yh R6
  clear R6
  go_wp2_with fail
  clear hq
  have HB0 := uh HX
  have bA := uh HA
  clear HX HA
  have R4 := uh P4
  clear P4
  have R5 := uh P5
  clear P5
  have R6 := uh P6
  clear P6
  clear p4
  clear p5
  clear p6
  refine (sz_NodeS _ x.nodes (l - Lay.tChain.sz x.chain) _ R4 (by omega)).mono ?_
  rintro e w2 ⟨rfl, hb⟩
  replace HB0 := HB0.trans (hb.mono HB0.size)
  replace bA := bA.keep hb
  replace R5 := R5.later hb
  replace R6 := R6.later hb
  clear hb R4
  by_cases hs1 : (Lay.sl Lay.tNode).sz x.nodes ≤ l - Lay.tChain.sz x.chain
  ·
   rw [szR_ok hs1]
   have hq : decide (((l - Lay.tChain.sz x.chain - (Lay.sl Lay.tNode).sz x.nodes : Nat) : Int) < 0) = false := by simp
   have p5 := bA.at 5 _ rfl
   have p6 := bA.at 6 _ rfl
   have HX := yh HB0
   have HA := yh bA
   clear HB0 bA
   have P5 := yh R5
   clear R5
   have P6 := yh R6
   clear R6
   go_wp2_with fail
   clear hq
   have HB0 := uh HX
   have bA := uh HA
   clear HX HA
   have R5 := uh P5
   clear P5
   have R6 := uh P6
   clear P6
   clear p5
   clear p6
   refine (sz_MsgS _ x.msgs (l - Lay.tChain.sz x.chain - (Lay.sl Lay.tNode).sz x.nodes) _ R5 (by omega)).mono ?_
   rintro e w3 ⟨rfl, hb⟩
   replace HB0 := HB0.trans (hb.mono HB0.size)
   replace bA := bA.keep hb
   replace R6 := R6.later hb
   clear hb R5
   by_cases hs2 : (Lay.sl Lay.tMsg).sz x.msgs ≤ l - Lay.tChain.sz x.chain - (Lay.sl Lay.tNode).sz x.nodes
   ·
    rw [szR_ok hs2]
    have hq : decide (((l - Lay.tChain.sz x.chain - (Lay.sl Lay.tNode).sz x.nodes - (Lay.sl Lay.tMsg).sz x.msgs : Nat) : Int) < 0) = false := by simp
    have p6 := bA.at 6 _ rfl
    have HX := yh HB0
    have HA := yh bA
    clear HB0 bA
    have P6 := yh R6
    clear R6
    go_wp2_with fail
    clear hq
    have HB0 := uh HX
    have bA := uh HA
    clear HX HA
    have R6 := uh P6
    clear P6
    clear p6
    refine (sz_EntryS _ x.history (l - Lay.tChain.sz x.chain - (Lay.sl Lay.tNode).sz x.nodes - (Lay.sl Lay.tMsg).sz x.msgs) _ R6 (by omega)).mono ?_
    rintro e w4 ⟨rfl, hb⟩
    replace HB0 := HB0.trans (hb.mono HB0.size)
    replace bA := bA.keep hb
    clear hb R6
    by_cases hs3 : (Lay.sl Lay.tEntry).sz x.history ≤ l - Lay.tChain.sz x.chain - (Lay.sl Lay.tNode).sz x.nodes - (Lay.sl Lay.tMsg).sz x.msgs
    ·
     rw [szR_ok hs3]
     have hq : decide (((l - Lay.tChain.sz x.chain - (Lay.sl Lay.tNode).sz x.nodes - (Lay.sl Lay.tMsg).sz x.msgs - (Lay.sl Lay.tEntry).sz x.history : Nat) : Int) < 0) = false := by simp
     have HX := yh HB0
     have HA := yh bA
     clear HB0 bA
     go_wp2_with fail
     clear hq
     go_ret
     refine ⟨?_, uh HX⟩
     rw [uh HV, szR_ok (by omega), show l - (Lay.tChain.sz x.chain + (Lay.sl Lay.tNode).sz x.nodes + (Lay.sl Lay.tMsg).sz x.msgs + (Lay.sl Lay.tEntry).sz x.history) = l - Lay.tChain.sz x.chain - (Lay.sl Lay.tNode).sz x.nodes - (Lay.sl Lay.tMsg).sz x.msgs - (Lay.sl Lay.tEntry).sz x.history by omega]
     rfl
    rw [szR_many (by omega)]
    have HX := yh HB0
    clear HB0 bA
    go_wp2_with fail
    go_ret
    refine ⟨?_, uh HX⟩
    rw [uh HV, szR_many (by omega)]
    rfl
   rw [szR_many (by omega)]
   have HX := yh HB0
   clear HB0 bA
   go_wp2_with fail
   go_ret
   refine ⟨?_, uh HX⟩
   rw [uh HV, szR_many (by omega)]
   rfl
  rw [szR_many (by omega)]
  have HX := yh HB0
  clear HB0 bA
  go_wp2_with fail
  go_ret
  refine ⟨?_, uh HX⟩
  rw [uh HV, szR_many (by omega)]
  rfl
 rw [szR_many (by omega)]
 have HX := yh HB0
 clear HB0 bA
 go_wp2_with fail
 go_ret
 refine ⟨?_, uh HX⟩
 rw [uh HV, szR_many (by omega)]
 rfl
theorem to_Chain (cs : List Value) (x : DChain) (w : World) (h : Lay.tChain.Reads w cs x) (hn : Lay.tChain.sz x ≤ 1048576) :
  Calls Tryz.prog 66 #[.agg cs.toArray] w fun e w' => ∃ cs', e = .returned (.agg cs'.toArray) ∧ Lay.tChain.OwnIn w' cs' x w.heap.size w'.heap.size ∧ Below w.heap.size w w' := by
 have h0 := h
 obtain ⟨bl, hl⟩ := h0
 obtain ⟨-, -, -, -, -, f0, -⟩ := lies_Chain.1 hl
 clear hl
 obtain ⟨a1, d1, rfl, R1⟩ := open_Chain h
 clear h
 rw [szsum_Chain] at hn
 have HF := yh f0
 clear f0
 have HB0 : Below w.heap.size w (((w.alloc (.cells #[.int .i64 x.epoch, .slice a1 x.ids.length d1] 24)).alloc (.cells #[.int .i64 0, .slice none 0 0] 31)).alloc (.cells #[.int .i64 x.epoch, .slice none 0 0] 31)) := (((Below.refl _ _).alloc (Nat.le_refl _) _).alloc (by simp) _).alloc (by simp; omega) _
 have bA : Box w.heap.size #[.int .i64 x.epoch, .slice a1 x.ids.length d1] 24 (((w.alloc (.cells #[.int .i64 x.epoch, .slice a1 x.ids.length d1] 24)).alloc (.cells #[.int .i64 0, .slice none 0 0] 31)).alloc (.cells #[.int .i64 x.epoch, .slice none 0 0] 31)) w.heap.size := ((newBox (Nat.le_refl _)).grow _).grow _
 have bR : Box w.heap.size #[.int .i64 0, .slice none 0 0] 31 (((w.alloc (.cells #[.int .i64 x.epoch, .slice a1 x.ids.length d1] 24)).alloc (.cells #[.int .i64 0, .slice none 0 0] 31)).alloc (.cells #[.int .i64 x.epoch, .slice none 0 0] 31)) (w.heap.size + 1) := (newBoxAt (by omega) (by simp)).grow _
 have bX : Box w.heap.size #[.int .i64 x.epoch, .slice none 0 0] 31 (((w.alloc (.cells #[.int .i64 x.epoch, .slice a1 x.ids.length d1] 24)).alloc (.cells #[.int .i64 0, .slice none 0 0] 31)).alloc (.cells #[.int .i64 x.epoch, .slice none 0 0] 31)) (w.heap.size + 2) := newBoxAt (by omega) (by simp)
 have hz0 : w.heap.size + 3 ≤ (((w.alloc (.cells #[.int .i64 x.epoch, .slice a1 x.ids.length d1] 24)).alloc (.cells #[.int .i64 0, .slice none 0 0] 31)).alloc (.cells #[.int .i64 x.epoch, .slice none 0 0] 31)).heap.size := by simp
 go_enter Tryz.func66, Tryz.ntmps66
 go_wp2_with fail
 generalize ((w.alloc (.cells #[.int .i64 x.epoch, .slice a1 x.ids.length d1] 24)).alloc (.cells #[.int .i64 0, .slice none 0 0] 31)).alloc (.cells #[.int .i64 x.epoch, .slice none 0 0] 31) = W0 at *
 replace R1 := R1.later HB0
 refine (to_Int64S _ x.ids W0 R1 (by omega)).mono ?_
 rintro e w1 ⟨v1, rfl, O1, hb⟩
 have Z0 : W0.heap.size ≤ w1.heap.size := hb.size
 replace HB0 := HB0.trans (hb.mono HB0.size)
 replace bA := bA.keep hb
 replace bR := bR.keep hb
 replace bX := bX.keep hb
 clear hb R1
 obtain ⟨a1z, d1z, rfl⟩ := open_sl O1.reads
 have q0 := bX.at 0 _ rfl
 have q1 := bX.at 1 _ rfl
 have qf := bX.soft
 have ql := bX.lt
 have pl := bA.lt
 have r0 := bR.at 0 _ rfl
 have r1 := bR.at 1 _ rfl
 have rf := bR.soft
 have rl := bR.lt
 simp only [ga, gb, gc] at q0 q1 r0 r1
 have hA := yh bA
 have hR := yh bR
 have hX := yh bX
 have hB := yh HB0
 clear bA bR bX HB0
 have hO1 := yh O1
 clear O1
 go_wp2_with fail
 refine bodyPost_ret (v := .agg #[.int .i64 x.epoch, .slice a1z x.ids.length d1z]) (by simp [results, Tryz.results66, go_sem, r0, r1]) rfl ?_
 have E : Ext (fun q => q = w.heap.size + 2 ∨ q = w.heap.size + 1) w1 _ := ext_setL (ext_setL (Ext.refl _ _) (w.heap.size + 2) [(1, .slice a1z x.ids.length d1z)] (Or.inl rfl)) (w.heap.size + 1) [(0, .int .i64 x.epoch), (1, .slice a1z x.ids.length d1z)] (Or.inr rfl)
 obtain f0 := uh HF
 have own : Lay.tChain.OwnIn _ [.int .i64 x.epoch, .slice a1z x.ids.length d1z] x w.heap.size w1.heap.size := (Lay.ownIn_pair (Lay.ownIn_int (lo := w.heap.size) (hi := w.heap.size) f0) ((uh hO1).ext E (fun k h1 h2 h3 => by omega)) (by omega) (by omega) (by omega))
 have hsz := E.size
 have told := Lay.toldOwn (w := w) own (by omega) (by omega) ((uh hB).trans (E.below (uh hB).size (fun k h1 h2 => by omega)))
 exact told
theorem to_Write (cs : List Value) (x : DWrite) (w : World) (h : Lay.tWrite.Reads w cs x) (hn : Lay.tWrite.sz x ≤ 1048576) :
  Calls Tryz.prog 213 #[.agg cs.toArray] w fun e w' => ∃ cs', e = .returned (.agg cs'.toArray) ∧ Lay.tWrite.OwnIn w' cs' x w.heap.size w'.heap.size ∧ Below w.heap.size w w' := by
 have h0 := h
 obtain ⟨bl, hl⟩ := h0
 obtain ⟨-, -, -, -, -, f0, f1, -, f3, f4⟩ := lies_Write.1 hl
 clear hl
 obtain ⟨a2, d2, rfl, R2⟩ := open_Write h
 clear h
 rw [szsum_Write] at hn
 have HF := yh (And.intro f0 (And.intro f1 (And.intro f3 (f4))))
 clear f0 f1 f3 f4
 have HB0 : Below w.heap.size w (((w.alloc (.cells #[.int .i64 x.kind, .int .i64 x.id, .slice a2 x.vec.length d2, .int .i64 x.session, .int .i64 x.seq] 150)).alloc (.cells #[.int .i64 0, .int .i64 0, .slice none 0 0, .int .i64 0, .int .i64 0] 87)).alloc (.cells #[.int .i64 x.kind, .int .i64 x.id, .slice none 0 0, .int .i64 0, .int .i64 0] 87)) := (((Below.refl _ _).alloc (Nat.le_refl _) _).alloc (by simp) _).alloc (by simp; omega) _
 have bA : Box w.heap.size #[.int .i64 x.kind, .int .i64 x.id, .slice a2 x.vec.length d2, .int .i64 x.session, .int .i64 x.seq] 150 (((w.alloc (.cells #[.int .i64 x.kind, .int .i64 x.id, .slice a2 x.vec.length d2, .int .i64 x.session, .int .i64 x.seq] 150)).alloc (.cells #[.int .i64 0, .int .i64 0, .slice none 0 0, .int .i64 0, .int .i64 0] 87)).alloc (.cells #[.int .i64 x.kind, .int .i64 x.id, .slice none 0 0, .int .i64 0, .int .i64 0] 87)) w.heap.size := ((newBox (Nat.le_refl _)).grow _).grow _
 have bR : Box w.heap.size #[.int .i64 0, .int .i64 0, .slice none 0 0, .int .i64 0, .int .i64 0] 87 (((w.alloc (.cells #[.int .i64 x.kind, .int .i64 x.id, .slice a2 x.vec.length d2, .int .i64 x.session, .int .i64 x.seq] 150)).alloc (.cells #[.int .i64 0, .int .i64 0, .slice none 0 0, .int .i64 0, .int .i64 0] 87)).alloc (.cells #[.int .i64 x.kind, .int .i64 x.id, .slice none 0 0, .int .i64 0, .int .i64 0] 87)) (w.heap.size + 1) := (newBoxAt (by omega) (by simp)).grow _
 have bX : Box w.heap.size #[.int .i64 x.kind, .int .i64 x.id, .slice none 0 0, .int .i64 0, .int .i64 0] 87 (((w.alloc (.cells #[.int .i64 x.kind, .int .i64 x.id, .slice a2 x.vec.length d2, .int .i64 x.session, .int .i64 x.seq] 150)).alloc (.cells #[.int .i64 0, .int .i64 0, .slice none 0 0, .int .i64 0, .int .i64 0] 87)).alloc (.cells #[.int .i64 x.kind, .int .i64 x.id, .slice none 0 0, .int .i64 0, .int .i64 0] 87)) (w.heap.size + 2) := newBoxAt (by omega) (by simp)
 have hz0 : w.heap.size + 3 ≤ (((w.alloc (.cells #[.int .i64 x.kind, .int .i64 x.id, .slice a2 x.vec.length d2, .int .i64 x.session, .int .i64 x.seq] 150)).alloc (.cells #[.int .i64 0, .int .i64 0, .slice none 0 0, .int .i64 0, .int .i64 0] 87)).alloc (.cells #[.int .i64 x.kind, .int .i64 x.id, .slice none 0 0, .int .i64 0, .int .i64 0] 87)).heap.size := by simp
 go_enter Tryz.func213, Tryz.ntmps213
 go_wp2_with fail
 generalize ((w.alloc (.cells #[.int .i64 x.kind, .int .i64 x.id, .slice a2 x.vec.length d2, .int .i64 x.session, .int .i64 x.seq] 150)).alloc (.cells #[.int .i64 0, .int .i64 0, .slice none 0 0, .int .i64 0, .int .i64 0] 87)).alloc (.cells #[.int .i64 x.kind, .int .i64 x.id, .slice none 0 0, .int .i64 0, .int .i64 0] 87) = W0 at *
 replace R2 := R2.later HB0
 refine (to_Int64S _ x.vec W0 R2 (by omega)).mono ?_
 rintro e w1 ⟨v2, rfl, O2, hb⟩
 have Z0 : W0.heap.size ≤ w1.heap.size := hb.size
 replace HB0 := HB0.trans (hb.mono HB0.size)
 replace bA := bA.keep hb
 replace bR := bR.keep hb
 replace bX := bX.keep hb
 clear hb R2
 obtain ⟨a2z, d2z, rfl⟩ := open_sl O2.reads
 have p3 := bA.at 3 _ rfl
 have p4 := bA.at 4 _ rfl
 have q0 := bX.at 0 _ rfl
 have q1 := bX.at 1 _ rfl
 have q2 := bX.at 2 _ rfl
 have q3 := bX.at 3 _ rfl
 have q4 := bX.at 4 _ rfl
 have qf := bX.soft
 have ql := bX.lt
 have pl := bA.lt
 have r0 := bR.at 0 _ rfl
 have r1 := bR.at 1 _ rfl
 have r2 := bR.at 2 _ rfl
 have r3 := bR.at 3 _ rfl
 have r4 := bR.at 4 _ rfl
 have rf := bR.soft
 have rl := bR.lt
 simp only [ga, gb, gc] at p3 p4 q0 q1 q2 q3 q4 r0 r1 r2 r3 r4
 have hA := yh bA
 have hR := yh bR
 have hX := yh bX
 have hB := yh HB0
 clear bA bR bX HB0
 have hO2 := yh O2
 clear O2
 go_wp2_with fail
 refine bodyPost_ret (v := .agg #[.int .i64 x.kind, .int .i64 x.id, .slice a2z x.vec.length d2z, .int .i64 x.session, .int .i64 x.seq]) (by simp [results, Tryz.results213, go_sem, r0, r1, r2, r3, r4]) rfl ?_
 have E : Ext (fun q => q = w.heap.size + 2 ∨ q = w.heap.size + 1) w1 _ := ext_setL (ext_setL (Ext.refl _ _) (w.heap.size + 2) [(2, .slice a2z x.vec.length d2z), (3, .int .i64 x.session), (4, .int .i64 x.seq)] (Or.inl rfl)) (w.heap.size + 1) [(0, .int .i64 x.kind), (1, .int .i64 x.id), (2, .slice a2z x.vec.length d2z), (3, .int .i64 x.session), (4, .int .i64 x.seq)] (Or.inr rfl)
 obtain ⟨f0, f1, f3, f4⟩ := uh HF
 have own : Lay.tWrite.OwnIn _ [.int .i64 x.kind, .int .i64 x.id, .slice a2z x.vec.length d2z, .int .i64 x.session, .int .i64 x.seq] x w.heap.size w1.heap.size := (Lay.ownIn_pair (Lay.ownIn_int (lo := w.heap.size) (hi := w.heap.size) f0) (Lay.ownIn_pair (Lay.ownIn_int (lo := w.heap.size) (hi := w.heap.size) f1) (Lay.ownIn_pair ((uh hO2).ext E (fun k h1 h2 h3 => by omega)) (Lay.ownIn_pair (Lay.ownIn_int (lo := w1.heap.size) (hi := w1.heap.size) f3) (Lay.ownIn_int (lo := w1.heap.size) (hi := w1.heap.size) f4) (by omega) (by omega) (by omega)) (by omega) (by omega) (by omega)) (by omega) (by omega) (by omega)) (by omega) (by omega) (by omega))
 have hsz := E.size
 have told := Lay.toldOwn (w := w) own (by omega) (by omega) ((uh hB).trans (E.below (uh hB).size (fun k h1 h2 => by omega)))
 exact told
theorem infoWrite : (Tryz.prog.info? 87).map (fun i => (i.zero, i.size, decide (i.bytes ≤ 1000))) = some (some (.agg #[.int .i64 0, .int .i64 0, .slice none 0 0, .int .i64 0, .int .i64 0]), 5, true) := by kernel_rfl
theorem to_WriteS (v : Value) (xs : List DWrite) (w : World) (h : (Lay.sl Lay.tWrite).Reads w [v] xs) (hn : (Lay.sl Lay.tWrite).sz xs ≤ 1048576) :
  Calls Tryz.prog 212 #[v] w fun e w' => ∃ v', e = .returned v' ∧ (Lay.sl Lay.tWrite).OwnIn w' [v'] xs w.heap.size w'.heap.size ∧ Below w.heap.size w w' := by
 have hbig := h.big
 obtain ⟨ao, cap, rfl⟩ := open_sl h
 have hlen : xs.length ≤ 1048576 := Nat.le_trans Lay.sz_len hn
 obtain ⟨i0, hi, hz0, hz1, hz2⟩ : ∃ i, Tryz.prog.info? 87 = some i ∧ i.zero = some (.agg #[.int .i64 0, .int .i64 0, .slice none 0 0, .int .i64 0, .int .i64 0]) ∧ i.size = 5 ∧ i.bytes ≤ 1000 := by
  have := infoWrite
  cases hq : Tryz.prog.info? 87 with
  | none => rw [hq] at this; simp at this
  | some i =>
   rw [hq] at this
   simp only [Option.map_some, Option.some.injEq, Prod.mk.injEq, decide_eq_true_eq] at this
   exact ⟨i, rfl, this.1, this.2.1, this.2.2⟩
 have H := yh h
 have HN := yh hn
 clear h hn
 go_enter Tryz.func212, Tryz.ntmps212
 go_wp2_with (at_make; refine wpList_make_full _ rfl _ _ 82 rfl w.heap.size 87 i0 _ 5 Tryz.underlying82 hi hz0 hz1 _ _ _ _ xs.length rfl rfl rfl rfl ?c1 ?c2 ?c3 ?_)
 case c1 => have := Nat.mul_le_mul hz2 hlen; omega
 case c2 => unfold maxLen; omega
 case c3 => exact Nat.le_refl _
 intro w1 hown1 hgrow1
 have hB1 : Below w.heap.size w w1 := (Below.refl _ _).grown hgrow1 (Nat.le_refl _) (by simp)
 clear hgrow1 hi hz0 hz1 hz2
 have HO1 := yh hown1
 have HB1 := yh hB1
 clear hown1 hB1
 go_wp2_with fail
 go_loopw [4] (fun i wr => ∃ (k : Nat) (rows : List (List Value)) (Q : List Value) (hi : Nat), k ≤ xs.length ∧ i = .int .i64 k ∧ wr.ownsRow w.heap.size 87 5 (.slice (some ⟨w.heap.size, 0, none⟩) xs.length xs.length) xs.length (rows.flatten ++ Q) ∧ Q.length = (xs.length - k) * 5 ∧ Lay.Subs Lay.tWrite wr rows (xs.take k) (w.heap.size + 1) hi ∧ hi ≤ wr.heap.size ∧ w.heap.size < hi ∧ Below w.heap.size w wr) (fun i _ => xs.length - (intOf i).toNat)
 case atStart =>
  have hl := ((uh HO1).lt w.heap.size rfl).2
  exact ⟨0, [], _, w1.heap.size, Nat.zero_le _, rfl, by simpa using uh HO1, by have := (uh HO1).1; simpa using this, Lay.subs_nil, Nat.le_refl _, hl, uh HB1⟩
 case round =>
  obtain ⟨k, rows, Q, hi, hk, rfl, hown, hQ, hsub, hhi, hlo, hB⟩ := hrel
  clear HO1 HB1
  by_cases hlt : k < xs.length
  ·
   obtain ⟨b, off, rfl, hbl⟩ := Lay.sl_addr (uh H) (by omega)
   obtain ⟨row, hc, hr⟩ := Lay.row_at (uh H) hlt
   replace hr := hr.later hB
   have hr2 := hr
   obtain ⟨a2, d2, rfl, -⟩ := open_Write hr2
   have c0 : wr.cell? ⟨b, off + k * 5, none⟩ = some (.int .i64 (xs[k]).kind) := (hB.cell (p := ⟨b, off + k * 5, none⟩) hbl).trans (hc 0 (by decide))
   have c1 : wr.cell? ⟨b, off + k * 5 + 1, none⟩ = some (.int .i64 (xs[k]).id) := (hB.cell (p := ⟨b, off + k * 5 + 1, none⟩) hbl).trans (hc 1 (by decide))
   have c2 : wr.cell? ⟨b, off + k * 5 + 2, none⟩ = some (.slice a2 (xs[k]).vec.length d2) := (hB.cell (p := ⟨b, off + k * 5 + 2, none⟩) hbl).trans (hc 2 (by decide))
   have c3 : wr.cell? ⟨b, off + k * 5 + 3, none⟩ = some (.int .i64 (xs[k]).session) := (hB.cell (p := ⟨b, off + k * 5 + 3, none⟩) hbl).trans (hc 3 (by decide))
   have c4 : wr.cell? ⟨b, off + k * 5 + 4, none⟩ = some (.int .i64 (xs[k]).seq) := (hB.cell (p := ⟨b, off + k * 5 + 4, none⟩) hbl).trans (hc 4 (by decide))
   have hrl : rows.flatten.length = k * 5 := by have := (Lay.subs_len hsub).1; rw [List.length_take, Nat.min_eq_left hk] at this; exact this
   have hsz := Nat.le_trans (Lay.sz_elem (A := Lay.tWrite) hlt) (uh HN)
   have HT : Hid (xs.take (k + 1) = xs.take k ++ [xs[k]]) := List.take_succ_eq_append_getElem hlt
   have HB := yh hB
   have HR := yh hr
   have HO := yh hown
   have HS := yh hsub
   have HQ := yh hQ
   clear hB hr hc hown hsub hQ
   generalize hxk : xs[k] = x at *
   clear hxk
   go_wp2_with fail
   refine (to_Write _ x wr (uh HR) hsz).mono ?_
   rintro e w2 ⟨cs2, rfl, O, hb⟩
   have o2 := own_below (uh HO) hb
   replace HS := yh (Lay.subs_snoc (Lay.subs_ext (uh HS) (ext_of_below hb nowhere) (fun _ _ _ h => h)) O (by omega) (by omega) (Nat.le_trans hhi hb.size))
   have hb2 := (uh HB).trans (hb.mono (uh HB).size)
   have hz := hb.size
   have orr := O.reads
   obtain ⟨a2z, d2z, rfl, -⟩ := open_Write orr
   clear hb HR HB HO O c0 c1 c2 c3 c4
   have hQ := uh HQ
   have hl5 : (rows.flatten ++ Q).length = xs.length * 5 := o2.1
   obtain ⟨u0, g0⟩ : ∃ u, w2.cell? ⟨w.heap.size, k * 5, none⟩ = some u := by
    rw [o2.cellAt (k * 5) (by omega)]
    exact ⟨_, List.getElem?_eq_getElem (by omega)⟩
   have t0 := o2.frozenAt (k * 5)
   obtain ⟨u1, g1⟩ : ∃ u, w2.cell? ⟨w.heap.size, k * 5 + 1, none⟩ = some u := by
    rw [o2.cellAt (k * 5 + 1) (by omega)]
    exact ⟨_, List.getElem?_eq_getElem (by omega)⟩
   have t1 := o2.frozenAt (k * 5 + 1)
   obtain ⟨u2, g2⟩ : ∃ u, w2.cell? ⟨w.heap.size, k * 5 + 2, none⟩ = some u := by
    rw [o2.cellAt (k * 5 + 2) (by omega)]
    exact ⟨_, List.getElem?_eq_getElem (by omega)⟩
   have t2 := o2.frozenAt (k * 5 + 2)
   obtain ⟨u3, g3⟩ : ∃ u, w2.cell? ⟨w.heap.size, k * 5 + 3, none⟩ = some u := by
    rw [o2.cellAt (k * 5 + 3) (by omega)]
    exact ⟨_, List.getElem?_eq_getElem (by omega)⟩
   have t3 := o2.frozenAt (k * 5 + 3)
   obtain ⟨u4, g4⟩ : ∃ u, w2.cell? ⟨w.heap.size, k * 5 + 4, none⟩ = some u := by
    rw [o2.cellAt (k * 5 + 4) (by omega)]
    exact ⟨_, List.getElem?_eq_getElem (by omega)⟩
   have t4 := o2.frozenAt (k * 5 + 4)
   have o3 := own_setAll o2 (k * 5) [.int .i64 x.kind, .int .i64 x.id, .slice a2z x.vec.length d2z, .int .i64 x.session, .int .i64 x.seq]
   rw [show k * 5 = rows.flatten.length from hrl.symm, setFrom_app _ _ _ (by rw [hQ]; simp; have : 1 * 5 ≤ (xs.length - k) * 5 := Nat.mul_le_mul_right _ (by omega); omega), hrl] at o3
   have E : Ext (fun q => q = w.heap.size) w2 (setAll w2 w.heap.size (k * 5) [.int .i64 x.kind, .int .i64 x.id, .slice a2z x.vec.length d2z, .int .i64 x.session, .int .i64 x.seq]) := ext_setAll _ (Ext.refl _ _) _ _ _ rfl
   replace HS := yh (Lay.subs_ext (uh HS) E (fun q h1 h2 h3 => by omega))
   have HB := yh (below_setAll hb2 w.heap.size (k * 5) [.int .i64 x.kind, .int .i64 x.id, .slice a2z x.vec.length d2z, .int .i64 x.session, .int .i64 x.seq] (Nat.le_refl _))
   have HZ : Hid ((setAll w2 w.heap.size (k * 5) [.int .i64 x.kind, .int .i64 x.id, .slice a2z x.vec.length d2z, .int .i64 x.session, .int .i64 x.seq]).heap.size = w2.heap.size) := size_setAll _ _ _ _
   have HO : Hid ((setAll w2 w.heap.size (k * 5) [.int .i64 x.kind, .int .i64 x.id, .slice a2z x.vec.length d2z, .int .i64 x.session, .int .i64 x.seq]).ownsRow w.heap.size 87 5 (.slice (some ⟨w.heap.size, 0, none⟩) xs.length xs.length) xs.length ((rows ++ [([.int .i64 x.kind, .int .i64 x.id, .slice a2z x.vec.length d2z, .int .i64 x.session, .int .i64 x.seq] : List Value)]).flatten ++ Q.drop 5)) := by
    show (setAll w2 w.heap.size (k * 5) [.int .i64 x.kind, .int .i64 x.id, .slice a2z x.vec.length d2z, .int .i64 x.session, .int .i64 x.seq]).ownsRow w.heap.size 87 5 (.slice (some ⟨w.heap.size, 0, none⟩) xs.length xs.length) xs.length ((rows ++ [([.int .i64 x.kind, .int .i64 x.id, .slice a2z x.vec.length d2z, .int .i64 x.session, .int .i64 x.seq] : List Value)]).flatten ++ Q.drop 5)
    rw [List.flatten_append]
    simpa using o3
   have hl2 := (o2.lt w.heap.size rfl).2
   clear o3 o2 E hb2 hl5
   have hQ2 : Hid ((Q.drop 5).length = (xs.length - (k + 1)) * 5) := by
    show (Q.drop 5).length = (xs.length - (k + 1)) * 5
    rw [List.length_drop, hQ, show xs.length - k = xs.length - (k + 1) + 1 by omega, Nat.add_mul]
    omega
   clear hQ HQ
   go_wp2_with fail
   go_roundw
   case rel => exact ⟨k + 1, rows ++ [([.int .i64 x.kind, .int .i64 x.id, .slice a2z x.vec.length d2z, .int .i64 x.session, .int .i64 x.seq] : List Value)], Q.drop 5, w2.heap.size, by omega, by go_num, uh HO, uh hQ2, (by rw [uh HT]; exact uh HS), Nat.le_of_eq (uh HZ).symm, by omega, uh HB⟩
   case measure => simp [intOf]; omega
  obtain rfl : k = xs.length := by omega
  have e0 : Q = [] := List.eq_nil_of_length_eq_zero (by rw [hQ]; simp)
  subst e0
  rw [List.append_nil] at hown
  rw [List.take_length] at hsub
  have HO := yh (Lay.subs_done (A := Lay.tWrite) hown hsub (by omega) hhi hbig)
  have HB := yh hB
  clear hown hsub hB
  go_wp2_with fail
  go_ret
  exact ⟨_, rfl, uh HO, uh HB⟩
theorem to_Node (cs : List Value) (x : DNode) (w : World) (h : Lay.tNode.Reads w cs x) (hn : Lay.tNode.sz x ≤ 1048576) :
  Calls Tryz.prog 133 #[.agg cs.toArray] w fun e w' => ∃ cs', e = .returned (.agg cs'.toArray) ∧ Lay.tNode.OwnIn w' cs' x w.heap.size w'.heap.size ∧ Below w.heap.size w w' := by
 have h0 := h
 obtain ⟨bl, hl⟩ := h0
 obtain ⟨-, -, -, -, -, f0, f2, f3, -, f5, f6⟩ := lies_Node.1 hl
 clear hl
 obtain ⟨a4, d4, rfl, R4⟩ := open_Node h
 clear h
 rw [szsum_Node] at hn
 have HF := yh (And.intro f0 (And.intro f2 (And.intro f3 (And.intro f5 (f6)))))
 clear f0 f2 f3 f5 f6
 have HB0 : Below w.heap.size w (((w.alloc (.cells #[.int .i64 x.id, .bool x.up, .int .i64 x.epoch, .int .i64 x.lease, .slice a4 x.writes.length d4, .int .i64 x.sure, .int .i64 x.clean] 148)).alloc (.cells #[.int .i64 0, .bool false, .int .i64 0, .int .i64 0, .slice none 0 0, .int .i64 0, .int .i64 0] 84)).alloc (.cells #[.int .i64 x.id, .bool x.up, .int .i64 x.epoch, .int .i64 x.lease, .slice none 0 0, .int .i64 0, .int .i64 0] 84)) := (((Below.refl _ _).alloc (Nat.le_refl _) _).alloc (by simp) _).alloc (by simp; omega) _
 have bA : Box w.heap.size #[.int .i64 x.id, .bool x.up, .int .i64 x.epoch, .int .i64 x.lease, .slice a4 x.writes.length d4, .int .i64 x.sure, .int .i64 x.clean] 148 (((w.alloc (.cells #[.int .i64 x.id, .bool x.up, .int .i64 x.epoch, .int .i64 x.lease, .slice a4 x.writes.length d4, .int .i64 x.sure, .int .i64 x.clean] 148)).alloc (.cells #[.int .i64 0, .bool false, .int .i64 0, .int .i64 0, .slice none 0 0, .int .i64 0, .int .i64 0] 84)).alloc (.cells #[.int .i64 x.id, .bool x.up, .int .i64 x.epoch, .int .i64 x.lease, .slice none 0 0, .int .i64 0, .int .i64 0] 84)) w.heap.size := ((newBox (Nat.le_refl _)).grow _).grow _
 have bR : Box w.heap.size #[.int .i64 0, .bool false, .int .i64 0, .int .i64 0, .slice none 0 0, .int .i64 0, .int .i64 0] 84 (((w.alloc (.cells #[.int .i64 x.id, .bool x.up, .int .i64 x.epoch, .int .i64 x.lease, .slice a4 x.writes.length d4, .int .i64 x.sure, .int .i64 x.clean] 148)).alloc (.cells #[.int .i64 0, .bool false, .int .i64 0, .int .i64 0, .slice none 0 0, .int .i64 0, .int .i64 0] 84)).alloc (.cells #[.int .i64 x.id, .bool x.up, .int .i64 x.epoch, .int .i64 x.lease, .slice none 0 0, .int .i64 0, .int .i64 0] 84)) (w.heap.size + 1) := (newBoxAt (by omega) (by simp)).grow _
 have bX : Box w.heap.size #[.int .i64 x.id, .bool x.up, .int .i64 x.epoch, .int .i64 x.lease, .slice none 0 0, .int .i64 0, .int .i64 0] 84 (((w.alloc (.cells #[.int .i64 x.id, .bool x.up, .int .i64 x.epoch, .int .i64 x.lease, .slice a4 x.writes.length d4, .int .i64 x.sure, .int .i64 x.clean] 148)).alloc (.cells #[.int .i64 0, .bool false, .int .i64 0, .int .i64 0, .slice none 0 0, .int .i64 0, .int .i64 0] 84)).alloc (.cells #[.int .i64 x.id, .bool x.up, .int .i64 x.epoch, .int .i64 x.lease, .slice none 0 0, .int .i64 0, .int .i64 0] 84)) (w.heap.size + 2) := newBoxAt (by omega) (by simp)
 have hz0 : w.heap.size + 3 ≤ (((w.alloc (.cells #[.int .i64 x.id, .bool x.up, .int .i64 x.epoch, .int .i64 x.lease, .slice a4 x.writes.length d4, .int .i64 x.sure, .int .i64 x.clean] 148)).alloc (.cells #[.int .i64 0, .bool false, .int .i64 0, .int .i64 0, .slice none 0 0, .int .i64 0, .int .i64 0] 84)).alloc (.cells #[.int .i64 x.id, .bool x.up, .int .i64 x.epoch, .int .i64 x.lease, .slice none 0 0, .int .i64 0, .int .i64 0] 84)).heap.size := by simp
 go_enter Tryz.func133, Tryz.ntmps133
 go_wp2_with fail
 generalize ((w.alloc (.cells #[.int .i64 x.id, .bool x.up, .int .i64 x.epoch, .int .i64 x.lease, .slice a4 x.writes.length d4, .int .i64 x.sure, .int .i64 x.clean] 148)).alloc (.cells #[.int .i64 0, .bool false, .int .i64 0, .int .i64 0, .slice none 0 0, .int .i64 0, .int .i64 0] 84)).alloc (.cells #[.int .i64 x.id, .bool x.up, .int .i64 x.epoch, .int .i64 x.lease, .slice none 0 0, .int .i64 0, .int .i64 0] 84) = W0 at *
 replace R4 := R4.later HB0
 refine (to_WriteS _ x.writes W0 R4 (by omega)).mono ?_
 rintro e w1 ⟨v4, rfl, O4, hb⟩
 have Z0 : W0.heap.size ≤ w1.heap.size := hb.size
 replace HB0 := HB0.trans (hb.mono HB0.size)
 replace bA := bA.keep hb
 replace bR := bR.keep hb
 replace bX := bX.keep hb
 clear hb R4
 obtain ⟨a4z, d4z, rfl⟩ := open_sl O4.reads
 have p5 := bA.at 5 _ rfl
 have p6 := bA.at 6 _ rfl
 have q0 := bX.at 0 _ rfl
 have q1 := bX.at 1 _ rfl
 have q2 := bX.at 2 _ rfl
 have q3 := bX.at 3 _ rfl
 have q4 := bX.at 4 _ rfl
 have q5 := bX.at 5 _ rfl
 have q6 := bX.at 6 _ rfl
 have qf := bX.soft
 have ql := bX.lt
 have pl := bA.lt
 have r0 := bR.at 0 _ rfl
 have r1 := bR.at 1 _ rfl
 have r2 := bR.at 2 _ rfl
 have r3 := bR.at 3 _ rfl
 have r4 := bR.at 4 _ rfl
 have r5 := bR.at 5 _ rfl
 have r6 := bR.at 6 _ rfl
 have rf := bR.soft
 have rl := bR.lt
 simp only [ga, gb, gc] at p5 p6 q0 q1 q2 q3 q4 q5 q6 r0 r1 r2 r3 r4 r5 r6
 have hA := yh bA
 have hR := yh bR
 have hX := yh bX
 have hB := yh HB0
 clear bA bR bX HB0
 have hO4 := yh O4
 clear O4
 go_wp2_with fail
 refine bodyPost_ret (v := .agg #[.int .i64 x.id, .bool x.up, .int .i64 x.epoch, .int .i64 x.lease, .slice a4z x.writes.length d4z, .int .i64 x.sure, .int .i64 x.clean]) (by simp [results, Tryz.results133, go_sem, r0, r1, r2, r3, r4, r5, r6]) rfl ?_
 have E : Ext (fun q => q = w.heap.size + 2 ∨ q = w.heap.size + 1) w1 _ := ext_setL (ext_setL (Ext.refl _ _) (w.heap.size + 2) [(4, .slice a4z x.writes.length d4z), (5, .int .i64 x.sure), (6, .int .i64 x.clean)] (Or.inl rfl)) (w.heap.size + 1) [(0, .int .i64 x.id), (1, .bool x.up), (2, .int .i64 x.epoch), (3, .int .i64 x.lease), (4, .slice a4z x.writes.length d4z), (5, .int .i64 x.sure), (6, .int .i64 x.clean)] (Or.inr rfl)
 obtain ⟨f0, f2, f3, f5, f6⟩ := uh HF
 have own : Lay.tNode.OwnIn _ [.int .i64 x.id, .bool x.up, .int .i64 x.epoch, .int .i64 x.lease, .slice a4z x.writes.length d4z, .int .i64 x.sure, .int .i64 x.clean] x w.heap.size w1.heap.size := (Lay.ownIn_pair (Lay.ownIn_int (lo := w.heap.size) (hi := w.heap.size) f0) (Lay.ownIn_pair (Lay.ownIn_bool (lo := w.heap.size) (hi := w.heap.size)) (Lay.ownIn_pair (Lay.ownIn_int (lo := w.heap.size) (hi := w.heap.size) f2) (Lay.ownIn_pair (Lay.ownIn_int (lo := w.heap.size) (hi := w.heap.size) f3) (Lay.ownIn_pair ((uh hO4).ext E (fun k h1 h2 h3 => by omega)) (Lay.ownIn_pair (Lay.ownIn_int (lo := w1.heap.size) (hi := w1.heap.size) f5) (Lay.ownIn_int (lo := w1.heap.size) (hi := w1.heap.size) f6) (by omega) (by omega) (by omega)) (by omega) (by omega) (by omega)) (by omega) (by omega) (by omega)) (by omega) (by omega) (by omega)) (by omega) (by omega) (by omega)) (by omega) (by omega) (by omega))
 have hsz := E.size
 have told := Lay.toldOwn (w := w) own (by omega) (by omega) ((uh hB).trans (E.below (uh hB).size (fun k h1 h2 => by omega)))
 exact told
theorem infoNode : (Tryz.prog.info? 84).map (fun i => (i.zero, i.size, decide (i.bytes ≤ 1000))) = some (some (.agg #[.int .i64 0, .bool false, .int .i64 0, .int .i64 0, .slice none 0 0, .int .i64 0, .int .i64 0]), 7, true) := by kernel_rfl
theorem to_NodeS (v : Value) (xs : List DNode) (w : World) (h : (Lay.sl Lay.tNode).Reads w [v] xs) (hn : (Lay.sl Lay.tNode).sz xs ≤ 1048576) :
  Calls Tryz.prog 67 #[v] w fun e w' => ∃ v', e = .returned v' ∧ (Lay.sl Lay.tNode).OwnIn w' [v'] xs w.heap.size w'.heap.size ∧ Below w.heap.size w w' := by
 have hbig := h.big
 obtain ⟨ao, cap, rfl⟩ := open_sl h
 have hlen : xs.length ≤ 1048576 := Nat.le_trans Lay.sz_len hn
 obtain ⟨i0, hi, hz0, hz1, hz2⟩ : ∃ i, Tryz.prog.info? 84 = some i ∧ i.zero = some (.agg #[.int .i64 0, .bool false, .int .i64 0, .int .i64 0, .slice none 0 0, .int .i64 0, .int .i64 0]) ∧ i.size = 7 ∧ i.bytes ≤ 1000 := by
  have := infoNode
  cases hq : Tryz.prog.info? 84 with
  | none => rw [hq] at this; simp at this
  | some i =>
   rw [hq] at this
   simp only [Option.map_some, Option.some.injEq, Prod.mk.injEq, decide_eq_true_eq] at this
   exact ⟨i, rfl, this.1, this.2.1, this.2.2⟩
 have H := yh h
 have HN := yh hn
 clear h hn
 go_enter Tryz.func67, Tryz.ntmps67
 go_wp2_with (at_make; refine wpList_make_full _ rfl _ _ 32 rfl w.heap.size 84 i0 _ 7 Tryz.underlying32 hi hz0 hz1 _ _ _ _ xs.length rfl rfl rfl rfl ?c1 ?c2 ?c3 ?_)
 case c1 => have := Nat.mul_le_mul hz2 hlen; omega
 case c2 => unfold maxLen; omega
 case c3 => exact Nat.le_refl _
 intro w1 hown1 hgrow1
 have hB1 : Below w.heap.size w w1 := (Below.refl _ _).grown hgrow1 (Nat.le_refl _) (by simp)
 clear hgrow1 hi hz0 hz1 hz2
 have HO1 := yh hown1
 have HB1 := yh hB1
 clear hown1 hB1
 go_wp2_with fail
 go_loopw [4] (fun i wr => ∃ (k : Nat) (rows : List (List Value)) (Q : List Value) (hi : Nat), k ≤ xs.length ∧ i = .int .i64 k ∧ wr.ownsRow w.heap.size 84 7 (.slice (some ⟨w.heap.size, 0, none⟩) xs.length xs.length) xs.length (rows.flatten ++ Q) ∧ Q.length = (xs.length - k) * 7 ∧ Lay.Subs Lay.tNode wr rows (xs.take k) (w.heap.size + 1) hi ∧ hi ≤ wr.heap.size ∧ w.heap.size < hi ∧ Below w.heap.size w wr) (fun i _ => xs.length - (intOf i).toNat)
 case atStart =>
  have hl := ((uh HO1).lt w.heap.size rfl).2
  exact ⟨0, [], _, w1.heap.size, Nat.zero_le _, rfl, by simpa using uh HO1, by have := (uh HO1).1; simpa using this, Lay.subs_nil, Nat.le_refl _, hl, uh HB1⟩
 case round =>
  obtain ⟨k, rows, Q, hi, hk, rfl, hown, hQ, hsub, hhi, hlo, hB⟩ := hrel
  clear HO1 HB1
  by_cases hlt : k < xs.length
  ·
   obtain ⟨b, off, rfl, hbl⟩ := Lay.sl_addr (uh H) (by omega)
   obtain ⟨row, hc, hr⟩ := Lay.row_at (uh H) hlt
   replace hr := hr.later hB
   have hr2 := hr
   obtain ⟨a4, d4, rfl, -⟩ := open_Node hr2
   have c0 : wr.cell? ⟨b, off + k * 7, none⟩ = some (.int .i64 (xs[k]).id) := (hB.cell (p := ⟨b, off + k * 7, none⟩) hbl).trans (hc 0 (by decide))
   have c1 : wr.cell? ⟨b, off + k * 7 + 1, none⟩ = some (.bool (xs[k]).up) := (hB.cell (p := ⟨b, off + k * 7 + 1, none⟩) hbl).trans (hc 1 (by decide))
   have c2 : wr.cell? ⟨b, off + k * 7 + 2, none⟩ = some (.int .i64 (xs[k]).epoch) := (hB.cell (p := ⟨b, off + k * 7 + 2, none⟩) hbl).trans (hc 2 (by decide))
   have c3 : wr.cell? ⟨b, off + k * 7 + 3, none⟩ = some (.int .i64 (xs[k]).lease) := (hB.cell (p := ⟨b, off + k * 7 + 3, none⟩) hbl).trans (hc 3 (by decide))
   have c4 : wr.cell? ⟨b, off + k * 7 + 4, none⟩ = some (.slice a4 (xs[k]).writes.length d4) := (hB.cell (p := ⟨b, off + k * 7 + 4, none⟩) hbl).trans (hc 4 (by decide))
   have c5 : wr.cell? ⟨b, off + k * 7 + 5, none⟩ = some (.int .i64 (xs[k]).sure) := (hB.cell (p := ⟨b, off + k * 7 + 5, none⟩) hbl).trans (hc 5 (by decide))
   have c6 : wr.cell? ⟨b, off + k * 7 + 6, none⟩ = some (.int .i64 (xs[k]).clean) := (hB.cell (p := ⟨b, off + k * 7 + 6, none⟩) hbl).trans (hc 6 (by decide))
   have hrl : rows.flatten.length = k * 7 := by have := (Lay.subs_len hsub).1; rw [List.length_take, Nat.min_eq_left hk] at this; exact this
   have hsz := Nat.le_trans (Lay.sz_elem (A := Lay.tNode) hlt) (uh HN)
   have HT : Hid (xs.take (k + 1) = xs.take k ++ [xs[k]]) := List.take_succ_eq_append_getElem hlt
   have HB := yh hB
   have HR := yh hr
   have HO := yh hown
   have HS := yh hsub
   have HQ := yh hQ
   clear hB hr hc hown hsub hQ
   generalize hxk : xs[k] = x at *
   clear hxk
   go_wp2_with fail
   refine (to_Node _ x wr (uh HR) hsz).mono ?_
   rintro e w2 ⟨cs2, rfl, O, hb⟩
   have o2 := own_below (uh HO) hb
   replace HS := yh (Lay.subs_snoc (Lay.subs_ext (uh HS) (ext_of_below hb nowhere) (fun _ _ _ h => h)) O (by omega) (by omega) (Nat.le_trans hhi hb.size))
   have hb2 := (uh HB).trans (hb.mono (uh HB).size)
   have hz := hb.size
   have orr := O.reads
   obtain ⟨a4z, d4z, rfl, -⟩ := open_Node orr
   clear hb HR HB HO O c0 c1 c2 c3 c4 c5 c6
   have hQ := uh HQ
   have hl5 : (rows.flatten ++ Q).length = xs.length * 7 := o2.1
   obtain ⟨u0, g0⟩ : ∃ u, w2.cell? ⟨w.heap.size, k * 7, none⟩ = some u := by
    rw [o2.cellAt (k * 7) (by omega)]
    exact ⟨_, List.getElem?_eq_getElem (by omega)⟩
   have t0 := o2.frozenAt (k * 7)
   obtain ⟨u1, g1⟩ : ∃ u, w2.cell? ⟨w.heap.size, k * 7 + 1, none⟩ = some u := by
    rw [o2.cellAt (k * 7 + 1) (by omega)]
    exact ⟨_, List.getElem?_eq_getElem (by omega)⟩
   have t1 := o2.frozenAt (k * 7 + 1)
   obtain ⟨u2, g2⟩ : ∃ u, w2.cell? ⟨w.heap.size, k * 7 + 2, none⟩ = some u := by
    rw [o2.cellAt (k * 7 + 2) (by omega)]
    exact ⟨_, List.getElem?_eq_getElem (by omega)⟩
   have t2 := o2.frozenAt (k * 7 + 2)
   obtain ⟨u3, g3⟩ : ∃ u, w2.cell? ⟨w.heap.size, k * 7 + 3, none⟩ = some u := by
    rw [o2.cellAt (k * 7 + 3) (by omega)]
    exact ⟨_, List.getElem?_eq_getElem (by omega)⟩
   have t3 := o2.frozenAt (k * 7 + 3)
   obtain ⟨u4, g4⟩ : ∃ u, w2.cell? ⟨w.heap.size, k * 7 + 4, none⟩ = some u := by
    rw [o2.cellAt (k * 7 + 4) (by omega)]
    exact ⟨_, List.getElem?_eq_getElem (by omega)⟩
   have t4 := o2.frozenAt (k * 7 + 4)
   obtain ⟨u5, g5⟩ : ∃ u, w2.cell? ⟨w.heap.size, k * 7 + 5, none⟩ = some u := by
    rw [o2.cellAt (k * 7 + 5) (by omega)]
    exact ⟨_, List.getElem?_eq_getElem (by omega)⟩
   have t5 := o2.frozenAt (k * 7 + 5)
   obtain ⟨u6, g6⟩ : ∃ u, w2.cell? ⟨w.heap.size, k * 7 + 6, none⟩ = some u := by
    rw [o2.cellAt (k * 7 + 6) (by omega)]
    exact ⟨_, List.getElem?_eq_getElem (by omega)⟩
   have t6 := o2.frozenAt (k * 7 + 6)
   have o3 := own_setAll o2 (k * 7) [.int .i64 x.id, .bool x.up, .int .i64 x.epoch, .int .i64 x.lease, .slice a4z x.writes.length d4z, .int .i64 x.sure, .int .i64 x.clean]
   rw [show k * 7 = rows.flatten.length from hrl.symm, setFrom_app _ _ _ (by rw [hQ]; simp; have : 1 * 7 ≤ (xs.length - k) * 7 := Nat.mul_le_mul_right _ (by omega); omega), hrl] at o3
   have E : Ext (fun q => q = w.heap.size) w2 (setAll w2 w.heap.size (k * 7) [.int .i64 x.id, .bool x.up, .int .i64 x.epoch, .int .i64 x.lease, .slice a4z x.writes.length d4z, .int .i64 x.sure, .int .i64 x.clean]) := ext_setAll _ (Ext.refl _ _) _ _ _ rfl
   replace HS := yh (Lay.subs_ext (uh HS) E (fun q h1 h2 h3 => by omega))
   have HB := yh (below_setAll hb2 w.heap.size (k * 7) [.int .i64 x.id, .bool x.up, .int .i64 x.epoch, .int .i64 x.lease, .slice a4z x.writes.length d4z, .int .i64 x.sure, .int .i64 x.clean] (Nat.le_refl _))
   have HZ : Hid ((setAll w2 w.heap.size (k * 7) [.int .i64 x.id, .bool x.up, .int .i64 x.epoch, .int .i64 x.lease, .slice a4z x.writes.length d4z, .int .i64 x.sure, .int .i64 x.clean]).heap.size = w2.heap.size) := size_setAll _ _ _ _
   have HO : Hid ((setAll w2 w.heap.size (k * 7) [.int .i64 x.id, .bool x.up, .int .i64 x.epoch, .int .i64 x.lease, .slice a4z x.writes.length d4z, .int .i64 x.sure, .int .i64 x.clean]).ownsRow w.heap.size 84 7 (.slice (some ⟨w.heap.size, 0, none⟩) xs.length xs.length) xs.length ((rows ++ [([.int .i64 x.id, .bool x.up, .int .i64 x.epoch, .int .i64 x.lease, .slice a4z x.writes.length d4z, .int .i64 x.sure, .int .i64 x.clean] : List Value)]).flatten ++ Q.drop 7)) := by
    show (setAll w2 w.heap.size (k * 7) [.int .i64 x.id, .bool x.up, .int .i64 x.epoch, .int .i64 x.lease, .slice a4z x.writes.length d4z, .int .i64 x.sure, .int .i64 x.clean]).ownsRow w.heap.size 84 7 (.slice (some ⟨w.heap.size, 0, none⟩) xs.length xs.length) xs.length ((rows ++ [([.int .i64 x.id, .bool x.up, .int .i64 x.epoch, .int .i64 x.lease, .slice a4z x.writes.length d4z, .int .i64 x.sure, .int .i64 x.clean] : List Value)]).flatten ++ Q.drop 7)
    rw [List.flatten_append]
    simpa using o3
   have hl2 := (o2.lt w.heap.size rfl).2
   clear o3 o2 E hb2 hl5
   have hQ2 : Hid ((Q.drop 7).length = (xs.length - (k + 1)) * 7) := by
    show (Q.drop 7).length = (xs.length - (k + 1)) * 7
    rw [List.length_drop, hQ, show xs.length - k = xs.length - (k + 1) + 1 by omega, Nat.add_mul]
    omega
   clear hQ HQ
   go_wp2_with fail
   go_roundw
   case rel => exact ⟨k + 1, rows ++ [([.int .i64 x.id, .bool x.up, .int .i64 x.epoch, .int .i64 x.lease, .slice a4z x.writes.length d4z, .int .i64 x.sure, .int .i64 x.clean] : List Value)], Q.drop 7, w2.heap.size, by omega, by go_num, uh HO, uh hQ2, (by rw [uh HT]; exact uh HS), Nat.le_of_eq (uh HZ).symm, by omega, uh HB⟩
   case measure => simp [intOf]; omega
  obtain rfl : k = xs.length := by omega
  have e0 : Q = [] := List.eq_nil_of_length_eq_zero (by rw [hQ]; simp)
  subst e0
  rw [List.append_nil] at hown
  rw [List.take_length] at hsub
  have HO := yh (Lay.subs_done (A := Lay.tNode) hown hsub (by omega) hhi hbig)
  have HB := yh hB
  clear hown hsub hB
  go_wp2_with fail
  go_ret
  exact ⟨_, rfl, uh HO, uh HB⟩
theorem to_Msg (cs : List Value) (x : DMsg) (w : World) (h : Lay.tMsg.Reads w cs x) (hn : Lay.tMsg.sz x ≤ 1048576) :
  Calls Tryz.prog 134 #[.agg cs.toArray] w fun e w' => ∃ cs', e = .returned (.agg cs'.toArray) ∧ Lay.tMsg.OwnIn w' cs' x w.heap.size w'.heap.size ∧ Below w.heap.size w w' := by
 have h0 := h
 obtain ⟨bl, hl⟩ := h0
 obtain ⟨-, -, -, -, -, f0, f1, f2, f3, f4, f5, f6, -, f8, f9⟩ := lies_Msg.1 hl
 clear hl
 obtain ⟨a7, d7, rfl, R5⟩ := open_Msg h
 clear h
 rw [szsum_Msg] at hn
 have HF := yh (And.intro f0 (And.intro f1 (And.intro f2 (And.intro f3 (And.intro f4 (And.intro f5 (And.intro f6 (And.intro f8 (f9)))))))))
 clear f0 f1 f2 f3 f4 f5 f6 f8 f9
 have HB0 : Below w.heap.size w (((w.alloc (.cells #[.int .i64 x.kind, .int .i64 x.epoch, .int .i64 x.src, .int .i64 x.dst, .int .i64 x.index, .int .i64 x.write.kind, .int .i64 x.write.id, .slice a7 x.write.vec.length d7, .int .i64 x.write.session, .int .i64 x.write.seq] 152)).alloc (.cells #[.int .i64 0, .int .i64 0, .int .i64 0, .int .i64 0, .int .i64 0, .int .i64 0, .int .i64 0, .slice none 0 0, .int .i64 0, .int .i64 0] 89)).alloc (.cells #[.int .i64 x.kind, .int .i64 x.epoch, .int .i64 x.src, .int .i64 x.dst, .int .i64 x.index, .int .i64 0, .int .i64 0, .slice none 0 0, .int .i64 0, .int .i64 0] 89)) := (((Below.refl _ _).alloc (Nat.le_refl _) _).alloc (by simp) _).alloc (by simp; omega) _
 have bA : Box w.heap.size #[.int .i64 x.kind, .int .i64 x.epoch, .int .i64 x.src, .int .i64 x.dst, .int .i64 x.index, .int .i64 x.write.kind, .int .i64 x.write.id, .slice a7 x.write.vec.length d7, .int .i64 x.write.session, .int .i64 x.write.seq] 152 (((w.alloc (.cells #[.int .i64 x.kind, .int .i64 x.epoch, .int .i64 x.src, .int .i64 x.dst, .int .i64 x.index, .int .i64 x.write.kind, .int .i64 x.write.id, .slice a7 x.write.vec.length d7, .int .i64 x.write.session, .int .i64 x.write.seq] 152)).alloc (.cells #[.int .i64 0, .int .i64 0, .int .i64 0, .int .i64 0, .int .i64 0, .int .i64 0, .int .i64 0, .slice none 0 0, .int .i64 0, .int .i64 0] 89)).alloc (.cells #[.int .i64 x.kind, .int .i64 x.epoch, .int .i64 x.src, .int .i64 x.dst, .int .i64 x.index, .int .i64 0, .int .i64 0, .slice none 0 0, .int .i64 0, .int .i64 0] 89)) w.heap.size := ((newBox (Nat.le_refl _)).grow _).grow _
 have bR : Box w.heap.size #[.int .i64 0, .int .i64 0, .int .i64 0, .int .i64 0, .int .i64 0, .int .i64 0, .int .i64 0, .slice none 0 0, .int .i64 0, .int .i64 0] 89 (((w.alloc (.cells #[.int .i64 x.kind, .int .i64 x.epoch, .int .i64 x.src, .int .i64 x.dst, .int .i64 x.index, .int .i64 x.write.kind, .int .i64 x.write.id, .slice a7 x.write.vec.length d7, .int .i64 x.write.session, .int .i64 x.write.seq] 152)).alloc (.cells #[.int .i64 0, .int .i64 0, .int .i64 0, .int .i64 0, .int .i64 0, .int .i64 0, .int .i64 0, .slice none 0 0, .int .i64 0, .int .i64 0] 89)).alloc (.cells #[.int .i64 x.kind, .int .i64 x.epoch, .int .i64 x.src, .int .i64 x.dst, .int .i64 x.index, .int .i64 0, .int .i64 0, .slice none 0 0, .int .i64 0, .int .i64 0] 89)) (w.heap.size + 1) := (newBoxAt (by omega) (by simp)).grow _
 have bX : Box w.heap.size #[.int .i64 x.kind, .int .i64 x.epoch, .int .i64 x.src, .int .i64 x.dst, .int .i64 x.index, .int .i64 0, .int .i64 0, .slice none 0 0, .int .i64 0, .int .i64 0] 89 (((w.alloc (.cells #[.int .i64 x.kind, .int .i64 x.epoch, .int .i64 x.src, .int .i64 x.dst, .int .i64 x.index, .int .i64 x.write.kind, .int .i64 x.write.id, .slice a7 x.write.vec.length d7, .int .i64 x.write.session, .int .i64 x.write.seq] 152)).alloc (.cells #[.int .i64 0, .int .i64 0, .int .i64 0, .int .i64 0, .int .i64 0, .int .i64 0, .int .i64 0, .slice none 0 0, .int .i64 0, .int .i64 0] 89)).alloc (.cells #[.int .i64 x.kind, .int .i64 x.epoch, .int .i64 x.src, .int .i64 x.dst, .int .i64 x.index, .int .i64 0, .int .i64 0, .slice none 0 0, .int .i64 0, .int .i64 0] 89)) (w.heap.size + 2) := newBoxAt (by omega) (by simp)
 have hz0 : w.heap.size + 3 ≤ (((w.alloc (.cells #[.int .i64 x.kind, .int .i64 x.epoch, .int .i64 x.src, .int .i64 x.dst, .int .i64 x.index, .int .i64 x.write.kind, .int .i64 x.write.id, .slice a7 x.write.vec.length d7, .int .i64 x.write.session, .int .i64 x.write.seq] 152)).alloc (.cells #[.int .i64 0, .int .i64 0, .int .i64 0, .int .i64 0, .int .i64 0, .int .i64 0, .int .i64 0, .slice none 0 0, .int .i64 0, .int .i64 0] 89)).alloc (.cells #[.int .i64 x.kind, .int .i64 x.epoch, .int .i64 x.src, .int .i64 x.dst, .int .i64 x.index, .int .i64 0, .int .i64 0, .slice none 0 0, .int .i64 0, .int .i64 0] 89)).heap.size := by simp
 go_enter Tryz.func134, Tryz.ntmps134
 go_wp2_with fail
 generalize ((w.alloc (.cells #[.int .i64 x.kind, .int .i64 x.epoch, .int .i64 x.src, .int .i64 x.dst, .int .i64 x.index, .int .i64 x.write.kind, .int .i64 x.write.id, .slice a7 x.write.vec.length d7, .int .i64 x.write.session, .int .i64 x.write.seq] 152)).alloc (.cells #[.int .i64 0, .int .i64 0, .int .i64 0, .int .i64 0, .int .i64 0, .int .i64 0, .int .i64 0, .slice none 0 0, .int .i64 0, .int .i64 0] 89)).alloc (.cells #[.int .i64 x.kind, .int .i64 x.epoch, .int .i64 x.src, .int .i64 x.dst, .int .i64 x.index, .int .i64 0, .int .i64 0, .slice none 0 0, .int .i64 0, .int .i64 0] 89) = W0 at *
 replace R5 := R5.later HB0
 refine (to_Write _ x.write W0 R5 (by omega)).mono ?_
 rintro e w1 ⟨v5, rfl, O5, hb⟩
 have Z0 : W0.heap.size ≤ w1.heap.size := hb.size
 replace HB0 := HB0.trans (hb.mono HB0.size)
 replace bA := bA.keep hb
 replace bR := bR.keep hb
 replace bX := bX.keep hb
 clear hb R5
 obtain ⟨a7z, d7z, rfl, -⟩ := open_Write O5.reads
 have q0 := bX.at 0 _ rfl
 have q1 := bX.at 1 _ rfl
 have q2 := bX.at 2 _ rfl
 have q3 := bX.at 3 _ rfl
 have q4 := bX.at 4 _ rfl
 have q5 := bX.at 5 _ rfl
 have q6 := bX.at 6 _ rfl
 have q7 := bX.at 7 _ rfl
 have q8 := bX.at 8 _ rfl
 have q9 := bX.at 9 _ rfl
 have qf := bX.soft
 have ql := bX.lt
 have pl := bA.lt
 have r0 := bR.at 0 _ rfl
 have r1 := bR.at 1 _ rfl
 have r2 := bR.at 2 _ rfl
 have r3 := bR.at 3 _ rfl
 have r4 := bR.at 4 _ rfl
 have r5 := bR.at 5 _ rfl
 have r6 := bR.at 6 _ rfl
 have r7 := bR.at 7 _ rfl
 have r8 := bR.at 8 _ rfl
 have r9 := bR.at 9 _ rfl
 have rf := bR.soft
 have rl := bR.lt
 simp only [ga, gb, gc] at q0 q1 q2 q3 q4 q5 q6 q7 q8 q9 r0 r1 r2 r3 r4 r5 r6 r7 r8 r9
 have hA := yh bA
 have hR := yh bR
 have hX := yh bX
 have hB := yh HB0
 clear bA bR bX HB0
 have hO5 := yh O5
 clear O5
 go_wp2_with fail
 refine bodyPost_ret (v := .agg #[.int .i64 x.kind, .int .i64 x.epoch, .int .i64 x.src, .int .i64 x.dst, .int .i64 x.index, .int .i64 x.write.kind, .int .i64 x.write.id, .slice a7z x.write.vec.length d7z, .int .i64 x.write.session, .int .i64 x.write.seq]) (by simp [results, Tryz.results134, go_sem, r0, r1, r2, r3, r4, r5, r6, r7, r8, r9]) rfl ?_
 have E : Ext (fun q => q = w.heap.size + 2 ∨ q = w.heap.size + 1) w1 _ := ext_setL (ext_setL (Ext.refl _ _) (w.heap.size + 2) [(5, .int .i64 x.write.kind), (6, .int .i64 x.write.id), (7, .slice a7z x.write.vec.length d7z), (8, .int .i64 x.write.session), (9, .int .i64 x.write.seq)] (Or.inl rfl)) (w.heap.size + 1) [(0, .int .i64 x.kind), (1, .int .i64 x.epoch), (2, .int .i64 x.src), (3, .int .i64 x.dst), (4, .int .i64 x.index), (5, .int .i64 x.write.kind), (6, .int .i64 x.write.id), (7, .slice a7z x.write.vec.length d7z), (8, .int .i64 x.write.session), (9, .int .i64 x.write.seq)] (Or.inr rfl)
 obtain ⟨f0, f1, f2, f3, f4, f5, f6, f8, f9⟩ := uh HF
 have own : Lay.tMsg.OwnIn _ [.int .i64 x.kind, .int .i64 x.epoch, .int .i64 x.src, .int .i64 x.dst, .int .i64 x.index, .int .i64 x.write.kind, .int .i64 x.write.id, .slice a7z x.write.vec.length d7z, .int .i64 x.write.session, .int .i64 x.write.seq] x w.heap.size w1.heap.size := (Lay.ownIn_pair (Lay.ownIn_int (lo := w.heap.size) (hi := w.heap.size) f0) (Lay.ownIn_pair (Lay.ownIn_int (lo := w.heap.size) (hi := w.heap.size) f1) (Lay.ownIn_pair (Lay.ownIn_int (lo := w.heap.size) (hi := w.heap.size) f2) (Lay.ownIn_pair (Lay.ownIn_int (lo := w.heap.size) (hi := w.heap.size) f3) (Lay.ownIn_pair (Lay.ownIn_int (lo := w.heap.size) (hi := w.heap.size) f4) ((uh hO5).ext E (fun k h1 h2 h3 => by omega)) (by omega) (by omega) (by omega)) (by omega) (by omega) (by omega)) (by omega) (by omega) (by omega)) (by omega) (by omega) (by omega)) (by omega) (by omega) (by omega))
 have hsz := E.size
 have told := Lay.toldOwn (w := w) own (by omega) (by omega) ((uh hB).trans (E.below (uh hB).size (fun k h1 h2 => by omega)))
 exact told
theorem infoMsg : (Tryz.prog.info? 89).map (fun i => (i.zero, i.size, decide (i.bytes ≤ 1000))) = some (some (.agg #[.int .i64 0, .int .i64 0, .int .i64 0, .int .i64 0, .int .i64 0, .int .i64 0, .int .i64 0, .slice none 0 0, .int .i64 0, .int .i64 0]), 10, true) := by kernel_rfl
theorem to_MsgS (v : Value) (xs : List DMsg) (w : World) (h : (Lay.sl Lay.tMsg).Reads w [v] xs) (hn : (Lay.sl Lay.tMsg).sz xs ≤ 1048576) :
  Calls Tryz.prog 68 #[v] w fun e w' => ∃ v', e = .returned v' ∧ (Lay.sl Lay.tMsg).OwnIn w' [v'] xs w.heap.size w'.heap.size ∧ Below w.heap.size w w' := by
 have hbig := h.big
 obtain ⟨ao, cap, rfl⟩ := open_sl h
 have hlen : xs.length ≤ 1048576 := Nat.le_trans Lay.sz_len hn
 obtain ⟨i0, hi, hz0, hz1, hz2⟩ : ∃ i, Tryz.prog.info? 89 = some i ∧ i.zero = some (.agg #[.int .i64 0, .int .i64 0, .int .i64 0, .int .i64 0, .int .i64 0, .int .i64 0, .int .i64 0, .slice none 0 0, .int .i64 0, .int .i64 0]) ∧ i.size = 10 ∧ i.bytes ≤ 1000 := by
  have := infoMsg
  cases hq : Tryz.prog.info? 89 with
  | none => rw [hq] at this; simp at this
  | some i =>
   rw [hq] at this
   simp only [Option.map_some, Option.some.injEq, Prod.mk.injEq, decide_eq_true_eq] at this
   exact ⟨i, rfl, this.1, this.2.1, this.2.2⟩
 have H := yh h
 have HN := yh hn
 clear h hn
 go_enter Tryz.func68, Tryz.ntmps68
 go_wp2_with (at_make; refine wpList_make_full _ rfl _ _ 33 rfl w.heap.size 89 i0 _ 10 Tryz.underlying33 hi hz0 hz1 _ _ _ _ xs.length rfl rfl rfl rfl ?c1 ?c2 ?c3 ?_)
 case c1 => have := Nat.mul_le_mul hz2 hlen; omega
 case c2 => unfold maxLen; omega
 case c3 => exact Nat.le_refl _
 intro w1 hown1 hgrow1
 have hB1 : Below w.heap.size w w1 := (Below.refl _ _).grown hgrow1 (Nat.le_refl _) (by simp)
 clear hgrow1 hi hz0 hz1 hz2
 have HO1 := yh hown1
 have HB1 := yh hB1
 clear hown1 hB1
 go_wp2_with fail
 go_loopw [4] (fun i wr => ∃ (k : Nat) (rows : List (List Value)) (Q : List Value) (hi : Nat), k ≤ xs.length ∧ i = .int .i64 k ∧ wr.ownsRow w.heap.size 89 10 (.slice (some ⟨w.heap.size, 0, none⟩) xs.length xs.length) xs.length (rows.flatten ++ Q) ∧ Q.length = (xs.length - k) * 10 ∧ Lay.Subs Lay.tMsg wr rows (xs.take k) (w.heap.size + 1) hi ∧ hi ≤ wr.heap.size ∧ w.heap.size < hi ∧ Below w.heap.size w wr) (fun i _ => xs.length - (intOf i).toNat)
 case atStart =>
  have hl := ((uh HO1).lt w.heap.size rfl).2
  exact ⟨0, [], _, w1.heap.size, Nat.zero_le _, rfl, by simpa using uh HO1, by have := (uh HO1).1; simpa using this, Lay.subs_nil, Nat.le_refl _, hl, uh HB1⟩
 case round =>
  obtain ⟨k, rows, Q, hi, hk, rfl, hown, hQ, hsub, hhi, hlo, hB⟩ := hrel
  clear HO1 HB1
  by_cases hlt : k < xs.length
  ·
   obtain ⟨b, off, rfl, hbl⟩ := Lay.sl_addr (uh H) (by omega)
   obtain ⟨row, hc, hr⟩ := Lay.row_at (uh H) hlt
   replace hr := hr.later hB
   have hr2 := hr
   obtain ⟨a7, d7, rfl, -⟩ := open_Msg hr2
   have c0 : wr.cell? ⟨b, off + k * 10, none⟩ = some (.int .i64 (xs[k]).kind) := (hB.cell (p := ⟨b, off + k * 10, none⟩) hbl).trans (hc 0 (by decide))
   have c1 : wr.cell? ⟨b, off + k * 10 + 1, none⟩ = some (.int .i64 (xs[k]).epoch) := (hB.cell (p := ⟨b, off + k * 10 + 1, none⟩) hbl).trans (hc 1 (by decide))
   have c2 : wr.cell? ⟨b, off + k * 10 + 2, none⟩ = some (.int .i64 (xs[k]).src) := (hB.cell (p := ⟨b, off + k * 10 + 2, none⟩) hbl).trans (hc 2 (by decide))
   have c3 : wr.cell? ⟨b, off + k * 10 + 3, none⟩ = some (.int .i64 (xs[k]).dst) := (hB.cell (p := ⟨b, off + k * 10 + 3, none⟩) hbl).trans (hc 3 (by decide))
   have c4 : wr.cell? ⟨b, off + k * 10 + 4, none⟩ = some (.int .i64 (xs[k]).index) := (hB.cell (p := ⟨b, off + k * 10 + 4, none⟩) hbl).trans (hc 4 (by decide))
   have c5 : wr.cell? ⟨b, off + k * 10 + 5, none⟩ = some (.int .i64 (xs[k]).write.kind) := (hB.cell (p := ⟨b, off + k * 10 + 5, none⟩) hbl).trans (hc 5 (by decide))
   have c6 : wr.cell? ⟨b, off + k * 10 + 6, none⟩ = some (.int .i64 (xs[k]).write.id) := (hB.cell (p := ⟨b, off + k * 10 + 6, none⟩) hbl).trans (hc 6 (by decide))
   have c7 : wr.cell? ⟨b, off + k * 10 + 7, none⟩ = some (.slice a7 (xs[k]).write.vec.length d7) := (hB.cell (p := ⟨b, off + k * 10 + 7, none⟩) hbl).trans (hc 7 (by decide))
   have c8 : wr.cell? ⟨b, off + k * 10 + 8, none⟩ = some (.int .i64 (xs[k]).write.session) := (hB.cell (p := ⟨b, off + k * 10 + 8, none⟩) hbl).trans (hc 8 (by decide))
   have c9 : wr.cell? ⟨b, off + k * 10 + 9, none⟩ = some (.int .i64 (xs[k]).write.seq) := (hB.cell (p := ⟨b, off + k * 10 + 9, none⟩) hbl).trans (hc 9 (by decide))
   have hrl : rows.flatten.length = k * 10 := by have := (Lay.subs_len hsub).1; rw [List.length_take, Nat.min_eq_left hk] at this; exact this
   have hsz := Nat.le_trans (Lay.sz_elem (A := Lay.tMsg) hlt) (uh HN)
   have HT : Hid (xs.take (k + 1) = xs.take k ++ [xs[k]]) := List.take_succ_eq_append_getElem hlt
   have HB := yh hB
   have HR := yh hr
   have HO := yh hown
   have HS := yh hsub
   have HQ := yh hQ
   clear hB hr hc hown hsub hQ
   generalize hxk : xs[k] = x at *
   clear hxk
   go_wp2_with fail
   refine (to_Msg _ x wr (uh HR) hsz).mono ?_
   rintro e w2 ⟨cs2, rfl, O, hb⟩
   have o2 := own_below (uh HO) hb
   replace HS := yh (Lay.subs_snoc (Lay.subs_ext (uh HS) (ext_of_below hb nowhere) (fun _ _ _ h => h)) O (by omega) (by omega) (Nat.le_trans hhi hb.size))
   have hb2 := (uh HB).trans (hb.mono (uh HB).size)
   have hz := hb.size
   have orr := O.reads
   obtain ⟨a7z, d7z, rfl, -⟩ := open_Msg orr
   clear hb HR HB HO O c0 c1 c2 c3 c4 c5 c6 c7 c8 c9
   have hQ := uh HQ
   have hl5 : (rows.flatten ++ Q).length = xs.length * 10 := o2.1
   obtain ⟨u0, g0⟩ : ∃ u, w2.cell? ⟨w.heap.size, k * 10, none⟩ = some u := by
    rw [o2.cellAt (k * 10) (by omega)]
    exact ⟨_, List.getElem?_eq_getElem (by omega)⟩
   have t0 := o2.frozenAt (k * 10)
   obtain ⟨u1, g1⟩ : ∃ u, w2.cell? ⟨w.heap.size, k * 10 + 1, none⟩ = some u := by
    rw [o2.cellAt (k * 10 + 1) (by omega)]
    exact ⟨_, List.getElem?_eq_getElem (by omega)⟩
   have t1 := o2.frozenAt (k * 10 + 1)
   obtain ⟨u2, g2⟩ : ∃ u, w2.cell? ⟨w.heap.size, k * 10 + 2, none⟩ = some u := by
    rw [o2.cellAt (k * 10 + 2) (by omega)]
    exact ⟨_, List.getElem?_eq_getElem (by omega)⟩
   have t2 := o2.frozenAt (k * 10 + 2)
   obtain ⟨u3, g3⟩ : ∃ u, w2.cell? ⟨w.heap.size, k * 10 + 3, none⟩ = some u := by
    rw [o2.cellAt (k * 10 + 3) (by omega)]
    exact ⟨_, List.getElem?_eq_getElem (by omega)⟩
   have t3 := o2.frozenAt (k * 10 + 3)
   obtain ⟨u4, g4⟩ : ∃ u, w2.cell? ⟨w.heap.size, k * 10 + 4, none⟩ = some u := by
    rw [o2.cellAt (k * 10 + 4) (by omega)]
    exact ⟨_, List.getElem?_eq_getElem (by omega)⟩
   have t4 := o2.frozenAt (k * 10 + 4)
   obtain ⟨u5, g5⟩ : ∃ u, w2.cell? ⟨w.heap.size, k * 10 + 5, none⟩ = some u := by
    rw [o2.cellAt (k * 10 + 5) (by omega)]
    exact ⟨_, List.getElem?_eq_getElem (by omega)⟩
   have t5 := o2.frozenAt (k * 10 + 5)
   obtain ⟨u6, g6⟩ : ∃ u, w2.cell? ⟨w.heap.size, k * 10 + 6, none⟩ = some u := by
    rw [o2.cellAt (k * 10 + 6) (by omega)]
    exact ⟨_, List.getElem?_eq_getElem (by omega)⟩
   have t6 := o2.frozenAt (k * 10 + 6)
   obtain ⟨u7, g7⟩ : ∃ u, w2.cell? ⟨w.heap.size, k * 10 + 7, none⟩ = some u := by
    rw [o2.cellAt (k * 10 + 7) (by omega)]
    exact ⟨_, List.getElem?_eq_getElem (by omega)⟩
   have t7 := o2.frozenAt (k * 10 + 7)
   obtain ⟨u8, g8⟩ : ∃ u, w2.cell? ⟨w.heap.size, k * 10 + 8, none⟩ = some u := by
    rw [o2.cellAt (k * 10 + 8) (by omega)]
    exact ⟨_, List.getElem?_eq_getElem (by omega)⟩
   have t8 := o2.frozenAt (k * 10 + 8)
   obtain ⟨u9, g9⟩ : ∃ u, w2.cell? ⟨w.heap.size, k * 10 + 9, none⟩ = some u := by
    rw [o2.cellAt (k * 10 + 9) (by omega)]
    exact ⟨_, List.getElem?_eq_getElem (by omega)⟩
   have t9 := o2.frozenAt (k * 10 + 9)
   have o3 := own_setAll o2 (k * 10) [.int .i64 x.kind, .int .i64 x.epoch, .int .i64 x.src, .int .i64 x.dst, .int .i64 x.index, .int .i64 x.write.kind, .int .i64 x.write.id, .slice a7z x.write.vec.length d7z, .int .i64 x.write.session, .int .i64 x.write.seq]
   rw [show k * 10 = rows.flatten.length from hrl.symm, setFrom_app _ _ _ (by rw [hQ]; simp; have : 1 * 10 ≤ (xs.length - k) * 10 := Nat.mul_le_mul_right _ (by omega); omega), hrl] at o3
   have E : Ext (fun q => q = w.heap.size) w2 (setAll w2 w.heap.size (k * 10) [.int .i64 x.kind, .int .i64 x.epoch, .int .i64 x.src, .int .i64 x.dst, .int .i64 x.index, .int .i64 x.write.kind, .int .i64 x.write.id, .slice a7z x.write.vec.length d7z, .int .i64 x.write.session, .int .i64 x.write.seq]) := ext_setAll _ (Ext.refl _ _) _ _ _ rfl
   replace HS := yh (Lay.subs_ext (uh HS) E (fun q h1 h2 h3 => by omega))
   have HB := yh (below_setAll hb2 w.heap.size (k * 10) [.int .i64 x.kind, .int .i64 x.epoch, .int .i64 x.src, .int .i64 x.dst, .int .i64 x.index, .int .i64 x.write.kind, .int .i64 x.write.id, .slice a7z x.write.vec.length d7z, .int .i64 x.write.session, .int .i64 x.write.seq] (Nat.le_refl _))
   have HZ : Hid ((setAll w2 w.heap.size (k * 10) [.int .i64 x.kind, .int .i64 x.epoch, .int .i64 x.src, .int .i64 x.dst, .int .i64 x.index, .int .i64 x.write.kind, .int .i64 x.write.id, .slice a7z x.write.vec.length d7z, .int .i64 x.write.session, .int .i64 x.write.seq]).heap.size = w2.heap.size) := size_setAll _ _ _ _
   have HO : Hid ((setAll w2 w.heap.size (k * 10) [.int .i64 x.kind, .int .i64 x.epoch, .int .i64 x.src, .int .i64 x.dst, .int .i64 x.index, .int .i64 x.write.kind, .int .i64 x.write.id, .slice a7z x.write.vec.length d7z, .int .i64 x.write.session, .int .i64 x.write.seq]).ownsRow w.heap.size 89 10 (.slice (some ⟨w.heap.size, 0, none⟩) xs.length xs.length) xs.length ((rows ++ [([.int .i64 x.kind, .int .i64 x.epoch, .int .i64 x.src, .int .i64 x.dst, .int .i64 x.index, .int .i64 x.write.kind, .int .i64 x.write.id, .slice a7z x.write.vec.length d7z, .int .i64 x.write.session, .int .i64 x.write.seq] : List Value)]).flatten ++ Q.drop 10)) := by
    show (setAll w2 w.heap.size (k * 10) [.int .i64 x.kind, .int .i64 x.epoch, .int .i64 x.src, .int .i64 x.dst, .int .i64 x.index, .int .i64 x.write.kind, .int .i64 x.write.id, .slice a7z x.write.vec.length d7z, .int .i64 x.write.session, .int .i64 x.write.seq]).ownsRow w.heap.size 89 10 (.slice (some ⟨w.heap.size, 0, none⟩) xs.length xs.length) xs.length ((rows ++ [([.int .i64 x.kind, .int .i64 x.epoch, .int .i64 x.src, .int .i64 x.dst, .int .i64 x.index, .int .i64 x.write.kind, .int .i64 x.write.id, .slice a7z x.write.vec.length d7z, .int .i64 x.write.session, .int .i64 x.write.seq] : List Value)]).flatten ++ Q.drop 10)
    rw [List.flatten_append]
    simpa using o3
   have hl2 := (o2.lt w.heap.size rfl).2
   clear o3 o2 E hb2 hl5
   have hQ2 : Hid ((Q.drop 10).length = (xs.length - (k + 1)) * 10) := by
    show (Q.drop 10).length = (xs.length - (k + 1)) * 10
    rw [List.length_drop, hQ, show xs.length - k = xs.length - (k + 1) + 1 by omega, Nat.add_mul]
    omega
   clear hQ HQ
   go_wp2_with fail
   go_roundw
   case rel => exact ⟨k + 1, rows ++ [([.int .i64 x.kind, .int .i64 x.epoch, .int .i64 x.src, .int .i64 x.dst, .int .i64 x.index, .int .i64 x.write.kind, .int .i64 x.write.id, .slice a7z x.write.vec.length d7z, .int .i64 x.write.session, .int .i64 x.write.seq] : List Value)], Q.drop 10, w2.heap.size, by omega, by go_num, uh HO, uh hQ2, (by rw [uh HT]; exact uh HS), Nat.le_of_eq (uh HZ).symm, by omega, uh HB⟩
   case measure => simp [intOf]; omega
  obtain rfl : k = xs.length := by omega
  have e0 : Q = [] := List.eq_nil_of_length_eq_zero (by rw [hQ]; simp)
  subst e0
  rw [List.append_nil] at hown
  rw [List.take_length] at hsub
  have HO := yh (Lay.subs_done (A := Lay.tMsg) hown hsub (by omega) hhi hbig)
  have HB := yh hB
  clear hown hsub hB
  go_wp2_with fail
  go_ret
  exact ⟨_, rfl, uh HO, uh HB⟩
theorem to_Hit (cs : List Value) (x : DHit) (w : World) (h : Lay.tHit.Reads w cs x) :
  Calls Tryz.prog 270 #[.agg cs.toArray] w fun e w' => ∃ cs', e = .returned (.agg cs'.toArray) ∧ Lay.tHit.OwnIn w' cs' x w.heap.size w'.heap.size ∧ Below w.heap.size w w' := by
 have h0 := h
 obtain ⟨bl, hl⟩ := h0
 obtain ⟨-, -, f0, f1⟩ := lies_Hit.1 hl
 clear hl
 obtain ⟨bl2, hl2⟩ := h
 obtain ⟨rfl, -⟩ := lies_Hit.1 hl2
 clear hl2
 have HF := yh (And.intro f0 (f1))
 clear f0 f1
 have HB : Hid (∀ o p q, Below w.heap.size w (((w.alloc o).alloc p).alloc q)) := fun o p q => (((Below.refl _ _).alloc (Nat.le_refl _) _).alloc (by simp) _).alloc (by simp; omega) _
 go_enter Tryz.func270, Tryz.ntmps270
 go_wp2
 refine bodyPost_ret (v := .agg #[.int .i64 x.id, .int .i64 x.score]) (by simp [results, Tryz.results270, go_sem]) rfl ?_
 obtain ⟨f0, f1⟩ := uh HF
 refine ⟨[.int .i64 x.id, .int .i64 x.score], rfl, ?_, uh HB _ _ _⟩
 have own : ∀ W : World, Lay.tHit.OwnIn W [.int .i64 x.id, .int .i64 x.score] x w.heap.size w.heap.size := fun W => (Lay.ownIn_pair (Lay.ownIn_int (lo := w.heap.size) (hi := w.heap.size) f0) (Lay.ownIn_int (lo := w.heap.size) (hi := w.heap.size) f1) (Nat.le_refl _) (Nat.le_refl _) (Nat.le_refl _))
 exact (own _).mono (Nat.le_refl _) (uh HB _ _ _).size
theorem infoHit : (Tryz.prog.info? 196).map (fun i => (i.zero, i.size, decide (i.bytes ≤ 1000))) = some (some (.agg #[.int .i64 0, .int .i64 0]), 2, true) := by kernel_rfl
theorem to_HitS (v : Value) (xs : List DHit) (w : World) (h : (Lay.sl Lay.tHit).Reads w [v] xs) (hn : (Lay.sl Lay.tHit).sz xs ≤ 1048576) :
  Calls Tryz.prog 214 #[v] w fun e w' => ∃ v', e = .returned v' ∧ (Lay.sl Lay.tHit).OwnIn w' [v'] xs w.heap.size w'.heap.size ∧ Below w.heap.size w w' := by
 have hbig := h.big
 obtain ⟨ao, cap, rfl⟩ := open_sl h
 have hlen : xs.length ≤ 1048576 := Nat.le_trans Lay.sz_len hn
 obtain ⟨i0, hi, hz0, hz1, hz2⟩ : ∃ i, Tryz.prog.info? 196 = some i ∧ i.zero = some (.agg #[.int .i64 0, .int .i64 0]) ∧ i.size = 2 ∧ i.bytes ≤ 1000 := by
  have := infoHit
  cases hq : Tryz.prog.info? 196 with
  | none => rw [hq] at this; simp at this
  | some i =>
   rw [hq] at this
   simp only [Option.map_some, Option.some.injEq, Prod.mk.injEq, decide_eq_true_eq] at this
   exact ⟨i, rfl, this.1, this.2.1, this.2.2⟩
 have H := yh h
 have HN := yh hn
 clear h hn
 go_enter Tryz.func214, Tryz.ntmps214
 go_wp2_with (at_make; refine wpList_make_full _ rfl _ _ 53 rfl w.heap.size 196 i0 _ 2 Tryz.underlying53 hi hz0 hz1 _ _ _ _ xs.length rfl rfl rfl rfl ?c1 ?c2 ?c3 ?_)
 case c1 => have := Nat.mul_le_mul hz2 hlen; omega
 case c2 => unfold maxLen; omega
 case c3 => exact Nat.le_refl _
 intro w1 hown1 hgrow1
 have hB1 : Below w.heap.size w w1 := (Below.refl _ _).grown hgrow1 (Nat.le_refl _) (by simp)
 clear hgrow1 hi hz0 hz1 hz2
 have HO1 := yh hown1
 have HB1 := yh hB1
 clear hown1 hB1
 go_wp2_with fail
 go_loopw [4] (fun i wr => ∃ (k : Nat) (rows : List (List Value)) (Q : List Value) (hi : Nat), k ≤ xs.length ∧ i = .int .i64 k ∧ wr.ownsRow w.heap.size 196 2 (.slice (some ⟨w.heap.size, 0, none⟩) xs.length xs.length) xs.length (rows.flatten ++ Q) ∧ Q.length = (xs.length - k) * 2 ∧ Lay.Subs Lay.tHit wr rows (xs.take k) (w.heap.size + 1) hi ∧ hi ≤ wr.heap.size ∧ w.heap.size < hi ∧ Below w.heap.size w wr) (fun i _ => xs.length - (intOf i).toNat)
 case atStart =>
  have hl := ((uh HO1).lt w.heap.size rfl).2
  exact ⟨0, [], _, w1.heap.size, Nat.zero_le _, rfl, by simpa using uh HO1, by have := (uh HO1).1; simpa using this, Lay.subs_nil, Nat.le_refl _, hl, uh HB1⟩
 case round =>
  obtain ⟨k, rows, Q, hi, hk, rfl, hown, hQ, hsub, hhi, hlo, hB⟩ := hrel
  clear HO1 HB1
  by_cases hlt : k < xs.length
  ·
   obtain ⟨b, off, rfl, hbl⟩ := Lay.sl_addr (uh H) (by omega)
   obtain ⟨row, hc, hr⟩ := Lay.row_at (uh H) hlt
   replace hr := hr.later hB
   have hr2 := hr
   obtain ⟨blo, hlo⟩ := hr2; obtain ⟨rfl, -⟩ := lies_Hit.1 hlo; clear hlo
   have c0 : wr.cell? ⟨b, off + k * 2, none⟩ = some (.int .i64 (xs[k]).id) := (hB.cell (p := ⟨b, off + k * 2, none⟩) hbl).trans (hc 0 (by decide))
   have c1 : wr.cell? ⟨b, off + k * 2 + 1, none⟩ = some (.int .i64 (xs[k]).score) := (hB.cell (p := ⟨b, off + k * 2 + 1, none⟩) hbl).trans (hc 1 (by decide))
   have hrl : rows.flatten.length = k * 2 := by have := (Lay.subs_len hsub).1; rw [List.length_take, Nat.min_eq_left hk] at this; exact this
   have hsz := Nat.le_trans (Lay.sz_elem (A := Lay.tHit) hlt) (uh HN)
   have HT : Hid (xs.take (k + 1) = xs.take k ++ [xs[k]]) := List.take_succ_eq_append_getElem hlt
   have HB := yh hB
   have HR := yh hr
   have HO := yh hown
   have HS := yh hsub
   have HQ := yh hQ
   clear hB hr hc hown hsub hQ
   generalize hxk : xs[k] = x at *
   clear hxk
   go_wp2_with fail
   refine (to_Hit _ x wr (uh HR)).mono ?_
   rintro e w2 ⟨cs2, rfl, O, hb⟩
   have o2 := own_below (uh HO) hb
   replace HS := yh (Lay.subs_snoc (Lay.subs_ext (uh HS) (ext_of_below hb nowhere) (fun _ _ _ h => h)) O (by omega) (by omega) (Nat.le_trans hhi hb.size))
   have hb2 := (uh HB).trans (hb.mono (uh HB).size)
   have hz := hb.size
   have orr := O.reads
   obtain ⟨bloz, hloz⟩ := orr; obtain ⟨rfl, -⟩ := lies_Hit.1 hloz; clear hloz
   clear hb HR HB HO O c0 c1
   have hQ := uh HQ
   have hl5 : (rows.flatten ++ Q).length = xs.length * 2 := o2.1
   obtain ⟨u0, g0⟩ : ∃ u, w2.cell? ⟨w.heap.size, k * 2, none⟩ = some u := by
    rw [o2.cellAt (k * 2) (by omega)]
    exact ⟨_, List.getElem?_eq_getElem (by omega)⟩
   have t0 := o2.frozenAt (k * 2)
   obtain ⟨u1, g1⟩ : ∃ u, w2.cell? ⟨w.heap.size, k * 2 + 1, none⟩ = some u := by
    rw [o2.cellAt (k * 2 + 1) (by omega)]
    exact ⟨_, List.getElem?_eq_getElem (by omega)⟩
   have t1 := o2.frozenAt (k * 2 + 1)
   have o3 := own_setAll o2 (k * 2) [.int .i64 x.id, .int .i64 x.score]
   rw [show k * 2 = rows.flatten.length from hrl.symm, setFrom_app _ _ _ (by rw [hQ]; simp; have : 1 * 2 ≤ (xs.length - k) * 2 := Nat.mul_le_mul_right _ (by omega); omega), hrl] at o3
   have E : Ext (fun q => q = w.heap.size) w2 (setAll w2 w.heap.size (k * 2) [.int .i64 x.id, .int .i64 x.score]) := ext_setAll _ (Ext.refl _ _) _ _ _ rfl
   replace HS := yh (Lay.subs_ext (uh HS) E (fun q h1 h2 h3 => by omega))
   have HB := yh (below_setAll hb2 w.heap.size (k * 2) [.int .i64 x.id, .int .i64 x.score] (Nat.le_refl _))
   have HZ : Hid ((setAll w2 w.heap.size (k * 2) [.int .i64 x.id, .int .i64 x.score]).heap.size = w2.heap.size) := size_setAll _ _ _ _
   have HO : Hid ((setAll w2 w.heap.size (k * 2) [.int .i64 x.id, .int .i64 x.score]).ownsRow w.heap.size 196 2 (.slice (some ⟨w.heap.size, 0, none⟩) xs.length xs.length) xs.length ((rows ++ [([.int .i64 x.id, .int .i64 x.score] : List Value)]).flatten ++ Q.drop 2)) := by
    show (setAll w2 w.heap.size (k * 2) [.int .i64 x.id, .int .i64 x.score]).ownsRow w.heap.size 196 2 (.slice (some ⟨w.heap.size, 0, none⟩) xs.length xs.length) xs.length ((rows ++ [([.int .i64 x.id, .int .i64 x.score] : List Value)]).flatten ++ Q.drop 2)
    rw [List.flatten_append]
    simpa using o3
   have hl2 := (o2.lt w.heap.size rfl).2
   clear o3 o2 E hb2 hl5
   have hQ2 : Hid ((Q.drop 2).length = (xs.length - (k + 1)) * 2) := by
    show (Q.drop 2).length = (xs.length - (k + 1)) * 2
    rw [List.length_drop, hQ, show xs.length - k = xs.length - (k + 1) + 1 by omega, Nat.add_mul]
    omega
   clear hQ HQ
   go_wp2_with fail
   go_roundw
   case rel => exact ⟨k + 1, rows ++ [([.int .i64 x.id, .int .i64 x.score] : List Value)], Q.drop 2, w2.heap.size, by omega, by go_num, uh HO, uh hQ2, (by rw [uh HT]; exact uh HS), Nat.le_of_eq (uh HZ).symm, by omega, uh HB⟩
   case measure => simp [intOf]; omega
  obtain rfl : k = xs.length := by omega
  have e0 : Q = [] := List.eq_nil_of_length_eq_zero (by rw [hQ]; simp)
  subst e0
  rw [List.append_nil] at hown
  rw [List.take_length] at hsub
  have HO := yh (Lay.subs_done (A := Lay.tHit) hown hsub (by omega) hhi hbig)
  have HB := yh hB
  clear hown hsub hB
  go_wp2_with fail
  go_ret
  exact ⟨_, rfl, uh HO, uh HB⟩
end Go.Proofs.YtoanimpijfijgaaGreat
