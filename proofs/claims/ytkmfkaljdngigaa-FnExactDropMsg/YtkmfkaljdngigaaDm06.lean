/-
  Texts of this proof in one: NetsPlain, SpecNetF, AppInt, AppMsg, AppInts, SpecIntsB, SpecMCopy, LayMore, AppMsgs, LayPart, StoreKit, NetKit, DropPlain, SpecDropM, ImplMust, ImplUpTo, ImplNodeId, ImplInts, ImplSameW, VecOf, ImplDeed.
  Their conditions stand in their theorems.
-/
import Derived.Test.YtkmfkaljdngigaaDm04
import Derived.Test.YtkmfkaljdngigaaDm05
import Derived.Test.YtkmfkaljdngigaaDm01
import Derived.Test.YtkmfkaljdngigaaDm02
import Derived.Deep.AppendLies
import Derived.Test.YtkmfkaljdngigaaChecked
import Derived.Maps.AppendAt
import Derived.BigQuiet
import Derived.Deep.QuietTactic
import Derived.WalkSmall
import Derived.Deep.CutRange
import Derived.Test.YtkmfkaljdngigaaDm03
import Derived.WalkKit
import Derived.WalkLawsBesides
import Derived.Outline

namespace Go.Proofs.Ytkmfkaljdngigaa
open Go.RowKit

theorem sameW_refl (y : DWrite) : sameW y y = true := by simp [sameW]
theorem sameM_refl (x : DMsg) : sameM x x = true := by simp [sameM, sameW_refl]
theorem netFault_zero {xs : List DMsg} (h : netFault xs = 0) : xs.length ≤ 40 ∧ ∀ x ∈ xs, msgFault x = 0 := by
  unfold netFault at h
  split at h
  · simp at h
  · exact ⟨by omega, msgsFrom_zero h⟩
theorem netFault_ok {xs : List DMsg} (h : xs.length ≤ 40) (h2 : ∀ x ∈ xs, msgFault x = 0) : netFault xs = 0 := by
  rw [netFault, if_neg (by omega)]
  exact msgsFrom_all h2
theorem countM_le (xs : List DMsg) (z : Int) : countM xs z ≤ xs.length := List.length_filter_le _ _
theorem sendM_there {xs : List DMsg} {x : DMsg} (h : xs.any (fun y => sameM y x) = true) : sendM xs x = ⟨0, xs⟩ := by rw [sendM, if_pos h]
theorem sendM_new {xs : List DMsg} {x : DMsg} (h : xs.any (fun y => sameM y x) = false) (hl : xs.length < 40) : sendM xs x = ⟨0, xs ++ [x]⟩ := by rw [sendM, if_neg (by simp [h]), if_neg (by omega)]
theorem sendM_full {xs : List DMsg} {x : DMsg} (h : xs.any (fun y => sameM y x) = false) (hl : 40 ≤ xs.length) : sendM xs x = badNet 2 := by rw [sendM, if_neg (by simp [h]), if_pos hl]
theorem sendR_net {xs : List DMsg} {x : DMsg} (h : netFault xs ≠ 0) : sendR xs x = badNet (netFault xs) := by rw [sendR, if_neg h]
theorem sendR_msg {xs : List DMsg} {x : DMsg} (h : netFault xs = 0) (h2 : msgFault x ≠ 0) : sendR xs x = badNet (msgFault x) := by rw [sendR, if_pos h, if_neg h2]
theorem sendR_ok {xs : List DMsg} {x : DMsg} (h : netFault xs = 0) (h2 : msgFault x = 0) : sendR xs x = sendM xs x := by rw [sendR, if_pos h, if_pos h2]
/-- What holds behind a message that was sent. -/
structure Nets (xs : List DMsg) (x : DMsg) (ys : List DMsg) : Prop where
  nf : netFault xs = 0
  mf : msgFault x = 0
  send : sendR xs x = ⟨0, ys⟩
  again : sendR ys x = ⟨0, ys⟩
  yf : netFault ys = 0
  pos : 1 ≤ ys.length
  few : ys.length ≤ 40
  le : xs.length ≤ ys.length
  ca : countR xs x.dst = ⟨0, (countM xs x.dst : Nat)⟩
  cb : countR ys x.dst = ⟨0, (countM ys x.dst : Nat)⟩
  cd : countM ys x.dst = countM xs x.dst + (ys.length - xs.length)
  drop : dropMR ys ((ys.length : Int) - 1) = ⟨0, ys.take (ys.length - 1)⟩
theorem dropMR_last {ys : List DMsg} (h : netFault ys = 0) (hp : 1 ≤ ys.length) : dropMR ys ((ys.length : Int) - 1) = ⟨0, ys.take (ys.length - 1)⟩ := by
  have e : ((ys.length : Int) - 1).toNat = ys.length - 1 := by omega
  rw [dropMR, if_pos h, if_pos (by omega), e, List.drop_eq_nil_of_le (by omega), List.append_nil]
theorem nets_plain {xs : List DMsg} {x : DMsg} (h : (sendR xs x).code = 0) : ∃ ys, Nets xs x ys := by
  by_cases hn : netFault xs = 0
  · by_cases hm : msgFault x = 0
    · obtain ⟨hl, hall⟩ := netFault_zero hn
      cases ha : xs.any (fun y => sameM y x)
      · by_cases hf : xs.length < 40
        · have hyf : netFault (xs ++ [x]) = 0 := netFault_ok (by simp; omega) fun y hy => by
            rcases List.mem_append.1 hy with hy | hy
            · exact hall y hy
            · rw [List.mem_singleton.1 hy]; exact hm
          have hag : (xs ++ [x]).any (fun y => sameM y x) = true := by simp [sameM_refl]
          refine ⟨xs ++ [x], hn, hm, by rw [sendR_ok hn hm, sendM_new ha hf], by rw [sendR_ok hyf hm, sendM_there hag], hyf, by simp, by simp; omega, by simp, by rw [countR, if_pos hn], by rw [countR, if_pos hyf], ?_, dropMR_last hyf (by simp)⟩
          simp [countM, List.filter_append]
        · rw [sendR_ok hn hm, sendM_full ha (by omega)] at h
          simp [badNet] at h
      · have hp : 1 ≤ xs.length := by
          cases xs with
          | nil => simp at ha
          | cons y ys => simp
        exact ⟨xs, hn, hm, by rw [sendR_ok hn hm, sendM_there ha], by rw [sendR_ok hn hm, sendM_there ha], hn, hp, hl, Nat.le_refl _, by rw [countR, if_pos hn], by rw [countR, if_pos hn], by omega, dropMR_last hn hp⟩
    · rw [sendR_msg hn hm] at h
      exact absurd h hm
  · rw [sendR_net hn] at h
    exact absurd h hn
end Go.Proofs.Ytkmfkaljdngigaa

namespace Go.Proofs.Ytkmfkaljdngigaa
open Go.RowKit

/-- A message of a list, at its place. -/
theorem msg_row {w : World} {b off cap : Nat} {xs : List DMsg} (h : (Lay.sl Lay.tMsg).Reads w [.slice (some ⟨b, off, none⟩) xs.length cap] xs) {k : Nat} (hk : k < xs.length) : ∃ a d, MsgAt w b (off + k * 10) xs[k] (.slice a xs[k].write.vec.length d) ∧ (Lay.sl Lay.int).Reads w [.slice a xs[k].write.vec.length d] xs[k].write.vec := by
  obtain ⟨row, hc, hr⟩ := Lay.row_at h hk
  obtain ⟨a, d, rfl, R⟩ := open_Msg hr
  exact ⟨a, d, ⟨hc 0 (by decide), hc 1 (by decide), hc 2 (by decide), hc 3 (by decide), hc 4 (by decide), hc 5 (by decide), hc 6 (by decide), hc 7 (by decide), hc 8 (by decide), hc 9 (by decide)⟩, write_vec R⟩
theorem nf_many {xs : List DMsg} (h : 40 < xs.length) : netFault xs = 2 := by rw [netFault, if_pos h]
theorem nf_few {xs : List DMsg} (h : ¬ 40 < xs.length) : netFault xs = msgsFrom xs := by rw [netFault, if_neg h]

set_option maxRecDepth 10000 in
set_option maxHeartbeats 1000000 in
theorem l11FaultC (v : Value) (xs : List DMsg) (w : World) (h : (Lay.sl Lay.tMsg).Reads w [v] xs) :
    Calls Try.prog 37 #[v] w fun e w' => e = .returned (.int .i64 (netFault xs)) ∧ Below w.heap.size w w' := by
  obtain ⟨ao, cap, rfl⟩ := open_sl h
  have hbig := h.big
  have H := hide h
  clear h
  by_cases h40 : 40 < xs.length
  · have HF := hide (nf_many h40)
    have hd : decide ((40 : Int) < (xs.length : Int)) = true := by simp; omega
    go_enter Try.func37, Try.ntmps37
    go_wp2_with fail
    go_ret
    exact ⟨by rw [unhide HF]; rfl, Below.refl _ _⟩
  · have HF := hide (nf_few h40)
    have hd : decide ((40 : Int) < (xs.length : Int)) = false := by simp; omega
    go_enter Try.func37, Try.ntmps37
    go_wp2_with fail
    clear hd
    go_loopw [3] (fun i wr => ∃ k : Nat, k ≤ xs.length ∧ i = .int .i64 k ∧ (∀ j (hj : j < xs.length), j < k → msgFault xs[j] = 0) ∧ Below w.heap.size w wr) (fun i _ => xs.length - (intOf i).toNat)
    case atStart => exact ⟨0, Nat.zero_le _, rfl, fun j _ hj => by omega, Below.refl _ _⟩
    case round =>
      obtain ⟨k, hk, rfl, hz, hB⟩ := hrel
      by_cases hlt : k < xs.length
      · obtain ⟨b, off, rfl, hbl⟩ := Lay.sl_addr (unhide H) (by omega)
        obtain ⟨a, d, hM, R⟩ := msg_row ((unhide H).later hB) hlt
        have HL := hide (l11MsgC b (off + k * 10) a d xs[k] wr hM R)
        have hbr : b < wr.heap.size := Nat.lt_of_lt_of_le hbl hB.size
        have hdl : decide ((k : Int) < (xs.length : Int)) = true := by simp; omega
        have HB := hide hB
        have HAT : Hid (msgFault xs[k] ≠ 0 → msgsFrom xs = msgFault xs[k]) := fun q => msgsFrom_at hlt (fun j hj => hz j (by omega) hj) q
        have HZ2 : Hid (msgFault xs[k] = 0 → ∀ j (hj : j < xs.length), j < k + 1 → msgFault xs[j] = 0) := by
          intro h0 j hj hjk
          by_cases hjk2 : j < k
          · exact hz j hj hjk2
          · obtain rfl : j = k := by omega
            exact h0
        clear hz hM R hB
        generalize msgFault xs[k] = f at *
        go_wp2_with fail
        refine (unhide HL).mono ?_
        rintro e w2 ⟨rfl, hb⟩
        have HB2 := hide ((unhide HB).trans (hb.mono (unhide HB).size))
        clear hb HL HB
        by_cases hf : f = 0
        · have HZ3 := hide (unhide HZ2 hf)
          subst hf
          clear HZ2 HAT
          go_wp2_with fail
          go_roundw
          case rel => exact ⟨k + 1, by omega, by go_num, unhide HZ3, unhide HB2⟩
          case measure => simp [intOf]; omega
        · have HA := hide ((unhide HF).trans (unhide HAT hf))
          have hd : (f != 0) = true := by simpa using hf
          clear HZ2 HAT hf
          go_wp2_with fail
          go_ret
          exact ⟨by rw [unhide HA]; rfl, unhide HB2⟩
      · obtain rfl : k = xs.length := by omega
        have hdl : decide ((xs.length : Int) < (xs.length : Int)) = false := by simp
        have HA := hide ((unhide HF).trans (msgsFrom_all fun x hx => by obtain ⟨j, hj, rfl⟩ := List.getElem_of_mem hx; exact hz j hj hj))
        have HB := hide hB
        clear hB hz
        go_wp2_with fail
        go_ret
        exact ⟨by rw [unhide HA]; rfl, unhide HB⟩

theorem specNetFault (v : Value) (xs : List DMsg) (w : World) (h : (Lay.sl Lay.tMsg).Reads w [v] xs) :
    Calls Try.prog 14 #[v] w fun e w' => e = .returned (.int .i64 (netFault xs)) ∧ Below w.heap.size w w' := by
  have HL := hide (l11FaultC v xs w h)
  obtain ⟨ao, cap, rfl⟩ := open_sl h
  clear h
  go_enter Try.func14, Try.ntmps14
  go_wp2_with fail
  refine (unhide HL).mono ?_
  rintro e w2 ⟨rfl, hb⟩
  have HB := hide hb
  clear HL hb
  go_wp2_with fail
  go_ret
  exact ⟨rfl, unhide HB⟩
end Go.Proofs.Ytkmfkaljdngigaa

namespace Go.Proofs.Ytkmfkaljdngigaa
open Go.RowKit

theorem grown_alloc {w w' : World} {o : Obj} {r : Option Nat} (h : (w.alloc o).grownBy w' r) : w.grownBy w' r := grown_trans (World.grownBy_alloc w o r) h

/-- At an operation of a plain region: 'append(s, q)', q laid into a block of its own first. -/
theorem wpList_append_int {w1 : World} {base : Nat} {v : Value} {n : Nat} {xs : List Value} (hown : w1.ownsRow base 2 1 v n xs) (q : Int) {ops : Array Oper} {rest : List Oper} {o : Oper} {a : Act} {Q : Exit → Act → World → Prop} (hgd : o.guard = none) (s x : Operand)
    (ho : o.op = .call { callee := .builtin .append, args := #[s, x], argTypes := #[22, 22] }) (hs : a.eval s = v) (hx : a.eval x = .slice (some ⟨w1.heap.size, 0, none⟩) 1 1)
    (hn : n ≤ 100000000) (hbase : base ≤ w1.heap.size)
    (h : ∀ g cap w', w'.ownsRow base 2 1 (.slice (some ⟨g, 0, none⟩) (n + 1) cap) (n + 1) (xs ++ [.int .i64 q]) → w1.grownBy w' v.ownBlock → Below base w1 w' → g < w'.heap.size → w1.heap.size < w'.heap.size → wpList Try.prog ops Q rest (a.put o.dst (.slice (some ⟨g, 0, none⟩) (n + 1) cap)) w') :
    wpList Try.prog ops Q (o :: rest) a (w1.alloc (.cells #[.int .i64 q] 2)) := by
  obtain ⟨i0, hi0, hz0, hz1, hz2⟩ := info_parts info2
  refine wpList_append_lies _ hgd s x 22 ho base 2 i0 _ 1 8 Try.underlying22 hi0 hz0 hz1 hz2 rfl (by omega) v n xs hs (hown.alloc _) ⟨w1.heap.size, 0, none⟩ 1 1 [.int .i64 q] hx rfl (World.news_of_block (cs := #[.int .i64 q]) (t := 2) (fr := (0, 0)) (heap_alloc_new w1 _)) (by simp [Value.oneCell']) (by omega) (by unfold maxLen; omega) (by omega) (by simp; omega) (w1.heap.size + 1) (by simp) ?_
  intro g cap w' h2 h3 _ h5
  have hg := grown_alloc h3
  have hsz := h3.size
  simp only [World.size_alloc] at hsz
  exact h g cap w' h2 hg ((Below.refl _ _).grown hg hbase (fun j hj => (hown.lt j hj).1)) h5 (by omega)

end Go.Proofs.Ytkmfkaljdngigaa

namespace Go.Proofs.Ytkmfkaljdngigaa
open Go.RowKit

theorem infoAppMsg : (Try.prog.info? 31).map (fun i => (i.zero, i.size, i.bytes)) = some (some (.agg #[.int .i64 0, .int .i64 0, .int .i64 0, .int .i64 0, .int .i64 0, .int .i64 0, .int .i64 0, .slice none 0 0, .int .i64 0, .int .i64 0]), 10, 96) := by kernel_rfl
theorem one_Msg {w : World} {row : List Value} {x : DMsg} {bl : List Nat} (h : Lay.tMsg.lies w row x bl) : (∀ u ∈ row, u.oneCell' = true) ∧ row.length = 1 * 10 := by
  obtain ⟨_, _, _, rfl, -⟩ := lies_Msg.1 h
  simp [Value.oneCell']

/-- At an operation of a plain region: the new one lies in a block of its own. -/
theorem wpList_append_Msg {w1 : World} {base : Nat} {v : Value} {rows : List (List Value)} {xs : List DMsg} {bls : List (List Nat)} (hG : Grow Lay.tMsg w1 base 31 v rows xs bls) {row : List Value} {x : DMsg} {bl : List Nat} (hl : Lay.tMsg.lies w1 row x bl) (hbl : ∀ b ∈ bl, v.ownBlock ≠ some b) {ops : Array Oper} {rest : List Oper} {o : Oper} {a : Act} {Q : Exit → Act → World → Prop} (hgd : o.guard = none) (s y : Operand)
    (ho : o.op = .call { callee := .builtin .append, args := #[s, y], argTypes := #[38, 38] }) (hs : a.eval s = v) (hy : a.eval y = .slice (some ⟨w1.heap.size, 0, none⟩) 1 1) (hn : xs.length + 1 ≤ 100000000) (hbase : base ≤ w1.heap.size)
    (h : ∀ g cap w', Grow Lay.tMsg w' base 31 (.slice (some ⟨g, 0, none⟩) (xs.length + 1) cap) (rows ++ [row]) (xs ++ [x]) (bls ++ [bl]) → Below base w1 w' → Ext (fun q => v.ownBlock = some q) w1 w' → g < w'.heap.size → w1.heap.size ≤ w'.heap.size → (v.ownBlock = some g ∨ w1.heap.size ≤ g) → wpList Try.prog ops Q rest (a.put o.dst (.slice (some ⟨g, 0, none⟩) (xs.length + 1) cap)) w') :
    wpList Try.prog ops Q (o :: rest) a (w1.alloc (.cells row.toArray 31)) := by
  obtain ⟨i0, hi0, hz0, hz1, hz2⟩ := info_parts infoAppMsg
  obtain ⟨h1, hlen⟩ := one_Msg hl
  refine wpList_append_lies _ hgd s y 38 ho base 31 i0 _ 10 96 Try.underlying38 hi0 hz0 hz1 hz2 rfl (by omega) v xs.length rows.flatten hs (hG.own.alloc _) ⟨w1.heap.size, 0, none⟩ 1 1 row hy hlen (World.news_of_block (cs := row.toArray) (t := 31) (fr := (0, 0)) (heap_alloc_new w1 _)) h1 (by omega) (by unfold maxLen; omega) (by omega) (by simp; omega) (w1.alloc (.cells row.toArray 31)).heap.size rfl ?_
  intro g cap w' h2 h3 h4 h5
  have hg := grown_alloc h3
  have hbw : Below base w1 w' := (Below.refl _ _).grown hg hbase (fun j hj => (hG.own.lt j hj).1)
  have hor : v.ownBlock = some g ∨ w1.heap.size ≤ g := by
    rcases h4 with h4 | h4
    · exact Or.inl h4
    · exact Or.inr (by rw [h4]; simp)
  exact h g cap w' (hG.snoc hl hbl h2 hg hor) hbw ⟨hbw.os, hbw.tape, hbw.output, hbw.size, fun k hk hn => hg.block k hk (fun e => hn e.symm)⟩ h5 hbw.size hor

/-- At a step of a region that draws its order. -/
theorem step_append_Msg {w1 : World} {base : Nat} {v : Value} {rows : List (List Value)} {xs : List DMsg} {bls : List (List Nat)} (hG : Grow Lay.tMsg w1 base 31 v rows xs bls) {row : List Value} {x : DMsg} {bl : List Nat} (hl : Lay.tMsg.lies w1 row x bl) (hbl : ∀ b ∈ bl, v.ownBlock ≠ some b) {ops : Array Oper} {o : Oper} {a : Act} {K : Act → World → Prop} {Q : Exit → Act → World → Prop} {E : Prop} (hgd : o.guard = none) (s y : Operand)
    (ho : o.op = .call { callee := .builtin .append, args := #[s, y], argTypes := #[38, 38] }) (hs : a.eval s = v) (hy : a.eval y = .slice (some ⟨w1.heap.size, 0, none⟩) 1 1) (hn : xs.length + 1 ≤ 100000000) (hbase : base ≤ w1.heap.size)
    (h : ∀ g cap w', Grow Lay.tMsg w' base 31 (.slice (some ⟨g, 0, none⟩) (xs.length + 1) cap) (rows ++ [row]) (xs ++ [x]) (bls ++ [bl]) → Below base w1 w' → Ext (fun q => v.ownBlock = some q) w1 w' → g < w'.heap.size → w1.heap.size ≤ w'.heap.size → (v.ownBlock = some g ∨ w1.heap.size ≤ g) → K (a.put o.dst (.slice (some ⟨g, 0, none⟩) (xs.length + 1) cap)) w') :
    if Region.wanted o (yielded ops a.tmps) = true then Oper.wp Try.prog o a (w1.alloc (.cells row.toArray 31)) K Q else E := by
  obtain ⟨i0, hi0, hz0, hz1, hz2⟩ := info_parts infoAppMsg
  obtain ⟨h1, hlen⟩ := one_Msg hl
  refine step_append_lies _ hgd s y 38 ho base 31 i0 _ 10 96 Try.underlying38 hi0 hz0 hz1 hz2 rfl (by omega) v xs.length rows.flatten hs (hG.own.alloc _) ⟨w1.heap.size, 0, none⟩ 1 1 row hy hlen (World.news_of_block (cs := row.toArray) (t := 31) (fr := (0, 0)) (heap_alloc_new w1 _)) h1 (by omega) (by unfold maxLen; omega) (by omega) (by simp; omega) (w1.alloc (.cells row.toArray 31)).heap.size rfl ?_
  intro g cap w' h2 h3 h4 h5
  have hg := grown_alloc h3
  have hbw : Below base w1 w' := (Below.refl _ _).grown hg hbase (fun j hj => (hG.own.lt j hj).1)
  have hor : v.ownBlock = some g ∨ w1.heap.size ≤ g := by
    rcases h4 with h4 | h4
    · exact Or.inl h4
    · exact Or.inr (by rw [h4]; simp)
  exact h g cap w' (hG.snoc hl hbl h2 hg hor) hbw ⟨hbw.os, hbw.tape, hbw.output, hbw.size, fun k hk hn => hg.block k hk (fun e => hn e.symm)⟩ h5 hbw.size hor

end Go.Proofs.Ytkmfkaljdngigaa

namespace Go.Proofs.Ytkmfkaljdngigaa
open Go.RowKit

theorem append_noneI {P : Program} (t ty e : TypeId) (i : TypeInfo) (ht : P.underlying t = some (.slice e)) (hi : P.info? e = some i) (bo : Option Addr) (n cap c : Nat) (hn : n ≤ cap) (w : World) :
    (Builtin.append_ #[t, t] ty #[.slice bo n cap, .slice none 0 c]).run P w = (Builtin.append_ #[t, t] ty #[.slice bo n cap, .slice (some ⟨0, 0, none⟩) 0 c]).run P w := by
  simp [Builtin.append_, run_underlying ht, sizeOf, typeInfo, hi, Builtin.lenOf, hn, Builtin.firstCells, loadCells, loadCellsFrom]

theorem IsInts.news {w : World} {b off cap : Nat} {zs : List Int} (h : IsInts w (.slice (some ⟨b, off, none⟩) zs.length cap) zs) (hp : 0 < zs.length) : ∀ j u, (zs.map (Value.int .i64))[j]? = some u → w.cell? ((⟨b, off, none⟩ : Addr).add j) = some u := by
  intro j u hu
  obtain ⟨ao, cp, hv, hwf, hc⟩ := h
  obtain ⟨b', off', hao, hc1⟩ := hc hp
  simp only [Value.slice.injEq] at hv
  obtain ⟨rfl, -, -⟩ := hv
  simp only [Option.some.injEq, Addr.mk.injEq, and_true] at hao
  obtain ⟨rfl, rfl⟩ := hao
  have hj : j < zs.length := by
    have := (List.getElem?_eq_some_iff.1 hu).1
    simpa using this
  rw [Addr.add_lit, hc1 j hj]
  simp [hj] at hu
  simp [List.getD, hj, hu]

theorem run_append_ints {w : World} (base ty : Nat) (v : Value) (n : Nat) (xs : List Value) (hown : w.ownsRow base 2 1 v n xs) (x : Value) (ks : List Int) (hx : IsInts w x ks)
    (hn : n + ks.length ≤ 100000000) (hbase : base ≤ w.heap.size) :
    ∃ v' w', (Builtin.append_ #[22, 22] ty #[v, x]).run Try.prog w = .ok v' w' ∧ w'.ownsRow base 2 1 v' (n + ks.length) (xs ++ ks.map (Value.int .i64)) ∧ w.grownBy w' v.ownBlock := by
  obtain ⟨i0, hi, hz0, hz1, hz2⟩ := info_parts info2
  have hml : n + ks.length ≤ maxLen := by unfold maxLen; omega
  by_cases hp : 0 < ks.length
  · have hx' := hx
    obtain ⟨ao, cap, rfl, hwf, hc⟩ := hx'
    obtain ⟨b, off, rfl, hc1⟩ := hc hp
    obtain ⟨v', w', r1, r2, r3, -, -⟩ := run_append_own_at (P := Try.prog) w base 22 ty 2 i0 _ 1 8 Try.underlying22 hi hz0 hz1 hz2 rfl (by omega) v n xs hown ⟨b, off, none⟩ ks.length cap (ks.map (Value.int .i64)) (by simp) (hx.news hp) (by simp [Value.oneCell']) hml (by omega) hbase
    exact ⟨v', w', r1, r2, r3⟩
  · obtain rfl : ks = [] := List.eq_nil_of_length_eq_zero (by omega)
    obtain ⟨ao, cap, rfl, hwf, hc⟩ := hx
    cases ao with
    | none =>
      obtain ⟨v', w', r1, r2, r3, -, -⟩ := run_append_own_at (P := Try.prog) w base 22 ty 2 i0 _ 1 8 Try.underlying22 hi hz0 hz1 hz2 rfl (by omega) v n xs hown ⟨0, 0, none⟩ 0 cap [] rfl (by simp) (by simp) hml (by simp at hn; omega) hbase
      refine ⟨v', w', ?_, r2, r3⟩
      rcases hown.2 with ⟨rfl, h0⟩ | ⟨g, cp, cur, rfl, _, _, hle, _⟩
      · exact (append_noneI _ _ _ i0 Try.underlying22 hi none 0 0 cap (Nat.le_refl _) w).trans r1
      · exact (append_noneI _ _ _ i0 Try.underlying22 hi _ n cp cap hle w).trans r1
    | some ad =>
      obtain ⟨v', w', r1, r2, r3, -, -⟩ := run_append_own_at (P := Try.prog) w base 22 ty 2 i0 _ 1 8 Try.underlying22 hi hz0 hz1 hz2 rfl (by omega) v n xs hown ad 0 cap [] rfl (by simp) (by simp) hml (by simp at hn; omega) hbase
      exact ⟨v', w', r1, r2, r3⟩

/-- The same at an operation of a plain region. -/
theorem wpList_append_ints {w : World} {base : Nat} {v : Value} {n : Nat} {xs : List Value} (hown : w.ownsRow base 2 1 v n xs) {X : Value} {ks : List Int} (hx : IsInts w X ks)
    {ops : Array Oper} {rest : List Oper} {o : Oper} {a : Act} {Q : Exit → Act → World → Prop} (hgd : o.guard = none) (s x : Operand)
    (ho : o.op = .call { callee := .builtin .append, args := #[s, x], argTypes := #[22, 22] }) (hv : a.eval s = v) (hX : a.eval x = X)
    (hn : n + ks.length ≤ 100000000) (hbase : base ≤ w.heap.size)
    (h : ∀ v' w', w'.ownsRow base 2 1 v' (n + ks.length) (xs ++ ks.map (Value.int .i64)) → w.grownBy w' v.ownBlock → Below base w w' → wpList Try.prog ops Q rest (a.put o.dst v') w') :
    wpList Try.prog ops Q (o :: rest) a w := by
  refine wpList_plain hgd fun K hK => ?_
  obtain ⟨v', w', hr, h2, h3⟩ := run_append_ints base o.type v n xs hown X ks hx hn hbase
  unfold Oper.wp execOp
  simp only [ho, resolve, invoke, builtin, Sem.run_bind, Sem.run_pure, Result.andThen_ok, List.map_toArray, List.map_cons, List.map_nil, hv, hX, hr]
  exact hK _ _ (h v' w' h2 h3 ((Below.refl _ _).grown h3 hbase (fun j hj => (hown.lt j hj).1)))

end Go.Proofs.Ytkmfkaljdngigaa

namespace Go.Proofs.Ytkmfkaljdngigaa
open Go.RowKit

set_option maxHeartbeats 400000 in
theorem l1Ints (v : Value) (zs : List Int) (w : World) (h : IsInts w v zs) (hn : zs.length ≤ 100000000) :
    Calls Try.prog 68 #[v] w fun e w' => ∃ v', e = .returned v' ∧ w'.ownsRow w.heap.size 2 1 v' zs.length (zs.map (Value.int .i64)) ∧ Below w.heap.size w w' := by
  have nb : Below w.heap.size w (w.alloc (.cells #[] 2)) := (Below.refl _ _).alloc (Nat.le_refl _) _
  have O : (w.alloc (.cells #[] 2)).ownsRow w.heap.size 2 1 (.slice (some ⟨w.heap.size, 0, none⟩) 0 0) 0 [] := World.ownsRow_lit w _ 0 (Nat.le_refl _) (by unfold maxLen; omega) rfl
  have h1 := h.later nb
  obtain ⟨ao, cap, rfl, -⟩ := h
  have HB := hide nb
  clear nb
  go_enter Try.func68, Try.ntmps68
  go_wp2_with (at_builtin; refine wpList_append_ints O h1 rfl _ _ rfl rfl rfl (by omega) (by simp) ?_)
  rintro v' w' O2 - hb
  have HB2 := hide ((unhide HB).trans hb)
  clear O h1 hb HB
  go_wp2_with fail
  go_ret
  exact ⟨v', rfl, by simpa using O2, unhide HB2⟩

end Go.Proofs.Ytkmfkaljdngigaa

namespace Go.Proofs.Ytkmfkaljdngigaa
open Go.RowKit

set_option maxRecDepth 100000 in
set_option maxHeartbeats 4000000 in
theorem mcopy_pos (b off cap : Nat) (ws : List DMsg) (w : World) (h : (Lay.sl Lay.tMsg).Reads w [.slice (some ⟨b, off, none⟩) ws.length cap] ws) (hbl : b < w.heap.size) (hn : ws.length ≤ 10000000) (hv : ∀ x ∈ ws, x.write.vec.length ≤ 100000000) :
    Calls Try.prog 48 #[.slice (some ⟨b, off, none⟩) ws.length cap] w fun e w' => ∃ v', e = .returned v' ∧ (∃ rows bls, Grow Lay.tMsg w' w.heap.size 31 v' rows ws bls ∧ ∀ c ∈ bls.flatten, w.heap.size ≤ c) ∧ Below w.heap.size w w' := by
  have H := hide h
  have HV := hide hv
  clear h hv
  have HG0 : Hid (Grow Lay.tMsg (w.alloc (.cells #[] 31)) w.heap.size 31 (.slice (some ⟨w.heap.size, 0, none⟩) 0 0) [] [] []) := Grow.nil (World.ownsRow_lit w #[] 0 (Nat.le_refl _) (Nat.zero_le _) rfl)
  have HB0 := hide ((Below.refl w.heap.size w).alloc (Nat.le_refl _) (.cells #[] 31))
  go_enter Try.func48, Try.ntmps48
  go_wp2_with fail
  go_loopw [3, 4] (fun v i wr => ∃ (k : Nat) (rows : List (List Value)) (bls : List (List Nat)), k ≤ ws.length ∧ i = .int .i64 k ∧ Grow Lay.tMsg wr w.heap.size 31 v rows (ws.take k) bls ∧ (∀ c ∈ bls.flatten, w.heap.size ≤ c) ∧ Below w.heap.size w wr) (fun _ i _ => ws.length - (intOf i).toNat)
  case atStart => exact ⟨0, [], [], Nat.zero_le _, rfl, unhide HG0, by simp, unhide HB0⟩
  case round =>
    obtain ⟨k, rows, bls, hk, rfl, hG, hSB, hB⟩ := hrel
    have HSB := hide hSB
    clear HG0 HB0 hSB
    by_cases hlt : k < ws.length
    · obtain ⟨row, hc, hr⟩ := Lay.row_at ((unhide H).later hB) hlt
      have hr2 := hr
      obtain ⟨a2, d2, rfl, R2w⟩ := open_Msg hr
      have R2 := write_vec R2w
      clear R2w
      have c0 : wr.cell? ⟨b, off + k * 10, none⟩ = some (.int .i64 (ws[k]).kind) := hc 0 (by decide)
      have c1 : wr.cell? ⟨b, off + k * 10 + 1, none⟩ = some (.int .i64 (ws[k]).epoch) := hc 1 (by decide)
      have c2 : wr.cell? ⟨b, off + k * 10 + 2, none⟩ = some (.int .i64 (ws[k]).src) := hc 2 (by decide)
      have c3 : wr.cell? ⟨b, off + k * 10 + 3, none⟩ = some (.int .i64 (ws[k]).dst) := hc 3 (by decide)
      have c4 : wr.cell? ⟨b, off + k * 10 + 4, none⟩ = some (.int .i64 (ws[k]).index) := hc 4 (by decide)
      have c5 : wr.cell? ⟨b, off + k * 10 + 5, none⟩ = some (.int .i64 (ws[k]).write.kind) := hc 5 (by decide)
      have c6 : wr.cell? ⟨b, off + k * 10 + 6, none⟩ = some (.int .i64 (ws[k]).write.id) := hc 6 (by decide)
      have c7 : wr.cell? ⟨b, off + k * 10 + 7, none⟩ = some (.slice a2 (ws[k]).write.vec.length d2) := hc 7 (by decide)
      have c8 : wr.cell? ⟨b, off + k * 10 + 8, none⟩ = some (.int .i64 (ws[k]).write.session) := hc 8 (by decide)
      have c9 : wr.cell? ⟨b, off + k * 10 + 9, none⟩ = some (.int .i64 (ws[k]).write.seq) := hc 9 (by decide)
      have HWF : Hid ((Lit.int .i64 (ws[k]).kind).wf = true ∧ (Lit.int .i64 (ws[k]).epoch).wf = true ∧ (Lit.int .i64 (ws[k]).src).wf = true ∧ (Lit.int .i64 (ws[k]).dst).wf = true ∧ (Lit.int .i64 (ws[k]).index).wf = true ∧ (Lit.int .i64 (ws[k]).write.kind).wf = true ∧ (Lit.int .i64 (ws[k]).write.id).wf = true ∧ (Lit.int .i64 (ws[k]).write.session).wf = true ∧ (Lit.int .i64 (ws[k]).write.seq).wf = true) := by
        obtain ⟨_, hq⟩ := hr2
        obtain ⟨_, _, _, _, _, q0, q1, q2, q3, q4, q5, q6, _, q8, q9⟩ := lies_Msg.1 hq
        exact ⟨q0, q1, q2, q3, q4, q5, q6, q8, q9⟩
      have HT : Hid (ws.take (k + 1) = ws.take k ++ [ws[k]]) := List.take_succ_eq_append_getElem hlt
      have HLn : Hid ((ws.take k).length = k) := by show (ws.take k).length = k; rw [List.length_take]; omega
      have HN := hide (unhide HV ws[k] (List.getElem_mem hlt))
      clear hc hr hr2
      generalize hx : ws[k] = x at *
      clear hx
      have hbr : b < wr.heap.size := Nat.lt_of_lt_of_le hbl hB.size
      have nb : Below wr.heap.size wr (wr.alloc (.cells #[.int .i64 x.kind, .int .i64 x.epoch, .int .i64 x.src, .int .i64 x.dst, .int .i64 x.index, .int .i64 x.write.kind, .int .i64 x.write.id, .slice a2 x.write.vec.length d2, .int .i64 x.write.session, .int .i64 x.write.seq] 31)) := (Below.refl _ _).alloc (Nat.le_refl _) _
      have bI : Box 0 #[.int .i64 x.kind, .int .i64 x.epoch, .int .i64 x.src, .int .i64 x.dst, .int .i64 x.index, .int .i64 x.write.kind, .int .i64 x.write.id, .slice a2 x.write.vec.length d2, .int .i64 x.write.session, .int .i64 x.write.seq] 31 (wr.alloc (.cells #[.int .i64 x.kind, .int .i64 x.epoch, .int .i64 x.src, .int .i64 x.dst, .int .i64 x.index, .int .i64 x.write.kind, .int .i64 x.write.id, .slice a2 x.write.vec.length d2, .int .i64 x.write.session, .int .i64 x.write.seq] 31)) wr.heap.size := newBox (Nat.zero_le _)
      have HRW := hide (Lay.ints_reads R2).wf
      have HL := hide (l1Ints _ x.write.vec _ ((Lay.ints_reads R2).later nb) (unhide HN))
      have HG := hide (hG.later nb)
      have HB := hide (hB.trans (nb.mono hB.size))
      have HBI := hide bI
      have HZW : Hid (w.heap.size ≤ wr.heap.size) := hB.size
      have HOW : Hid (∀ c, u3.ownBlock = some c → c < wr.heap.size) := fun c hc => (hG.own.lt c hc).2
      have HSL : Hid (∀ c ∈ bls.flatten, c < wr.heap.size) := fun c hc => hG.sub_lt c hc
      clear R2 hG hB nb bI
      go_wp2_with fail
      clear c0 c1 c2 c3 c4 c5 c6 c7 c8 c9
      refine (unhide HL).mono ?_
      generalize hW0 : wr.alloc (.cells #[.int .i64 x.kind, .int .i64 x.epoch, .int .i64 x.src, .int .i64 x.dst, .int .i64 x.index, .int .i64 x.write.kind, .int .i64 x.write.id, .slice a2 x.write.vec.length d2, .int .i64 x.write.session, .int .i64 x.write.seq] 31) = W0 at *
      clear hW0
      rintro e w2 ⟨v2, rfl, hO, hb⟩
      have hO2 := Lay.ownInts (unhide HRW) (by have := unhide HN; omega) hO
      obtain ⟨ao2, cp2, rfl⟩ := open_sl hO2.reads
      obtain ⟨bl2, ⟨hl2, -, -⟩, hr2⟩ := hO2
      have bI2 := (unhide HBI).keep hb
      have hZ0 : wr.heap.size < W0.heap.size := (unhide HBI).lt
      have z0 : w2.cell? ⟨wr.heap.size, 0, none⟩ = some (.int .i64 x.kind) := bI2.at 0 _ rfl
      have z1 : w2.cell? ⟨wr.heap.size, 1, none⟩ = some (.int .i64 x.epoch) := bI2.at 1 _ rfl
      have z2 : w2.cell? ⟨wr.heap.size, 2, none⟩ = some (.int .i64 x.src) := bI2.at 2 _ rfl
      have z3 : w2.cell? ⟨wr.heap.size, 3, none⟩ = some (.int .i64 x.dst) := bI2.at 3 _ rfl
      have z4 : w2.cell? ⟨wr.heap.size, 4, none⟩ = some (.int .i64 x.index) := bI2.at 4 _ rfl
      have z5 : w2.cell? ⟨wr.heap.size, 5, none⟩ = some (.int .i64 x.write.kind) := bI2.at 5 _ rfl
      have z6 : w2.cell? ⟨wr.heap.size, 6, none⟩ = some (.int .i64 x.write.id) := bI2.at 6 _ rfl
      have z7 : w2.cell? ⟨wr.heap.size, 7, none⟩ = some (.slice a2 x.write.vec.length d2) := bI2.at 7 _ rfl
      have z8 : w2.cell? ⟨wr.heap.size, 8, none⟩ = some (.int .i64 x.write.session) := bI2.at 8 _ rfl
      have z9 : w2.cell? ⟨wr.heap.size, 9, none⟩ = some (.int .i64 x.write.seq) := bI2.at 9 _ rfl
      have f2 := bI2.soft 7
      have l2 := bI2.lt
      have hE : Ext (fun c => c = wr.heap.size) w2 (w2.setCell ⟨wr.heap.size, 7, none⟩ (.slice ao2 x.write.vec.length cp2)) := (Ext.refl (fun c => c = wr.heap.size) w2).setCell ⟨wr.heap.size, 7, none⟩ _ rfl
      have hl3 : Lay.tMsg.lies (w2.setCell ⟨wr.heap.size, 7, none⟩ (.slice ao2 x.write.vec.length cp2)) [.int .i64 x.kind, .int .i64 x.epoch, .int .i64 x.src, .int .i64 x.dst, .int .i64 x.index, .int .i64 x.write.kind, .int .i64 x.write.id, .slice ao2 x.write.vec.length cp2, .int .i64 x.write.session, .int .i64 x.write.seq] x bl2 := lies_Msg.2 ⟨ao2, cp2, bl2, rfl, rfl, (unhide HWF).1, (unhide HWF).2.1, (unhide HWF).2.2.1, (unhide HWF).2.2.2.1, (unhide HWF).2.2.2.2.1, (unhide HWF).2.2.2.2.2.1, (unhide HWF).2.2.2.2.2.2.1, (Lay.sl Lay.int).keep hl2 (fun c hc => hE.block c ((Lay.sl Lay.int).lt hl2 c hc) (by have := (hr2 c hc).1; omega)), (unhide HWF).2.2.2.2.2.2.2.1, (unhide HWF).2.2.2.2.2.2.2.2⟩
      have hG2 := (unhide HG).later hb
      have hoff : ∀ c ∈ bl2, u3.ownBlock ≠ some c := fun c hc e => by have h1 := (hr2 c hc).1; have h2 := unhide HOW c e; omega
      have HB3 : Hid (Below w.heap.size w (w2.setCell ⟨wr.heap.size, 7, none⟩ (.slice ao2 x.write.vec.length cp2))) := ((unhide HB).trans (hb.mono (unhide HB).size)).setCell (by simpa using unhide HZW) _
      have hG3 : Grow Lay.tMsg (w2.setCell ⟨wr.heap.size, 7, none⟩ (.slice ao2 x.write.vec.length cp2)) w.heap.size 31 u3 rows (ws.take k) bls := hG2.kept (by
        obtain ⟨h1, h2⟩ := hG2.own
        refine ⟨h1, ?_⟩
        rcases h2 with h2 | ⟨gb, cap', cur, hv, hg, hh, r⟩
        · exact Or.inl h2
        · exact Or.inr ⟨gb, cap', cur, hv, hg, (hE.block gb (lt_of_block hh) (by have := unhide HOW gb (by rw [hv]; rfl); omega)).trans hh, r⟩) (fun c hc => hE.block c (hG2.sub_lt c hc) (fun e => by
        have := unhide HSL c hc
        omega))
      have hZ3 : w.heap.size ≤ (w2.setCell ⟨wr.heap.size, 7, none⟩ (.slice ao2 x.write.vec.length cp2)).heap.size := (unhide HB3).size
      have hK : (ws.take k).length + 1 ≤ 100000000 := by rw [unhide HLn]; omega
      have y0 : (w2.setCell ⟨wr.heap.size, 7, none⟩ (.slice ao2 x.write.vec.length cp2)).cell? ⟨wr.heap.size, 0, none⟩ = some (.int .i64 x.kind) := (bI2.set 7 _).at 0 _ rfl
      have y1 : (w2.setCell ⟨wr.heap.size, 7, none⟩ (.slice ao2 x.write.vec.length cp2)).cell? ⟨wr.heap.size, 1, none⟩ = some (.int .i64 x.epoch) := (bI2.set 7 _).at 1 _ rfl
      have y2 : (w2.setCell ⟨wr.heap.size, 7, none⟩ (.slice ao2 x.write.vec.length cp2)).cell? ⟨wr.heap.size, 2, none⟩ = some (.int .i64 x.src) := (bI2.set 7 _).at 2 _ rfl
      have y3 : (w2.setCell ⟨wr.heap.size, 7, none⟩ (.slice ao2 x.write.vec.length cp2)).cell? ⟨wr.heap.size, 3, none⟩ = some (.int .i64 x.dst) := (bI2.set 7 _).at 3 _ rfl
      have y4 : (w2.setCell ⟨wr.heap.size, 7, none⟩ (.slice ao2 x.write.vec.length cp2)).cell? ⟨wr.heap.size, 4, none⟩ = some (.int .i64 x.index) := (bI2.set 7 _).at 4 _ rfl
      have y5 : (w2.setCell ⟨wr.heap.size, 7, none⟩ (.slice ao2 x.write.vec.length cp2)).cell? ⟨wr.heap.size, 5, none⟩ = some (.int .i64 x.write.kind) := (bI2.set 7 _).at 5 _ rfl
      have y6 : (w2.setCell ⟨wr.heap.size, 7, none⟩ (.slice ao2 x.write.vec.length cp2)).cell? ⟨wr.heap.size, 6, none⟩ = some (.int .i64 x.write.id) := (bI2.set 7 _).at 6 _ rfl
      have y7 : (w2.setCell ⟨wr.heap.size, 7, none⟩ (.slice ao2 x.write.vec.length cp2)).cell? ⟨wr.heap.size, 7, none⟩ = some (.slice ao2 x.write.vec.length cp2) := (bI2.set 7 _).at 7 _ rfl
      have y8 : (w2.setCell ⟨wr.heap.size, 7, none⟩ (.slice ao2 x.write.vec.length cp2)).cell? ⟨wr.heap.size, 8, none⟩ = some (.int .i64 x.write.session) := (bI2.set 7 _).at 8 _ rfl
      have y9 : (w2.setCell ⟨wr.heap.size, 7, none⟩ (.slice ao2 x.write.vec.length cp2)).cell? ⟨wr.heap.size, 9, none⟩ = some (.int .i64 x.write.seq) := (bI2.set 7 _).at 9 _ rfl
      have HSB5 : Hid (∀ c ∈ (bls ++ [bl2]).flatten, w.heap.size ≤ c) := by
        intro c hc
        rw [List.flatten_append] at hc
        rcases List.mem_append.1 hc with hc | hc
        · exact unhide HSB c hc
        · have h1 := (hr2 c (by simpa using hc)).1
          have h2 := unhide HZW
          omega
      clear z0 z1 z2 z3 z4 z5 z6 z8 z9 bI2 hE hG2 hl2 hO HG HL HB HBI HRW HN HWF hb hr2 hZ0
      go_upto_region 7 with fail
      generalize w2.setCell ⟨wr.heap.size, 7, none⟩ (.slice ao2 x.write.vec.length cp2) = W3 at *
      go_wp2_with (at_builtin; refine wpList_append_Msg hG3 hl3 hoff rfl _ _ rfl rfl rfl hK hZ3 ?_)
      intro g5 cap5 w5 hG5 hb5 hE5 hg5 hz5 hor5
      have HG5 := hide hG5
      have HB5 := hide ((unhide HB3).trans hb5)
      clear hG3 hl3 hoff hZ3 hK hG5 hb5 hE5 hg5 hz5 hor5 HB3 y0 y1 y2 y3 y4 y5 y6 y7 y8 y9 z7 f2 l2
      go_wp2_with fail
      go_roundw
      case rel =>
        have hg := unhide HG5
        rw [← unhide HT] at hg
        try rw [unhide HLn] at hg
        exact ⟨k + 1, _, _, by omega, by go_num, hg, unhide HSB5, unhide HB5⟩
      case measure => simp [intOf]; omega
    · obtain rfl : k = ws.length := by omega
      rw [List.take_length] at hG
      have HG := hide hG
      have HB := hide hB
      clear hG hB H
      go_wp2_with fail
      go_ret
      exact ⟨_, rfl, ⟨_, _, unhide HG, unhide HSB⟩, unhide HB⟩

/-- l11Copy of the model. -/
theorem mcopyC (v : Value) (ws : List DMsg) (w : World) (h : (Lay.sl Lay.tMsg).Reads w [v] ws) (hn : ws.length ≤ 10000000) (hv : ∀ x ∈ ws, x.write.vec.length ≤ 100000000) :
    Calls Try.prog 48 #[v] w fun e w' => ∃ v', e = .returned v' ∧ (∃ rows bls, Grow Lay.tMsg w' w.heap.size 31 v' rows ws bls ∧ ∀ c ∈ bls.flatten, w.heap.size ≤ c) ∧ Below w.heap.size w w' := by
  obtain ⟨ao, cap, rfl⟩ := open_sl h
  by_cases hp : 0 < ws.length
  · obtain ⟨b, off, rfl, hbl⟩ := Lay.sl_addr h hp
    exact mcopy_pos b off cap ws w h hbl hn hv
  · obtain rfl : ws = [] := List.eq_nil_of_length_eq_zero (by omega)
    clear h hp hn hv
    have HB := hide ((Below.refl w.heap.size w).alloc (Nat.le_refl _) (.cells #[] 31))
    have HG : Hid (Grow Lay.tMsg (w.alloc (.cells #[] 31)) w.heap.size 31 (.slice (some ⟨w.heap.size, 0, none⟩) 0 0) [] [] []) := Grow.nil (World.ownsRow_lit w #[] 0 (Nat.le_refl _) (Nat.zero_le _) rfl)
    go_enter Try.func48, Try.ntmps48
    go_wp2_with fail
    refine wp_loop_rounds 1 ?_
    rw [rounds_succ]
    go_wp2_with fail
    go_ret
    exact ⟨_, rfl, ⟨_, _, unhide HG, by simp⟩, unhide HB⟩

end Go.Proofs.Ytkmfkaljdngigaa

namespace Go.Proofs.Ytkmfkaljdngigaa
open Go.RowKit

theorem append_noneL {P : Program} (t ty e : TypeId) (i : TypeInfo) (ht : P.underlying t = some (.slice e)) (hi : P.info? e = some i) (bo : Option Addr) (n cap c : Nat) (hn : n ≤ cap) (w : World) :
    (Builtin.append_ #[t, t] ty #[.slice bo n cap, .slice none 0 c]).run P w = (Builtin.append_ #[t, t] ty #[.slice bo n cap, .slice (some ⟨0, 0, none⟩) 0 c]).run P w := by
  simp [Builtin.append_, run_underlying ht, sizeOf, typeInfo, hi, Builtin.lenOf, hn, Builtin.firstCells, loadCells, loadCellsFrom]
theorem flat_lenL {n : Nat} : ∀ {rows : List (List Value)}, (∀ r ∈ rows, r.length = n) → rows.flatten.length = rows.length * n
  | [], _ => by simp
  | r :: rows, h => by
    rw [List.flatten_cons, List.length_append, h r (by simp), flat_lenL (fun q hq => h q (List.mem_cons_of_mem _ hq)), List.length_cons, Nat.add_mul]
    omega
theorem addr_add (b off j : Nat) : (⟨b, off, none⟩ : Addr).add j = ⟨b, off + j, none⟩ := by unfold Addr.add; split <;> simp_all
/-- What a slice of data holds, cell by cell. -/
theorem news_rows {α : Type} {A : Lay α} {w : World} {b off : Nat} {ys : List α} {rows : List (List Value)} {bls : List (List Nat)} (hn : 0 < A.n) (h : A.Rows w b off ys rows bls) :
    rows.flatten.length = ys.length * A.n ∧ ∀ j u, rows.flatten[j]? = some u → w.cell? ((⟨b, off, none⟩ : Addr).add j) = some u := by
  obtain ⟨h1, h2, h3⟩ := h
  have hl : ∀ r ∈ rows, r.length = A.n := fun r hr => by
    obtain ⟨j, hj, rfl⟩ := List.getElem_of_mem hr
    exact A.len (h3 j (by omega) hj (by omega)).2
  have hf := flat_lenL hl
  refine ⟨by rw [hf, h1], fun j u hu => ?_⟩
  have hj : j < rows.flatten.length := by
    rcases Nat.lt_or_ge j rows.flatten.length with hq | hq
    · exact hq
    · rw [List.getElem?_eq_none hq] at hu; simp at hu
  have hm : j % A.n < A.n := Nat.mod_lt _ hn
  have hd : j / A.n < rows.length := by
    rw [hf] at hj
    exact Nat.div_lt_of_lt_mul (by rw [Nat.mul_comm]; exact hj)
  have hjm : j / A.n * A.n + j % A.n = j := by rw [Nat.mul_comm]; exact Nat.div_add_mod j A.n
  have e1 := Lay.flat_at hl (j / A.n) (j % A.n) hd hm
  rw [hjm, hu] at e1
  have e2 := (h3 (j / A.n) (by omega) hd (by omega)).1 (j % A.n) hm
  rw [addr_add, ← hjm, ← Nat.add_assoc, e2, ← e1]

theorem Grow.more {α : Type} {A : Lay α} {P : Program} {w : World} {base e : Nat} {v : Value} {rows : List (List Value)} {xs : List α} {bls : List (List Nat)} (hG : Grow A w base e v rows xs bls)
    (hone : ∀ {w : World} {row : List Value} {x : α} {bl : List Nat}, A.lies w row x bl → ∀ u ∈ row, u.oneCell' = true) (hn0 : 0 < A.n)
    (t ty : TypeId) (i : TypeInfo) (z : Value) (bytes : Nat) (ht : P.underlying t = some (.slice e)) (hi : P.info? e = some i) (hz : i.zero = some z) (hsize : i.size = A.n) (hby : i.bytes = bytes) (hzs : z.cells.size = A.n)
    {X : Value} {ys : List α} (hX : (Lay.sl A).LiesIn w [X] ys 0 base) (hn : xs.length + ys.length ≤ 100000000) (hbytes : bytes ≤ 1000) (hbase : base ≤ w.heap.size) :
    ∃ v' w' rows' bls', (Builtin.append_ #[t, t] ty #[v, X]).run P w = .ok v' w' ∧ Grow A w' base e v' rows' (xs ++ ys) bls' ∧ w.grownBy w' v.ownBlock ∧ (v'.ownBlock = v.ownBlock ∨ v'.ownBlock = some w.heap.size) := by
  have hml : xs.length + ys.length ≤ maxLen := by unfold maxLen; omega
  have hbb : (xs.length + ys.length) * bytes ≤ 140737488355328 := by have := Nat.mul_le_mul hn hbytes; omega
  have hown := hG.own
  obtain ⟨bl, ⟨ao, cap, hv, hcap, hcase⟩, hlt⟩ := hX
  obtain rfl : X = .slice ao ys.length cap := by simpa using hv
  rcases hcase with ⟨rfl, rfl⟩ | ⟨b, off, rowsY, blsY, rfl, hb, rfl, hR⟩
  · have key : ∃ v' w', (Builtin.append_ #[t, t] ty #[v, .slice ao 0 cap]).run P w = .ok v' w' ∧ w'.ownsRow base e A.n v' (xs.length + 0) (rows.flatten ++ []) ∧ w.grownBy w' v.ownBlock ∧ (v'.ownBlock = v.ownBlock ∨ v'.ownBlock = some w.heap.size) := by
      cases ao with
      | none =>
        obtain ⟨v', w', r1, r2, r3, -, r5⟩ := run_append_own_at (P := P) w base t ty e i z A.n bytes ht hi hz hsize hby hzs hn0 v xs.length rows.flatten hown ⟨0, 0, none⟩ 0 cap [] (by simp) (by simp) (by simp) hml hbb hbase
        refine ⟨v', w', ?_, r2, r3, r5⟩
        rcases hown.2 with ⟨rfl, h0⟩ | ⟨g, cp, cur, rfl, _, _, hle, _⟩
        · exact (append_noneL _ _ _ i ht hi none 0 0 cap (Nat.le_refl _) w).trans r1
        · exact (append_noneL _ _ _ i ht hi _ _ cp cap hle w).trans r1
      | some ad =>
        obtain ⟨v', w', r1, r2, r3, -, r5⟩ := run_append_own_at (P := P) w base t ty e i z A.n bytes ht hi hz hsize hby hzs hn0 v xs.length rows.flatten hown ad 0 cap [] (by simp) (by simp) (by simp) hml hbb hbase
        exact ⟨v', w', r1, r2, r3, r5⟩
    obtain ⟨v', w', r1, r2, r3, r5⟩ := key
    refine ⟨v', w', rows, bls, r1, ?_, r3, r5⟩
    rw [List.append_nil] at r2 ⊢
    have hk : ∀ b ∈ bls.flatten, w'.heap[b]? = w.heap[b]? := fun b hm => r3.block b (hG.sub_lt b hm) (fun e => hG.off b hm e.symm)
    refine ⟨r2, hG.nrows, hG.nbls, fun j h1 h2 h3 => A.keep (hG.lies j h1 h2 h3) fun b hb => hk b (List.mem_flatten.2 ⟨_, List.getElem_mem _, hb⟩), fun b hm e => ?_⟩
    rcases r5 with r5 | r5
    · exact hG.off b hm (r5.symm.trans e)
    · rw [r5] at e
      have := hG.sub_lt b hm
      have := Option.some.inj e
      omega
  · obtain ⟨hfl, hnews⟩ := news_rows hn0 hR
    have hR2 := hR
    obtain ⟨q1, q2, q3⟩ := hR2
    obtain ⟨v', w', r1, r2, r3, -, r5⟩ := run_append_own_at (P := P) w base t ty e i z A.n bytes ht hi hz hsize hby hzs hn0 v xs.length rows.flatten hown ⟨b, off, none⟩ ys.length cap rowsY.flatten hfl hnews (fun u hu => by
      obtain ⟨r, hr, hur⟩ := List.mem_flatten.1 hu
      obtain ⟨j, hj, rfl⟩ := List.getElem_of_mem hr
      exact hone (q3 j (by omega) hj (by omega)).2 u hur) hml hbb hbase
    have hkX : ∀ c ∈ blsY.flatten, c < base := fun c hc => (hlt c (List.mem_cons_of_mem _ hc)).2
    have hk : ∀ b ∈ bls.flatten, w'.heap[b]? = w.heap[b]? := fun b hm => r3.block b (hG.sub_lt b hm) (fun e => hG.off b hm e.symm)
    have hk2 : ∀ c ∈ blsY.flatten, w'.heap[c]? = w.heap[c]? := fun c hm => r3.block c (by have := hkX c hm; omega) (fun e => by
      have := (hown.lt c e.symm).1
      have := hkX c hm
      omega)
    refine ⟨v', w', rows ++ rowsY, bls ++ blsY, r1, ⟨?_, by simp [hG.nrows, q1], by simp [hG.nbls, q2], fun j h1 h2 h3 => ?_, ?_⟩, r3, r5⟩
    · rw [List.flatten_append, List.length_append]
      exact r2
    · by_cases hj : j < xs.length
      · have ee := hG.lies j hj (by have := hG.nrows; omega) (by have := hG.nbls; omega)
        rw [List.getElem_append_left (by have := hG.nrows; omega), List.getElem_append_left hj, List.getElem_append_left (by have := hG.nbls; omega)]
        exact A.keep ee fun b hm => hk b (List.mem_flatten.2 ⟨_, List.getElem_mem _, hm⟩)
      · have n1 := hG.nrows
        have n2 := hG.nbls
        have n3 : j - xs.length < ys.length := by simp at h1; omega
        rw [List.getElem_append_right (by omega), List.getElem_append_right (by omega), List.getElem_append_right (by omega)]
        have ee := (q3 (j - xs.length) n3 (by omega) (by omega)).2
        simp only [n1, n2]
        exact A.keep ee fun b hm => hk2 b (List.mem_flatten.2 ⟨_, List.getElem_mem _, hm⟩)
    · intro c hm ee
      rw [List.flatten_append] at hm
      rcases r5 with r5 | r5
      · rcases List.mem_append.1 hm with hm | hm
        · exact hG.off c hm (r5.symm.trans ee)
        · have := (hown.lt c (r5.symm.trans ee)).1
          have := hkX c hm
          omega
      · rw [r5] at ee
        have := Option.some.inj ee
        rcases List.mem_append.1 hm with hm | hm
        · have := hG.sub_lt c hm
          omega
        · have := hkX c hm
          omega
end Go.Proofs.Ytkmfkaljdngigaa

namespace Go.Proofs.Ytkmfkaljdngigaa
open Go.RowKit

theorem run_append_msgs {w : World} {base : Nat} {v : Value} {rows : List (List Value)} {xs : List DMsg} {bls : List (List Nat)} (hG : Grow Lay.tMsg w base 31 v rows xs bls) {X : Value} {ys : List DMsg} (hX : (Lay.sl Lay.tMsg).LiesIn w [X] ys 0 base) (hn : xs.length + ys.length ≤ 100000000) (hbase : base ≤ w.heap.size) (ty : TypeId) :
    ∃ v' w' rows' bls', (Builtin.append_ #[38, 38] ty #[v, X]).run Try.prog w = .ok v' w' ∧ Grow Lay.tMsg w' base 31 v' rows' (xs ++ ys) bls' ∧ w.grownBy w' v.ownBlock ∧ (v'.ownBlock = v.ownBlock ∨ v'.ownBlock = some w.heap.size) := by
  obtain ⟨i0, hi0, hz0, hz1, hz2⟩ := info_parts infoAppMsg
  exact hG.more (fun h => (one_Msg h).1) (by decide) 38 ty i0 _ 96 Try.underlying38 hi0 hz0 hz1 hz2 rfl hX hn (by omega) hbase
/-- At an operation of a plain region. -/
theorem wpList_append_msgs {w : World} {base : Nat} {v : Value} {rows : List (List Value)} {xs : List DMsg} {bls : List (List Nat)} (hG : Grow Lay.tMsg w base 31 v rows xs bls) {X : Value} {ys : List DMsg} (hX : (Lay.sl Lay.tMsg).LiesIn w [X] ys 0 base) {ops : Array Oper} {rest : List Oper} {o : Oper} {a : Act} {Q : Exit → Act → World → Prop} (hgd : o.guard = none) (s y : Operand)
    (ho : o.op = .call { callee := .builtin .append, args := #[s, y], argTypes := #[38, 38] }) (hs : a.eval s = v) (hy : a.eval y = X) (hn : xs.length + ys.length ≤ 100000000) (hbase : base ≤ w.heap.size)
    (h : ∀ a' m' cap' w' rows' bls', Grow Lay.tMsg w' base 31 (.slice a' m' cap') rows' (xs ++ ys) bls' → Below base w w' → m' = xs.length + ys.length → w.heap.size ≤ w'.heap.size → wpList Try.prog ops Q rest (a.put o.dst (.slice a' m' cap')) w') :
    wpList Try.prog ops Q (o :: rest) a w := by
  refine wpList_plain hgd fun K hK => ?_
  obtain ⟨v', w', rows', bls', hr, h2, h3, h4⟩ := run_append_msgs hG hX hn hbase o.type
  unfold Oper.wp execOp
  simp only [ho, resolve, invoke, builtin, Sem.run_bind, Sem.run_pure, Result.andThen_ok, List.map_toArray, List.map_cons, List.map_nil, hs, hy, hr]
  have hbw : Below base w w' := (Below.refl _ _).grown h3 hbase (fun j hj => (hG.own.lt j hj).1)
  rcases h2.form with ⟨rfl, h0⟩ | ⟨g, cap, rfl, hg, hgl, hcap⟩
  · refine hK _ _ (h _ _ _ w' rows' bls' h2 hbw ?_ hbw.size)
    have : (xs ++ ys).length = 0 := by rw [h0]; rfl
    rw [List.length_append] at this
    omega
  · exact hK _ _ (h _ _ _ w' rows' bls' h2 hbw (by rw [List.length_append]) hbw.size)
end Go.Proofs.Ytkmfkaljdngigaa

namespace Go.Proofs.Ytkmfkaljdngigaa
open Go.RowKit

theorem lies_none {α : Type} {A : Lay α} {w : World} {ao : Option Addr} {c lo hi : Nat} : (Lay.sl A).LiesIn w [.slice ao 0 c] [] lo hi := ⟨[], ⟨ao, c, rfl, ⟨Nat.zero_le _, Nat.zero_le _⟩, Or.inl ⟨rfl, rfl⟩⟩, by simp⟩
theorem lies_part {α : Type} {A : Lay α} {w : World} {b off cap lo hi : Nat} {xs : List α} (h : (Lay.sl A).LiesIn w [.slice (some ⟨b, off, none⟩) xs.length cap] xs lo hi) (m n c : Nat) (hm : m + n ≤ xs.length) (hc : n ≤ c) :
    (Lay.sl A).LiesIn w [.slice (some ⟨b, off + m * A.n, none⟩) n c] ((xs.drop m).take n) lo hi := by
  obtain ⟨bl, ⟨ao, cp, e, hbig, hcase⟩, hlt⟩ := h
  simp only [List.cons.injEq, Value.slice.injEq, and_true, true_and] at e
  obtain ⟨rfl, rfl⟩ := e
  have hlen : ((xs.drop m).take n).length = n := by simp; omega
  by_cases h0 : n = 0
  · subst h0
    rw [List.take_zero]
    exact lies_none
  · rcases hcase with ⟨rfl, rfl⟩ | ⟨b2, off2, rows, bls, e2, hb, rfl, hr, hl, hj⟩
    · simp at hm; omega
    · simp only [Option.some.injEq, Addr.mk.injEq, and_true] at e2
      obtain ⟨rfl, rfl⟩ := e2
      refine ⟨b :: ((bls.drop m).take n).flatten, ⟨_, c, by rw [hlen], ⟨by rw [hlen]; exact hc, by rw [hlen]; omega⟩, Or.inr ⟨b, off + m * A.n, (rows.drop m).take n, (bls.drop m).take n, rfl, hb, rfl, by rw [hlen]; simp; omega, by rw [hlen]; simp; omega, fun j h1 h2 h3 => ?_⟩⟩, ?_⟩
      · rw [hlen] at h1
        have k := hj (m + j) (by omega) (by omega) (by omega)
        rw [List.getElem_take, List.getElem_take, List.getElem_take, List.getElem_drop, List.getElem_drop, List.getElem_drop]
        refine ⟨fun q hq => ?_, k.2⟩
        have := k.1 q hq
        rw [Nat.add_mul, ← Nat.add_assoc] at this
        exact this
      · intro c2 hc2
        refine hlt c2 ?_
        rcases List.mem_cons.1 hc2 with rfl | hc2
        · simp
        · obtain ⟨l, h1, h2⟩ := List.mem_flatten.1 hc2
          exact List.mem_cons_of_mem _ (List.mem_flatten.2 ⟨l, List.mem_of_mem_drop (List.mem_of_mem_take h1), h2⟩)
theorem lies_take {α : Type} {A : Lay α} {w : World} {b off cap lo hi : Nat} {xs : List α} (h : (Lay.sl A).LiesIn w [.slice (some ⟨b, off, none⟩) xs.length cap] xs lo hi) (n : Nat) (hn : n ≤ xs.length) :
    (Lay.sl A).LiesIn w [.slice (some ⟨b, off, none⟩) n cap] (xs.take n) lo hi := by
  have hc : xs.length ≤ cap := (Lay.Reads.cap h.reads).2
  have := lies_part h 0 n cap (by omega) (by omega)
  simpa using this
theorem lies_drop {α : Type} {A : Lay α} {w : World} {b off cap lo hi : Nat} {xs : List α} (h : (Lay.sl A).LiesIn w [.slice (some ⟨b, off, none⟩) xs.length cap] xs lo hi) (m c : Nat) (hm : m ≤ xs.length) (hc : xs.length - m ≤ c) :
    (Lay.sl A).LiesIn w [.slice (some ⟨b, off + m * A.n, none⟩) (xs.length - m) c] (xs.drop m) lo hi := by
  have := lies_part h m (xs.length - m) c (by omega) hc
  rwa [List.take_of_length_le (by simp)] at this
end Go.Proofs.Ytkmfkaljdngigaa

namespace Go.Proofs.Ytkmfkaljdngigaa
open Go.RowKit

theorem lies_store {α : Type} {A : Lay α} {w w4 : World} {cs vs : List Value} {y : α} {lo hi : Nat} (h : A.LiesIn w4 cs y lo hi) (hlo : w.heap.size < lo) (hhi : hi ≤ w4.heap.size) :
    A.LiesIn (setAll w4 w.heap.size 0 vs) cs y w.heap.size (setAll w4 w.heap.size 0 vs).heap.size := by
  rw [size_setAll]
  exact (h.ext (ext_setAll (fun q => q = w.heap.size) (Ext.refl _ _) _ _ _ rfl) (fun q h1 h2 h3 => by omega)).mono (by omega) hhi
theorem own_store {α : Type} {A : Lay α} {w w4 : World} {cs vs : List Value} {y : α} {lo hi : Nat} (h : A.OwnIn w4 cs y lo hi) (hlo : w.heap.size < lo) (hhi : hi ≤ w4.heap.size) :
    A.OwnIn (setAll w4 w.heap.size 0 vs) cs y w.heap.size (setAll w4 w.heap.size 0 vs).heap.size := by
  rw [size_setAll]
  exact (h.ext (ext_setAll (fun q => q = w.heap.size) (Ext.refl _ _) _ _ _ rfl) (fun q h1 h2 h3 => by omega)).mono (by omega) hhi

/-- The block s alone may turn, and it is none of those that the answer lies in. -/
theorem lies_store' {α : Type} {A : Lay α} {w4 : World} {s : Nat} {cs vs : List Value} {y : α} {lo hi : Nat} (h : A.LiesIn w4 cs y lo hi) (hs : s < lo) : A.LiesIn (setAll w4 s 0 vs) cs y lo hi :=
  h.ext (ext_setAll (fun q => q = s) (Ext.refl _ _) _ _ _ rfl) (fun q h1 h2 h3 => by omega)
theorem own_store' {α : Type} {A : Lay α} {w4 : World} {s : Nat} {cs vs : List Value} {y : α} {lo hi : Nat} (h : A.OwnIn w4 cs y lo hi) (hs : s < lo) : A.OwnIn (setAll w4 s 0 vs) cs y lo hi :=
  h.ext (ext_setAll (fun q => q = s) (Ext.refl _ _) _ _ _ rfl) (fun q h1 h2 h3 => by omega)

theorem nil_own {α : Type} {A : Lay α} {w : World} {lo hi : Nat} : (Lay.sl A).OwnIn w [.slice none 0 0] [] lo hi := ⟨[], ⟨⟨none, 0, rfl, by simp, Or.inl ⟨rfl, rfl⟩⟩, by simp, by simp⟩, by simp⟩

end Go.Proofs.Ytkmfkaljdngigaa

namespace Go.Proofs.Ytkmfkaljdngigaa
open Go.RowKit

theorem own_netR {w : World} {c : Int} {v : Value} {xs : List DMsg} {lo hi : Nat} (hc : (Lit.int .i64 c).wf = true) (h : (Lay.sl Lay.tMsg).OwnIn w [v] xs lo hi) : Lay.tNetResult.OwnIn w [.int .i64 c, v] ⟨c, xs⟩ lo hi := by
  obtain ⟨bl, O, i⟩ := h
  exact ⟨bl, mkOwn_NetResult (x := ⟨c, xs⟩) O hc O.2.1, i⟩
theorem lies_netR {w : World} {c : Int} {a : Option Addr} {m d : Nat} {xs : List DMsg} {lo hi : Nat} (hc : (Lit.int .i64 c).wf = true) (h : (Lay.sl Lay.tMsg).LiesIn w [.slice a m d] xs lo hi) : Lay.tNetResult.LiesIn w [.int .i64 c, .slice a m d] ⟨c, xs⟩ lo hi := by
  obtain ⟨bl, l, i⟩ := h
  have hm : m = xs.length := (Lay.Reads.cap ⟨bl, l⟩).1
  subst hm
  exact ⟨bl, lies_NetResult.2 ⟨a, d, bl, rfl, rfl, hc, l⟩, i⟩
theorem own_badNet {w : World} {c : Int} {lo hi : Nat} (hc : -1000000000 ≤ c ∧ c ≤ 1000000000) : Lay.tNetResult.OwnIn w [.int .i64 c, .slice none 0 0] (badNet c) lo hi := own_netR (xs := []) (wf_of_bd hc) nil_own
theorem lies_badNet {w : World} {c : Int} {lo hi : Nat} (hc : -1000000000 ≤ c ∧ c ≤ 1000000000) : Lay.tNetResult.LiesIn w [.int .i64 c, .slice none 0 0] (badNet c) lo hi := (own_badNet hc).lies
theorem msg_vec {x : DMsg} (h : msgFault x = 0) : x.write.vec.length ≤ 100000000 := by
  unfold msgFault at h
  split at h
  · simp at h
  · rename_i h1
    split at h
    · simp at h
    · split at h
      · rename_i h3
        have h4 : noW x.write := Decidable.byContradiction fun q => h1 (Or.inr (Or.inr ⟨h3, q⟩))
        have := h4.2.2.2.2
        omega
      · obtain ⟨-, -, -, hk⟩ := writeFault_zero h
        rcases hk with ⟨-, hv⟩ | ⟨-, hv⟩
        · have := (vecFault_zero hv).1; omega
        · rw [hv]; simp
theorem msgs_vec {xs : List DMsg} (h : netFault xs = 0) : ∀ x ∈ xs, x.write.vec.length ≤ 100000000 := fun x hx => msg_vec ((netFault_zero h).2 x hx)
end Go.Proofs.Ytkmfkaljdngigaa

namespace Go.Proofs.Ytkmfkaljdngigaa
open Go.RowKit

theorem dropMR_net {xs : List DMsg} {z : Int} (h : netFault xs ≠ 0) : dropMR xs z = badNet (netFault xs) := by rw [dropMR, if_neg h]
theorem dropMR_out {xs : List DMsg} {z : Int} (h : netFault xs = 0) (h2 : (decide (0 ≤ z) && decide (z ≤ (xs.length : Int) - 1)) = false) : dropMR xs z = badNet 3 := by
  rw [dropMR, if_pos h, if_neg]
  intro q
  simp at h2
  omega
theorem dropMR_in {xs : List DMsg} {k : Nat} (h : netFault xs = 0) (h2 : k < xs.length) : dropMR xs (k : Int) = ⟨0, xs.take k ++ xs.drop (k + 1)⟩ := by
  rw [dropMR, if_pos h, if_pos (by omega)]
  simp
end Go.Proofs.Ytkmfkaljdngigaa

namespace Go.Proofs.Ytkmfkaljdngigaa
open Go.RowKit

set_option maxRecDepth 10000 in
set_option maxHeartbeats 2000000 in
theorem specDropMsg (v : Value) (xs : List DMsg) (z : Int) (w : World) (h : (Lay.sl Lay.tMsg).Reads w [v] xs) :
    Calls Try.prog 25 #[v, .int .i64 z] w fun e w' => ∃ cs, e = .returned (.agg cs.toArray) ∧ Lay.tNetResult.LiesIn w' cs (dropMR xs z) w.heap.size w'.heap.size ∧ Below w.heap.size w w' := by
  obtain ⟨ao, cap, rfl⟩ := open_sl h
  have nb : Below w.heap.size w (w.alloc (.cells #[.int .i64 0, .slice none 0 0] 43)) := (Below.refl _ _).alloc (Nat.le_refl _) _
  have bR : Box 0 #[.int .i64 0, .slice none 0 0] 43 (w.alloc (.cells #[.int .i64 0, .slice none 0 0] 43)) w.heap.size := newBox (Nat.zero_le _)
  have HF := hide (l11FaultC _ xs _ (h.later nb))
  have H := hide (h.later nb)
  have HB := hide nb
  have HR := hide bR
  clear h nb bR
  go_enter Try.func25, Try.ntmps25
  go_wp2_with fail
  generalize w.alloc (.cells #[.int .i64 0, .slice none 0 0] 43) = W0 at *
  refine (unhide HF).mono ?_
  rintro e W ⟨rfl, hb⟩
  replace H := hide ((unhide H).later hb)
  replace HR := hide ((unhide HR).keep hb)
  replace HB := hide ((unhide HB).trans (hb.mono (unhide HB).size))
  clear HF hb
  by_cases hc : netFault xs = 0
  case neg =>
    have HV := hide (dropMR_net (z := z) hc)
    have hv := netFault_vals xs
    have hd : (netFault xs != 0) = true := by simpa using hc
    generalize netFault xs = f at *
    clear hc
    have z0 : W.cell? ⟨w.heap.size, 0, none⟩ = some (.int .i64 0) := (unhide HR).at 0 _ rfl
    have z1 : W.cell? ⟨w.heap.size, 1, none⟩ = some (.slice none 0 0) := (unhide HR).at 1 _ rfl
    have ff := (unhide HR).soft
    have l0 := (unhide HR).lt
    have HB2 := hide (below_setAll (unhide HB) w.heap.size 0 [.int .i64 f, .slice none 0 0] (by omega))
    clear HB HR
    go_wp2_with fail
    refine bodyPost_ret (v := .agg #[.int .i64 f, .slice none 0 0]) (by simp [results, Try.results25, go_sem, z0, z1]) rfl ?_
    rw [unhide HV]
    exact ⟨[_, _], rfl, lies_badNet (by omega), unhide HB2⟩
  case pos =>
  rw [hc]
  have HNF := hide hc
  have hlen := (netFault_zero hc).1
  clear hc
  go_wp2_with fail
  refine (inC z 0 ((xs.length : Int) - 1) W).mono ?_
  rintro e w9 ⟨rfl, h9⟩
  subst w9
  cases hin : (decide (0 ≤ z) && decide (z ≤ (xs.length : Int) - 1))
  case false =>
    have HV := hide (dropMR_out (unhide HNF) hin)
    clear hin
    have z0 : W.cell? ⟨w.heap.size, 0, none⟩ = some (.int .i64 0) := (unhide HR).at 0 _ rfl
    have z1 : W.cell? ⟨w.heap.size, 1, none⟩ = some (.slice none 0 0) := (unhide HR).at 1 _ rfl
    have ff := (unhide HR).soft
    have l0 := (unhide HR).lt
    have HB2 := hide (below_setAll (unhide HB) w.heap.size 0 [.int .i64 3, .slice none 0 0] (by omega))
    clear HB HR
    go_wp2_with fail
    refine bodyPost_ret (v := .agg #[.int .i64 3, .slice none 0 0]) (by simp [results, Try.results25, go_sem, z0, z1]) rfl ?_
    rw [unhide HV]
    exact ⟨[_, _], rfl, lies_badNet (by omega), unhide HB2⟩
  case true =>
  obtain ⟨k, rfl⟩ : ∃ k : Nat, z = k := ⟨z.toNat, by simp at hin; omega⟩
  have hk : k < xs.length := by simp at hin; omega
  clear hin
  have HV := hide (dropMR_in (unhide HNF) hk)
  obtain ⟨b, off, rfl, hbl⟩ := Lay.sl_addr (unhide H) (by omega)
  have hcap : xs.length ≤ cap := (Lay.Reads.cap (unhide H)).2
  have HLI := hide (unhide H).liesIn
  have nb : Below W.heap.size W (W.alloc (.cells #[] 31)) := (Below.refl _ _).alloc (Nat.le_refl _) _
  have hG : Grow Lay.tMsg (W.alloc (.cells #[] 31)) W.heap.size 31 (.slice (some ⟨W.heap.size, 0, none⟩) 0 0) [] [] [] := Grow.nil (World.ownsRow_lit W #[] 0 (Nat.le_refl _) (Nat.zero_le _) rfl)
  have hX := lies_take ((unhide HLI).later nb) k (by omega)
  have hkc : k ≤ cap := by omega
  have hbs := nb.size
  have hn1 : ([] : List DMsg).length + (xs.take k).length ≤ 100000000 := by simp; omega
  have HN := hide nb
  clear nb
  go_wp2_with (at_builtin; refine wpList_append_msgs hG hX rfl _ _ rfl rfl rfl hn1 hbs ?_)
  by_cases hcp : cap = k + 1
  · subst hcp
    intro a2 m2 cap2 W2 rows2 bls2 hG2 hb2 hm2 hs2
    have HM2 := hide hm2
    replace HN := hide ((unhide HN).trans hb2)
    have HX2 : Hid ((Lay.sl Lay.tMsg).LiesIn W2 [.slice (some ⟨b, off, none⟩) 0 0] (xs.drop (k + 1)) 0 W.heap.size) := by
      have e0 : xs.drop (k + 1) = [] := List.drop_eq_nil_of_le (by omega)
      show (Lay.sl Lay.tMsg).LiesIn W2 [.slice (some ⟨b, off, none⟩) 0 0] (xs.drop (k + 1)) 0 W.heap.size
      rw [e0]
      exact lies_none
    have hXb := unhide HX2
    have hn2 : ([] ++ xs.take k).length + (xs.drop (k + 1)).length ≤ 100000000 := by simp; omega
    have hbs2 : W.heap.size ≤ W2.heap.size := (unhide HN).size
    clear hG hX hn1 hbs hb2 hs2 HX2 hm2
    go_wp2_with (at_builtin; refine wpList_append_msgs hG2 hXb rfl _ _ rfl rfl rfl hn2 hbs2 ?_)
    intro a3 m3 cap3 W3 rows3 bls3 hG3 hb3 hm3 hs3
    have HM3 := hide hm3
    replace HN := hide ((unhide HN).trans hb3)
    replace hG3 : Grow Lay.tMsg W3 W.heap.size 31 (.slice a3 m3 cap3) rows3 (xs.take k ++ xs.drop (k + 1)) bls3 := hG3
    have HLC := hide (mcopyC _ _ W3 (hG3.toReads (by simp; omega)) (by simp; omega) (fun y hy => msgs_vec (unhide HNF) y (by
      rcases List.mem_append.1 hy with hy | hy
      · exact List.mem_of_mem_take hy
      · exact List.mem_of_mem_drop hy)))
    replace HB := hide ((unhide HB).trans ((unhide HN).mono (unhide HB).size))
    have hsz : w.heap.size < W.heap.size := (unhide HR).lt
    have hsz3 : W.heap.size ≤ W3.heap.size := (unhide HN).size
    replace HR := hide ((unhide HR).keep (unhide HN))
    clear hG2 hXb hn2 hbs2 hb3 hs3 hG3 hm3 HN HLI H HNF
    go_wp2_with fail
    refine (unhide HLC).mono ?_
    rintro e W4 ⟨v4, rfl, ⟨rows4, bls4, hG4, hsub4⟩, hb4⟩
    have hLI := hG4.toLies (by simp; omega) hsub4
    obtain ⟨a4, d4, rfl⟩ := open_sl hLI.reads
    have bR := (unhide HR).keep hb4
    have z0 : W4.cell? ⟨w.heap.size, 0, none⟩ = some (.int .i64 0) := bR.at 0 _ rfl
    have z1 : W4.cell? ⟨w.heap.size, 1, none⟩ = some (.slice none 0 0) := bR.at 1 _ rfl
    have ff := bR.soft
    have l0 := bR.lt
    generalize xs.take k ++ xs.drop (k + 1) = ms at *
    have HB2 := hide (below_setAll ((unhide HB).trans (hb4.mono (unhide HB).size)) w.heap.size 0 [.int .i64 0, .slice a4 ms.length d4] (by omega))
    have HSF := hide (size_setAll W4 w.heap.size 0 [.int .i64 0, .slice a4 ms.length d4])
    have HO := hide (lies_store' (s := w.heap.size) (vs := [.int .i64 0, .slice a4 ms.length d4]) hLI (by omega))
    have hlo : w.heap.size ≤ W3.heap.size := by omega
    clear hLI hb4 bR HLC HR HB hG4 hsub4
    go_wp2_with fail
    refine bodyPost_ret (v := .agg #[.int .i64 0, .slice a4 ms.length d4]) (by simp [results, Try.results25, go_sem, z0, z1]) rfl ?_
    rw [unhide HV]
    exact ⟨[_, _], rfl, lies_netR (by decide) ((unhide HO).mono hlo (Nat.le_of_eq (unhide HSF).symm)), unhide HB2⟩
  · have hcl : k + 1 < cap := by omega
    intro a2 m2 cap2 W2 rows2 bls2 hG2 hb2 hm2 hs2
    have HM2 := hide hm2
    replace HN := hide ((unhide HN).trans hb2)
    have HX2 : Hid ((Lay.sl Lay.tMsg).LiesIn W2 [.slice (some ⟨b, off + (k + 1) * 10, none⟩) (xs.length - (k + 1)) (cap - (k + 1))] (xs.drop (k + 1)) 0 W.heap.size) := (lies_drop (unhide HLI) (k + 1) (cap - (k + 1)) (by omega) (by omega)).later (unhide HN)
    have hXb := unhide HX2
    have hn2 : ([] ++ xs.take k).length + (xs.drop (k + 1)).length ≤ 100000000 := by simp; omega
    have hbs2 : W.heap.size ≤ W2.heap.size := (unhide HN).size
    clear hG hX hn1 hbs hb2 hs2 HX2 hm2
    go_wp2_with (at_builtin; refine wpList_append_msgs hG2 hXb rfl _ _ rfl rfl rfl hn2 hbs2 ?_)
    intro a3 m3 cap3 W3 rows3 bls3 hG3 hb3 hm3 hs3
    have HM3 := hide hm3
    replace HN := hide ((unhide HN).trans hb3)
    replace hG3 : Grow Lay.tMsg W3 W.heap.size 31 (.slice a3 m3 cap3) rows3 (xs.take k ++ xs.drop (k + 1)) bls3 := hG3
    have HLC := hide (mcopyC _ _ W3 (hG3.toReads (by simp; omega)) (by simp; omega) (fun y hy => msgs_vec (unhide HNF) y (by
      rcases List.mem_append.1 hy with hy | hy
      · exact List.mem_of_mem_take hy
      · exact List.mem_of_mem_drop hy)))
    replace HB := hide ((unhide HB).trans ((unhide HN).mono (unhide HB).size))
    have hsz : w.heap.size < W.heap.size := (unhide HR).lt
    have hsz3 : W.heap.size ≤ W3.heap.size := (unhide HN).size
    replace HR := hide ((unhide HR).keep (unhide HN))
    clear hG2 hXb hn2 hbs2 hb3 hs3 hG3 hm3 HN HLI H HNF
    go_wp2_with fail
    refine (unhide HLC).mono ?_
    rintro e W4 ⟨v4, rfl, ⟨rows4, bls4, hG4, hsub4⟩, hb4⟩
    have hLI := hG4.toLies (by simp; omega) hsub4
    obtain ⟨a4, d4, rfl⟩ := open_sl hLI.reads
    have bR := (unhide HR).keep hb4
    have z0 : W4.cell? ⟨w.heap.size, 0, none⟩ = some (.int .i64 0) := bR.at 0 _ rfl
    have z1 : W4.cell? ⟨w.heap.size, 1, none⟩ = some (.slice none 0 0) := bR.at 1 _ rfl
    have ff := bR.soft
    have l0 := bR.lt
    generalize xs.take k ++ xs.drop (k + 1) = ms at *
    have HB2 := hide (below_setAll ((unhide HB).trans (hb4.mono (unhide HB).size)) w.heap.size 0 [.int .i64 0, .slice a4 ms.length d4] (by omega))
    have HSF := hide (size_setAll W4 w.heap.size 0 [.int .i64 0, .slice a4 ms.length d4])
    have HO := hide (lies_store' (s := w.heap.size) (vs := [.int .i64 0, .slice a4 ms.length d4]) hLI (by omega))
    have hlo : w.heap.size ≤ W3.heap.size := by omega
    clear hLI hb4 bR HLC HR HB hG4 hsub4
    go_wp2_with fail
    refine bodyPost_ret (v := .agg #[.int .i64 0, .slice a4 ms.length d4]) (by simp [results, Try.results25, go_sem, z0, z1]) rfl ?_
    rw [unhide HV]
    exact ⟨[_, _], rfl, lies_netR (by decide) ((unhide HO).mono hlo (Nat.le_of_eq (unhide HSF).symm)), unhide HB2⟩
end Go.Proofs.Ytkmfkaljdngigaa

namespace Go.Proofs.Ytkmfkaljdngigaa
open Go.RowKit

/-- How what checks ends: a panic that carries the code, if there is one. -/
def wrongP (c : Int) : List PanicEntry := [{ v := .iface 95 (.agg #[.int .i64 c]), recovered := false }]
def wrongE (c : Int) : Ending := if c = 0 then .returned (.tuple #[]) else .panicked (wrongP c)
theorem wrongE_ok {c : Int} (h : c = 0) : wrongE c = .returned (.tuple #[]) := by rw [wrongE, if_pos h]
theorem wrongE_bad {c : Int} (h : c ≠ 0) : wrongE c = .panicked (wrongP c) := by rw [wrongE, if_neg h]

def workE (v : Value) (c : Int) : Ending := if c = 0 then .returned v else .panicked (wrongP c)
theorem workE_ok {v : Value} {c : Int} (h : c = 0) : workE v c = .returned v := by rw [workE, if_pos h]
theorem workE_bad {v : Value} {c : Int} (h : c ≠ 0) : workE v c = .panicked (wrongP c) := by rw [workE, if_neg h]

theorem mustT (c : Int) (w : World) :
    Calls Try.prog 60 #[.bool true, .int .i64 c] w fun e w' => e = .returned (.tuple #[]) ∧ w' = w := by
  go_enter Try.func60, Try.ntmps60
  go_wp2_with fail
  go_end0
  exact ⟨rfl, rfl⟩
theorem mustF (c : Int) (w : World) :
    Calls Try.prog 60 #[.bool false, .int .i64 c] w fun e w' => e = .panicked (wrongP c) ∧ w' = w := by
  go_enter Try.func60, Try.ntmps60
  go_wp2_with fail
  exact ⟨rfl, rfl, rfl⟩
end Go.Proofs.Ytkmfkaljdngigaa

namespace Go.Proofs.Ytkmfkaljdngigaa
open Go.RowKit

theorem isUpToC (n m : Int) (w : World) :
    Calls Try.prog 82 #[.int .i64 n, .int .i64 m] w fun e w' => e = .returned (.bool (decide (0 ≤ n) && decide (n ≤ m))) ∧ w' = w := by
  by_cases h1 : 0 ≤ n
  · have d1 : decide (0 ≤ n) = true := by simpa using h1
    rw [d1]
    cases d2 : decide (n ≤ m) <;>
    · go_enter Try.func82, Try.ntmps82
      go_wp2_with fail
      go_ret
      exact ⟨rfl, rfl⟩
  · have d1 : decide (0 ≤ n) = false := by simpa using h1
    rw [d1]
    go_enter Try.func82, Try.ntmps82
    go_wp2_with fail
    go_ret
    exact ⟨rfl, rfl⟩
end Go.Proofs.Ytkmfkaljdngigaa

namespace Go.Proofs.Ytkmfkaljdngigaa
open Go.RowKit

theorem isNodeIdC (n : Int) (w : World) :
    Calls Try.prog 63 #[.int .i64 n] w fun e w' => e = .returned (.bool (decide (1 ≤ n) && decide (n ≤ 5))) ∧ w' = w := by
  by_cases h1 : 1 ≤ n
  · have d1 : decide (1 ≤ n) = true := by simpa using h1
    rw [d1]
    cases d2 : decide (n ≤ 5) <;>
    · go_enter Try.func63, Try.ntmps63
      go_wp2_with fail
      go_ret
      exact ⟨rfl, rfl⟩
  · have d1 : decide (1 ≤ n) = false := by simpa using h1
    rw [d1]
    go_enter Try.func63, Try.ntmps63
    go_wp2_with fail
    go_ret
    exact ⟨rfl, rfl⟩
end Go.Proofs.Ytkmfkaljdngigaa

namespace Go.Proofs.Ytkmfkaljdngigaa
open Go.RowKit

theorem ne_at_slEqual {ps qs : List Int} {k : Nat} (h : ps.getD k 0 ≠ qs.getD k 0) : decide (ps = qs) = false := by
  simp only [decide_eq_false_iff_not]
  rintro rfl
  exact h rfl
theorem eq_all_slEqual {ps qs : List Int} (hl : ps.length = qs.length) (h : ∀ j, j < ps.length → ps.getD j 0 = qs.getD j 0) : decide (ps = qs) = true := by
  simp only [decide_eq_true_eq]
  refine List.ext_getElem hl fun j h1 h2 => ?_
  have := h j h1
  simpa [List.getD, h1, h2] using this

set_option maxHeartbeats 800000 in
theorem slEqual_pos (b off cap b2 off2 cap2 : Nat) (ps qs : List Int) (w : World) (hl : ps.length = qs.length) (hn : ps.length ≤ 9223372036854775807) (hc : ∀ j, j < ps.length → w.cell? ⟨b, off + j, none⟩ = some (.int .i64 (ps.getD j 0)))
    (hc2 : ∀ j, j < ps.length → w.cell? ⟨b2, off2 + j, none⟩ = some (.int .i64 (qs.getD j 0))) :
    Calls Try.prog 81 #[.slice (some ⟨b, off, none⟩) ps.length cap, .slice (some ⟨b2, off2, none⟩) ps.length cap2] w fun e w' => e = .returned (.bool (decide (ps = qs))) ∧ Below w.heap.size w w' := by
  have HL := hide hl
  clear hl
  go_enter Try.func81, Try.ntmps81
  go_wp2
  go_loopw [13] (fun i wr => ∃ k : Nat, k ≤ ps.length ∧ i = .int .i64 k ∧ Below w.heap.size w wr ∧ ∀ j, j < k → ps.getD j 0 = qs.getD j 0) (fun i _ => ps.length - (intOf i).toNat)
  case atStart => exact ⟨0, Nat.zero_le _, rfl, Below.refl _ _, fun j hj => by omega⟩
  case round =>
    obtain ⟨k, hk, rfl, hB, hq⟩ := hrel
    by_cases hlt : k < ps.length
    · have hcx : wr.cell? ⟨b, off + k, none⟩ = some (.int .i64 (ps.getD k 0)) := (hB.cell (World.block_lt_of_cell? _ _ (hc k hlt))).trans (hc k hlt)
      have hcy : wr.cell? ⟨b2, off2 + k, none⟩ = some (.int .i64 (qs.getD k 0)) := (hB.cell (World.block_lt_of_cell? _ _ (hc2 k hlt))).trans (hc2 k hlt)
      have HQ := hide hq
      have HB := hide hB
      clear hc hc2 hq hB
      by_cases he : ps.getD k 0 = qs.getD k 0
      · have HE := hide he
        rw [← he] at hcy
        clear he
        generalize ps.getD k 0 = x at hcx hcy
        have hxx : (x != x) = false := by simp
        go_wp2
        go_quiet (fail)
        go_wp2
        go_roundw
        case rel =>
          refine ⟨k + 1, by omega, by go_num, below_drewN (unhide HB) _, fun j hj => ?_⟩
          by_cases hjk : j < k
          · exact unhide HQ j hjk
          · obtain rfl : j = k := by omega
            exact unhide HE
        case measure => simp [intOf]; omega
      · have HN := hide (ne_at_slEqual he)
        have hxy : (ps.getD k 0 != qs.getD k 0) = true := by rw [bne_iff_ne]; exact he
        clear he
        generalize ps.getD k 0 = x at hcx hxy
        generalize qs.getD k 0 = y at hcy hxy
        go_wp2
        go_quiet (fail)
        go_wp2
        go_ret
        exact ⟨by rw [unhide HN]; rfl, below_drewN (unhide HB) _⟩
    · obtain rfl : k = ps.length := by omega
      have HN := hide (eq_all_slEqual (unhide HL) hq)
      have HB := hide hB
      clear hc hc2 hq hB
      go_wp2
      go_ret
      exact ⟨by rw [unhide HN]; rfl, unhide HB⟩
set_option maxHeartbeats 400000 in
theorem slEqual_len (ao ao2 : Option Addr) (n m cap cap2 : Nat) (w : World) (h : n ≠ m) :
    Calls Try.prog 81 #[.slice ao n cap, .slice ao2 m cap2] w fun e w' => e = .returned (.bool false) ∧ Below w.heap.size w w' := by
  have hd : ((n : Int) != (m : Int)) = true := by rw [bne_iff_ne]; omega
  go_enter Try.func81, Try.ntmps81
  go_wp2
  go_ret
  exact ⟨rfl, Below.refl _ _⟩
theorem slEqual_zero (ao ao2 : Option Addr) (cap cap2 : Nat) (w : World) :
    Calls Try.prog 81 #[.slice ao 0 cap, .slice ao2 0 cap2] w fun e w' => e = .returned (.bool true) ∧ Below w.heap.size w w' := by
  go_enter Try.func81, Try.ntmps81
  go_wp2
  refine wp_loop_rounds 1 ?_
  rw [rounds_succ]
  go_wp2
  go_ret
  exact ⟨rfl, Below.refl _ _⟩
/-- Whether two lists of numbers are the same. -/
theorem slEqual (v v2 : Value) (ps qs : List Int) (w : World) (h : IsInts w v ps) (h2 : IsInts w v2 qs) (hn : ps.length ≤ 9223372036854775807) :
    Calls Try.prog 81 #[v, v2] w fun e w' => e = .returned (.bool (decide (ps = qs))) ∧ Below w.heap.size w w' := by
  obtain ⟨ao, cap, rfl, hwf, hc⟩ := h
  obtain ⟨ao2, cap2, rfl, _, hc2⟩ := h2
  by_cases hl : ps.length = qs.length
  · by_cases hp : 0 < ps.length
    · obtain ⟨b, off, rfl, hc1⟩ := hc hp
      obtain ⟨b2, off2, rfl, hc3⟩ := hc2 (by omega)
      rw [← hl] at hc3 ⊢
      exact slEqual_pos b off cap b2 off2 cap2 ps qs w hl hn hc1 hc3
    · obtain rfl : ps = [] := List.eq_nil_of_length_eq_zero (by omega)
      obtain rfl : qs = [] := List.eq_nil_of_length_eq_zero (by simpa using hl.symm)
      exact slEqual_zero ao ao2 cap cap2 w
  · rw [show decide (ps = qs) = false by simp only [decide_eq_false_iff_not]; rintro rfl; exact hl rfl]
    exact slEqual_len ao ao2 _ _ cap cap2 w hl

end Go.Proofs.Ytkmfkaljdngigaa

namespace Go.Proofs.Ytkmfkaljdngigaa
open Go.RowKit

set_option maxRecDepth 10000 in
set_option maxHeartbeats 2000000 in
theorem sameWrite (cs cs2 : List Value) (x y : DWrite) (w : World) (h : Lay.tWrite.Reads w cs x) (h2 : Lay.tWrite.Reads w cs2 y) :
    Calls Try.prog 61 #[.agg cs.toArray, .agg cs2.toArray] w fun e w' => e = .returned (.bool (sameW x y)) ∧ Below w.heap.size w w' := by
  obtain ⟨a2, d2, rfl, R2⟩ := open_Write h
  obtain ⟨a2z, d2z, rfl, R2z⟩ := open_Write h2
  clear h h2
  have HB : Hid (Below w.heap.size w ((w.alloc (.cells #[.int .i64 x.kind, .int .i64 x.id, .slice a2 x.vec.length d2, .int .i64 x.session, .int .i64 x.seq] 29)).alloc (.cells #[.int .i64 y.kind, .int .i64 y.id, .slice a2z y.vec.length d2z, .int .i64 y.session, .int .i64 y.seq] 29))) := ((Below.refl _ _).alloc (Nat.le_refl _) _).alloc (by simp) _
  cases e0 : (x.kind == y.kind) with
  | false =>
    have HS : Hid (sameW x y = false) := by
      show sameW x y = false
      simp [sameW, e0]
    go_enter Try.func61, Try.ntmps61
    go_wp2_with fail
    go_ret
    exact ⟨by rw [unhide HS]; rfl, unhide HB⟩
  | true =>
    cases e1 : (x.id == y.id) with
    | false =>
      have HS : Hid (sameW x y = false) := by
        show sameW x y = false
        simp [sameW, e0, e1]
      go_enter Try.func61, Try.ntmps61
      go_wp2_with fail
      go_ret
      exact ⟨by rw [unhide HS]; rfl, unhide HB⟩
    | true =>
      cases e2 : (x.session == y.session) with
      | false =>
        have HS : Hid (sameW x y = false) := by
          show sameW x y = false
          simp [sameW, e0, e1, e2]
        go_enter Try.func61, Try.ntmps61
        go_wp2_with fail
        go_ret
        exact ⟨by rw [unhide HS]; rfl, unhide HB⟩
      | true =>
        cases e3 : (x.seq == y.seq) with
        | false =>
          have HS : Hid (sameW x y = false) := by
            show sameW x y = false
            simp [sameW, e0, e1, e2, e3]
          go_enter Try.func61, Try.ntmps61
          go_wp2_with fail
          go_ret
          exact ⟨by rw [unhide HS]; rfl, unhide HB⟩
        | true =>
          have HS : Hid (sameW x y = decide (x.vec = y.vec)) := by
            show sameW x y = decide (x.vec = y.vec)
            simp [sameW, e0, e1, e2, e3]
          have L := hide (slEqual _ _ x.vec y.vec _ ((Lay.ints_reads R2).later (unhide HB)) ((Lay.ints_reads R2z).later (unhide HB)) R2.big)
          clear R2 R2z
          go_enter Try.func61, Try.ntmps61
          go_wp2_with fail
          refine (unhide L).mono ?_
          rintro e w1 ⟨rfl, hb⟩
          have HB1 := hide ((unhide HB).trans (hb.mono (unhide HB).size))
          clear hb L HB
          go_wp2_with fail
          go_ret
          exact ⟨by rw [unhide HS]; rfl, unhide HB1⟩
end Go.Proofs.Ytkmfkaljdngigaa

namespace Go.Proofs.Ytkmfkaljdngigaa
open Go.RowKit

theorem bcell {W w1 : World} (hb : Below W.heap.size W w1) : (∀ b o, b < W.heap.size → w1.cell? ⟨b, o, none⟩ = W.cell? ⟨b, o, none⟩) ∧ (∀ b o, b < W.heap.size → w1.frozen? ⟨b, o, none⟩ = W.frozen? ⟨b, o, none⟩) :=
  ⟨fun b o h => hb.cell (p := ⟨b, o, none⟩) h, fun b o h => hb.frozen (p := ⟨b, o, none⟩) h⟩

/-- Two blocks of three cells that were laid ahead of a call are there behind it, and may be written. -/
theorem two_kept {w w1 : World} {T : TypeId} {x0 x1 x2 y0 y1 y2 : Value} (hb : Below ((w.alloc (.cells #[x0, x1, x2] T)).alloc (.cells #[y0, y1, y2] T)).heap.size ((w.alloc (.cells #[x0, x1, x2] T)).alloc (.cells #[y0, y1, y2] T)) w1) :
    (w1.cell? ⟨w.heap.size, 0, none⟩ = some x0 ∧ w1.cell? ⟨w.heap.size, 1, none⟩ = some x1 ∧ w1.cell? ⟨w.heap.size, 2, none⟩ = some x2) ∧
    (w1.cell? ⟨w.heap.size + 1, 0, none⟩ = some y0 ∧ w1.cell? ⟨w.heap.size + 1, 1, none⟩ = some y1 ∧ w1.cell? ⟨w.heap.size + 1, 2, none⟩ = some y2) ∧
    (∀ o, w1.frozen? ⟨w.heap.size, o, none⟩ = false) ∧ (∀ o, w1.frozen? ⟨w.heap.size + 1, o, none⟩ = false) := by
  refine ⟨⟨?_, ?_, ?_⟩, ⟨?_, ?_, ?_⟩, fun o => ?_, fun o => ?_⟩
  all_goals first | rw [hb.cell (by simp [World.size_alloc]; try omega)] | rw [hb.frozen (by simp [World.size_alloc]; try omega)]
  all_goals simp [go_sem]

/-- Three numbers as an array. -/
def arr3 (x y z : Int) : Value := .agg #[.int .i64 x, .int .i64 y, .int .i64 z]

theorem IsInts.three {w : World} {v : Value} {zs : List Int} (h : IsInts w v zs) (h3 : zs.length = 3) :
    ∃ b off cap x y z, zs = [x, y, z] ∧ v = .slice (some ⟨b, off, none⟩) 3 cap ∧ b < w.heap.size ∧ w.cell? ⟨b, off, none⟩ = some (.int .i64 x) ∧ w.cell? ⟨b, off + 1, none⟩ = some (.int .i64 y) ∧ w.cell? ⟨b, off + 2, none⟩ = some (.int .i64 z) := by
  obtain ⟨ao, cap, rfl, hwf, hc⟩ := h
  match zs, h3 with
  | [x, y, z], _ =>
    obtain ⟨b, off, rfl, hc1⟩ := hc (by simp)
    have c0 := hc1 0 (by simp)
    have c1 := hc1 1 (by simp)
    have c2 := hc1 2 (by simp)
    exact ⟨b, off, cap, x, y, z, rfl, rfl, World.block_lt_of_cell? _ _ c0, by simpa using c0, by simpa using c1, by simpa using c2⟩

set_option maxHeartbeats 400000 in
theorem vectorOf_bad (v : Value) (zs : List Int) (w : World) (h : IsInts w v zs) (hf : vecFault zs ≠ 0) :
    Calls Try.prog 92 #[v] w fun e w' => e = .returned (.tuple #[arr3 0 0 0, .int .i64 (vecFault zs)]) ∧ Below w.heap.size w w' := by
  go_enter Try.func92, Try.ntmps92
  go_wp2_with fail
  refine (implFault v zs _ (h.later (((Below.refl _ _).alloc (Nat.le_refl _) _).alloc (by simp) _))).mono ?_
  rintro e w' ⟨rfl, rfl⟩
  have hne : (vecFault zs != 0) = true := by rw [bne_iff_ne]; exact hf
  go_wp2_with fail
  refine bodyPost_ret (v := .tuple #[arr3 0 0 0, .int .i64 (vecFault zs)]) (by simp [results, Try.results92, go_sem, arr3]) rfl ⟨rfl, ?_⟩
  exact ((Below.refl _ _).alloc (Nat.le_refl _) _).alloc (by simp) _

set_option maxHeartbeats 1000000 in
theorem vectorOf_three (b off cap : Nat) (x y z : Int) (w : World) (hbl : b < w.heap.size) (c0 : w.cell? ⟨b, off, none⟩ = some (.int .i64 x)) (c1 : w.cell? ⟨b, off + 1, none⟩ = some (.int .i64 y)) (c2 : w.cell? ⟨b, off + 2, none⟩ = some (.int .i64 z))
    (h : IsInts w (.slice (some ⟨b, off, none⟩) 3 cap) [x, y, z]) (hf : vecFault [x, y, z] = 0) :
    Calls Try.prog 92 #[.slice (some ⟨b, off, none⟩) 3 cap] w fun e w' => e = .returned (.tuple #[arr3 x y z, .int .i64 0]) ∧ Below w.heap.size w w' := by
  go_enter Try.func92, Try.ntmps92
  go_wp2_with fail
  refine (implFault _ [x, y, z] _ (h.later (((Below.refl _ _).alloc (Nat.le_refl _) _).alloc (by simp) _))).mono ?_
  rintro e w' ⟨rfl, rfl⟩
  rw [hf]
  clear h hf
  go_wp2_with fail
  refine wp_loop_rounds 4 ?_
  rw [rounds_succ]
  go_wp2
  rw [rounds_succ]
  go_wp2
  rw [rounds_succ]
  go_wp2
  rw [rounds_succ]
  go_wp2
  refine bodyPost_ret (v := .tuple #[arr3 x y z, .int .i64 0]) (by simp [results, Try.results92, go_sem, arr3]) rfl ⟨rfl, ?_⟩
  exact ((Below.refl _ _).alloc (Nat.le_refl _) _).alloc (by simp) _

theorem vectorOf_ok (v : Value) (x y z : Int) (w : World) (h : IsInts w v [x, y, z]) (hf : vecFault [x, y, z] = 0) :
    Calls Try.prog 92 #[v] w fun e w' => e = .returned (.tuple #[arr3 x y z, .int .i64 0]) ∧ Below w.heap.size w w' := by
  obtain ⟨b, off, cap, x', y', z', he, rfl, hbl, c0, c1, c2⟩ := h.three rfl
  simp only [List.cons.injEq, and_true] at he
  obtain ⟨rfl, rfl, rfl⟩ := he
  exact vectorOf_three b off cap x y z w hbl c0 c1 c2 h hf

end Go.Proofs.Ytkmfkaljdngigaa

namespace Go.Proofs.Ytkmfkaljdngigaa
open Go.RowKit

/-- A put of three parts, and a drop, as deeds. -/
def putV (x y z : Int) : Value := .iface 113 (.agg #[.int .i64 x, .int .i64 y, .int .i64 z])
def dropV : Value := .iface 107 (.agg #[])
def deedV (k : Int) (zs : List Int) : Value := if k = 1 then putV (zs.getD 0 0) (zs.getD 1 0) (zs.getD 2 0) else dropV
def deedRes (k i : Int) (zs : List Int) (s q : Int) : Value := if writeFault k i zs s q = 0 then deedV k zs else .nilIface

def Bds (i s q : Int) : Prop := (1 ≤ i ∧ i ≤ 999) ∧ (1 ≤ s ∧ s ≤ 9) ∧ 1 ≤ q ∧ q ≤ 999
theorem bound_yes {i s q : Int} (h : Bds i s q) : boundB i s q = true := by
  obtain ⟨⟨a, b⟩, ⟨c, d⟩, e, f⟩ := h
  simp [boundB, a, b, c, d, e, f]
theorem bound_no {i s q : Int} (h : ¬ Bds i s q) : boundB i s q = false := by
  rw [Bool.eq_false_iff]
  intro hb
  simp only [boundB, Bool.and_eq_true, decide_eq_true_eq] at hb
  exact h ⟨hb.1, hb.2.1, hb.2.2⟩
theorem fault_out {k i s q : Int} {zs : List Int} (hk : kindB k zs.length = true) (h : ¬ Bds i s q) : writeFault k i zs s q = 3 := by
  rw [writeFault, hk, if_pos rfl, bound_no h]; rfl
theorem fault_drop {i s q : Int} (h : Bds i s q) : writeFault 2 i [] s q = 0 := by
  rw [writeFault, show kindB 2 ([] : List Int).length = true from rfl, if_pos rfl, bound_yes h]; rfl
theorem fault_in {k i s q : Int} {zs : List Int} (hk : kindB k zs.length = true) (h : Bds i s q) : writeFault k i zs s q = if k = 1 then vecFault zs else 0 := by
  rw [writeFault, hk, if_pos rfl, bound_yes h, if_pos rfl]

def ToldDeed (w w' : World) (e : Ending) (k i : Int) (zs : List Int) (s q : Int) : Prop := e = .returned (.tuple #[deedRes k i zs s q, .int .i64 (writeFault k i zs s q)]) ∧ Below w.heap.size w w'
theorem toldDeed_bad {w w' : World} {k i s q c : Int} {zs : List Int} (hc : writeFault k i zs s q = c) (h0 : c ≠ 0) (hb : Below w.heap.size w w') : ToldDeed w w' (.returned (.tuple #[.nilIface, .int .i64 c])) k i zs s q := by
  refine ⟨?_, hb⟩
  rw [deedRes, hc, if_neg h0]
theorem toldDeed_ok {w w' : World} {k i s q : Int} {zs : List Int} {v : Value} (hc : writeFault k i zs s q = 0) (hv : v = deedV k zs) (hb : Below w.heap.size w w') : ToldDeed w w' (.returned (.tuple #[v, .int .i64 0])) k i zs s q := by
  refine ⟨?_, hb⟩
  rw [deedRes, hc, if_pos rfl, hv]

theorem isIdC (n : Int) (w : World) : Calls Try.prog 89 #[.int .i64 n] w fun e w' => e = .returned (.bool (decide (1 ≤ n) && decide (n ≤ 999))) ∧ w' = w := by
  by_cases h1 : 1 ≤ n
  · have d1 : decide (1 ≤ n) = true := by simpa using h1
    rw [d1]
    cases d2 : decide (n ≤ 999) <;>
    · go_enter Try.func89, Try.ntmps89
      go_wp2
      go_ret
      exact ⟨rfl, rfl⟩
  · have d1 : decide (1 ≤ n) = false := by simpa using h1
    rw [d1]
    go_enter Try.func89, Try.ntmps89
    go_wp2
    go_ret
    exact ⟨rfl, rfl⟩
theorem isSessionC (n : Int) (w : World) : Calls Try.prog 90 #[.int .i64 n] w fun e w' => e = .returned (.bool (decide (1 ≤ n) && decide (n ≤ 9))) ∧ w' = w := by
  by_cases h1 : 1 ≤ n
  · have d1 : decide (1 ≤ n) = true := by simpa using h1
    rw [d1]
    cases d2 : decide (n ≤ 9) <;>
    · go_enter Try.func90, Try.ntmps90
      go_wp2
      go_ret
      exact ⟨rfl, rfl⟩
  · have d1 : decide (1 ≤ n) = false := by simpa using h1
    rw [d1]
    go_enter Try.func90, Try.ntmps90
    go_wp2
    go_ret
    exact ⟨rfl, rfl⟩
theorem isSeqC (n : Int) (w : World) : Calls Try.prog 91 #[.int .i64 n] w fun e w' => e = .returned (.bool (decide (1 ≤ n) && decide (n ≤ 999))) ∧ w' = w := by
  by_cases h1 : 1 ≤ n
  · have d1 : decide (1 ≤ n) = true := by simpa using h1
    rw [d1]
    cases d2 : decide (n ≤ 999) <;>
    · go_enter Try.func91, Try.ntmps91
      go_wp2
      go_ret
      exact ⟨rfl, rfl⟩
  · have d1 : decide (1 ≤ n) = false := by simpa using h1
    rw [d1]
    go_enter Try.func91, Try.ntmps91
    go_wp2
    go_ret
    exact ⟨rfl, rfl⟩

set_option maxHeartbeats 2000000 in
theorem deedOf_put_out (i : Int) (ao : Option Addr) (cap : Nat) (s q : Int) (zs : List Int) (w : World) (hb : ¬ Bds i s q) :
    Calls Try.prog 83 #[.agg #[.int .i64 1, .int .i64 i, .slice ao zs.length cap, .int .i64 s, .int .i64 q]] w fun e w' => ToldDeed w w' e 1 i zs s q := by
  have HB : Hid (∀ o, Below w.heap.size w (w.alloc o)) := fun o => (Below.refl _ _).alloc (Nat.le_refl _) o
  have HF : Hid (writeFault 1 i zs s q = 3) := fault_out rfl hb
  have hbb := bound_no hb
  unfold boundB at hbb
  clear hb
  cases dI : (decide (1 ≤ i) && decide (i ≤ 999)) with
  | false =>
    clear hbb
    go_enter Try.func83, Try.ntmps83
    go_wp2_with fail
    refine (isIdC i _).mono ?_
    rintro e w1 ⟨rfl, rfl⟩
    rw [dI]
    go_wp2_with fail
    go_ret2
    exact toldDeed_bad (unhide HF) (by omega) (unhide HB _)
  | true =>
    cases dS : (decide (1 ≤ s) && decide (s ≤ 9)) with
    | false =>
      clear hbb
      go_enter Try.func83, Try.ntmps83
      go_wp2_with fail
      refine (isIdC i _).mono ?_
      rintro e w1 ⟨rfl, rfl⟩
      rw [dI]
      go_wp2_with fail
      refine (isSessionC s _).mono ?_
      rintro e w1 ⟨rfl, rfl⟩
      rw [dS]
      go_wp2_with fail
      go_ret2
      exact toldDeed_bad (unhide HF) (by omega) (unhide HB _)
    | true =>
      have dQ : (decide (1 ≤ q) && decide (q ≤ 999)) = false := by rw [dI, dS] at hbb; simpa using hbb
      clear hbb
      go_enter Try.func83, Try.ntmps83
      go_wp2_with fail
      refine (isIdC i _).mono ?_
      rintro e w1 ⟨rfl, rfl⟩
      rw [dI]
      go_wp2_with fail
      refine (isSessionC s _).mono ?_
      rintro e w1 ⟨rfl, rfl⟩
      rw [dS]
      go_wp2_with fail
      refine (isSeqC q _).mono ?_
      rintro e w1 ⟨rfl, rfl⟩
      rw [dQ]
      go_wp2_with fail
      go_ret2
      exact toldDeed_bad (unhide HF) (by omega) (unhide HB _)

set_option maxHeartbeats 2000000 in
theorem deedOf_drop_out (i : Int) (ao : Option Addr) (cap : Nat) (s q : Int) (w : World) (hb : ¬ Bds i s q) :
    Calls Try.prog 83 #[.agg #[.int .i64 2, .int .i64 i, .slice ao 0 cap, .int .i64 s, .int .i64 q]] w fun e w' => ToldDeed w w' e 2 i [] s q := by
  have HB : Hid (∀ o, Below w.heap.size w (w.alloc o)) := fun o => (Below.refl _ _).alloc (Nat.le_refl _) o
  have HF : Hid (writeFault 2 i [] s q = 3) := fault_out rfl hb
  have hbb := bound_no hb
  unfold boundB at hbb
  clear hb
  cases dI : (decide (1 ≤ i) && decide (i ≤ 999)) with
  | false =>
    clear hbb
    go_enter Try.func83, Try.ntmps83
    go_wp2_with fail
    refine (isIdC i _).mono ?_
    rintro e w1 ⟨rfl, rfl⟩
    rw [dI]
    go_wp2_with fail
    go_ret2
    exact toldDeed_bad (unhide HF) (by omega) (unhide HB _)
  | true =>
    cases dS : (decide (1 ≤ s) && decide (s ≤ 9)) with
    | false =>
      clear hbb
      go_enter Try.func83, Try.ntmps83
      go_wp2_with fail
      refine (isIdC i _).mono ?_
      rintro e w1 ⟨rfl, rfl⟩
      rw [dI]
      go_wp2_with fail
      refine (isSessionC s _).mono ?_
      rintro e w1 ⟨rfl, rfl⟩
      rw [dS]
      go_wp2_with fail
      go_ret2
      exact toldDeed_bad (unhide HF) (by omega) (unhide HB _)
    | true =>
      have dQ : (decide (1 ≤ q) && decide (q ≤ 999)) = false := by rw [dI, dS] at hbb; simpa using hbb
      clear hbb
      go_enter Try.func83, Try.ntmps83
      go_wp2_with fail
      refine (isIdC i _).mono ?_
      rintro e w1 ⟨rfl, rfl⟩
      rw [dI]
      go_wp2_with fail
      refine (isSessionC s _).mono ?_
      rintro e w1 ⟨rfl, rfl⟩
      rw [dS]
      go_wp2_with fail
      refine (isSeqC q _).mono ?_
      rintro e w1 ⟨rfl, rfl⟩
      rw [dQ]
      go_wp2_with fail
      go_ret2
      exact toldDeed_bad (unhide HF) (by omega) (unhide HB _)

set_option maxHeartbeats 2000000 in
theorem deedOf_drop (i : Int) (ao : Option Addr) (cap : Nat) (s q : Int) (w : World) (hb : Bds i s q) :
    Calls Try.prog 83 #[.agg #[.int .i64 2, .int .i64 i, .slice ao 0 cap, .int .i64 s, .int .i64 q]] w fun e w' => ToldDeed w w' e 2 i [] s q := by
  have HB : Hid (∀ o, Below w.heap.size w (w.alloc o)) := fun o => (Below.refl _ _).alloc (Nat.le_refl _) o
  have HF : Hid (writeFault 2 i [] s q = 0) := fault_drop hb
  obtain ⟨⟨i1, i2⟩, ⟨s1, s2⟩, q1, q2⟩ := hb
  have dI : (decide (1 ≤ i) && decide (i ≤ 999)) = true := by simp [i1, i2]
  have dS : (decide (1 ≤ s) && decide (s ≤ 9)) = true := by simp [s1, s2]
  have dQ : (decide (1 ≤ q) && decide (q ≤ 999)) = true := by simp [q1, q2]
  go_enter Try.func83, Try.ntmps83
  go_wp2_with fail
  refine (isIdC i _).mono ?_
  rintro e w1 ⟨rfl, rfl⟩
  rw [dI]
  go_wp2_with fail
  refine (isSessionC s _).mono ?_
  rintro e w1 ⟨rfl, rfl⟩
  rw [dS]
  go_wp2_with fail
  refine (isSeqC q _).mono ?_
  rintro e w1 ⟨rfl, rfl⟩
  rw [dQ]
  go_wp2_with fail
  go_ret2
  exact toldDeed_ok (unhide HF) rfl (unhide HB _)

set_option maxHeartbeats 1000000 in
theorem deedOf_many (i : Int) (ao : Option Addr) (cap n : Nat) (s q : Int) (zs : List Int) (w : World) (hn : zs.length = n + 1) :
    Calls Try.prog 83 #[.agg #[.int .i64 2, .int .i64 i, .slice ao (n + 1) cap, .int .i64 s, .int .i64 q]] w fun e w' => ToldDeed w w' e 2 i zs s q := by
  have B0 : ∀ o, Below w.heap.size w (w.alloc o) := fun o => (Below.refl _ _).alloc (Nat.le_refl _) o
  have HB := hide B0
  have hF : writeFault 2 i zs s q = 1 := by
    have : kindB 2 zs.length = false := by simp [kindB]; omega
    rw [writeFault, this]; rfl
  have HF := hide hF
  clear B0 hF hn
  go_enter Try.func83, Try.ntmps83
  go_wp2
  go_ret2
  exact toldDeed_bad (unhide HF) (by omega) (unhide HB _)

set_option maxHeartbeats 1000000 in
theorem deedOf_none (k i : Int) (ao : Option Addr) (cap : Nat) (s q : Int) (zs : List Int) (w : World) (h1 : k ≠ 1) (h2 : k ≠ 2) :
    Calls Try.prog 83 #[.agg #[.int .i64 k, .int .i64 i, .slice ao zs.length cap, .int .i64 s, .int .i64 q]] w fun e w' => ToldDeed w w' e k i zs s q := by
  have B0 : ∀ o, Below w.heap.size w (w.alloc o) := fun o => (Below.refl _ _).alloc (Nat.le_refl _) o
  have HB := hide B0
  have hF : writeFault k i zs s q = 1 := by
    have : kindB k zs.length = false := by simp [kindB]; omega
    rw [writeFault, this]; rfl
  have HF := hide hF
  clear B0 hF
  go_enter Try.func83, Try.ntmps83
  go_wp2
  go_ret2
  exact toldDeed_bad (unhide HF) (by omega) (unhide HB _)

theorem vectorOf_any (v : Value) (zs : List Int) (w : World) (h : IsInts w v zs) :
    Calls Try.prog 92 #[v] w fun e w' => e = .returned (.tuple #[if vecFault zs = 0 then arr3 (zs.getD 0 0) (zs.getD 1 0) (zs.getD 2 0) else arr3 0 0 0, .int .i64 (vecFault zs)]) ∧ Below w.heap.size w w' := by
  by_cases hf : vecFault zs = 0
  · obtain ⟨hl, -⟩ := vecFault_zero hf
    match zs, hl with
    | [x, y, z], _ =>
      rw [if_pos hf]
      refine (vectorOf_ok v x y z w h hf).mono ?_
      rintro e w' ⟨rfl, hb⟩
      exact ⟨by rw [hf]; rfl, hb⟩
  · rw [if_neg hf]
    exact vectorOf_bad v zs w h hf

set_option maxHeartbeats 2000000 in
theorem deedOf_put (i : Int) (ao : Option Addr) (cap : Nat) (s q : Int) (zs : List Int) (w : World) (h : IsInts w (.slice ao zs.length cap) zs) (hb : Bds i s q) :
    Calls Try.prog 83 #[.agg #[.int .i64 1, .int .i64 i, .slice ao zs.length cap, .int .i64 s, .int .i64 q]] w fun e w' => ToldDeed w w' e 1 i zs s q := by
  have B0 : Below w.heap.size w (w.alloc (.cells #[.int .i64 1, .int .i64 i, .slice ao zs.length cap, .int .i64 s, .int .i64 q] 29)) := (Below.refl _ _).alloc (Nat.le_refl _) _
  have HB := hide B0
  have H := hide (h.later B0)
  clear h B0
  have HF : Hid (writeFault 1 i zs s q = vecFault zs) := fault_in rfl hb
  obtain ⟨⟨i1, i2⟩, ⟨s1, s2⟩, q1, q2⟩ := hb
  have dI : (decide (1 ≤ i) && decide (i ≤ 999)) = true := by simp [i1, i2]
  have dS : (decide (1 ≤ s) && decide (s ≤ 9)) = true := by simp [s1, s2]
  have dQ : (decide (1 ≤ q) && decide (q ≤ 999)) = true := by simp [q1, q2]
  go_enter Try.func83, Try.ntmps83
  go_wp2_with fail
  refine (isIdC i _).mono ?_
  rintro e w1 ⟨rfl, rfl⟩
  rw [dI]
  go_wp2_with fail
  refine (isSessionC s _).mono ?_
  rintro e w1 ⟨rfl, rfl⟩
  rw [dS]
  go_wp2_with fail
  refine (isSeqC q _).mono ?_
  rintro e w1 ⟨rfl, rfl⟩
  rw [dQ]
  go_wp2_with fail
  refine (vectorOf_any _ zs _ (unhide H)).mono ?_
  rintro e w1 ⟨rfl, hb1⟩
  have HB1 := hide ((unhide HB).trans (hb1.mono (unhide HB).size))
  have hz : w.heap.size ≤ w1.heap.size := (unhide HB1).size
  clear HB hb1 H
  generalize hV : vecFault zs = F at *
  by_cases hf : F = 0
  · subst hf
    rw [if_pos rfl]
    simp only [arr3]
    go_wp2_with fail
    go_ret2
    refine toldDeed_ok (unhide HF) ?_ ?_
    · rw [deedV, if_pos rfl]; rfl
    · exact (unhide HB1).alloc hz _
  · rw [if_neg hf]
    have hd : (F != 0) = true := by rw [bne_iff_ne]; exact hf
    have HN := hide hf
    clear hf
    simp only [arr3]
    go_wp2_with fail
    go_ret2
    exact toldDeed_bad (unhide HF) (unhide HN) ((unhide HB1).alloc hz _)

/-- deedOf of the program. -/
theorem implDeed (k i : Int) (v : Value) (s q : Int) (zs : List Int) (w : World) (h : IsInts w v zs) :
    Calls Try.prog 83 #[.agg #[.int .i64 k, .int .i64 i, v, .int .i64 s, .int .i64 q]] w fun e w' => ToldDeed w w' e k i zs s q := by
  have h' := h
  obtain ⟨ao, cap, rfl, -⟩ := h'
  by_cases h1 : k = 1
  · subst h1
    by_cases hb : Bds i s q
    · exact deedOf_put i ao cap s q zs w h hb
    · exact deedOf_put_out i ao cap s q zs w hb
  · by_cases h2 : k = 2
    · subst h2
      rcases Nat.eq_zero_or_pos zs.length with h0 | h0
      · obtain rfl : zs = [] := List.eq_nil_of_length_eq_zero h0
        by_cases hb : Bds i s q
        · exact deedOf_drop i ao cap s q w hb
        · exact deedOf_drop_out i ao cap s q w hb
      · obtain ⟨n, hn⟩ : ∃ n, zs.length = n + 1 := ⟨zs.length - 1, by omega⟩
        rw [hn]
        exact deedOf_many i ao cap n s q zs w hn
    · exact deedOf_none k i ao cap s q zs w h1 h2

end Go.Proofs.Ytkmfkaljdngigaa
