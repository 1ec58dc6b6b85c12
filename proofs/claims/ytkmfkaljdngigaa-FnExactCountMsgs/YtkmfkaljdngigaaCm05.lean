/-
  Texts of this proof in one: NetsPlain, SpecNetF, OwnMsg, OwnNetResult, StoreKit, NetKit, CountPlain, SpecCount, ImplMust, ImplUpTo, ImplNodeId, AppInt, AppInts, ImplInts, ImplSameW, VecOf, ImplDeed, ImplWrF, ImplMsgF.
  Their conditions stand in their theorems.
-/
import Derived.Test.YtkmfkaljdngigaaCm03
import Derived.Test.YtkmfkaljdngigaaCm04
import Derived.Test.YtkmfkaljdngigaaCm01
import Derived.Test.YtkmfkaljdngigaaCm02
import Derived.Test.YtkmfkaljdngigaaChecked
import Derived.WalkKit
import Derived.WalkLawsBesides
import Derived.Deep.AppendLies
import Derived.Maps.AppendAt
import Derived.BigQuiet
import Derived.Deep.QuietTactic
import Derived.WalkSmall
import Derived.Outline
import Derived.Deep.CutRange

namespace Go.Proofs.Ytkmfkaljdngigaa
open Go.RowKit

theorem sameW_refl (y : DWrite) : sameW y y = true := by simp [sameW]
theorem sameM_refl (x : DMsg) : sameM x x = true := by simp [sameM, sameW_refl]
theorem netFault_zero {xs : List DMsg} (h : netFault xs = 0) : xs.length ≤ 40 ∧ ∀ x ∈ xs, msgFault x = 0 := by
  unfold netFault at h
  split at h
  · simp at h
  · exact ⟨by omega, msgsFrom_zero h⟩
theorem netFault_ok {xs : List DMsg} (h : xs.length ≤ 40) (h2 : ∀ x ∈ xs, msgFault x = 0) : netFault xs = 0 := by
  rw [netFault, if_neg (by omega)]
  exact msgsFrom_all h2
theorem countM_le (xs : List DMsg) (z : Int) : countM xs z ≤ xs.length := List.length_filter_le _ _
theorem sendM_there {xs : List DMsg} {x : DMsg} (h : xs.any (fun y => sameM y x) = true) : sendM xs x = ⟨0, xs⟩ := by rw [sendM, if_pos h]
theorem sendM_new {xs : List DMsg} {x : DMsg} (h : xs.any (fun y => sameM y x) = false) (hl : xs.length < 40) : sendM xs x = ⟨0, xs ++ [x]⟩ := by rw [sendM, if_neg (by simp [h]), if_neg (by omega)]
theorem sendM_full {xs : List DMsg} {x : DMsg} (h : xs.any (fun y => sameM y x) = false) (hl : 40 ≤ xs.length) : sendM xs x = badNet 2 := by rw [sendM, if_neg (by simp [h]), if_pos hl]
theorem sendR_net {xs : List DMsg} {x : DMsg} (h : netFault xs ≠ 0) : sendR xs x = badNet (netFault xs) := by rw [sendR, if_neg h]
theorem sendR_msg {xs : List DMsg} {x : DMsg} (h : netFault xs = 0) (h2 : msgFault x ≠ 0) : sendR xs x = badNet (msgFault x) := by rw [sendR, if_pos h, if_neg h2]
theorem sendR_ok {xs : List DMsg} {x : DMsg} (h : netFault xs = 0) (h2 : msgFault x = 0) : sendR xs x = sendM xs x := by rw [sendR, if_pos h, if_pos h2]
/-- What holds behind a message that was sent. -/
structure Nets (xs : List DMsg) (x : DMsg) (ys : List DMsg) : Prop where
  nf : netFault xs = 0
  mf : msgFault x = 0
  send : sendR xs x = ⟨0, ys⟩
  again : sendR ys x = ⟨0, ys⟩
  yf : netFault ys = 0
  pos : 1 ≤ ys.length
  few : ys.length ≤ 40
  le : xs.length ≤ ys.length
  ca : countR xs x.dst = ⟨0, (countM xs x.dst : Nat)⟩
  cb : countR ys x.dst = ⟨0, (countM ys x.dst : Nat)⟩
  cd : countM ys x.dst = countM xs x.dst + (ys.length - xs.length)
  drop : dropMR ys ((ys.length : Int) - 1) = ⟨0, ys.take (ys.length - 1)⟩
theorem dropMR_last {ys : List DMsg} (h : netFault ys = 0) (hp : 1 ≤ ys.length) : dropMR ys ((ys.length : Int) - 1) = ⟨0, ys.take (ys.length - 1)⟩ := by
  have e : ((ys.length : Int) - 1).toNat = ys.length - 1 := by omega
  rw [dropMR, if_pos h, if_pos (by omega), e, List.drop_eq_nil_of_le (by omega), List.append_nil]
theorem nets_plain {xs : List DMsg} {x : DMsg} (h : (sendR xs x).code = 0) : ∃ ys, Nets xs x ys := by
  by_cases hn : netFault xs = 0
  · by_cases hm : msgFault x = 0
    · obtain ⟨hl, hall⟩ := netFault_zero hn
      cases ha : xs.any (fun y => sameM y x)
      · by_cases hf : xs.length < 40
        · have hyf : netFault (xs ++ [x]) = 0 := netFault_ok (by simp; omega) fun y hy => by
            rcases List.mem_append.1 hy with hy | hy
            · exact hall y hy
            · rw [List.mem_singleton.1 hy]; exact hm
          have hag : (xs ++ [x]).any (fun y => sameM y x) = true := by simp [sameM_refl]
          refine ⟨xs ++ [x], hn, hm, by rw [sendR_ok hn hm, sendM_new ha hf], by rw [sendR_ok hyf hm, sendM_there hag], hyf, by simp, by simp; omega, by simp, by rw [countR, if_pos hn], by rw [countR, if_pos hyf], ?_, dropMR_last hyf (by simp)⟩
          simp [countM, List.filter_append]
        · rw [sendR_ok hn hm, sendM_full ha (by omega)] at h
          simp [badNet] at h
      · have hp : 1 ≤ xs.length := by
          cases xs with
          | nil => simp at ha
          | cons y ys => simp
        exact ⟨xs, hn, hm, by rw [sendR_ok hn hm, sendM_there ha], by rw [sendR_ok hn hm, sendM_there ha], hn, hp, hl, Nat.le_refl _, by rw [countR, if_pos hn], by rw [countR, if_pos hn], by omega, dropMR_last hn hp⟩
    · rw [sendR_msg hn hm] at h
      exact absurd h hm
  · rw [sendR_net hn] at h
    exact absurd h hn
end Go.Proofs.Ytkmfkaljdngigaa

namespace Go.Proofs.Ytkmfkaljdngigaa
open Go.RowKit

/-- A message of a list, at its place. -/
theorem msg_row {w : World} {b off cap : Nat} {xs : List DMsg} (h : (Lay.sl Lay.tMsg).Reads w [.slice (some ⟨b, off, none⟩) xs.length cap] xs) {k : Nat} (hk : k < xs.length) : ∃ a d, MsgAt w b (off + k * 10) xs[k] (.slice a xs[k].write.vec.length d) ∧ (Lay.sl Lay.int).Reads w [.slice a xs[k].write.vec.length d] xs[k].write.vec := by
  obtain ⟨row, hc, hr⟩ := Lay.row_at h hk
  obtain ⟨a, d, rfl, R⟩ := open_Msg hr
  exact ⟨a, d, ⟨hc 0 (by decide), hc 1 (by decide), hc 2 (by decide), hc 3 (by decide), hc 4 (by decide), hc 5 (by decide), hc 6 (by decide), hc 7 (by decide), hc 8 (by decide), hc 9 (by decide)⟩, write_vec R⟩
theorem nf_many {xs : List DMsg} (h : 40 < xs.length) : netFault xs = 2 := by rw [netFault, if_pos h]
theorem nf_few {xs : List DMsg} (h : ¬ 40 < xs.length) : netFault xs = msgsFrom xs := by rw [netFault, if_neg h]

set_option maxRecDepth 10000 in
set_option maxHeartbeats 1000000 in
theorem l11FaultC (v : Value) (xs : List DMsg) (w : World) (h : (Lay.sl Lay.tMsg).Reads w [v] xs) :
    Calls Try.prog 37 #[v] w fun e w' => e = .returned (.int .i64 (netFault xs)) ∧ Below w.heap.size w w' := by
  obtain ⟨ao, cap, rfl⟩ := open_sl h
  have hbig := h.big
  have H := hide h
  clear h
  by_cases h40 : 40 < xs.length
  · have HF := hide (nf_many h40)
    have hd : decide ((40 : Int) < (xs.length : Int)) = true := by simp; omega
    go_enter Try.func37, Try.ntmps37
    go_wp2_with fail
    go_ret
    exact ⟨by rw [unhide HF]; rfl, Below.refl _ _⟩
  · have HF := hide (nf_few h40)
    have hd : decide ((40 : Int) < (xs.length : Int)) = false := by simp; omega
    go_enter Try.func37, Try.ntmps37
    go_wp2_with fail
    clear hd
    go_loopw [3] (fun i wr => ∃ k : Nat, k ≤ xs.length ∧ i = .int .i64 k ∧ (∀ j (hj : j < xs.length), j < k → msgFault xs[j] = 0) ∧ Below w.heap.size w wr) (fun i _ => xs.length - (intOf i).toNat)
    case atStart => exact ⟨0, Nat.zero_le _, rfl, fun j _ hj => by omega, Below.refl _ _⟩
    case round =>
      obtain ⟨k, hk, rfl, hz, hB⟩ := hrel
      by_cases hlt : k < xs.length
      · obtain ⟨b, off, rfl, hbl⟩ := Lay.sl_addr (unhide H) (by omega)
        obtain ⟨a, d, hM, R⟩ := msg_row ((unhide H).later hB) hlt
        have HL := hide (l11MsgC b (off + k * 10) a d xs[k] wr hM R)
        have hbr : b < wr.heap.size := Nat.lt_of_lt_of_le hbl hB.size
        have hdl : decide ((k : Int) < (xs.length : Int)) = true := by simp; omega
        have HB := hide hB
        have HAT : Hid (msgFault xs[k] ≠ 0 → msgsFrom xs = msgFault xs[k]) := fun q => msgsFrom_at hlt (fun j hj => hz j (by omega) hj) q
        have HZ2 : Hid (msgFault xs[k] = 0 → ∀ j (hj : j < xs.length), j < k + 1 → msgFault xs[j] = 0) := by
          intro h0 j hj hjk
          by_cases hjk2 : j < k
          · exact hz j hj hjk2
          · obtain rfl : j = k := by omega
            exact h0
        clear hz hM R hB
        generalize msgFault xs[k] = f at *
        go_wp2_with fail
        refine (unhide HL).mono ?_
        rintro e w2 ⟨rfl, hb⟩
        have HB2 := hide ((unhide HB).trans (hb.mono (unhide HB).size))
        clear hb HL HB
        by_cases hf : f = 0
        · have HZ3 := hide (unhide HZ2 hf)
          subst hf
          clear HZ2 HAT
          go_wp2_with fail
          go_roundw
          case rel => exact ⟨k + 1, by omega, by go_num, unhide HZ3, unhide HB2⟩
          case measure => simp [intOf]; omega
        · have HA := hide ((unhide HF).trans (unhide HAT hf))
          have hd : (f != 0) = true := by simpa using hf
          clear HZ2 HAT hf
          go_wp2_with fail
          go_ret
          exact ⟨by rw [unhide HA]; rfl, unhide HB2⟩
      · obtain rfl : k = xs.length := by omega
        have hdl : decide ((xs.length : Int) < (xs.length : Int)) = false := by simp
        have HA := hide ((unhide HF).trans (msgsFrom_all fun x hx => by obtain ⟨j, hj, rfl⟩ := List.getElem_of_mem hx; exact hz j hj hj))
        have HB := hide hB
        clear hB hz
        go_wp2_with fail
        go_ret
        exact ⟨by rw [unhide HA]; rfl, unhide HB⟩

theorem specNetFault (v : Value) (xs : List DMsg) (w : World) (h : (Lay.sl Lay.tMsg).Reads w [v] xs) :
    Calls Try.prog 14 #[v] w fun e w' => e = .returned (.int .i64 (netFault xs)) ∧ Below w.heap.size w w' := by
  have HL := hide (l11FaultC v xs w h)
  obtain ⟨ao, cap, rfl⟩ := open_sl h
  clear h
  go_enter Try.func14, Try.ntmps14
  go_wp2_with fail
  refine (unhide HL).mono ?_
  rintro e w2 ⟨rfl, hb⟩
  have HB := hide hb
  clear HL hb
  go_wp2_with fail
  go_ret
  exact ⟨rfl, unhide HB⟩
end Go.Proofs.Ytkmfkaljdngigaa

namespace Go.Proofs.Ytkmfkaljdngigaa
open Go.RowKit

theorem vcnt_Msg (x : DMsg) : Lay.tMsg.vcnt x = Lay.tWrite.vcnt x.write := by
  show 0 + (0 + (0 + (0 + (0 + (Lay.tWrite.vcnt x.write))))) = Lay.tWrite.vcnt x.write
  omega
theorem mkv_Msg (k : Int) (x : DMsg) : Lay.tMsg.mkv k x = ⟨x.kind, x.epoch, x.src, x.dst, x.index, Lay.tWrite.mkv (k) x.write⟩ := by
  simp [Lay.tMsg, Lay.via, Lay.pair, Lay.int]
theorem own_Msg {w : World} {cs : List Value} {x : DMsg} {bl : List Nat} (h : Lay.tMsg.Own w cs x bl) : ∃ (a7 : Option Addr) (d7 : Nat) (g5 : List Nat), cs = [.int .i64 x.kind, .int .i64 x.epoch, .int .i64 x.src, .int .i64 x.dst, .int .i64 x.index, .int .i64 x.write.kind, .int .i64 x.write.id, .slice a7 x.write.vec.length d7, .int .i64 x.write.session, .int .i64 x.write.seq] ∧ bl = g5 ∧ Lay.tWrite.Own w [.int .i64 x.write.kind, .int .i64 x.write.id, .slice a7 x.write.vec.length d7, .int .i64 x.write.session, .int .i64 x.write.seq] x.write g5 ∧ (Lit.int .i64 x.kind).wf = true ∧ (Lit.int .i64 x.epoch).wf = true ∧ (Lit.int .i64 x.src).wf = true ∧ (Lit.int .i64 x.dst).wf = true ∧ (Lit.int .i64 x.index).wf = true := by
  obtain ⟨hl, hn, hf⟩ := h
  obtain ⟨a7, d7, b7, rfl, hbl, w0, w1, w2, w3, w4, w5, w6, l7, w8, w9⟩ := lies_Msg.1 hl
  rw [hbl] at hn hf
  exact ⟨a7, d7, b7, rfl, hbl, ⟨lies_Write.2 ⟨a7, d7, b7, rfl, rfl, w5, w6, l7, w8, w9⟩, hn, hf⟩, w0, w1, w2, w3, w4⟩
theorem mkOwn_Msg {w : World} {x : DMsg} {c5 : List Value} {g5 : List Nat} (O5 : Lay.tWrite.Own w c5 x.write g5) (v0 : (Lit.int .i64 x.kind).wf = true) (v1 : (Lit.int .i64 x.epoch).wf = true) (v2 : (Lit.int .i64 x.src).wf = true) (v3 : (Lit.int .i64 x.dst).wf = true) (v4 : (Lit.int .i64 x.index).wf = true) (hn : (g5).Nodup) : Lay.tMsg.Own w ([.int .i64 x.kind] ++ ([.int .i64 x.epoch] ++ ([.int .i64 x.src] ++ ([.int .i64 x.dst] ++ ([.int .i64 x.index] ++ c5))))) x (g5) := by
  refine ⟨⟨[.int .i64 x.kind], [.int .i64 x.epoch] ++ ([.int .i64 x.src] ++ ([.int .i64 x.dst] ++ ([.int .i64 x.index] ++ c5))), [], [] ++ ([] ++ ([] ++ ([] ++ g5))), rfl, by simp, ⟨rfl, v0, rfl⟩, ⟨[.int .i64 x.epoch], [.int .i64 x.src] ++ ([.int .i64 x.dst] ++ ([.int .i64 x.index] ++ c5)), [], [] ++ ([] ++ ([] ++ g5)), rfl, rfl, ⟨rfl, v1, rfl⟩, ⟨[.int .i64 x.src], [.int .i64 x.dst] ++ ([.int .i64 x.index] ++ c5), [], [] ++ ([] ++ g5), rfl, rfl, ⟨rfl, v2, rfl⟩, ⟨[.int .i64 x.dst], [.int .i64 x.index] ++ c5, [], [] ++ g5, rfl, rfl, ⟨rfl, v3, rfl⟩, ⟨[.int .i64 x.index], c5, [], g5, rfl, rfl, ⟨rfl, v4, rfl⟩, O5.1⟩⟩⟩⟩⟩, hn, ?_⟩
  intro b hb o
  exact O5.2.2 b hb o

end Go.Proofs.Ytkmfkaljdngigaa

namespace Go.Proofs.Ytkmfkaljdngigaa
open Go.RowKit

theorem vcnt_NetResult (x : DNetResult) : Lay.tNetResult.vcnt x = (Lay.sl Lay.tMsg).vcnt x.msgs := by
  show 0 + ((Lay.sl Lay.tMsg).vcnt x.msgs) = (Lay.sl Lay.tMsg).vcnt x.msgs
  omega
theorem mkv_NetResult (k : Int) (x : DNetResult) : Lay.tNetResult.mkv k x = ⟨x.code, (Lay.sl Lay.tMsg).mkv (k) x.msgs⟩ := by
  simp [Lay.tNetResult, Lay.via, Lay.pair, Lay.int]
theorem own_NetResult {w : World} {cs : List Value} {x : DNetResult} {bl : List Nat} (h : Lay.tNetResult.Own w cs x bl) : ∃ (a1 : Option Addr) (d1 : Nat) (g1 : List Nat), cs = [.int .i64 x.code, .slice a1 x.msgs.length d1] ∧ bl = g1 ∧ (Lay.sl Lay.tMsg).Own w [.slice a1 x.msgs.length d1] x.msgs g1 ∧ (Lit.int .i64 x.code).wf = true := by
  obtain ⟨hl, hn, hf⟩ := h
  obtain ⟨a1, d1, b1, rfl, hbl, w0, l1⟩ := lies_NetResult.1 hl
  rw [hbl] at hn hf
  exact ⟨a1, d1, b1, rfl, hbl, ⟨l1, hn, hf⟩, w0⟩
theorem mkOwn_NetResult {w : World} {x : DNetResult} {c1 : List Value} {g1 : List Nat} (O1 : (Lay.sl Lay.tMsg).Own w c1 x.msgs g1) (v0 : (Lit.int .i64 x.code).wf = true) (hn : (g1).Nodup) : Lay.tNetResult.Own w ([.int .i64 x.code] ++ c1) x (g1) := by
  refine ⟨⟨[.int .i64 x.code], c1, [], g1, rfl, by simp, ⟨rfl, v0, rfl⟩, O1.1⟩, hn, ?_⟩
  intro b hb o
  exact O1.2.2 b hb o

end Go.Proofs.Ytkmfkaljdngigaa

namespace Go.Proofs.Ytkmfkaljdngigaa
open Go.RowKit

theorem lies_store {α : Type} {A : Lay α} {w w4 : World} {cs vs : List Value} {y : α} {lo hi : Nat} (h : A.LiesIn w4 cs y lo hi) (hlo : w.heap.size < lo) (hhi : hi ≤ w4.heap.size) :
    A.LiesIn (setAll w4 w.heap.size 0 vs) cs y w.heap.size (setAll w4 w.heap.size 0 vs).heap.size := by
  rw [size_setAll]
  exact (h.ext (ext_setAll (fun q => q = w.heap.size) (Ext.refl _ _) _ _ _ rfl) (fun q h1 h2 h3 => by omega)).mono (by omega) hhi
theorem own_store {α : Type} {A : Lay α} {w w4 : World} {cs vs : List Value} {y : α} {lo hi : Nat} (h : A.OwnIn w4 cs y lo hi) (hlo : w.heap.size < lo) (hhi : hi ≤ w4.heap.size) :
    A.OwnIn (setAll w4 w.heap.size 0 vs) cs y w.heap.size (setAll w4 w.heap.size 0 vs).heap.size := by
  rw [size_setAll]
  exact (h.ext (ext_setAll (fun q => q = w.heap.size) (Ext.refl _ _) _ _ _ rfl) (fun q h1 h2 h3 => by omega)).mono (by omega) hhi

/-- The block s alone may turn, and it is none of those that the answer lies in. -/
theorem lies_store' {α : Type} {A : Lay α} {w4 : World} {s : Nat} {cs vs : List Value} {y : α} {lo hi : Nat} (h : A.LiesIn w4 cs y lo hi) (hs : s < lo) : A.LiesIn (setAll w4 s 0 vs) cs y lo hi :=
  h.ext (ext_setAll (fun q => q = s) (Ext.refl _ _) _ _ _ rfl) (fun q h1 h2 h3 => by omega)
theorem own_store' {α : Type} {A : Lay α} {w4 : World} {s : Nat} {cs vs : List Value} {y : α} {lo hi : Nat} (h : A.OwnIn w4 cs y lo hi) (hs : s < lo) : A.OwnIn (setAll w4 s 0 vs) cs y lo hi :=
  h.ext (ext_setAll (fun q => q = s) (Ext.refl _ _) _ _ _ rfl) (fun q h1 h2 h3 => by omega)

theorem nil_own {α : Type} {A : Lay α} {w : World} {lo hi : Nat} : (Lay.sl A).OwnIn w [.slice none 0 0] [] lo hi := ⟨[], ⟨⟨none, 0, rfl, by simp, Or.inl ⟨rfl, rfl⟩⟩, by simp, by simp⟩, by simp⟩

end Go.Proofs.Ytkmfkaljdngigaa

namespace Go.Proofs.Ytkmfkaljdngigaa
open Go.RowKit

theorem own_netR {w : World} {c : Int} {v : Value} {xs : List DMsg} {lo hi : Nat} (hc : (Lit.int .i64 c).wf = true) (h : (Lay.sl Lay.tMsg).OwnIn w [v] xs lo hi) : Lay.tNetResult.OwnIn w [.int .i64 c, v] ⟨c, xs⟩ lo hi := by
  obtain ⟨bl, O, i⟩ := h
  exact ⟨bl, mkOwn_NetResult (x := ⟨c, xs⟩) O hc O.2.1, i⟩
theorem lies_netR {w : World} {c : Int} {a : Option Addr} {m d : Nat} {xs : List DMsg} {lo hi : Nat} (hc : (Lit.int .i64 c).wf = true) (h : (Lay.sl Lay.tMsg).LiesIn w [.slice a m d] xs lo hi) : Lay.tNetResult.LiesIn w [.int .i64 c, .slice a m d] ⟨c, xs⟩ lo hi := by
  obtain ⟨bl, l, i⟩ := h
  have hm : m = xs.length := (Lay.Reads.cap ⟨bl, l⟩).1
  subst hm
  exact ⟨bl, lies_NetResult.2 ⟨a, d, bl, rfl, rfl, hc, l⟩, i⟩
theorem own_badNet {w : World} {c : Int} {lo hi : Nat} (hc : -1000000000 ≤ c ∧ c ≤ 1000000000) : Lay.tNetResult.OwnIn w [.int .i64 c, .slice none 0 0] (badNet c) lo hi := own_netR (xs := []) (wf_of_bd hc) nil_own
theorem lies_badNet {w : World} {c : Int} {lo hi : Nat} (hc : -1000000000 ≤ c ∧ c ≤ 1000000000) : Lay.tNetResult.LiesIn w [.int .i64 c, .slice none 0 0] (badNet c) lo hi := (own_badNet hc).lies
theorem msg_vec {x : DMsg} (h : msgFault x = 0) : x.write.vec.length ≤ 100000000 := by
  unfold msgFault at h
  split at h
  · simp at h
  · rename_i h1
    split at h
    · simp at h
    · split at h
      · rename_i h3
        have h4 : noW x.write := Decidable.byContradiction fun q => h1 (Or.inr (Or.inr ⟨h3, q⟩))
        have := h4.2.2.2.2
        omega
      · obtain ⟨-, -, -, hk⟩ := writeFault_zero h
        rcases hk with ⟨-, hv⟩ | ⟨-, hv⟩
        · have := (vecFault_zero hv).1; omega
        · rw [hv]; simp
theorem msgs_vec {xs : List DMsg} (h : netFault xs = 0) : ∀ x ∈ xs, x.write.vec.length ≤ 100000000 := fun x hx => msg_vec ((netFault_zero h).2 x hx)
end Go.Proofs.Ytkmfkaljdngigaa

namespace Go.Proofs.Ytkmfkaljdngigaa
open Go.RowKit

theorem countM_step (xs : List DMsg) (z : Int) (k : Nat) (hk : k < xs.length) : countM (xs.take (k + 1)) z = countM (xs.take k) z + (if xs[k].dst == z then 1 else 0) := by
  rw [List.take_succ_eq_append_getElem hk, countM, countM, List.filter_append, List.length_append]
  congr 1
  cases h : (xs[k].dst == z)
  · simp [h]
  · simp [h]
theorem own_intRM {w : World} {c n : Int} {lo hi : Nat} (hc : -1000000000 ≤ c ∧ c ≤ 1000000000) (hn : -1000000000 ≤ n ∧ n ≤ 1000000000) : Lay.tIntResult.OwnIn w [.int .i64 c, .int .i64 n] ⟨c, n⟩ lo hi :=
  ⟨[], ⟨lies_IntResult.2 ⟨rfl, rfl, wf_of_bd hc, wf_of_bd hn⟩, by simp, by simp⟩, by simp⟩
end Go.Proofs.Ytkmfkaljdngigaa

namespace Go.Proofs.Ytkmfkaljdngigaa
open Go.RowKit

set_option maxRecDepth 10000 in
set_option maxHeartbeats 1000000 in
theorem specCountMsgs (v : Value) (xs : List DMsg) (z : Int) (w : World) (h : (Lay.sl Lay.tMsg).Reads w [v] xs) :
    Calls Try.prog 27 #[v, .int .i64 z] w fun e w' => ∃ cs, e = .returned (.agg cs.toArray) ∧ Lay.tIntResult.OwnIn w' cs (countR xs z) w.heap.size w'.heap.size ∧ Below w.heap.size w w' := by
  obtain ⟨ao, cap, rfl⟩ := open_sl h
  have hbig := h.big
  have nb : Below w.heap.size w (w.alloc (.cells #[.int .i64 0, .int .i64 0] 53)) := (Below.refl _ _).alloc (Nat.le_refl _) _
  have bR : Box 0 #[.int .i64 0, .int .i64 0] 53 (w.alloc (.cells #[.int .i64 0, .int .i64 0] 53)) w.heap.size := newBox (Nat.zero_le _)
  have HF := hide (l11FaultC _ xs _ (h.later nb))
  have H := hide h
  have HB := hide nb
  have HR := hide bR
  clear h nb bR
  go_enter Try.func27, Try.ntmps27
  go_wp2_with fail
  generalize w.alloc (.cells #[.int .i64 0, .int .i64 0] 53) = W0 at *
  refine (unhide HF).mono ?_
  rintro e W ⟨rfl, hb⟩
  replace HR := hide ((unhide HR).keep hb)
  replace HB := hide ((unhide HB).trans (hb.mono (unhide HB).size))
  clear HF hb
  replace H := hide ((unhide H).later (unhide HB))
  by_cases hc : netFault xs = 0
  · rw [hc]
    have HV : Hid (countR xs z = ⟨0, (countM xs z : Nat)⟩) := by show countR xs z = _; rw [countR, if_pos hc]
    have hlen := (netFault_zero hc).1
    clear hc
    go_wp2_with fail
    go_loop [6, 7] (fun n i => ∃ k : Nat, k ≤ xs.length ∧ i = .int .i64 k ∧ n = .int .i64 (countM (xs.take k) z : Nat)) (fun _ i => xs.length - (intOf i).toNat)
    case atStart => exact ⟨0, Nat.zero_le _, rfl, rfl⟩
    case round =>
      obtain ⟨k, hk, rfl, rfl⟩ := hrel
      by_cases hlt : k < xs.length
      · obtain ⟨b, off, rfl, hbl⟩ := Lay.sl_addr (unhide H) (by omega)
        obtain ⟨a, d, hM, -⟩ := msg_row (unhide H) hlt
        have c3 := hM.2.2.2.1
        have hst := countM_step xs z k hlt
        have hle := countM_le (xs.take k) z
        rw [List.length_take] at hle
        have hle2 : countM (xs.take k) z ≤ 40 := by omega
        have hdl : decide ((k : Int) < (xs.length : Int)) = true := by simp; omega
        clear hM hle
        generalize xs[k] = y at *
        generalize countM (xs.take k) z = m at *
        have HST := hide hst
        clear hst
        cases e1 : (y.dst == z)
        · have HN : Hid (countM (xs.take (k + 1)) z = m) := by have q := unhide HST; rw [e1] at q; exact q
          clear HST
          go_wp2_with fail
          go_round
          case rel => exact ⟨k + 1, by omega, by go_num, by rw [unhide HN]⟩
          case measure => simp [intOf]; omega
        · have HN : Hid (countM (xs.take (k + 1)) z = m + 1) := by have q := unhide HST; rw [e1] at q; exact q
          clear HST
          go_wp2_with fail
          go_round
          case rel => exact ⟨k + 1, by omega, by go_num, by rw [unhide HN]; go_num⟩
          case measure => simp [intOf]; omega
      · obtain rfl : k = xs.length := by omega
        have hdl : decide ((xs.length : Int) < (xs.length : Int)) = false := by simp
        have hle := countM_le xs z
        have hle2 : countM xs z ≤ 40 := by omega
        rw [List.take_length]
        generalize countM xs z = m at *
        have z0 : W.cell? ⟨w.heap.size, 0, none⟩ = some (.int .i64 0) := (unhide HR).at 0 _ rfl
        have z1 : W.cell? ⟨w.heap.size, 1, none⟩ = some (.int .i64 0) := (unhide HR).at 1 _ rfl
        have ff := (unhide HR).soft
        have l0 := (unhide HR).lt
        have HB2 := hide (below_setAll (unhide HB) w.heap.size 0 [.int .i64 0, .int .i64 (m : Nat)] (by omega))
        clear HB HR H hle
        go_wp2_with fail
        refine bodyPost_ret (v := .agg #[.int .i64 0, .int .i64 (m : Nat)]) (by simp [results, Try.results27, go_sem, z0, z1]) rfl ?_
        rw [unhide HV]
        exact ⟨[_, _], rfl, own_intRM (by decide) (by omega), unhide HB2⟩
  · have HV : Hid (countR xs z = ⟨netFault xs, 0⟩) := by show countR xs z = _; rw [countR, if_neg hc]
    have hv := netFault_vals xs
    have hd : (netFault xs != 0) = true := by simpa using hc
    generalize netFault xs = f at *
    clear hc
    have z0 : W.cell? ⟨w.heap.size, 0, none⟩ = some (.int .i64 0) := (unhide HR).at 0 _ rfl
    have z1 : W.cell? ⟨w.heap.size, 1, none⟩ = some (.int .i64 0) := (unhide HR).at 1 _ rfl
    have ff := (unhide HR).soft
    have l0 := (unhide HR).lt
    have HB2 := hide (below_setAll (unhide HB) w.heap.size 0 [.int .i64 f, .int .i64 0] (by omega))
    clear HB HR
    go_wp2_with fail
    refine bodyPost_ret (v := .agg #[.int .i64 f, .int .i64 0]) (by simp [results, Try.results27, go_sem, z0, z1]) rfl ?_
    rw [unhide HV]
    exact ⟨[_, _], rfl, own_intRM (by omega) (by decide), unhide HB2⟩
end Go.Proofs.Ytkmfkaljdngigaa

namespace Go.Proofs.Ytkmfkaljdngigaa
open Go.RowKit

/-- How what checks ends: a panic that carries the code, if there is one. -/
def wrongP (c : Int) : List PanicEntry := [{ v := .iface 95 (.agg #[.int .i64 c]), recovered := false }]
def wrongE (c : Int) : Ending := if c = 0 then .returned (.tuple #[]) else .panicked (wrongP c)
theorem wrongE_ok {c : Int} (h : c = 0) : wrongE c = .returned (.tuple #[]) := by rw [wrongE, if_pos h]
theorem wrongE_bad {c : Int} (h : c ≠ 0) : wrongE c = .panicked (wrongP c) := by rw [wrongE, if_neg h]

def workE (v : Value) (c : Int) : Ending := if c = 0 then .returned v else .panicked (wrongP c)
theorem workE_ok {v : Value} {c : Int} (h : c = 0) : workE v c = .returned v := by rw [workE, if_pos h]
theorem workE_bad {v : Value} {c : Int} (h : c ≠ 0) : workE v c = .panicked (wrongP c) := by rw [workE, if_neg h]

theorem mustT (c : Int) (w : World) :
    Calls Try.prog 60 #[.bool true, .int .i64 c] w fun e w' => e = .returned (.tuple #[]) ∧ w' = w := by
  go_enter Try.func60, Try.ntmps60
  go_wp2_with fail
  go_end0
  exact ⟨rfl, rfl⟩
theorem mustF (c : Int) (w : World) :
    Calls Try.prog 60 #[.bool false, .int .i64 c] w fun e w' => e = .panicked (wrongP c) ∧ w' = w := by
  go_enter Try.func60, Try.ntmps60
  go_wp2_with fail
  exact ⟨rfl, rfl, rfl⟩
end Go.Proofs.Ytkmfkaljdngigaa

namespace Go.Proofs.Ytkmfkaljdngigaa
open Go.RowKit

theorem isUpToC (n m : Int) (w : World) :
    Calls Try.prog 82 #[.int .i64 n, .int .i64 m] w fun e w' => e = .returned (.bool (decide (0 ≤ n) && decide (n ≤ m))) ∧ w' = w := by
  by_cases h1 : 0 ≤ n
  · have d1 : decide (0 ≤ n) = true := by simpa using h1
    rw [d1]
    cases d2 : decide (n ≤ m) <;>
    · go_enter Try.func82, Try.ntmps82
      go_wp2_with fail
      go_ret
      exact ⟨rfl, rfl⟩
  · have d1 : decide (0 ≤ n) = false := by simpa using h1
    rw [d1]
    go_enter Try.func82, Try.ntmps82
    go_wp2_with fail
    go_ret
    exact ⟨rfl, rfl⟩
end Go.Proofs.Ytkmfkaljdngigaa

namespace Go.Proofs.Ytkmfkaljdngigaa
open Go.RowKit

theorem isNodeIdC (n : Int) (w : World) :
    Calls Try.prog 63 #[.int .i64 n] w fun e w' => e = .returned (.bool (decide (1 ≤ n) && decide (n ≤ 5))) ∧ w' = w := by
  by_cases h1 : 1 ≤ n
  · have d1 : decide (1 ≤ n) = true := by simpa using h1
    rw [d1]
    cases d2 : decide (n ≤ 5) <;>
    · go_enter Try.func63, Try.ntmps63
      go_wp2_with fail
      go_ret
      exact ⟨rfl, rfl⟩
  · have d1 : decide (1 ≤ n) = false := by simpa using h1
    rw [d1]
    go_enter Try.func63, Try.ntmps63
    go_wp2_with fail
    go_ret
    exact ⟨rfl, rfl⟩
end Go.Proofs.Ytkmfkaljdngigaa

namespace Go.Proofs.Ytkmfkaljdngigaa
open Go.RowKit

theorem grown_alloc {w w' : World} {o : Obj} {r : Option Nat} (h : (w.alloc o).grownBy w' r) : w.grownBy w' r := grown_trans (World.grownBy_alloc w o r) h

/-- At an operation of a plain region: 'append(s, q)', q laid into a block of its own first. -/
theorem wpList_append_int {w1 : World} {base : Nat} {v : Value} {n : Nat} {xs : List Value} (hown : w1.ownsRow base 2 1 v n xs) (q : Int) {ops : Array Oper} {rest : List Oper} {o : Oper} {a : Act} {Q : Exit → Act → World → Prop} (hgd : o.guard = none) (s x : Operand)
    (ho : o.op = .call { callee := .builtin .append, args := #[s, x], argTypes := #[22, 22] }) (hs : a.eval s = v) (hx : a.eval x = .slice (some ⟨w1.heap.size, 0, none⟩) 1 1)
    (hn : n ≤ 100000000) (hbase : base ≤ w1.heap.size)
    (h : ∀ g cap w', w'.ownsRow base 2 1 (.slice (some ⟨g, 0, none⟩) (n + 1) cap) (n + 1) (xs ++ [.int .i64 q]) → w1.grownBy w' v.ownBlock → Below base w1 w' → g < w'.heap.size → w1.heap.size < w'.heap.size → wpList Try.prog ops Q rest (a.put o.dst (.slice (some ⟨g, 0, none⟩) (n + 1) cap)) w') :
    wpList Try.prog ops Q (o :: rest) a (w1.alloc (.cells #[.int .i64 q] 2)) := by
  obtain ⟨i0, hi0, hz0, hz1, hz2⟩ := info_parts info2
  refine wpList_append_lies _ hgd s x 22 ho base 2 i0 _ 1 8 Try.underlying22 hi0 hz0 hz1 hz2 rfl (by omega) v n xs hs (hown.alloc _) ⟨w1.heap.size, 0, none⟩ 1 1 [.int .i64 q] hx rfl (World.news_of_block (cs := #[.int .i64 q]) (t := 2) (fr := (0, 0)) (heap_alloc_new w1 _)) (by simp [Value.oneCell']) (by omega) (by unfold maxLen; omega) (by omega) (by simp; omega) (w1.heap.size + 1) (by simp) ?_
  intro g cap w' h2 h3 _ h5
  have hg := grown_alloc h3
  have hsz := h3.size
  simp only [World.size_alloc] at hsz
  exact h g cap w' h2 hg ((Below.refl _ _).grown hg hbase (fun j hj => (hown.lt j hj).1)) h5 (by omega)

end Go.Proofs.Ytkmfkaljdngigaa

namespace Go.Proofs.Ytkmfkaljdngigaa
open Go.RowKit

theorem append_noneI {P : Program} (t ty e : TypeId) (i : TypeInfo) (ht : P.underlying t = some (.slice e)) (hi : P.info? e = some i) (bo : Option Addr) (n cap c : Nat) (hn : n ≤ cap) (w : World) :
    (Builtin.append_ #[t, t] ty #[.slice bo n cap, .slice none 0 c]).run P w = (Builtin.append_ #[t, t] ty #[.slice bo n cap, .slice (some ⟨0, 0, none⟩) 0 c]).run P w := by
  simp [Builtin.append_, run_underlying ht, sizeOf, typeInfo, hi, Builtin.lenOf, hn, Builtin.firstCells, loadCells, loadCellsFrom]

theorem IsInts.news {w : World} {b off cap : Nat} {zs : List Int} (h : IsInts w (.slice (some ⟨b, off, none⟩) zs.length cap) zs) (hp : 0 < zs.length) : ∀ j u, (zs.map (Value.int .i64))[j]? = some u → w.cell? ((⟨b, off, none⟩ : Addr).add j) = some u := by
  intro j u hu
  obtain ⟨ao, cp, hv, hwf, hc⟩ := h
  obtain ⟨b', off', hao, hc1⟩ := hc hp
  simp only [Value.slice.injEq] at hv
  obtain ⟨rfl, -, -⟩ := hv
  simp only [Option.some.injEq, Addr.mk.injEq, and_true] at hao
  obtain ⟨rfl, rfl⟩ := hao
  have hj : j < zs.length := by
    have := (List.getElem?_eq_some_iff.1 hu).1
    simpa using this
  rw [Addr.add_lit, hc1 j hj]
  simp [hj] at hu
  simp [List.getD, hj, hu]

theorem run_append_ints {w : World} (base ty : Nat) (v : Value) (n : Nat) (xs : List Value) (hown : w.ownsRow base 2 1 v n xs) (x : Value) (ks : List Int) (hx : IsInts w x ks)
    (hn : n + ks.length ≤ 100000000) (hbase : base ≤ w.heap.size) :
    ∃ v' w', (Builtin.append_ #[22, 22] ty #[v, x]).run Try.prog w = .ok v' w' ∧ w'.ownsRow base 2 1 v' (n + ks.length) (xs ++ ks.map (Value.int .i64)) ∧ w.grownBy w' v.ownBlock := by
  obtain ⟨i0, hi, hz0, hz1, hz2⟩ := info_parts info2
  have hml : n + ks.length ≤ maxLen := by unfold maxLen; omega
  by_cases hp : 0 < ks.length
  · have hx' := hx
    obtain ⟨ao, cap, rfl, hwf, hc⟩ := hx'
    obtain ⟨b, off, rfl, hc1⟩ := hc hp
    obtain ⟨v', w', r1, r2, r3, -, -⟩ := run_append_own_at (P := Try.prog) w base 22 ty 2 i0 _ 1 8 Try.underlying22 hi hz0 hz1 hz2 rfl (by omega) v n xs hown ⟨b, off, none⟩ ks.length cap (ks.map (Value.int .i64)) (by simp) (hx.news hp) (by simp [Value.oneCell']) hml (by omega) hbase
    exact ⟨v', w', r1, r2, r3⟩
  · obtain rfl : ks = [] := List.eq_nil_of_length_eq_zero (by omega)
    obtain ⟨ao, cap, rfl, hwf, hc⟩ := hx
    cases ao with
    | none =>
      obtain ⟨v', w', r1, r2, r3, -, -⟩ := run_append_own_at (P := Try.prog) w base 22 ty 2 i0 _ 1 8 Try.underlying22 hi hz0 hz1 hz2 rfl (by omega) v n xs hown ⟨0, 0, none⟩ 0 cap [] rfl (by simp) (by simp) hml (by simp at hn; omega) hbase
      refine ⟨v', w', ?_, r2, r3⟩
      rcases hown.2 with ⟨rfl, h0⟩ | ⟨g, cp, cur, rfl, _, _, hle, _⟩
      · exact (append_noneI _ _ _ i0 Try.underlying22 hi none 0 0 cap (Nat.le_refl _) w).trans r1
      · exact (append_noneI _ _ _ i0 Try.underlying22 hi _ n cp cap hle w).trans r1
    | some ad =>
      obtain ⟨v', w', r1, r2, r3, -, -⟩ := run_append_own_at (P := Try.prog) w base 22 ty 2 i0 _ 1 8 Try.underlying22 hi hz0 hz1 hz2 rfl (by omega) v n xs hown ad 0 cap [] rfl (by simp) (by simp) hml (by simp at hn; omega) hbase
      exact ⟨v', w', r1, r2, r3⟩

/-- The same at an operation of a plain region. -/
theorem wpList_append_ints {w : World} {base : Nat} {v : Value} {n : Nat} {xs : List Value} (hown : w.ownsRow base 2 1 v n xs) {X : Value} {ks : List Int} (hx : IsInts w X ks)
    {ops : Array Oper} {rest : List Oper} {o : Oper} {a : Act} {Q : Exit → Act → World → Prop} (hgd : o.guard = none) (s x : Operand)
    (ho : o.op = .call { callee := .builtin .append, args := #[s, x], argTypes := #[22, 22] }) (hv : a.eval s = v) (hX : a.eval x = X)
    (hn : n + ks.length ≤ 100000000) (hbase : base ≤ w.heap.size)
    (h : ∀ v' w', w'.ownsRow base 2 1 v' (n + ks.length) (xs ++ ks.map (Value.int .i64)) → w.grownBy w' v.ownBlock → Below base w w' → wpList Try.prog ops Q rest (a.put o.dst v') w') :
    wpList Try.prog ops Q (o :: rest) a w := by
  refine wpList_plain hgd fun K hK => ?_
  obtain ⟨v', w', hr, h2, h3⟩ := run_append_ints base o.type v n xs hown X ks hx hn hbase
  unfold Oper.wp execOp
  simp only [ho, resolve, invoke, builtin, Sem.run_bind, Sem.run_pure, Result.andThen_ok, List.map_toArray, List.map_cons, List.map_nil, hv, hX, hr]
  exact hK _ _ (h v' w' h2 h3 ((Below.refl _ _).grown h3 hbase (fun j hj => (hown.lt j hj).1)))

end Go.Proofs.Ytkmfkaljdngigaa

namespace Go.Proofs.Ytkmfkaljdngigaa
open Go.RowKit

theorem ne_at_slEqual {ps qs : List Int} {k : Nat} (h : ps.getD k 0 ≠ qs.getD k 0) : decide (ps = qs) = false := by
  simp only [decide_eq_false_iff_not]
  rintro rfl
  exact h rfl
theorem eq_all_slEqual {ps qs : List Int} (hl : ps.length = qs.length) (h : ∀ j, j < ps.length → ps.getD j 0 = qs.getD j 0) : decide (ps = qs) = true := by
  simp only [decide_eq_true_eq]
  refine List.ext_getElem hl fun j h1 h2 => ?_
  have := h j h1
  simpa [List.getD, h1, h2] using this

set_option maxHeartbeats 800000 in
theorem slEqual_pos (b off cap b2 off2 cap2 : Nat) (ps qs : List Int) (w : World) (hl : ps.length = qs.length) (hn : ps.length ≤ 9223372036854775807) (hc : ∀ j, j < ps.length → w.cell? ⟨b, off + j, none⟩ = some (.int .i64 (ps.getD j 0)))
    (hc2 : ∀ j, j < ps.length → w.cell? ⟨b2, off2 + j, none⟩ = some (.int .i64 (qs.getD j 0))) :
    Calls Try.prog 81 #[.slice (some ⟨b, off, none⟩) ps.length cap, .slice (some ⟨b2, off2, none⟩) ps.length cap2] w fun e w' => e = .returned (.bool (decide (ps = qs))) ∧ Below w.heap.size w w' := by
  have HL := hide hl
  clear hl
  go_enter Try.func81, Try.ntmps81
  go_wp2
  go_loopw [13] (fun i wr => ∃ k : Nat, k ≤ ps.length ∧ i = .int .i64 k ∧ Below w.heap.size w wr ∧ ∀ j, j < k → ps.getD j 0 = qs.getD j 0) (fun i _ => ps.length - (intOf i).toNat)
  case atStart => exact ⟨0, Nat.zero_le _, rfl, Below.refl _ _, fun j hj => by omega⟩
  case round =>
    obtain ⟨k, hk, rfl, hB, hq⟩ := hrel
    by_cases hlt : k < ps.length
    · have hcx : wr.cell? ⟨b, off + k, none⟩ = some (.int .i64 (ps.getD k 0)) := (hB.cell (World.block_lt_of_cell? _ _ (hc k hlt))).trans (hc k hlt)
      have hcy : wr.cell? ⟨b2, off2 + k, none⟩ = some (.int .i64 (qs.getD k 0)) := (hB.cell (World.block_lt_of_cell? _ _ (hc2 k hlt))).trans (hc2 k hlt)
      have HQ := hide hq
      have HB := hide hB
      clear hc hc2 hq hB
      by_cases he : ps.getD k 0 = qs.getD k 0
      · have HE := hide he
        rw [← he] at hcy
        clear he
        generalize ps.getD k 0 = x at hcx hcy
        have hxx : (x != x) = false := by simp
        go_wp2
        go_quiet (fail)
        go_wp2
        go_roundw
        case rel =>
          refine ⟨k + 1, by omega, by go_num, below_drewN (unhide HB) _, fun j hj => ?_⟩
          by_cases hjk : j < k
          · exact unhide HQ j hjk
          · obtain rfl : j = k := by omega
            exact unhide HE
        case measure => simp [intOf]; omega
      · have HN := hide (ne_at_slEqual he)
        have hxy : (ps.getD k 0 != qs.getD k 0) = true := by rw [bne_iff_ne]; exact he
        clear he
        generalize ps.getD k 0 = x at hcx hxy
        generalize qs.getD k 0 = y at hcy hxy
        go_wp2
        go_quiet (fail)
        go_wp2
        go_ret
        exact ⟨by rw [unhide HN]; rfl, below_drewN (unhide HB) _⟩
    · obtain rfl : k = ps.length := by omega
      have HN := hide (eq_all_slEqual (unhide HL) hq)
      have HB := hide hB
      clear hc hc2 hq hB
      go_wp2
      go_ret
      exact ⟨by rw [unhide HN]; rfl, unhide HB⟩
set_option maxHeartbeats 400000 in
theorem slEqual_len (ao ao2 : Option Addr) (n m cap cap2 : Nat) (w : World) (h : n ≠ m) :
    Calls Try.prog 81 #[.slice ao n cap, .slice ao2 m cap2] w fun e w' => e = .returned (.bool false) ∧ Below w.heap.size w w' := by
  have hd : ((n : Int) != (m : Int)) = true := by rw [bne_iff_ne]; omega
  go_enter Try.func81, Try.ntmps81
  go_wp2
  go_ret
  exact ⟨rfl, Below.refl _ _⟩
theorem slEqual_zero (ao ao2 : Option Addr) (cap cap2 : Nat) (w : World) :
    Calls Try.prog 81 #[.slice ao 0 cap, .slice ao2 0 cap2] w fun e w' => e = .returned (.bool true) ∧ Below w.heap.size w w' := by
  go_enter Try.func81, Try.ntmps81
  go_wp2
  refine wp_loop_rounds 1 ?_
  rw [rounds_succ]
  go_wp2
  go_ret
  exact ⟨rfl, Below.refl _ _⟩
/-- Whether two lists of numbers are the same. -/
theorem slEqual (v v2 : Value) (ps qs : List Int) (w : World) (h : IsInts w v ps) (h2 : IsInts w v2 qs) (hn : ps.length ≤ 9223372036854775807) :
    Calls Try.prog 81 #[v, v2] w fun e w' => e = .returned (.bool (decide (ps = qs))) ∧ Below w.heap.size w w' := by
  obtain ⟨ao, cap, rfl, hwf, hc⟩ := h
  obtain ⟨ao2, cap2, rfl, _, hc2⟩ := h2
  by_cases hl : ps.length = qs.length
  · by_cases hp : 0 < ps.length
    · obtain ⟨b, off, rfl, hc1⟩ := hc hp
      obtain ⟨b2, off2, rfl, hc3⟩ := hc2 (by omega)
      rw [← hl] at hc3 ⊢
      exact slEqual_pos b off cap b2 off2 cap2 ps qs w hl hn hc1 hc3
    · obtain rfl : ps = [] := List.eq_nil_of_length_eq_zero (by omega)
      obtain rfl : qs = [] := List.eq_nil_of_length_eq_zero (by simpa using hl.symm)
      exact slEqual_zero ao ao2 cap cap2 w
  · rw [show decide (ps = qs) = false by simp only [decide_eq_false_iff_not]; rintro rfl; exact hl rfl]
    exact slEqual_len ao ao2 _ _ cap cap2 w hl

end Go.Proofs.Ytkmfkaljdngigaa

namespace Go.Proofs.Ytkmfkaljdngigaa
open Go.RowKit

set_option maxRecDepth 10000 in
set_option maxHeartbeats 2000000 in
theorem sameWrite (cs cs2 : List Value) (x y : DWrite) (w : World) (h : Lay.tWrite.Reads w cs x) (h2 : Lay.tWrite.Reads w cs2 y) :
    Calls Try.prog 61 #[.agg cs.toArray, .agg cs2.toArray] w fun e w' => e = .returned (.bool (sameW x y)) ∧ Below w.heap.size w w' := by
  obtain ⟨a2, d2, rfl, R2⟩ := open_Write h
  obtain ⟨a2z, d2z, rfl, R2z⟩ := open_Write h2
  clear h h2
  have HB : Hid (Below w.heap.size w ((w.alloc (.cells #[.int .i64 x.kind, .int .i64 x.id, .slice a2 x.vec.length d2, .int .i64 x.session, .int .i64 x.seq] 29)).alloc (.cells #[.int .i64 y.kind, .int .i64 y.id, .slice a2z y.vec.length d2z, .int .i64 y.session, .int .i64 y.seq] 29))) := ((Below.refl _ _).alloc (Nat.le_refl _) _).alloc (by simp) _
  cases e0 : (x.kind == y.kind) with
  | false =>
    have HS : Hid (sameW x y = false) := by
      show sameW x y = false
      simp [sameW, e0]
    go_enter Try.func61, Try.ntmps61
    go_wp2_with fail
    go_ret
    exact ⟨by rw [unhide HS]; rfl, unhide HB⟩
  | true =>
    cases e1 : (x.id == y.id) with
    | false =>
      have HS : Hid (sameW x y = false) := by
        show sameW x y = false
        simp [sameW, e0, e1]
      go_enter Try.func61, Try.ntmps61
      go_wp2_with fail
      go_ret
      exact ⟨by rw [unhide HS]; rfl, unhide HB⟩
    | true =>
      cases e2 : (x.session == y.session) with
      | false =>
        have HS : Hid (sameW x y = false) := by
          show sameW x y = false
          simp [sameW, e0, e1, e2]
        go_enter Try.func61, Try.ntmps61
        go_wp2_with fail
        go_ret
        exact ⟨by rw [unhide HS]; rfl, unhide HB⟩
      | true =>
        cases e3 : (x.seq == y.seq) with
        | false =>
          have HS : Hid (sameW x y = false) := by
            show sameW x y = false
            simp [sameW, e0, e1, e2, e3]
          go_enter Try.func61, Try.ntmps61
          go_wp2_with fail
          go_ret
          exact ⟨by rw [unhide HS]; rfl, unhide HB⟩
        | true =>
          have HS : Hid (sameW x y = decide (x.vec = y.vec)) := by
            show sameW x y = decide (x.vec = y.vec)
            simp [sameW, e0, e1, e2, e3]
          have L := hide (slEqual _ _ x.vec y.vec _ ((Lay.ints_reads R2).later (unhide HB)) ((Lay.ints_reads R2z).later (unhide HB)) R2.big)
          clear R2 R2z
          go_enter Try.func61, Try.ntmps61
          go_wp2_with fail
          refine (unhide L).mono ?_
          rintro e w1 ⟨rfl, hb⟩
          have HB1 := hide ((unhide HB).trans (hb.mono (unhide HB).size))
          clear hb L HB
          go_wp2_with fail
          go_ret
          exact ⟨by rw [unhide HS]; rfl, unhide HB1⟩
end Go.Proofs.Ytkmfkaljdngigaa

namespace Go.Proofs.Ytkmfkaljdngigaa
open Go.RowKit

theorem bcell {W w1 : World} (hb : Below W.heap.size W w1) : (∀ b o, b < W.heap.size → w1.cell? ⟨b, o, none⟩ = W.cell? ⟨b, o, none⟩) ∧ (∀ b o, b < W.heap.size → w1.frozen? ⟨b, o, none⟩ = W.frozen? ⟨b, o, none⟩) :=
  ⟨fun b o h => hb.cell (p := ⟨b, o, none⟩) h, fun b o h => hb.frozen (p := ⟨b, o, none⟩) h⟩

/-- Two blocks of three cells that were laid ahead of a call are there behind it, and may be written. -/
theorem two_kept {w w1 : World} {T : TypeId} {x0 x1 x2 y0 y1 y2 : Value} (hb : Below ((w.alloc (.cells #[x0, x1, x2] T)).alloc (.cells #[y0, y1, y2] T)).heap.size ((w.alloc (.cells #[x0, x1, x2] T)).alloc (.cells #[y0, y1, y2] T)) w1) :
    (w1.cell? ⟨w.heap.size, 0, none⟩ = some x0 ∧ w1.cell? ⟨w.heap.size, 1, none⟩ = some x1 ∧ w1.cell? ⟨w.heap.size, 2, none⟩ = some x2) ∧
    (w1.cell? ⟨w.heap.size + 1, 0, none⟩ = some y0 ∧ w1.cell? ⟨w.heap.size + 1, 1, none⟩ = some y1 ∧ w1.cell? ⟨w.heap.size + 1, 2, none⟩ = some y2) ∧
    (∀ o, w1.frozen? ⟨w.heap.size, o, none⟩ = false) ∧ (∀ o, w1.frozen? ⟨w.heap.size + 1, o, none⟩ = false) := by
  refine ⟨⟨?_, ?_, ?_⟩, ⟨?_, ?_, ?_⟩, fun o => ?_, fun o => ?_⟩
  all_goals first | rw [hb.cell (by simp [World.size_alloc]; try omega)] | rw [hb.frozen (by simp [World.size_alloc]; try omega)]
  all_goals simp [go_sem]

/-- Three numbers as an array. -/
def arr3 (x y z : Int) : Value := .agg #[.int .i64 x, .int .i64 y, .int .i64 z]

theorem IsInts.three {w : World} {v : Value} {zs : List Int} (h : IsInts w v zs) (h3 : zs.length = 3) :
    ∃ b off cap x y z, zs = [x, y, z] ∧ v = .slice (some ⟨b, off, none⟩) 3 cap ∧ b < w.heap.size ∧ w.cell? ⟨b, off, none⟩ = some (.int .i64 x) ∧ w.cell? ⟨b, off + 1, none⟩ = some (.int .i64 y) ∧ w.cell? ⟨b, off + 2, none⟩ = some (.int .i64 z) := by
  obtain ⟨ao, cap, rfl, hwf, hc⟩ := h
  match zs, h3 with
  | [x, y, z], _ =>
    obtain ⟨b, off, rfl, hc1⟩ := hc (by simp)
    have c0 := hc1 0 (by simp)
    have c1 := hc1 1 (by simp)
    have c2 := hc1 2 (by simp)
    exact ⟨b, off, cap, x, y, z, rfl, rfl, World.block_lt_of_cell? _ _ c0, by simpa using c0, by simpa using c1, by simpa using c2⟩

set_option maxHeartbeats 400000 in
theorem vectorOf_bad (v : Value) (zs : List Int) (w : World) (h : IsInts w v zs) (hf : vecFault zs ≠ 0) :
    Calls Try.prog 92 #[v] w fun e w' => e = .returned (.tuple #[arr3 0 0 0, .int .i64 (vecFault zs)]) ∧ Below w.heap.size w w' := by
  go_enter Try.func92, Try.ntmps92
  go_wp2_with fail
  refine (implFault v zs _ (h.later (((Below.refl _ _).alloc (Nat.le_refl _) _).alloc (by simp) _))).mono ?_
  rintro e w' ⟨rfl, rfl⟩
  have hne : (vecFault zs != 0) = true := by rw [bne_iff_ne]; exact hf
  go_wp2_with fail
  refine bodyPost_ret (v := .tuple #[arr3 0 0 0, .int .i64 (vecFault zs)]) (by simp [results, Try.results92, go_sem, arr3]) rfl ⟨rfl, ?_⟩
  exact ((Below.refl _ _).alloc (Nat.le_refl _) _).alloc (by simp) _

set_option maxHeartbeats 1000000 in
theorem vectorOf_three (b off cap : Nat) (x y z : Int) (w : World) (hbl : b < w.heap.size) (c0 : w.cell? ⟨b, off, none⟩ = some (.int .i64 x)) (c1 : w.cell? ⟨b, off + 1, none⟩ = some (.int .i64 y)) (c2 : w.cell? ⟨b, off + 2, none⟩ = some (.int .i64 z))
    (h : IsInts w (.slice (some ⟨b, off, none⟩) 3 cap) [x, y, z]) (hf : vecFault [x, y, z] = 0) :
    Calls Try.prog 92 #[.slice (some ⟨b, off, none⟩) 3 cap] w fun e w' => e = .returned (.tuple #[arr3 x y z, .int .i64 0]) ∧ Below w.heap.size w w' := by
  go_enter Try.func92, Try.ntmps92
  go_wp2_with fail
  refine (implFault _ [x, y, z] _ (h.later (((Below.refl _ _).alloc (Nat.le_refl _) _).alloc (by simp) _))).mono ?_
  rintro e w' ⟨rfl, rfl⟩
  rw [hf]
  clear h hf
  go_wp2_with fail
  refine wp_loop_rounds 4 ?_
  rw [rounds_succ]
  go_wp2
  rw [rounds_succ]
  go_wp2
  rw [rounds_succ]
  go_wp2
  rw [rounds_succ]
  go_wp2
  refine bodyPost_ret (v := .tuple #[arr3 x y z, .int .i64 0]) (by simp [results, Try.results92, go_sem, arr3]) rfl ⟨rfl, ?_⟩
  exact ((Below.refl _ _).alloc (Nat.le_refl _) _).alloc (by simp) _

theorem vectorOf_ok (v : Value) (x y z : Int) (w : World) (h : IsInts w v [x, y, z]) (hf : vecFault [x, y, z] = 0) :
    Calls Try.prog 92 #[v] w fun e w' => e = .returned (.tuple #[arr3 x y z, .int .i64 0]) ∧ Below w.heap.size w w' := by
  obtain ⟨b, off, cap, x', y', z', he, rfl, hbl, c0, c1, c2⟩ := h.three rfl
  simp only [List.cons.injEq, and_true] at he
  obtain ⟨rfl, rfl, rfl⟩ := he
  exact vectorOf_three b off cap x y z w hbl c0 c1 c2 h hf

end Go.Proofs.Ytkmfkaljdngigaa

namespace Go.Proofs.Ytkmfkaljdngigaa
open Go.RowKit

/-- A put of three parts, and a drop, as deeds. -/
def putV (x y z : Int) : Value := .iface 113 (.agg #[.int .i64 x, .int .i64 y, .int .i64 z])
def dropV : Value := .iface 107 (.agg #[])
def deedV (k : Int) (zs : List Int) : Value := if k = 1 then putV (zs.getD 0 0) (zs.getD 1 0) (zs.getD 2 0) else dropV
def deedRes (k i : Int) (zs : List Int) (s q : Int) : Value := if writeFault k i zs s q = 0 then deedV k zs else .nilIface

def Bds (i s q : Int) : Prop := (1 ≤ i ∧ i ≤ 999) ∧ (1 ≤ s ∧ s ≤ 9) ∧ 1 ≤ q ∧ q ≤ 999
theorem bound_yes {i s q : Int} (h : Bds i s q) : boundB i s q = true := by
  obtain ⟨⟨a, b⟩, ⟨c, d⟩, e, f⟩ := h
  simp [boundB, a, b, c, d, e, f]
theorem bound_no {i s q : Int} (h : ¬ Bds i s q) : boundB i s q = false := by
  rw [Bool.eq_false_iff]
  intro hb
  simp only [boundB, Bool.and_eq_true, decide_eq_true_eq] at hb
  exact h ⟨hb.1, hb.2.1, hb.2.2⟩
theorem fault_out {k i s q : Int} {zs : List Int} (hk : kindB k zs.length = true) (h : ¬ Bds i s q) : writeFault k i zs s q = 3 := by
  rw [writeFault, hk, if_pos rfl, bound_no h]; rfl
theorem fault_drop {i s q : Int} (h : Bds i s q) : writeFault 2 i [] s q = 0 := by
  rw [writeFault, show kindB 2 ([] : List Int).length = true from rfl, if_pos rfl, bound_yes h]; rfl
theorem fault_in {k i s q : Int} {zs : List Int} (hk : kindB k zs.length = true) (h : Bds i s q) : writeFault k i zs s q = if k = 1 then vecFault zs else 0 := by
  rw [writeFault, hk, if_pos rfl, bound_yes h, if_pos rfl]

def ToldDeed (w w' : World) (e : Ending) (k i : Int) (zs : List Int) (s q : Int) : Prop := e = .returned (.tuple #[deedRes k i zs s q, .int .i64 (writeFault k i zs s q)]) ∧ Below w.heap.size w w'
theorem toldDeed_bad {w w' : World} {k i s q c : Int} {zs : List Int} (hc : writeFault k i zs s q = c) (h0 : c ≠ 0) (hb : Below w.heap.size w w') : ToldDeed w w' (.returned (.tuple #[.nilIface, .int .i64 c])) k i zs s q := by
  refine ⟨?_, hb⟩
  rw [deedRes, hc, if_neg h0]
theorem toldDeed_ok {w w' : World} {k i s q : Int} {zs : List Int} {v : Value} (hc : writeFault k i zs s q = 0) (hv : v = deedV k zs) (hb : Below w.heap.size w w') : ToldDeed w w' (.returned (.tuple #[v, .int .i64 0])) k i zs s q := by
  refine ⟨?_, hb⟩
  rw [deedRes, hc, if_pos rfl, hv]

theorem isIdC (n : Int) (w : World) : Calls Try.prog 89 #[.int .i64 n] w fun e w' => e = .returned (.bool (decide (1 ≤ n) && decide (n ≤ 999))) ∧ w' = w := by
  by_cases h1 : 1 ≤ n
  · have d1 : decide (1 ≤ n) = true := by simpa using h1
    rw [d1]
    cases d2 : decide (n ≤ 999) <;>
    · go_enter Try.func89, Try.ntmps89
      go_wp2
      go_ret
      exact ⟨rfl, rfl⟩
  · have d1 : decide (1 ≤ n) = false := by simpa using h1
    rw [d1]
    go_enter Try.func89, Try.ntmps89
    go_wp2
    go_ret
    exact ⟨rfl, rfl⟩
theorem isSessionC (n : Int) (w : World) : Calls Try.prog 90 #[.int .i64 n] w fun e w' => e = .returned (.bool (decide (1 ≤ n) && decide (n ≤ 9))) ∧ w' = w := by
  by_cases h1 : 1 ≤ n
  · have d1 : decide (1 ≤ n) = true := by simpa using h1
    rw [d1]
    cases d2 : decide (n ≤ 9) <;>
    · go_enter Try.func90, Try.ntmps90
      go_wp2
      go_ret
      exact ⟨rfl, rfl⟩
  · have d1 : decide (1 ≤ n) = false := by simpa using h1
    rw [d1]
    go_enter Try.func90, Try.ntmps90
    go_wp2
    go_ret
    exact ⟨rfl, rfl⟩
theorem isSeqC (n : Int) (w : World) : Calls Try.prog 91 #[.int .i64 n] w fun e w' => e = .returned (.bool (decide (1 ≤ n) && decide (n ≤ 999))) ∧ w' = w := by
  by_cases h1 : 1 ≤ n
  · have d1 : decide (1 ≤ n) = true := by simpa using h1
    rw [d1]
    cases d2 : decide (n ≤ 999) <;>
    · go_enter Try.func91, Try.ntmps91
      go_wp2
      go_ret
      exact ⟨rfl, rfl⟩
  · have d1 : decide (1 ≤ n) = false := by simpa using h1
    rw [d1]
    go_enter Try.func91, Try.ntmps91
    go_wp2
    go_ret
    exact ⟨rfl, rfl⟩

set_option maxHeartbeats 2000000 in
theorem deedOf_put_out (i : Int) (ao : Option Addr) (cap : Nat) (s q : Int) (zs : List Int) (w : World) (hb : ¬ Bds i s q) :
    Calls Try.prog 83 #[.agg #[.int .i64 1, .int .i64 i, .slice ao zs.length cap, .int .i64 s, .int .i64 q]] w fun e w' => ToldDeed w w' e 1 i zs s q := by
  have HB : Hid (∀ o, Below w.heap.size w (w.alloc o)) := fun o => (Below.refl _ _).alloc (Nat.le_refl _) o
  have HF : Hid (writeFault 1 i zs s q = 3) := fault_out rfl hb
  have hbb := bound_no hb
  unfold boundB at hbb
  clear hb
  cases dI : (decide (1 ≤ i) && decide (i ≤ 999)) with
  | false =>
    clear hbb
    go_enter Try.func83, Try.ntmps83
    go_wp2_with fail
    refine (isIdC i _).mono ?_
    rintro e w1 ⟨rfl, rfl⟩
    rw [dI]
    go_wp2_with fail
    go_ret2
    exact toldDeed_bad (unhide HF) (by omega) (unhide HB _)
  | true =>
    cases dS : (decide (1 ≤ s) && decide (s ≤ 9)) with
    | false =>
      clear hbb
      go_enter Try.func83, Try.ntmps83
      go_wp2_with fail
      refine (isIdC i _).mono ?_
      rintro e w1 ⟨rfl, rfl⟩
      rw [dI]
      go_wp2_with fail
      refine (isSessionC s _).mono ?_
      rintro e w1 ⟨rfl, rfl⟩
      rw [dS]
      go_wp2_with fail
      go_ret2
      exact toldDeed_bad (unhide HF) (by omega) (unhide HB _)
    | true =>
      have dQ : (decide (1 ≤ q) && decide (q ≤ 999)) = false := by rw [dI, dS] at hbb; simpa using hbb
      clear hbb
      go_enter Try.func83, Try.ntmps83
      go_wp2_with fail
      refine (isIdC i _).mono ?_
      rintro e w1 ⟨rfl, rfl⟩
      rw [dI]
      go_wp2_with fail
      refine (isSessionC s _).mono ?_
      rintro e w1 ⟨rfl, rfl⟩
      rw [dS]
      go_wp2_with fail
      refine (isSeqC q _).mono ?_
      rintro e w1 ⟨rfl, rfl⟩
      rw [dQ]
      go_wp2_with fail
      go_ret2
      exact toldDeed_bad (unhide HF) (by omega) (unhide HB _)

set_option maxHeartbeats 2000000 in
theorem deedOf_drop_out (i : Int) (ao : Option Addr) (cap : Nat) (s q : Int) (w : World) (hb : ¬ Bds i s q) :
    Calls Try.prog 83 #[.agg #[.int .i64 2, .int .i64 i, .slice ao 0 cap, .int .i64 s, .int .i64 q]] w fun e w' => ToldDeed w w' e 2 i [] s q := by
  have HB : Hid (∀ o, Below w.heap.size w (w.alloc o)) := fun o => (Below.refl _ _).alloc (Nat.le_refl _) o
  have HF : Hid (writeFault 2 i [] s q = 3) := fault_out rfl hb
  have hbb := bound_no hb
  unfold boundB at hbb
  clear hb
  cases dI : (decide (1 ≤ i) && decide (i ≤ 999)) with
  | false =>
    clear hbb
    go_enter Try.func83, Try.ntmps83
    go_wp2_with fail
    refine (isIdC i _).mono ?_
    rintro e w1 ⟨rfl, rfl⟩
    rw [dI]
    go_wp2_with fail
    go_ret2
    exact toldDeed_bad (unhide HF) (by omega) (unhide HB _)
  | true =>
    cases dS : (decide (1 ≤ s) && decide (s ≤ 9)) with
    | false =>
      clear hbb
      go_enter Try.func83, Try.ntmps83
      go_wp2_with fail
      refine (isIdC i _).mono ?_
      rintro e w1 ⟨rfl, rfl⟩
      rw [dI]
      go_wp2_with fail
      refine (isSessionC s _).mono ?_
      rintro e w1 ⟨rfl, rfl⟩
      rw [dS]
      go_wp2_with fail
      go_ret2
      exact toldDeed_bad (unhide HF) (by omega) (unhide HB _)
    | true =>
      have dQ : (decide (1 ≤ q) && decide (q ≤ 999)) = false := by rw [dI, dS] at hbb; simpa using hbb
      clear hbb
      go_enter Try.func83, Try.ntmps83
      go_wp2_with fail
      refine (isIdC i _).mono ?_
      rintro e w1 ⟨rfl, rfl⟩
      rw [dI]
      go_wp2_with fail
      refine (isSessionC s _).mono ?_
      rintro e w1 ⟨rfl, rfl⟩
      rw [dS]
      go_wp2_with fail
      refine (isSeqC q _).mono ?_
      rintro e w1 ⟨rfl, rfl⟩
      rw [dQ]
      go_wp2_with fail
      go_ret2
      exact toldDeed_bad (unhide HF) (by omega) (unhide HB _)

set_option maxHeartbeats 2000000 in
theorem deedOf_drop (i : Int) (ao : Option Addr) (cap : Nat) (s q : Int) (w : World) (hb : Bds i s q) :
    Calls Try.prog 83 #[.agg #[.int .i64 2, .int .i64 i, .slice ao 0 cap, .int .i64 s, .int .i64 q]] w fun e w' => ToldDeed w w' e 2 i [] s q := by
  have HB : Hid (∀ o, Below w.heap.size w (w.alloc o)) := fun o => (Below.refl _ _).alloc (Nat.le_refl _) o
  have HF : Hid (writeFault 2 i [] s q = 0) := fault_drop hb
  obtain ⟨⟨i1, i2⟩, ⟨s1, s2⟩, q1, q2⟩ := hb
  have dI : (decide (1 ≤ i) && decide (i ≤ 999)) = true := by simp [i1, i2]
  have dS : (decide (1 ≤ s) && decide (s ≤ 9)) = true := by simp [s1, s2]
  have dQ : (decide (1 ≤ q) && decide (q ≤ 999)) = true := by simp [q1, q2]
  go_enter Try.func83, Try.ntmps83
  go_wp2_with fail
  refine (isIdC i _).mono ?_
  rintro e w1 ⟨rfl, rfl⟩
  rw [dI]
  go_wp2_with fail
  refine (isSessionC s _).mono ?_
  rintro e w1 ⟨rfl, rfl⟩
  rw [dS]
  go_wp2_with fail
  refine (isSeqC q _).mono ?_
  rintro e w1 ⟨rfl, rfl⟩
  rw [dQ]
  go_wp2_with fail
  go_ret2
  exact toldDeed_ok (unhide HF) rfl (unhide HB _)

set_option maxHeartbeats 1000000 in
theorem deedOf_many (i : Int) (ao : Option Addr) (cap n : Nat) (s q : Int) (zs : List Int) (w : World) (hn : zs.length = n + 1) :
    Calls Try.prog 83 #[.agg #[.int .i64 2, .int .i64 i, .slice ao (n + 1) cap, .int .i64 s, .int .i64 q]] w fun e w' => ToldDeed w w' e 2 i zs s q := by
  have B0 : ∀ o, Below w.heap.size w (w.alloc o) := fun o => (Below.refl _ _).alloc (Nat.le_refl _) o
  have HB := hide B0
  have hF : writeFault 2 i zs s q = 1 := by
    have : kindB 2 zs.length = false := by simp [kindB]; omega
    rw [writeFault, this]; rfl
  have HF := hide hF
  clear B0 hF hn
  go_enter Try.func83, Try.ntmps83
  go_wp2
  go_ret2
  exact toldDeed_bad (unhide HF) (by omega) (unhide HB _)

set_option maxHeartbeats 1000000 in
theorem deedOf_none (k i : Int) (ao : Option Addr) (cap : Nat) (s q : Int) (zs : List Int) (w : World) (h1 : k ≠ 1) (h2 : k ≠ 2) :
    Calls Try.prog 83 #[.agg #[.int .i64 k, .int .i64 i, .slice ao zs.length cap, .int .i64 s, .int .i64 q]] w fun e w' => ToldDeed w w' e k i zs s q := by
  have B0 : ∀ o, Below w.heap.size w (w.alloc o) := fun o => (Below.refl _ _).alloc (Nat.le_refl _) o
  have HB := hide B0
  have hF : writeFault k i zs s q = 1 := by
    have : kindB k zs.length = false := by simp [kindB]; omega
    rw [writeFault, this]; rfl
  have HF := hide hF
  clear B0 hF
  go_enter Try.func83, Try.ntmps83
  go_wp2
  go_ret2
  exact toldDeed_bad (unhide HF) (by omega) (unhide HB _)

theorem vectorOf_any (v : Value) (zs : List Int) (w : World) (h : IsInts w v zs) :
    Calls Try.prog 92 #[v] w fun e w' => e = .returned (.tuple #[if vecFault zs = 0 then arr3 (zs.getD 0 0) (zs.getD 1 0) (zs.getD 2 0) else arr3 0 0 0, .int .i64 (vecFault zs)]) ∧ Below w.heap.size w w' := by
  by_cases hf : vecFault zs = 0
  · obtain ⟨hl, -⟩ := vecFault_zero hf
    match zs, hl with
    | [x, y, z], _ =>
      rw [if_pos hf]
      refine (vectorOf_ok v x y z w h hf).mono ?_
      rintro e w' ⟨rfl, hb⟩
      exact ⟨by rw [hf]; rfl, hb⟩
  · rw [if_neg hf]
    exact vectorOf_bad v zs w h hf

set_option maxHeartbeats 2000000 in
theorem deedOf_put (i : Int) (ao : Option Addr) (cap : Nat) (s q : Int) (zs : List Int) (w : World) (h : IsInts w (.slice ao zs.length cap) zs) (hb : Bds i s q) :
    Calls Try.prog 83 #[.agg #[.int .i64 1, .int .i64 i, .slice ao zs.length cap, .int .i64 s, .int .i64 q]] w fun e w' => ToldDeed w w' e 1 i zs s q := by
  have B0 : Below w.heap.size w (w.alloc (.cells #[.int .i64 1, .int .i64 i, .slice ao zs.length cap, .int .i64 s, .int .i64 q] 29)) := (Below.refl _ _).alloc (Nat.le_refl _) _
  have HB := hide B0
  have H := hide (h.later B0)
  clear h B0
  have HF : Hid (writeFault 1 i zs s q = vecFault zs) := fault_in rfl hb
  obtain ⟨⟨i1, i2⟩, ⟨s1, s2⟩, q1, q2⟩ := hb
  have dI : (decide (1 ≤ i) && decide (i ≤ 999)) = true := by simp [i1, i2]
  have dS : (decide (1 ≤ s) && decide (s ≤ 9)) = true := by simp [s1, s2]
  have dQ : (decide (1 ≤ q) && decide (q ≤ 999)) = true := by simp [q1, q2]
  go_enter Try.func83, Try.ntmps83
  go_wp2_with fail
  refine (isIdC i _).mono ?_
  rintro e w1 ⟨rfl, rfl⟩
  rw [dI]
  go_wp2_with fail
  refine (isSessionC s _).mono ?_
  rintro e w1 ⟨rfl, rfl⟩
  rw [dS]
  go_wp2_with fail
  refine (isSeqC q _).mono ?_
  rintro e w1 ⟨rfl, rfl⟩
  rw [dQ]
  go_wp2_with fail
  refine (vectorOf_any _ zs _ (unhide H)).mono ?_
  rintro e w1 ⟨rfl, hb1⟩
  have HB1 := hide ((unhide HB).trans (hb1.mono (unhide HB).size))
  have hz : w.heap.size ≤ w1.heap.size := (unhide HB1).size
  clear HB hb1 H
  generalize hV : vecFault zs = F at *
  by_cases hf : F = 0
  · subst hf
    rw [if_pos rfl]
    simp only [arr3]
    go_wp2_with fail
    go_ret2
    refine toldDeed_ok (unhide HF) ?_ ?_
    · rw [deedV, if_pos rfl]; rfl
    · exact (unhide HB1).alloc hz _
  · rw [if_neg hf]
    have hd : (F != 0) = true := by rw [bne_iff_ne]; exact hf
    have HN := hide hf
    clear hf
    simp only [arr3]
    go_wp2_with fail
    go_ret2
    exact toldDeed_bad (unhide HF) (unhide HN) ((unhide HB1).alloc hz _)

/-- deedOf of the program. -/
theorem implDeed (k i : Int) (v : Value) (s q : Int) (zs : List Int) (w : World) (h : IsInts w v zs) :
    Calls Try.prog 83 #[.agg #[.int .i64 k, .int .i64 i, v, .int .i64 s, .int .i64 q]] w fun e w' => ToldDeed w w' e k i zs s q := by
  have h' := h
  obtain ⟨ao, cap, rfl, -⟩ := h'
  by_cases h1 : k = 1
  · subst h1
    by_cases hb : Bds i s q
    · exact deedOf_put i ao cap s q zs w h hb
    · exact deedOf_put_out i ao cap s q zs w hb
  · by_cases h2 : k = 2
    · subst h2
      rcases Nat.eq_zero_or_pos zs.length with h0 | h0
      · obtain rfl : zs = [] := List.eq_nil_of_length_eq_zero h0
        by_cases hb : Bds i s q
        · exact deedOf_drop i ao cap s q w hb
        · exact deedOf_drop_out i ao cap s q w hb
      · obtain ⟨n, hn⟩ : ∃ n, zs.length = n + 1 := ⟨zs.length - 1, by omega⟩
        rw [hn]
        exact deedOf_many i ao cap n s q zs w hn
    · exact deedOf_none k i ao cap s q zs w h1 h2

end Go.Proofs.Ytkmfkaljdngigaa

namespace Go.Proofs.Ytkmfkaljdngigaa
open Go.RowKit

/-- WriteFault of the program. -/
theorem implWriteFault (k i : Int) (v : Value) (s q : Int) (zs : List Int) (w : World) (h : IsInts w v zs) :
    Calls Try.prog 65 #[.agg #[.int .i64 k, .int .i64 i, v, .int .i64 s, .int .i64 q]] w fun e w' => e = .returned (.int .i64 (writeFault k i zs s q)) ∧ Below w.heap.size w w' := by
  have h' := h
  obtain ⟨ao, cap, rfl, -⟩ := h'
  have B0 : Below w.heap.size w (w.alloc (.cells #[.int .i64 k, .int .i64 i, .slice ao zs.length cap, .int .i64 s, .int .i64 q] 29)) := (Below.refl _ _).alloc (Nat.le_refl _) _
  have L := hide (implDeed k i (.slice ao zs.length cap) s q zs _ (h.later B0))
  have HB := hide B0
  clear B0 h
  go_enter Try.func65, Try.ntmps65
  go_wp2_with fail
  refine (unhide L).mono ?_
  rintro e w1 ⟨rfl, hb1⟩
  have HB1 := hide ((unhide HB).trans (hb1.mono (unhide HB).size))
  clear hb1 HB L
  go_wp2_with fail
  go_ret
  exact ⟨rfl, unhide HB1⟩

end Go.Proofs.Ytkmfkaljdngigaa

namespace Go.Proofs.Ytkmfkaljdngigaa
open Go.RowKit

theorem isChainEpochC (n : Int) (w : World) :
    Calls Try.prog 62 #[.int .i64 n] w fun e w' => e = .returned (.bool (decide (1 ≤ n) && decide (n ≤ 999))) ∧ w' = w := by
  by_cases h1 : 1 ≤ n
  · have d1 : decide (1 ≤ n) = true := by simpa using h1
    rw [d1]
    cases d2 : decide (n ≤ 999) <;>
    · go_enter Try.func62, Try.ntmps62
      go_wp2_with fail
      go_ret
      exact ⟨rfl, rfl⟩
  · have d1 : decide (1 ≤ n) = false := by simpa using h1
    rw [d1]
    go_enter Try.func62, Try.ntmps62
    go_wp2_with fail
    go_ret
    exact ⟨rfl, rfl⟩
/-- Whether an index fits a message. -/
def idxB (x : DMsg) : Bool := (decide (0 ≤ x.index) && decide (x.index ≤ 40)) && (x.kind == 2 || decide (0 < x.index))
set_option maxRecDepth 10000 in
theorem isMsgIndexC (a : Option Addr) (d : Nat) (x : DMsg) (w : World) :
    Calls Try.prog 64 #[.agg #[.int .i64 x.kind, .int .i64 x.epoch, .int .i64 x.src, .int .i64 x.dst, .int .i64 x.index, .int .i64 x.write.kind, .int .i64 x.write.id, .slice a x.write.vec.length d, .int .i64 x.write.session, .int .i64 x.write.seq]] w fun e w' => e = .returned (.bool (idxB x)) ∧ Below w.heap.size w w' := by
  have HB : Hid (Below w.heap.size w (w.alloc (.cells #[.int .i64 x.kind, .int .i64 x.epoch, .int .i64 x.src, .int .i64 x.dst, .int .i64 x.index, .int .i64 x.write.kind, .int .i64 x.write.id, .slice a x.write.vec.length d, .int .i64 x.write.session, .int .i64 x.write.seq] 31))) := (Below.refl _ _).alloc (Nat.le_refl _) _
  have L := hide (isUpToC x.index 40 (w.alloc (.cells #[.int .i64 x.kind, .int .i64 x.epoch, .int .i64 x.src, .int .i64 x.dst, .int .i64 x.index, .int .i64 x.write.kind, .int .i64 x.write.id, .slice a x.write.vec.length d, .int .i64 x.write.session, .int .i64 x.write.seq] 31)))
  cases d1 : (decide (0 ≤ x.index) && decide (x.index ≤ 40))
  · have HI : Hid (idxB x = false) := by show idxB x = false; rw [idxB, d1]; rfl
    rw [d1] at L
    clear d1
    go_enter Try.func64, Try.ntmps64
    go_wp2_with fail
    refine (unhide L).mono ?_
    rintro e w1 ⟨rfl, h1⟩
    subst w1
    clear L
    go_wp2_with fail
    go_ret
    exact ⟨by rw [unhide HI]; rfl, unhide HB⟩
  · rw [d1] at L
    cases d2 : (x.kind == 2)
    · have HI : Hid (idxB x = decide (0 < x.index)) := by show idxB x = _; rw [idxB, d1, d2]; rfl
      clear d1
      go_enter Try.func64, Try.ntmps64
      go_wp2_with fail
      refine (unhide L).mono ?_
      rintro e w1 ⟨rfl, h1⟩
      subst w1
      clear L
      go_wp2_with fail
      go_ret
      exact ⟨by rw [unhide HI]; rfl, unhide HB⟩
    · have HI : Hid (idxB x = true) := by show idxB x = _; rw [idxB, d1, d2]; rfl
      clear d1
      go_enter Try.func64, Try.ntmps64
      go_wp2_with fail
      refine (unhide L).mono ?_
      rintro e w1 ⟨rfl, h1⟩
      subst w1
      clear L
      go_wp2_with fail
      go_ret
      exact ⟨by rw [unhide HI]; rfl, unhide HB⟩

def zeroW : DWrite := ⟨0, 0, [], 0, 0⟩
theorem sameW_zero (y : DWrite) : sameW y zeroW = true ↔ noW y := by
  constructor
  · intro h
    simp only [sameW, zeroW, Bool.and_eq_true, beq_iff_eq] at h
    exact ⟨h.1, h.2.1, h.2.2.1, h.2.2.2.1, by rw [of_decide_eq_true h.2.2.2.2]; rfl⟩
  · rintro ⟨h1, h2, h3, h4, h5⟩
    have h6 : y.vec = [] := List.eq_nil_of_length_eq_zero h5
    simp only [sameW, zeroW, Bool.and_eq_true, beq_iff_eq]
    exact ⟨h1, h2, h3, h4, decide_eq_true h6⟩
theorem zeroW_reads (w : World) : Lay.tWrite.Reads w [.int .i64 0, .int .i64 0, .slice none 0 0, .int .i64 0, .int .i64 0] zeroW :=
  ⟨[], lies_Write.2 ⟨none, 0, [], rfl, rfl, by decide, by decide, ⟨none, 0, rfl, ⟨by simp [zeroW], by simp [zeroW]⟩, Or.inl ⟨rfl, rfl⟩⟩, by decide, by decide⟩⟩

/-! What comes first. -/
theorem mfi_kind {x : DMsg} (h : (x.kind == 1) = false) (h2 : (x.kind == 2) = false) : msgFault x = 1 := by
  have h1 : ¬ x.kind = 1 := by simpa using h
  have h3 : ¬ x.kind = 2 := by simpa using h2
  rw [msgFault, if_pos (Or.inl (by omega))]
theorem mfi_self {x : DMsg} (h : (x.src != x.dst) = false) : msgFault x = 1 := by
  rw [msgFault, if_pos (Or.inr (Or.inl (by simpa using h)))]
theorem mfi_ack {x : DMsg} (h : (x.kind == 2) = true) (h2 : sameW x.write zeroW = false) : msgFault x = 1 := by
  rw [msgFault, if_pos (Or.inr (Or.inr ⟨by simpa using h, fun q => by rw [(sameW_zero _).2 q] at h2; simp at h2⟩))]
/-- The form is right. -/
def formM (x : DMsg) : Prop := (1 ≤ x.kind ∧ x.kind ≤ 2) ∧ x.src ≠ x.dst ∧ (x.kind = 2 → noW x.write)
theorem mfi_form {x : DMsg} (h : formM x) : msgFault x = if ¬ (1 ≤ x.epoch ∧ x.epoch ≤ 999) ∨ ¬ (1 ≤ x.src ∧ x.src ≤ 5) ∨ ¬ (1 ≤ x.dst ∧ x.dst ≤ 5) ∨ ¬ (0 ≤ x.index ∧ x.index ≤ 40) ∨ (x.kind ≠ 2 ∧ x.index = 0) then 3
  else if x.kind = 2 then 0 else wF x.write := by
  rw [msgFault, if_neg]
  rintro (h1 | h1 | h1)
  · exact h1 h.1
  · exact h.2.1 h1
  · exact h1.2 (h.2.2 h1.1)
theorem mfi_epoch {x : DMsg} (h : formM x) (h2 : (decide (1 ≤ x.epoch) && decide (x.epoch ≤ 999)) = false) : msgFault x = 3 := by
  rw [mfi_form h, if_pos (Or.inl fun q => by simp at h2; omega)]
theorem mfi_src {x : DMsg} (h : formM x) (h2 : (decide (1 ≤ x.src) && decide (x.src ≤ 5)) = false) : msgFault x = 3 := by
  rw [mfi_form h, if_pos (Or.inr (Or.inl fun q => by simp at h2; omega))]
theorem mfi_dst {x : DMsg} (h : formM x) (h2 : (decide (1 ≤ x.dst) && decide (x.dst ≤ 5)) = false) : msgFault x = 3 := by
  rw [mfi_form h, if_pos (Or.inr (Or.inr (Or.inl fun q => by simp at h2; omega)))]
theorem mfi_idx {x : DMsg} (h : formM x) (h2 : idxB x = false) : msgFault x = 3 := by
  rw [mfi_form h, if_pos]
  have : ¬ (0 ≤ x.index ∧ x.index ≤ 40) ∨ (x.kind ≠ 2 ∧ x.index = 0) := by
    refine Decidable.byContradiction fun q => ?_
    rw [idxB] at h2
    have q1 : 0 ≤ x.index ∧ x.index ≤ 40 := Decidable.byContradiction fun z => q (Or.inl z)
    rw [decide_eq_true q1.1, decide_eq_true q1.2] at h2
    simp at h2
    exact q (Or.inr ⟨h2.1, by omega⟩)
  exact Or.inr (Or.inr (Or.inr this))
theorem mfi_rest {x : DMsg} (h : formM x) (h1 : (decide (1 ≤ x.epoch) && decide (x.epoch ≤ 999)) = true) (h2 : (decide (1 ≤ x.src) && decide (x.src ≤ 5)) = true) (h3 : (decide (1 ≤ x.dst) && decide (x.dst ≤ 5)) = true) (h4 : idxB x = true) : msgFault x = if x.kind = 2 then 0 else wF x.write := by
  simp only [Bool.and_eq_true, decide_eq_true_eq] at h1 h2 h3
  simp only [idxB, Bool.and_eq_true, Bool.or_eq_true, decide_eq_true_eq, beq_iff_eq] at h4
  rw [mfi_form h, if_neg]
  rintro (q | q | q | q | q)
  · exact q h1
  · exact q h2
  · exact q h3
  · exact q h4.1
  · rcases h4.2 with z | z
    · exact q.1 z
    · omega
theorem vec_of {w : World} {x : DWrite} {a : Option Addr} {d : Nat} (h : Lay.tWrite.Reads w [.int .i64 x.kind, .int .i64 x.id, .slice a x.vec.length d, .int .i64 x.session, .int .i64 x.seq] x) : (Lay.sl Lay.int).Reads w [.slice a x.vec.length d] x.vec := by
  obtain ⟨a2, d2, e, R⟩ := open_Write h
  simp only [List.cons.injEq, Value.slice.injEq, and_true, true_and] at e
  obtain ⟨rfl, rfl⟩ := e
  exact R
set_option maxRecDepth 10000 in
set_option maxHeartbeats 4000000 in
theorem mustBeMsgC (cs : List Value) (x : DMsg) (w : World) (h : Lay.tMsg.Reads w cs x) :
    Calls Try.prog 35 #[.agg cs.toArray] w fun e w' => e = wrongE (msgFault x) ∧ Below w.heap.size w w' := by
  obtain ⟨a, d, rfl, R⟩ := open_Msg h
  have nb : Below w.heap.size w (w.alloc (.cells #[.int .i64 x.kind, .int .i64 x.epoch, .int .i64 x.src, .int .i64 x.dst, .int .i64 x.index, .int .i64 x.write.kind, .int .i64 x.write.id, .slice a x.write.vec.length d, .int .i64 x.write.session, .int .i64 x.write.seq] 31)) := (Below.refl _ _).alloc (Nat.le_refl _) _
  have HR := hide (R.later nb)
  have HB := hide nb
  have HX : Hid (Box 0 #[.int .i64 x.kind, .int .i64 x.epoch, .int .i64 x.src, .int .i64 x.dst, .int .i64 x.index, .int .i64 x.write.kind, .int .i64 x.write.id, .slice a x.write.vec.length d, .int .i64 x.write.session, .int .i64 x.write.seq] 31 (w.alloc (.cells #[.int .i64 x.kind, .int .i64 x.epoch, .int .i64 x.src, .int .i64 x.dst, .int .i64 x.index, .int .i64 x.write.kind, .int .i64 x.write.id, .slice a x.write.vec.length d, .int .i64 x.write.session, .int .i64 x.write.seq] 31)) w.heap.size) := newBox (Nat.zero_le _)
  clear R h nb
  go_enter Try.func35, Try.ntmps35
  go_upto_region 1 with fail
  generalize (w.alloc (.cells #[.int .i64 x.kind, .int .i64 x.epoch, .int .i64 x.src, .int .i64 x.dst, .int .i64 x.index, .int .i64 x.write.kind, .int .i64 x.write.id, .slice a x.write.vec.length d, .int .i64 x.write.session, .int .i64 x.write.seq] 31)) = W1 at *
  have z0 : W1.cell? ⟨w.heap.size, 0, none⟩ = some (.int .i64 x.kind) := (unhide HX).at 0 _ rfl
  have z1 : W1.cell? ⟨w.heap.size, 1, none⟩ = some (.int .i64 x.epoch) := (unhide HX).at 1 _ rfl
  have z2 : W1.cell? ⟨w.heap.size, 2, none⟩ = some (.int .i64 x.src) := (unhide HX).at 2 _ rfl
  have z3 : W1.cell? ⟨w.heap.size, 3, none⟩ = some (.int .i64 x.dst) := (unhide HX).at 3 _ rfl
  have z4 : W1.cell? ⟨w.heap.size, 4, none⟩ = some (.int .i64 x.index) := (unhide HX).at 4 _ rfl
  have z5 : W1.cell? ⟨w.heap.size, 5, none⟩ = some (.int .i64 x.write.kind) := (unhide HX).at 5 _ rfl
  have z6 : W1.cell? ⟨w.heap.size, 6, none⟩ = some (.int .i64 x.write.id) := (unhide HX).at 6 _ rfl
  have z7 : W1.cell? ⟨w.heap.size, 7, none⟩ = some (.slice a x.write.vec.length d) := (unhide HX).at 7 _ rfl
  have z8 : W1.cell? ⟨w.heap.size, 8, none⟩ = some (.int .i64 x.write.session) := (unhide HX).at 8 _ rfl
  have z9 : W1.cell? ⟨w.heap.size, 9, none⟩ = some (.int .i64 x.write.seq) := (unhide HX).at 9 _ rfl
  cases e1 : (x.kind == 1)
  · cases e2 : (x.kind == 2)
    · have HF := hide (mfi_kind e1 e2)
      go_wp2_with fail
      refine (mustF 1 _).mono ?_
      rintro e w9 ⟨rfl, h9⟩
      subst w9
      go_wp2_with fail
      exact ⟨rfl, by rw [unhide HF]; rfl, unhide HB⟩
    · go_wp2_with fail
      refine (mustT 1 _).mono ?_
      rintro e w9 ⟨rfl, h9⟩
      subst w9
      cases e3 : (x.src != x.dst)
      · have HF := hide (mfi_self e3)
        go_wp2_with fail
        refine (mustF 1 _).mono ?_
        rintro e w9 ⟨rfl, h9⟩
        subst w9
        go_wp2_with fail
        exact ⟨rfl, by rw [unhide HF]; rfl, unhide HB⟩
      · go_wp2_with fail
        refine (mustT 1 _).mono ?_
        rintro e w9 ⟨rfl, h9⟩
        subst w9
        have HL := hide (sameWrite _ _ x.write zeroW W1 (unhide HR) (zeroW_reads W1))
        go_wp2_with fail
        refine (unhide HL).mono ?_
        rintro e Wa ⟨rfl, hb⟩
        replace HX := hide ((unhide HX).keep hb)
        replace HR := hide ((unhide HR).later hb)
        replace HB := hide ((unhide HB).trans (hb.mono (unhide HB).size))
        clear hb z0 z1 z2 z3 z4 z5 z6 z7 z8 z9
        have z0 : Wa.cell? ⟨w.heap.size, 0, none⟩ = some (.int .i64 x.kind) := (unhide HX).at 0 _ rfl
        have z1 : Wa.cell? ⟨w.heap.size, 1, none⟩ = some (.int .i64 x.epoch) := (unhide HX).at 1 _ rfl
        have z2 : Wa.cell? ⟨w.heap.size, 2, none⟩ = some (.int .i64 x.src) := (unhide HX).at 2 _ rfl
        have z3 : Wa.cell? ⟨w.heap.size, 3, none⟩ = some (.int .i64 x.dst) := (unhide HX).at 3 _ rfl
        have z4 : Wa.cell? ⟨w.heap.size, 4, none⟩ = some (.int .i64 x.index) := (unhide HX).at 4 _ rfl
        have z5 : Wa.cell? ⟨w.heap.size, 5, none⟩ = some (.int .i64 x.write.kind) := (unhide HX).at 5 _ rfl
        have z6 : Wa.cell? ⟨w.heap.size, 6, none⟩ = some (.int .i64 x.write.id) := (unhide HX).at 6 _ rfl
        have z7 : Wa.cell? ⟨w.heap.size, 7, none⟩ = some (.slice a x.write.vec.length d) := (unhide HX).at 7 _ rfl
        have z8 : Wa.cell? ⟨w.heap.size, 8, none⟩ = some (.int .i64 x.write.session) := (unhide HX).at 8 _ rfl
        have z9 : Wa.cell? ⟨w.heap.size, 9, none⟩ = some (.int .i64 x.write.seq) := (unhide HX).at 9 _ rfl
        clear HL
        cases e9 : sameW x.write zeroW
        · have HF := hide (mfi_ack e2 e9)
          clear e9
          go_wp2_with fail
          refine (mustF 1 _).mono ?_
          rintro e w9 ⟨rfl, h9⟩
          subst w9
          go_wp2_with fail
          exact ⟨rfl, by rw [unhide HF]; rfl, unhide HB⟩
        · have HFM : Hid (formM x) := ⟨by simp at e2; omega, by simpa using e3, fun _ => (sameW_zero _).1 e9⟩
          clear e9
          go_wp2_with fail
          refine (mustT 1 _).mono ?_
          rintro e w9 ⟨rfl, h9⟩
          subst w9
          cases e4 : (decide (1 ≤ x.epoch) && decide (x.epoch ≤ 999))
          · have HL := hide (isChainEpochC x.epoch Wa)
            rw [e4] at HL
            have HF := hide (mfi_epoch (unhide HFM) e4)
            clear e4
            go_wp2_with fail
            refine (unhide HL).mono ?_
            rintro e w9 ⟨rfl, h9⟩
            subst w9
            clear HL
            go_wp2_with fail
            refine (mustF 3 _).mono ?_
            rintro e w9 ⟨rfl, h9⟩
            subst w9
            go_wp2_with fail
            exact ⟨rfl, by rw [unhide HF]; rfl, unhide HB⟩
          · have HL := hide (isChainEpochC x.epoch Wa)
            rw [e4] at HL
            have HE := hide e4
            clear e4
            go_wp2_with fail
            refine (unhide HL).mono ?_
            rintro e w9 ⟨rfl, h9⟩
            subst w9
            clear HL
            go_wp2_with fail
            refine (mustT 3 _).mono ?_
            rintro e w9 ⟨rfl, h9⟩
            subst w9
            cases e5 : (decide (1 ≤ x.src) && decide (x.src ≤ 5))
            · have HL := hide (isNodeIdC x.src Wa)
              rw [e5] at HL
              have HF := hide (mfi_src (unhide HFM) e5)
              clear e5
              go_wp2_with fail
              refine (unhide HL).mono ?_
              rintro e w9 ⟨rfl, h9⟩
              subst w9
              clear HL
              go_wp2_with fail
              refine (mustF 3 _).mono ?_
              rintro e w9 ⟨rfl, h9⟩
              subst w9
              go_wp2_with fail
              exact ⟨rfl, by rw [unhide HF]; rfl, unhide HB⟩
            · have HL := hide (isNodeIdC x.src Wa)
              rw [e5] at HL
              have HS := hide e5
              clear e5
              go_wp2_with fail
              refine (unhide HL).mono ?_
              rintro e w9 ⟨rfl, h9⟩
              subst w9
              clear HL
              cases e6 : (decide (1 ≤ x.dst) && decide (x.dst ≤ 5))
              · have HL := hide (isNodeIdC x.dst Wa)
                rw [e6] at HL
                have HF := hide (mfi_dst (unhide HFM) e6)
                clear e6
                go_wp2_with fail
                refine (unhide HL).mono ?_
                rintro e w9 ⟨rfl, h9⟩
                subst w9
                clear HL
                go_wp2_with fail
                refine (mustF 3 _).mono ?_
                rintro e w9 ⟨rfl, h9⟩
                subst w9
                go_wp2_with fail
                exact ⟨rfl, by rw [unhide HF]; rfl, unhide HB⟩
              · have HL := hide (isNodeIdC x.dst Wa)
                rw [e6] at HL
                have HD := hide e6
                clear e6
                go_wp2_with fail
                refine (unhide HL).mono ?_
                rintro e w9 ⟨rfl, h9⟩
                subst w9
                clear HL
                go_wp2_with fail
                refine (mustT 3 _).mono ?_
                rintro e w9 ⟨rfl, h9⟩
                subst w9
                have HL := hide (isMsgIndexC a d x Wa)
                go_wp2_with fail
                refine (unhide HL).mono ?_
                rintro e W2 ⟨rfl, hb⟩
                replace HX := hide ((unhide HX).keep hb)
                replace HR := hide ((unhide HR).later hb)
                replace HB := hide ((unhide HB).trans (hb.mono (unhide HB).size))
                clear hb z0 z1 z2 z3 z4 z5 z6 z7 z8 z9
                have z0 : W2.cell? ⟨w.heap.size, 0, none⟩ = some (.int .i64 x.kind) := (unhide HX).at 0 _ rfl
                have z1 : W2.cell? ⟨w.heap.size, 1, none⟩ = some (.int .i64 x.epoch) := (unhide HX).at 1 _ rfl
                have z2 : W2.cell? ⟨w.heap.size, 2, none⟩ = some (.int .i64 x.src) := (unhide HX).at 2 _ rfl
                have z3 : W2.cell? ⟨w.heap.size, 3, none⟩ = some (.int .i64 x.dst) := (unhide HX).at 3 _ rfl
                have z4 : W2.cell? ⟨w.heap.size, 4, none⟩ = some (.int .i64 x.index) := (unhide HX).at 4 _ rfl
                have z5 : W2.cell? ⟨w.heap.size, 5, none⟩ = some (.int .i64 x.write.kind) := (unhide HX).at 5 _ rfl
                have z6 : W2.cell? ⟨w.heap.size, 6, none⟩ = some (.int .i64 x.write.id) := (unhide HX).at 6 _ rfl
                have z7 : W2.cell? ⟨w.heap.size, 7, none⟩ = some (.slice a x.write.vec.length d) := (unhide HX).at 7 _ rfl
                have z8 : W2.cell? ⟨w.heap.size, 8, none⟩ = some (.int .i64 x.write.session) := (unhide HX).at 8 _ rfl
                have z9 : W2.cell? ⟨w.heap.size, 9, none⟩ = some (.int .i64 x.write.seq) := (unhide HX).at 9 _ rfl
                clear HL
                cases e7 : idxB x
                · have HF := hide (mfi_idx (unhide HFM) e7)
                  clear e7
                  go_wp2_with fail
                  refine (mustF 3 _).mono ?_
                  rintro e w9 ⟨rfl, h9⟩
                  subst w9
                  go_wp2_with fail
                  exact ⟨rfl, by rw [unhide HF]; rfl, unhide HB⟩
                · have HF := hide (mfi_rest (unhide HFM) (unhide HE) (unhide HS) (unhide HD) e7)
                  clear e7
                  go_wp2_with fail
                  refine (mustT 3 _).mono ?_
                  rintro e w9 ⟨rfl, h9⟩
                  subst w9
                  replace HF := hide ((unhide HF).trans (if_pos (by simpa using e2)))
                  go_wp2_with fail
                  go_end0
                  exact ⟨by rw [unhide HF]; rfl, unhide HB⟩
  · go_wp2_with fail
    refine (mustT 1 _).mono ?_
    rintro e w9 ⟨rfl, h9⟩
    subst w9
    cases e3 : (x.src != x.dst)
    · have HF := hide (mfi_self e3)
      go_wp2_with fail
      refine (mustF 1 _).mono ?_
      rintro e w9 ⟨rfl, h9⟩
      subst w9
      go_wp2_with fail
      exact ⟨rfl, by rw [unhide HF]; rfl, unhide HB⟩
    · have HFM : Hid (formM x) := ⟨by simp at e1; omega, by simpa using e3, fun q => by simp at e1; omega⟩
      go_wp2_with fail
      refine (mustT 1 _).mono ?_
      rintro e w9 ⟨rfl, h9⟩
      subst w9
      go_wp2_with fail
      refine (mustT 1 _).mono ?_
      rintro e w9 ⟨rfl, h9⟩
      subst w9
      cases e4 : (decide (1 ≤ x.epoch) && decide (x.epoch ≤ 999))
      · have HL := hide (isChainEpochC x.epoch W1)
        rw [e4] at HL
        have HF := hide (mfi_epoch (unhide HFM) e4)
        clear e4
        go_wp2_with fail
        refine (unhide HL).mono ?_
        rintro e w9 ⟨rfl, h9⟩
        subst w9
        clear HL
        go_wp2_with fail
        refine (mustF 3 _).mono ?_
        rintro e w9 ⟨rfl, h9⟩
        subst w9
        go_wp2_with fail
        exact ⟨rfl, by rw [unhide HF]; rfl, unhide HB⟩
      · have HL := hide (isChainEpochC x.epoch W1)
        rw [e4] at HL
        have HE := hide e4
        clear e4
        go_wp2_with fail
        refine (unhide HL).mono ?_
        rintro e w9 ⟨rfl, h9⟩
        subst w9
        clear HL
        go_wp2_with fail
        refine (mustT 3 _).mono ?_
        rintro e w9 ⟨rfl, h9⟩
        subst w9
        cases e5 : (decide (1 ≤ x.src) && decide (x.src ≤ 5))
        · have HL := hide (isNodeIdC x.src W1)
          rw [e5] at HL
          have HF := hide (mfi_src (unhide HFM) e5)
          clear e5
          go_wp2_with fail
          refine (unhide HL).mono ?_
          rintro e w9 ⟨rfl, h9⟩
          subst w9
          clear HL
          go_wp2_with fail
          refine (mustF 3 _).mono ?_
          rintro e w9 ⟨rfl, h9⟩
          subst w9
          go_wp2_with fail
          exact ⟨rfl, by rw [unhide HF]; rfl, unhide HB⟩
        · have HL := hide (isNodeIdC x.src W1)
          rw [e5] at HL
          have HS := hide e5
          clear e5
          go_wp2_with fail
          refine (unhide HL).mono ?_
          rintro e w9 ⟨rfl, h9⟩
          subst w9
          clear HL
          cases e6 : (decide (1 ≤ x.dst) && decide (x.dst ≤ 5))
          · have HL := hide (isNodeIdC x.dst W1)
            rw [e6] at HL
            have HF := hide (mfi_dst (unhide HFM) e6)
            clear e6
            go_wp2_with fail
            refine (unhide HL).mono ?_
            rintro e w9 ⟨rfl, h9⟩
            subst w9
            clear HL
            go_wp2_with fail
            refine (mustF 3 _).mono ?_
            rintro e w9 ⟨rfl, h9⟩
            subst w9
            go_wp2_with fail
            exact ⟨rfl, by rw [unhide HF]; rfl, unhide HB⟩
          · have HL := hide (isNodeIdC x.dst W1)
            rw [e6] at HL
            have HD := hide e6
            clear e6
            go_wp2_with fail
            refine (unhide HL).mono ?_
            rintro e w9 ⟨rfl, h9⟩
            subst w9
            clear HL
            go_wp2_with fail
            refine (mustT 3 _).mono ?_
            rintro e w9 ⟨rfl, h9⟩
            subst w9
            have HL := hide (isMsgIndexC a d x W1)
            go_wp2_with fail
            refine (unhide HL).mono ?_
            rintro e W2 ⟨rfl, hb⟩
            replace HX := hide ((unhide HX).keep hb)
            replace HR := hide ((unhide HR).later hb)
            replace HB := hide ((unhide HB).trans (hb.mono (unhide HB).size))
            clear hb z0 z1 z2 z3 z4 z5 z6 z7 z8 z9
            have z0 : W2.cell? ⟨w.heap.size, 0, none⟩ = some (.int .i64 x.kind) := (unhide HX).at 0 _ rfl
            have z1 : W2.cell? ⟨w.heap.size, 1, none⟩ = some (.int .i64 x.epoch) := (unhide HX).at 1 _ rfl
            have z2 : W2.cell? ⟨w.heap.size, 2, none⟩ = some (.int .i64 x.src) := (unhide HX).at 2 _ rfl
            have z3 : W2.cell? ⟨w.heap.size, 3, none⟩ = some (.int .i64 x.dst) := (unhide HX).at 3 _ rfl
            have z4 : W2.cell? ⟨w.heap.size, 4, none⟩ = some (.int .i64 x.index) := (unhide HX).at 4 _ rfl
            have z5 : W2.cell? ⟨w.heap.size, 5, none⟩ = some (.int .i64 x.write.kind) := (unhide HX).at 5 _ rfl
            have z6 : W2.cell? ⟨w.heap.size, 6, none⟩ = some (.int .i64 x.write.id) := (unhide HX).at 6 _ rfl
            have z7 : W2.cell? ⟨w.heap.size, 7, none⟩ = some (.slice a x.write.vec.length d) := (unhide HX).at 7 _ rfl
            have z8 : W2.cell? ⟨w.heap.size, 8, none⟩ = some (.int .i64 x.write.session) := (unhide HX).at 8 _ rfl
            have z9 : W2.cell? ⟨w.heap.size, 9, none⟩ = some (.int .i64 x.write.seq) := (unhide HX).at 9 _ rfl
            clear HL
            cases e7 : idxB x
            · have HF := hide (mfi_idx (unhide HFM) e7)
              clear e7
              go_wp2_with fail
              refine (mustF 3 _).mono ?_
              rintro e w9 ⟨rfl, h9⟩
              subst w9
              go_wp2_with fail
              exact ⟨rfl, by rw [unhide HF]; rfl, unhide HB⟩
            · have HF := hide (mfi_rest (unhide HFM) (unhide HE) (unhide HS) (unhide HD) e7)
              clear e7
              go_wp2_with fail
              refine (mustT 3 _).mono ?_
              rintro e w9 ⟨rfl, h9⟩
              subst w9
              replace HF := hide ((unhide HF).trans (if_neg (by simp at e1; omega)))
              have HL := hide (implWriteFault x.write.kind x.write.id _ x.write.session x.write.seq x.write.vec W2 (Lay.ints_reads (vec_of (unhide HR))))
              go_wp2_with fail
              refine (unhide HL).mono ?_
              rintro e W3 ⟨rfl, hb⟩
              replace HX := hide ((unhide HX).keep hb)
              replace HR := hide ((unhide HR).later hb)
              replace HB := hide ((unhide HB).trans (hb.mono (unhide HB).size))
              clear hb z0 z1 z2 z3 z4 z5 z6 z7 z8 z9
              have z0 : W3.cell? ⟨w.heap.size, 0, none⟩ = some (.int .i64 x.kind) := (unhide HX).at 0 _ rfl
              have z1 : W3.cell? ⟨w.heap.size, 1, none⟩ = some (.int .i64 x.epoch) := (unhide HX).at 1 _ rfl
              have z2 : W3.cell? ⟨w.heap.size, 2, none⟩ = some (.int .i64 x.src) := (unhide HX).at 2 _ rfl
              have z3 : W3.cell? ⟨w.heap.size, 3, none⟩ = some (.int .i64 x.dst) := (unhide HX).at 3 _ rfl
              have z4 : W3.cell? ⟨w.heap.size, 4, none⟩ = some (.int .i64 x.index) := (unhide HX).at 4 _ rfl
              have z5 : W3.cell? ⟨w.heap.size, 5, none⟩ = some (.int .i64 x.write.kind) := (unhide HX).at 5 _ rfl
              have z6 : W3.cell? ⟨w.heap.size, 6, none⟩ = some (.int .i64 x.write.id) := (unhide HX).at 6 _ rfl
              have z7 : W3.cell? ⟨w.heap.size, 7, none⟩ = some (.slice a x.write.vec.length d) := (unhide HX).at 7 _ rfl
              have z8 : W3.cell? ⟨w.heap.size, 8, none⟩ = some (.int .i64 x.write.session) := (unhide HX).at 8 _ rfl
              have z9 : W3.cell? ⟨w.heap.size, 9, none⟩ = some (.int .i64 x.write.seq) := (unhide HX).at 9 _ rfl
              clear HL
              replace HF : Hid (msgFault x = writeFault x.write.kind x.write.id x.write.vec x.write.session x.write.seq) := unhide HF
              generalize writeFault x.write.kind x.write.id x.write.vec x.write.session x.write.seq = f at *
              cases e8 : (f == 0)
              · have hf : f ≠ 0 := by simpa using e8
                have HG := hide hf
                clear hf
                go_wp2_with fail
                refine (mustF f _).mono ?_
                rintro e w9 ⟨rfl, h9⟩
                subst w9
                go_wp2_with fail
                exact ⟨rfl, by rw [unhide HF]; exact (wrongE_bad (unhide HG)).symm, unhide HB⟩
              · have hf : f = 0 := by simpa using e8
                subst hf
                clear e8
                go_wp2_with fail
                refine (mustT 0 _).mono ?_
                rintro e w9 ⟨rfl, h9⟩
                subst w9
                go_wp2_with fail
                go_end0
                exact ⟨by rw [unhide HF]; rfl, unhide HB⟩
end Go.Proofs.Ytkmfkaljdngigaa
