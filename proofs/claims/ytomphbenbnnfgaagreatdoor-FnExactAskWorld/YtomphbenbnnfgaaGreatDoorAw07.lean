/-
  Texts of this proof in one: ImplOnce, ImplWrF, ImplNodeF, ImplWN, ImplWNs, ImplWH, ImplMust, AppInts, ImplInts, ImplSameW, ImplMsgF, ImplFaced, ImplNetF, ImplWF, ImplClone, CloneC, ImplCopied.
  Their conditions stand in their theorems.
-/
import Derived.Test.YtomphbenbnnfgaaGreatDoorAw06
import Derived.Deep.RegionHeld3
import Derived.Test.YtomphbenbnnfgaaGreatDoorAw00
import Derived.Test.YtomphbenbnnfgaaGreatDoorAw05
import Derived.Deep.CutRange
import Derived.WalkMore
import Derived.Test.YtomphbenbnnfgaaGreatDoorChecked
import Derived.Test.YtomphbenbnnfgaaGreatDoorAw01
import Derived.WalkKit
import Derived.WalkLawsBesides
import Derived.Maps.AppendAt
import Derived.BigQuiet
import Derived.Deep.QuietTactic
import Derived.WalkSmall
import Derived.Defers
import Derived.Recover
import Derived.Laws.Pointers
set_option maxRecDepth 100000
set_option maxHeartbeats 4000000
namespace Go.Proofs.YtomphbenbnnfgaaGreatDoor
open Go.RowKit
def gM (f : Int → Int) : Array Value := #[.int .i64 (f 0), .int .i64 (f 1), .int .i64 (f 2), .int .i64 (f 3), .int .i64 (f 4), .int .i64 (f 5), .int .i64 (f 6), .int .i64 (f 7), .int .i64 (f 8), .int .i64 (f 9)]
theorem gB (f : Int → Int) (i : Nat) (h : i < 10) : (gM f)[i]? = some (.int .i64 (f i)) := by
 match i, h with
 | 0, _ => rfl
 | 1, _ => rfl
 | 2, _ => rfl
 | 3, _ => rfl
 | 4, _ => rfl
 | 5, _ => rfl
 | 6, _ => rfl
 | 7, _ => rfl
 | 8, _ => rfl
 | 9, _ => rfl
theorem oX (f : Int → Int) (i : Nat) (h : i < 10) (z : Int) : (gM f).setIfInBounds i (.int .i64 z) = gM (fun j => if j = i then z else f j) := by
 match i, h with
 | 0, _ => rfl
 | 1, _ => rfl
 | 2, _ => rfl
 | 3, _ => rfl
 | 4, _ => rfl
 | 5, _ => rfl
 | 6, _ => rfl
 | 7, _ => rfl
 | 8, _ => rfl
 | 9, _ => rfl
theorem kN (b off cap : Nat) (ws : List aj) (w : World) (h : (ab.sl ab.ag).Reads w [.slice (some ⟨b, off, none⟩) ws.length cap] ws) (hbl : b < w.heap.size) (hf : aR ws = 0) :
  Calls Tryz.prog 216 #[.slice (some ⟨b, off, none⟩) ws.length cap] w fun e w' => e = .returned (.bool (dk [] ws)) ∧ Below w.heap.size w w' := by
 have HL := yh (mG _ ws w h)
 have H := yh h
 obtain ⟨hlen, hall⟩ := ei hf
 have HA := yh hall
 have HF := yh hf
 clear h hall hf
 go_enter Tryz.func216, Tryz.ntmps216
 go_wp2_with fail
 refine (uh HL).mono ?_
 rintro e w2 ⟨r, rfl, g0, -, hb⟩
 obtain ⟨rfl, -⟩ := g0 (uh HF)
 rw [uh HF]
 have HB0 := yh (hb.alloc hb.size (.cells #[.int .i64 0, .int .i64 0, .int .i64 0, .int .i64 0, .int .i64 0, .int .i64 0, .int .i64 0, .int .i64 0, .int .i64 0, .int .i64 0] 135))
 have HX0 : Hid (aA 0 (gM (aT [])) 135 (w2.alloc (.cells #[.int .i64 0, .int .i64 0, .int .i64 0, .int .i64 0, .int .i64 0, .int .i64 0, .int .i64 0, .int .i64 0, .int .i64 0, .int .i64 0] 135)) w2.heap.size) := aD (Nat.zero_le _)
 have hz2 := hb.size
 clear hb HL HF g0
 go_wp2_with fail
 generalize w2.alloc (.cells #[.int .i64 0, .int .i64 0, .int .i64 0, .int .i64 0, .int .i64 0, .int .i64 0, .int .i64 0, .int .i64 0, .int .i64 0, .int .i64 0] 135) = W1 at *
 generalize w2.heap.size = L at *
 go_loopw [17] (fun i wr => ∃ k : Nat, k ≤ ws.length ∧ i = .int .i64 k ∧ (∀ j (hj : j < ws.length), j < k → aT ([] ++ ws.take j) (ws[j]).aa < (ws[j]).seq) ∧ aA 0 (gM (aT (ws.take k))) 135 wr L ∧ Below w.heap.size w wr) (fun i _ => ws.length - (intOf i).toNat)
 case atStart => exact ⟨0, Nat.zero_le _, rfl, fun j _ hj => by omega, uh HX0, uh HB0⟩
 case round =>
  obtain ⟨k, hk, rfl, hz, hX, hB⟩ := hrel
  clear HX0 HB0
  by_cases hlt : k < ws.length
  ·
   obtain ⟨row, hc, hr⟩ := ab.bE (uh H) hlt
   replace hr := hr.later hB
   obtain ⟨a2, d2, rfl, R2⟩ := aM hr
   have c0 : wr.cell? ⟨b, off + k * 5, none⟩ = some (.int .i64 (ws[k]).kind) := (hB.cell (p := ⟨b, off + k * 5, none⟩) hbl).trans (hc 0 (by decide))
   have c1 : wr.cell? ⟨b, off + k * 5 + 1, none⟩ = some (.int .i64 (ws[k]).id) := (hB.cell (p := ⟨b, off + k * 5 + 1, none⟩) hbl).trans (hc 1 (by decide))
   have c2 : wr.cell? ⟨b, off + k * 5 + 2, none⟩ = some (.slice a2 (ws[k]).vec.length d2) := (hB.cell (p := ⟨b, off + k * 5 + 2, none⟩) hbl).trans (hc 2 (by decide))
   have c3 : wr.cell? ⟨b, off + k * 5 + 3, none⟩ = some (.int .i64 (ws[k]).aa) := (hB.cell (p := ⟨b, off + k * 5 + 3, none⟩) hbl).trans (hc 3 (by decide))
   have c4 : wr.cell? ⟨b, off + k * 5 + 4, none⟩ = some (.int .i64 (ws[k]).seq) := (hB.cell (p := ⟨b, off + k * 5 + 4, none⟩) hbl).trans (hc 4 (by decide))
   have hsq := jZ (uh HA ws[k] (List.getElem_mem hlt))
   have HAT : Hid ((ws[k]).seq ≤ aT (ws.take k) (ws[k]).aa → dk [] ws = false) := fun he => kh ws [] k hlt (by simpa using he)
   have HZ2 : Hid (aT (ws.take k) (ws[k]).aa < (ws[k]).seq → ∀ j (hj : j < ws.length), j < k + 1 → aT ([] ++ ws.take j) (ws[j]).aa < (ws[j]).seq) := by
    intro h0 j hj hjk
    by_cases hjk2 : j < k
    ·
     exact hz j hj hjk2
    obtain rfl : j = k := by omega
    simpa using h0
   have HLT : Hid (aT (ws.take k) (ws[k]).aa < (ws[k]).seq → ∀ j : Int, (if j = ((ws[k]).aa.toNat : Int) then (ws[k]).seq else aT (ws.take k) j) = aT (ws.take (k + 1)) j) := by
    intro h0 j
    have h9 := jZ (uh HA ws[k] (List.getElem_mem hlt))
    rw [jY ws k hlt, show ((ws[k]).aa.toNat : Int) = (ws[k]).aa by omega]
    by_cases e : j = (ws[k]).aa
    ·
     rw [if_pos e, if_pos e.symm, e]; omega
    rw [if_neg e, if_neg (fun h => e h.symm)]
   clear hc hr hz R2
   generalize hx : ws[k] = x at *
   clear hx
   have hbr : b < wr.heap.size := Nat.lt_of_lt_of_le hbl hB.size
   have nb : Below wr.heap.size wr (wr.alloc (.cells #[.int .i64 x.kind, .int .i64 x.id, .slice a2 x.vec.length d2, .int .i64 x.aa, .int .i64 x.seq] 44)) := (Below.refl _ _).alloc (Nat.le_refl _) _
   have bI : aA 0 #[.int .i64 x.kind, .int .i64 x.id, .slice a2 x.vec.length d2, .int .i64 x.aa, .int .i64 x.seq] 44 (wr.alloc (.cells #[.int .i64 x.kind, .int .i64 x.id, .slice a2 x.vec.length d2, .int .i64 x.aa, .int .i64 x.seq] 44)) wr.heap.size := aD (Nat.zero_le _)
   have hLq := hX.lt
   have HX1 := yh (hX.ai nb)
   have HB1 := yh (hB.trans (nb.mono hB.size))
   have HBI := yh bI
   have hLw : w.heap.size ≤ L := hz2
   clear nb bI hX hB
   go_wp2_with fail
   clear c0 c1 c2 c3 c4
   generalize wr.alloc (.cells #[.int .i64 x.kind, .int .i64 x.id, .slice a2 x.vec.length d2, .int .i64 x.aa, .int .i64 x.seq] 44) = W0 at *
   obtain ⟨b1, b9, q1, q9⟩ := hsq
   have hs9 : x.aa.toNat < 10 := by omega
   have hsi : (x.aa.toNat : Int) = x.aa := by omega
   have i1 : (0 : Int) ≤ x.aa := by omega
   have i2 : x.aa < 10 := by omega
   have hXD := uh HX1
   have hID := uh HBI
   refine wZz (fun w' => w' = W0.drew) rfl (fun zq => ?_)
   refine tkH 0 zq ?_
   refine tkJ 1 (v := ?vo1) ?ho1 zq ?ro1
   case ho1 =>
    intro wS hSw
    have y3 : wS.cell? ⟨wr.heap.size, 3, none⟩ = some (.int .i64 x.aa) := by rw [hSw]; exact hID.at 3 _ rfl
    have y4 : wS.cell? ⟨wr.heap.size, 4, none⟩ = some (.int .i64 x.seq) := by rw [hSw]; exact hID.at 4 _ rfl
    have yl : wS.cell? ⟨L, x.aa.toNat, none⟩ = some (.int .i64 (aT (ws.take k) x.aa)) := by
     have := hXD.at _ _ (gB (aT (ws.take k)) x.aa.toNat hs9)
     rw [hsi] at this
     rw [hSw]; exact this
    clear hSw
    exact fZ
   refine tkH 2 zq ?_
   refine tkJ 3 (v := ?vo3) ?ho3 zq ?ro3
   case ho3 =>
    intro wS hSw
    have y3 : wS.cell? ⟨wr.heap.size, 3, none⟩ = some (.int .i64 x.aa) := by rw [hSw]; exact hID.at 3 _ rfl
    have y4 : wS.cell? ⟨wr.heap.size, 4, none⟩ = some (.int .i64 x.seq) := by rw [hSw]; exact hID.at 4 _ rfl
    have yl : wS.cell? ⟨L, x.aa.toNat, none⟩ = some (.int .i64 (aT (ws.take k) x.aa)) := by
     have := hXD.at _ _ (gB (aT (ws.take k)) x.aa.toNat hs9)
     rw [hsi] at this
     rw [hSw]; exact this
    clear hSw
    exact fZ
   refine tkH 4 zq ?_
   refine tkJ 5 (v := ?vo5) ?ho5 zq ?ro5
   case ho5 =>
    intro wS hSw
    have y3 : wS.cell? ⟨wr.heap.size, 3, none⟩ = some (.int .i64 x.aa) := by rw [hSw]; exact hID.at 3 _ rfl
    have y4 : wS.cell? ⟨wr.heap.size, 4, none⟩ = some (.int .i64 x.seq) := by rw [hSw]; exact hID.at 4 _ rfl
    have yl : wS.cell? ⟨L, x.aa.toNat, none⟩ = some (.int .i64 (aT (ws.take k) x.aa)) := by
     have := hXD.at _ _ (gB (aT (ws.take k)) x.aa.toNat hs9)
     rw [hsi] at this
     rw [hSw]; exact this
    clear hSw
    exact fZ
   refine tkH 6 zq ?_
   refine dZ ?_
   clear zq
   have HBD := yh (uh HB1).drew
   have hX2 : aA 0 (gM (aT (ws.take k))) 135 W0.drew L := uh HX1
   have hI2 : aA 0 #[.int .i64 x.kind, .int .i64 x.id, .slice a2 x.vec.length d2, .int .i64 x.aa, .int .i64 x.seq] 44 W0.drew wr.heap.size := uh HBI
   generalize W0.drew = W2 at *
   clear HX1 HBI HB1 hXD hID
   by_cases hq : x.seq ≤ aT (ws.take k) x.aa
   ·
    have hd : decide (x.seq ≤ aT (ws.take k) x.aa) = true := by simpa using hq
    have HG := yh (uh HAT hq)
    clear hq HAT HZ2 HLT hsi
    rw [hd]
    go_wp2_with fail
    go_ret
    exact ⟨by rw [uh HG]; first | done | rfl, uh HBD⟩
   ·
    have hd : decide (x.seq ≤ aT (ws.take k) x.aa) = false := by simpa using hq
    have HZ := yh (uh HZ2 (by omega))
    have HX3 : Hid (aA 0 (gM (aT (ws.take (k + 1)))) 135 (W2.setCell ⟨L, x.aa.toNat, none⟩ (.int .i64 x.seq)) L) := by
     have e := hX2.set x.aa.toNat (.int .i64 x.seq)
     rw [oX _ _ hs9, funext (uh HLT (by omega))] at e
     exact e
    have HB3 : Hid (Below w.heap.size w (W2.setCell ⟨L, x.aa.toNat, none⟩ (.int .i64 x.seq))) := (uh HBD).setCell (by simp; omega) _
    have y3 : W2.cell? ⟨wr.heap.size, 3, none⟩ = some (.int .i64 x.aa) := hI2.at 3 _ rfl
    have y4 : W2.cell? ⟨wr.heap.size, 4, none⟩ = some (.int .i64 x.seq) := hI2.at 4 _ rfl
    have yl : W2.cell? ⟨L, x.aa.toNat, none⟩ = some (.int .i64 (aT (ws.take k) x.aa)) := by
     have := hX2.at _ _ (gB (aT (ws.take k)) x.aa.toNat hs9)
     rwa [hsi] at this
    have fl := hX2.soft x.aa.toNat
    have ll := hX2.lt
    clear hq HAT HZ2 HLT hsi hX2 hI2 HBD
    rw [hd]
    go_wp2_with fail
    go_roundw
    case rel => exact ⟨k + 1, by omega, by go_num, uh HZ, uh HX3, uh HB3⟩
    case measure => simp [intOf]; omega
  obtain rfl : k = ws.length := by omega
  have HG : Hid (dk [] ws = true) := iM ws [] fun j hj => hz j hj hj
  have HB := yh hB
  clear H hz hB hX
  go_wp2_with fail
  go_ret
  exact ⟨by rw [uh HG]; first | done | rfl, uh HB⟩
theorem rL (v : Value) (ws : List aj) (w : World) (h : (ab.sl ab.ag).Reads w [v] ws) :
  Calls Tryz.prog 216 #[v] w fun e w' => e = .returned (.bool (jn ws)) ∧ Below w.heap.size w w' := by
 obtain ⟨ao, cap, rfl⟩ := aI h
 by_cases hf : aR ws = 0
 ·
  have e1 : jn ws = dk [] ws := by simp [jn, hf]
  rw [e1]
  by_cases hp : 0 < ws.length
  ·
   obtain ⟨b, off, rfl, hbl⟩ := ab.aS h hp
   exact kN b off cap ws w h hbl hf
  obtain rfl : ws = [] := List.eq_nil_of_length_eq_zero (by omega)
  have HL := yh (mG _ [] w h)
  clear h hp e1 hf
  go_enter Tryz.func216, Tryz.ntmps216
  go_wp2_with fail
  refine (uh HL).mono ?_
  rintro e w2 ⟨r, rfl, g0, -, hb⟩
  obtain ⟨rfl, -⟩ := g0 rfl
  rw [show aR [] = 0 from rfl]
  have HB0 := yh (hb.alloc hb.size (.cells #[.int .i64 0, .int .i64 0, .int .i64 0, .int .i64 0, .int .i64 0, .int .i64 0, .int .i64 0, .int .i64 0, .int .i64 0, .int .i64 0] 135))
  clear hb HL g0
  go_wp2_with fail
  refine wp_loop_rounds 1 ?_
  rw [rounds_succ]
  go_wp2_with fail
  go_ret
  exact ⟨rfl, uh HB0⟩
 have HL := yh (mG _ ws w h)
 have HG : Hid (jn ws = false) := by show jn ws = _; simp [jn, hf]
 have hd : (aR ws != 0) = true := by simpa using hf
 clear h
 go_enter Tryz.func216, Tryz.ntmps216
 go_wp2_with fail
 refine (uh HL).mono ?_
 rintro e w2 ⟨r, rfl, -, -, hb⟩
 have HB0 := yh hb
 clear hb HL hf
 go_wp2_with fail
 go_ret
 exact ⟨by rw [uh HG]; first | done | rfl, uh HB0⟩
theorem eY (k i : Int) (v : Value) (s q : Int) (zs : List Int) (w : World) (h : cf w v zs) :
  Calls Tryz.prog 101 #[.agg #[.int .i64 k, .int .i64 i, v, .int .i64 s, .int .i64 q]] w fun e w' => e = .returned (.int .i64 (aC k i zs s q)) ∧ Below w.heap.size w w' := by
 have h' := h
 obtain ⟨ao, cap, rfl, -⟩ := h'
 have B0 : Below w.heap.size w (w.alloc (.cells #[.int .i64 k, .int .i64 i, .slice ao zs.length cap, .int .i64 s, .int .i64 q] 44)) := (Below.refl _ _).alloc (Nat.le_refl _) _
 have L := yh (j0 k i (.slice ao zs.length cap) s q zs _ (h.later B0))
 have HB := yh B0
 clear B0 h
 go_enter Tryz.func101, Tryz.ntmps101
 go_wp2_with fail
 refine (uh L).mono ?_
 rintro e w1 ⟨rfl, hb1⟩
 have HB1 := yh ((uh HB).trans (hb1.mono (uh HB).size))
 clear hb1 HB L
 go_wp2_with fail
 go_ret
 exact ⟨rfl, uh HB1⟩
theorem uZ (v : Value) (ws : List aj) (w : World) (h : (ab.sl ab.ag).Reads w [v] ws) :
  Calls Tryz.prog 184 #[v] w fun e w' => e = .returned (.int .i64 (cJ ws)) ∧ Below w.heap.size w w' := by
 obtain ⟨ao, cap, rfl⟩ := aI h
 by_cases hn0 : 40 < ws.length
 ·
  have HF : Hid (cJ ws = 2) := by show cJ ws = 2; rw [cJ, if_pos hn0]
  have hbig := h.et
  have hd : decide ((40 : Int) < (ws.length : Int)) = true := by simp; omega
  clear h
  go_enter Tryz.func184, Tryz.ntmps184
  go_wp2_with fail
  go_ret
  exact ⟨by rw [uh HF]; rfl, Below.refl _ _⟩
 have hn : ws.length ≤ 40 := by omega
 have HW : Hid (cJ ws = if cx ws ≠ 0 then cx ws else if dk [] ws = false then 6 else 0) := by show cJ ws = _; rw [cJ, if_neg hn0]
 have H := yh h
 clear h hn0
 go_enter Tryz.func184, Tryz.ntmps184
 go_wp2_with fail
 go_loopw [11] (fun i wr => ∃ k : Nat, k ≤ ws.length ∧ i = .int .i64 k ∧ (∀ j (hj : j < ws.length), j < k → wF ws[j] = 0) ∧ Below w.heap.size w wr) (fun i _ => ws.length - (intOf i).toNat)
 case atStart => exact ⟨0, Nat.zero_le _, rfl, fun j _ hj => by omega, Below.refl _ _⟩
 case round =>
  obtain ⟨k, hk, rfl, hz, hB⟩ := hrel
  by_cases hlt : k < ws.length
  ·
   obtain ⟨b, off, rfl, hbl⟩ := ab.aS (uh H) (by omega)
   obtain ⟨row, hc, hr⟩ := ab.bE (uh H) hlt
   replace hr := hr.later hB
   obtain ⟨a2, d2, rfl, R2⟩ := aM hr
   have c0 : wr.cell? ⟨b, off + k * 5, none⟩ = some (.int .i64 (ws[k]).kind) := (hB.cell (p := ⟨b, off + k * 5, none⟩) hbl).trans (hc 0 (by decide))
   have c1 : wr.cell? ⟨b, off + k * 5 + 1, none⟩ = some (.int .i64 (ws[k]).id) := (hB.cell (p := ⟨b, off + k * 5 + 1, none⟩) hbl).trans (hc 1 (by decide))
   have c2 : wr.cell? ⟨b, off + k * 5 + 2, none⟩ = some (.slice a2 (ws[k]).vec.length d2) := (hB.cell (p := ⟨b, off + k * 5 + 2, none⟩) hbl).trans (hc 2 (by decide))
   have c3 : wr.cell? ⟨b, off + k * 5 + 3, none⟩ = some (.int .i64 (ws[k]).aa) := (hB.cell (p := ⟨b, off + k * 5 + 3, none⟩) hbl).trans (hc 3 (by decide))
   have c4 : wr.cell? ⟨b, off + k * 5 + 4, none⟩ = some (.int .i64 (ws[k]).seq) := (hB.cell (p := ⟨b, off + k * 5 + 4, none⟩) hbl).trans (hc 4 (by decide))
   have HZ := yh hz
   have HAT : Hid (wF ws[k] ≠ 0 → cJ ws = wF ws[k]) := fun hn => by
    have e := iB ws k hlt hz hn
    rw [uh HW, e, if_pos hn]
   have HZ2 : Hid (wF ws[k] = 0 → ∀ j (hj : j < ws.length), j < k + 1 → wF ws[j] = 0) := by
    intro h0 j hj hjk
    by_cases hjk2 : j < k
    ·
     exact uh HZ j hj hjk2
    obtain rfl : j = k := by omega
    exact h0
   clear hc hr hz HZ
   generalize hx : ws[k] = x at *
   clear hx
   have hbr : b < wr.heap.size := Nat.lt_of_lt_of_le hbl hB.size
   have nb : Below wr.heap.size wr (wr.alloc (.cells #[.int .i64 x.kind, .int .i64 x.id, .slice a2 x.vec.length d2, .int .i64 x.aa, .int .i64 x.seq] 44)) := (Below.refl _ _).alloc (Nat.le_refl _) _
   have L := eY x.kind x.id (.slice a2 x.vec.length d2) x.aa x.seq x.vec _ ((ab.bc R2).later nb)
   rw [show aC x.kind x.id x.vec x.aa x.seq = wF x from rfl] at L
   have HL := yh L
   have HB := yh (hB.trans (nb.mono hB.size))
   clear R2 hB nb L
   go_wp2_with fail
   clear c0 c1 c2 c3 c4
   refine (uh HL).mono ?_
   generalize hW0 : wr.alloc (.cells #[.int .i64 x.kind, .int .i64 x.id, .slice a2 x.vec.length d2, .int .i64 x.aa, .int .i64 x.seq] 44) = W0 at *
   clear hW0
   rintro e w2 ⟨rfl, hb⟩
   replace HB := bZ HB hb
   clear hb HL
   by_cases hf : wF x = 0
   ·
    have HZ3 := yh (uh HZ2 hf)
    rw [hf]
    clear hf HZ2 HAT
    go_wp2_with fail
    go_roundw
    case rel => exact ⟨k + 1, by omega, by go_num, uh HZ3, uh HB⟩
    case measure => simp [intOf]; omega
   have hd : (wF x != 0) = true := by simpa using hf
   have HE := yh (uh HAT hf)
   clear HAT HZ2 hf
   generalize wF x = c at *
   go_wp2_with fail
   go_ret
   exact ⟨by rw [uh HE]; rfl, uh HB⟩
  obtain rfl : k = ws.length := by omega
  have e0 := eX ws (fun j hj => hz j hj hj)
  have HL := yh (rL _ ws wr ((uh H).later hB))
  have hf0 : aR ws = 0 := by rw [aR, if_neg (by omega), e0]
  have hor : jn ws = dk [] ws := by rw [jn, hf0]; simp
  rw [hor] at HL
  have HB := yh hB
  have HT : Hid (cJ ws = if dk [] ws = false then 6 else 0) := by show cJ ws = _; rw [uh HW, e0, if_neg (by simp)]
  clear hB hz e0 hf0 hor H HW
  cases ho : dk [] ws
  ·
   rw [ho] at HL HT
   clear ho
   go_wp2_with fail
   refine (uh HL).mono ?_
   rintro e w2 ⟨rfl, hb⟩
   have HB2 := yh ((uh HB).trans (hb.mono (uh HB).size))
   clear hb HL
   go_wp2_with fail
   go_ret
   exact ⟨by rw [uh HT]; rfl, uh HB2⟩
  rw [ho] at HL HT
  clear ho
  go_wp2_with fail
  refine (uh HL).mono ?_
  rintro e w2 ⟨rfl, hb⟩
  have HB2 := yh ((uh HB).trans (hb.mono (uh HB).size))
  clear hb HL
  go_wp2_with fail
  go_ret
  exact ⟨by rw [uh HT]; rfl, uh HB2⟩
theorem mg (cs : List Value) (x : aV) (w : World) (h : ab.ax.Reads w cs x) :
  Calls Tryz.prog 185 #[.agg cs.toArray] w fun e w' => e = .returned (.bool (dO x)) ∧ Below w.heap.size w w' := by
 obtain ⟨a4, d4, rfl, R4⟩ := bG h
 have hbig := R4.et
 clear h R4
 have HB := yh ((Below.refl w.heap.size w).alloc (Nat.le_refl _) (.cells #[.int .i64 x.id, .bool x.up, .int .i64 x.ae, .int .i64 x.au, .slice a4 x.writes.length d4, .int .i64 x.sure, .int .i64 x.clean] 63))
 cases d1 : (x.sure == (x.writes.length : Int))
 ·
  have HF : Hid (dO x = false) := by show dO x = false; rw [dO, d1]; rfl
  go_enter Tryz.func185, Tryz.ntmps185
  go_wp2_with fail
  go_ret
  exact ⟨by rw [uh HF]; rfl, uh HB⟩
 cases d2 : (x.clean == 0)
 ·
  have HF : Hid (dO x = false) := by show dO x = false; rw [dO, d1, d2]; rfl
  go_enter Tryz.func185, Tryz.ntmps185
  go_wp2_with fail
  go_ret
  exact ⟨by rw [uh HF]; rfl, uh HB⟩
 cases d3 : (x.au == 0)
 ·
  have HF : Hid (dO x = false) := by show dO x = false; rw [dO, d1, d2, d3]; rfl
  go_enter Tryz.func185, Tryz.ntmps185
  go_wp2_with fail
  go_ret
  exact ⟨by rw [uh HF]; rfl, uh HB⟩
 have HF : Hid (dO x = true) := by show dO x = true; rw [dO, d1, d2, d3]; rfl
 go_enter Tryz.func185, Tryz.ntmps185
 go_wp2_with fail
 go_ret
 exact ⟨by rw [uh HF]; rfl, uh HB⟩
theorem fq (cs : List Value) (x : aV) (w : World) (h : ab.ax.Reads w cs x) :
  Calls Tryz.prog 129 #[.agg cs.toArray] w fun e w' => e = .returned (.int .i64 (aJ x)) ∧ Below w.heap.size w w' := by
 have hN := h
 obtain ⟨a4, d4, rfl, R4⟩ := bG h
 have hbig := R4.et
 have nb : Below w.heap.size w (w.alloc (.cells #[.int .i64 x.id, .bool x.up, .int .i64 x.ae, .int .i64 x.au, .slice a4 x.writes.length d4, .int .i64 x.sure, .int .i64 x.clean] 63)) := (Below.refl _ _).alloc (Nat.le_refl _) _
 have bX : aA w.heap.size #[.int .i64 x.id, .bool x.up, .int .i64 x.ae, .int .i64 x.au, .slice a4 x.writes.length d4, .int .i64 x.sure, .int .i64 x.clean] 63 (w.alloc (.cells #[.int .i64 x.id, .bool x.up, .int .i64 x.ae, .int .i64 x.au, .slice a4 x.writes.length d4, .int .i64 x.sure, .int .i64 x.clean] 63)) w.heap.size := aD (Nat.le_refl _)
 have HT := yh (uZ _ x.writes _ (R4.later nb))
 have HN := yh hN
 have HB := yh nb
 have HX := yh bX
 clear h hN nb bX R4
 go_enter Tryz.func129, Tryz.ntmps129
 go_wp2_with fail
 generalize w.alloc (.cells #[.int .i64 x.id, .bool x.up, .int .i64 x.ae, .int .i64 x.au, .slice a4 x.writes.length d4, .int .i64 x.sure, .int .i64 x.clean] 63) = W0 at *
 have x1 := (uh HX).at 1 _ rfl
 have x2 := (uh HX).at 2 _ rfl
 have x3 := (uh HX).at 3 _ rfl
 have x4 := (uh HX).at 4 _ rfl
 have x5 := (uh HX).at 5 _ rfl
 have x6 := (uh HX).at 6 _ rfl
 simp only [ga, gb, gc] at x1 x2 x3 x4 x5 x6
 have xl := (uh HX).lt
 refine (du x.id W0).mono ?_
 rintro e W1 ⟨rfl, h1⟩
 subst W1
 cases d1 : (decide (1 ≤ x.id) && decide (x.id ≤ 5))
 ·
  have HF := yh (uM d1)
  clear d1
  go_wp2_with fail
  go_ret
  exact ⟨by rw [uh HF]; rfl, uh HB⟩
 go_wp2_with fail
 refine (eN x.ae 999 W0).mono ?_
 rintro e W1 ⟨rfl, h1⟩
 subst W1
 cases d2 : (decide (0 ≤ x.ae) && decide (x.ae ≤ 999))
 ·
  have HF := yh (m0 d2)
  clear d1 d2
  go_wp2_with fail
  go_ret
  exact ⟨by rw [uh HF]; rfl, uh HB⟩
 go_wp2_with fail
 refine (eN x.au 9999 W0).mono ?_
 rintro e W1 ⟨rfl, h1⟩
 subst W1
 cases d3 : (decide (0 ≤ x.au) && decide (x.au ≤ 9999))
 ·
  have HF := yh (ny d3)
  clear d1 d2 d3
  go_wp2_with fail
  go_ret
  exact ⟨by rw [uh HF]; rfl, uh HB⟩
 have HF := yh (pO d1 d2 d3)
 clear d1 d2 d3
 go_wp2_with fail
 refine (uh HT).mono ?_
 rintro e W1 ⟨rfl, hb⟩
 have bX1 := (uh HX).ai hb
 replace x1 := bX1.at 1 _ rfl
 replace x2 := bX1.at 2 _ rfl
 replace x3 := bX1.at 3 _ rfl
 replace x4 := bX1.at 4 _ rfl
 replace x5 := bX1.at 5 _ rfl
 replace x6 := bX1.at 6 _ rfl
 have x0 := bX1.at 0 _ rfl
 simp only [ga, gb, gc] at x0 x1 x2 x3 x4 x5 x6
 replace xl := bX1.lt
 have HB1 := yh ((uh HB).trans (hb.mono (uh HB).size))
 clear hb bX1 HT HX HB
 by_cases ht : cJ x.writes = 0
 ·
  rw [ht]
  have HF1 := yh ((uh HF).trans (if_neg (by simpa using ht)))
  clear HF ht
  go_wp2_with fail
  refine (eN x.sure (x.writes.length : Int) W1).mono ?_
  rintro e W2 ⟨rfl, h1⟩
  subst W2
  cases d4 : (decide (0 ≤ x.sure) && decide (x.sure ≤ (x.writes.length : Int)))
  ·
   have HF2 := yh ((uh HF1).trans (if_neg (by rw [d4]; simp)))
   clear HF1 d4
   go_wp2_with fail
   go_ret
   exact ⟨by rw [uh HF2]; rfl, uh HB1⟩
  go_wp2_with fail
  refine (eN x.clean x.sure W1).mono ?_
  rintro e W2 ⟨rfl, h1⟩
  subst W2
  cases d5 : (decide (0 ≤ x.clean) && decide (x.clean ≤ x.sure))
  ·
   have HF2 := yh ((uh HF1).trans (if_neg (by rw [d5]; simp)))
   clear HF1 d4 d5
   go_wp2_with fail
   go_ret
   exact ⟨by rw [uh HF2]; rfl, uh HB1⟩
  have HF2 := yh ((uh HF1).trans (if_pos ⟨d4, d5⟩))
  clear HF1 d4 d5
  have HD := yh (mg _ x W1 ((uh HN).later (uh HB1)))
  cases hu : x.up
  ·
   rw [hu] at x1 HF2 HD
   cases hdn : dO x
   ·
    have HF3 := yh ((uh HF2).trans (if_pos ⟨rfl, hdn⟩))
    rw [hdn] at HD
    clear HF2 hdn hu
    go_wp2_with fail
    refine (uh HD).mono ?_
    rintro e W2 ⟨rfl, hb⟩
    have HB2 := yh ((uh HB1).trans (hb.mono (uh HB1).size))
    clear hb HD
    go_wp2_with fail
    go_ret
    exact ⟨by rw [uh HF3]; rfl, uh HB2⟩
   have HF3 := yh ((uh HF2).trans (if_neg (by simp [hdn])))
   rw [hdn] at HD
   clear HF2 hdn hu
   go_wp2_with fail
   refine (uh HD).mono ?_
   rintro e W2 ⟨rfl, hb⟩
   have HB2 := yh ((uh HB1).trans (hb.mono (uh HB1).size))
   clear hb HD
   go_wp2_with fail
   go_ret
   exact ⟨by rw [uh HF3]; rfl, uh HB2⟩
  rw [hu] at x1 HF2
  have HF3 := yh ((uh HF2).trans (if_neg (by simp)))
  clear HF2 hu HD
  go_wp2_with fail
  go_ret
  exact ⟨by rw [uh HF3]; rfl, uh HB1⟩
 have HF1 := yh ((uh HF).trans (if_pos (by simpa using ht)))
 have hd : (cJ x.writes != 0) = true := by simpa using ht
 clear HF ht
 generalize cJ x.writes = c at *
 go_wp2_with fail
 go_ret
 exact ⟨by rw [uh HF1]; rfl, uh HB1⟩
theorem sY (cs : List Value) (x : ay) (id : Int) (w : World) (h : ab.aF.Reads w cs x) :
  Calls Tryz.prog 70 #[.agg cs.toArray, .int .i64 id] w fun e w' => e = .returned (.bool (cz x id)) ∧ Below w.heap.size w w' := by
 obtain ⟨a3, d3, a4, d4, a5, d5, a6, d6, rfl, -, R4, -, -⟩ := aK h
 have hbig := R4.et
 have nb : Below w.heap.size w (w.alloc (.cells #[.int .i64 x.now, .int .i64 x.events, .int .i64 x.chain.ae, .slice a3 x.chain.ids.length d3, .slice a4 x.nodes.length d4, .slice a5 x.msgs.length d5, .slice a6 x.af.length d6] 39)) := (Below.refl _ _).alloc (Nat.le_refl _) _
 have bX : aA 0 #[.int .i64 x.now, .int .i64 x.events, .int .i64 x.chain.ae, .slice a3 x.chain.ids.length d3, .slice a4 x.nodes.length d4, .slice a5 x.msgs.length d5, .slice a6 x.af.length d6] 39 (w.alloc (.cells #[.int .i64 x.now, .int .i64 x.events, .int .i64 x.chain.ae, .slice a3 x.chain.ids.length d3, .slice a4 x.nodes.length d4, .slice a5 x.msgs.length d5, .slice a6 x.af.length d6] 39)) w.heap.size := aD (Nat.zero_le _)
 have z3 := aA.at bX 3 _ rfl
 simp only [ga, gb, gc] at z3
 have HB := yh nb
 clear nb bX R4 h
 show Calls _ _ _ _ fun e w' => e = .returned (.bool (decide (1 ≤ id) && decide (id ≤ (x.nodes.length : Int)))) ∧ _
 cases d1 : decide (1 ≤ id)
 ·
  go_enter Tryz.func70, Tryz.ntmps70
  go_wp2_with fail
  go_ret
  exact ⟨rfl, uh HB⟩
 cases d2 : decide (id ≤ (x.nodes.length : Int)) <;>
 ·
  go_enter Tryz.func70, Tryz.ntmps70
  go_wp2_with fail
  go_ret
  exact ⟨rfl, uh HB⟩
theorem j4 (cs : List Value) (x : bQ) (id : Int) (w : World) (h : ab.aH.Reads w cs x) :
  Calls Tryz.prog 158 #[.agg cs.toArray, .int .i64 id] w fun e w' => e = .returned (.bool (decide (0 ≤ bK x.ids id))) ∧ Below w.heap.size w w' := by
 obtain ⟨a3, d3, rfl, R3⟩ := cb h
 have nb : Below w.heap.size w (w.alloc (.cells #[.int .i64 x.ae, .slice a3 x.ids.length d3] 34)) := (Below.refl _ _).alloc (Nat.le_refl _) _
 have bX : aA 0 #[.int .i64 x.ae, .slice a3 x.ids.length d3] 34 (w.alloc (.cells #[.int .i64 x.ae, .slice a3 x.ids.length d3] 34)) w.heap.size := aD (Nat.zero_le _)
 have z1 := aA.at bX 1 _ rfl
 simp only [ga, gb, gc] at z1
 have HL := yh (lp _ x.ids id _ (R3.later nb))
 have HB := yh nb
 clear nb bX R3 h
 generalize decide (0 ≤ bK x.ids id) = c at *
 go_enter Tryz.func158, Tryz.ntmps158
 go_wp2_with fail
 refine (uh HL).mono ?_
 generalize w.alloc (.cells #[.int .i64 x.ae, .slice a3 x.ids.length d3] 34) = w1 at *
 rintro e w2 ⟨rfl, h2⟩
 subst w2
 clear HL z1
 go_wp2_with fail
 go_ret
 exact ⟨rfl, uh HB⟩
theorem nw (k : Nat) (cs : List Value) (x : aV) (w : World) (h : ab.ax.Reads w cs x) (hk : k ≤ 1000) :
  Calls Tryz.prog 130 #[.int .i64 (k : Int), .agg cs.toArray] w fun e w' => e = .returned (.int .i64 (if x.id ≠ (k : Int) + 1 then 1 else 0)) ∧ Below w.heap.size w w' := by
 obtain ⟨a4, d4, rfl, R4⟩ := bG h
 have nb : Below w.heap.size w (w.alloc (.cells #[.int .i64 x.id, .bool x.up, .int .i64 x.ae, .int .i64 x.au, .slice a4 x.writes.length d4, .int .i64 x.sure, .int .i64 x.clean] 63)) := (Below.refl _ _).alloc (Nat.le_refl _) _
 have HB := yh nb
 clear nb R4 h
 by_cases hd : x.id = (k : Int) + 1
 ·
  rw [if_neg (by simpa using hd)]
  have hb : (x.id != (k : Int) + 1) = false := by simpa using hd
  have HD := yh hd
  clear hd
  generalize x.id = i at *
  go_enter Tryz.func130, Tryz.ntmps130
  go_wp2_with fail
  go_ret
  exact ⟨rfl, uh HB⟩
 rw [if_pos hd]
 have hb : (x.id != (k : Int) + 1) = true := by simpa using hd
 clear hd
 go_enter Tryz.func130, Tryz.ntmps130
 go_wp2_with fail
 go_ret
 exact ⟨rfl, uh HB⟩
def uJ (a q b : Bool) : Int := cond a 7 (cond q (cond b 7 0) 0)
def fN (c : bQ) (n : aV) : Int := if c.ae < n.ae ∨ (n.up = true ∧ 0 ≤ bK c.ids n.id ∧ n.ae ≠ c.ae) then 7 else 0
theorem nH (us : List Value) (c : bQ) (cs : List Value) (x : aV) (w : World) (hc : ab.aH.Reads w us c) (h : ab.ax.Reads w cs x) :
  Calls Tryz.prog 131 #[.agg us.toArray, .agg cs.toArray] w fun e w' => e = .returned (.int .i64 (fN c x)) ∧ Below w.heap.size w w' := by
 obtain ⟨a3, d3, rfl, -⟩ := cb hc
 obtain ⟨a4, d4, rfl, -⟩ := bG h
 have nb1 : Below w.heap.size w (w.alloc (.cells #[.int .i64 c.ae, .slice a3 c.ids.length d3] 34)) := (Below.refl _ _).alloc (Nat.le_refl _) _
 have nb : Below w.heap.size w ((w.alloc (.cells #[.int .i64 c.ae, .slice a3 c.ids.length d3] 34)).alloc (.cells #[.int .i64 x.id, .bool x.up, .int .i64 x.ae, .int .i64 x.au, .slice a4 x.writes.length d4, .int .i64 x.sure, .int .i64 x.clean] 63)) := nb1.alloc (by simp) _
 have bC : aA 0 #[.int .i64 c.ae, .slice a3 c.ids.length d3] 34 ((w.alloc (.cells #[.int .i64 c.ae, .slice a3 c.ids.length d3] 34)).alloc (.cells #[.int .i64 x.id, .bool x.up, .int .i64 x.ae, .int .i64 x.au, .slice a4 x.writes.length d4, .int .i64 x.sure, .int .i64 x.clean] 63)) w.heap.size := (aD (Nat.zero_le _)).grow _
 have bX : aA 0 #[.int .i64 x.id, .bool x.up, .int .i64 x.ae, .int .i64 x.au, .slice a4 x.writes.length d4, .int .i64 x.sure, .int .i64 x.clean] 63 ((w.alloc (.cells #[.int .i64 c.ae, .slice a3 c.ids.length d3] 34)).alloc (.cells #[.int .i64 x.id, .bool x.up, .int .i64 x.ae, .int .i64 x.au, .slice a4 x.writes.length d4, .int .i64 x.sure, .int .i64 x.clean] 63)) (w.heap.size + 1) := bm (Nat.zero_le _) (by simp)
 have HL := yh (j4 _ c x.id _ (hc.later nb))
 have HC := yh bC
 have HX := yh bX
 have HB := yh nb
 have hE : fN c x = uJ (decide (c.ae < x.ae)) (x.up && decide (0 ≤ bK c.ids x.id)) (x.ae != c.ae) := by
  unfold fN uJ
  by_cases e1 : c.ae < x.ae
  ·
   simp [e1]
  by_cases e2 : (x.up && decide (0 ≤ bK c.ids x.id)) = true
  ·
   simp only [Bool.and_eq_true, decide_eq_true_eq] at e2
   simp [e1, e2.1, e2.2]
  have e3 : ¬ (x.up = true ∧ 0 ≤ bK c.ids x.id ∧ x.ae ≠ c.ae) := fun q => e2 (by simp [q.1, q.2.1])
  simp only [e1, e3, e2]
  simp
 rw [hE]
 clear hE nb1 nb bC bX hc h
 generalize hu : x.up = u at *
 clear hu
 generalize decide (0 ≤ bK c.ids x.id) = q at *
 cases u
 ·
  simp only [Bool.false_and]
  have z0 := aA.at (uh HC) 0 _ rfl
  have y0 := aA.at (uh HX) 0 _ rfl
  have y1 := aA.at (uh HX) 1 _ rfl
  have y2 := aA.at (uh HX) 2 _ rfl
  simp only [ga, gb, gc] at z0 y0 y1 y2
  cases d1 : decide (c.ae < x.ae)
  ·
   go_enter Tryz.func131, Tryz.ntmps131
   go_wp2_with fail
   go_ret
   exact ⟨rfl, uh HB⟩
  go_enter Tryz.func131, Tryz.ntmps131
  go_wp2_with fail
  go_ret
  exact ⟨rfl, uh HB⟩
 simp only [Bool.true_and]
 go_enter Tryz.func131, Tryz.ntmps131
 go_upto_region 1 with fail
 generalize (w.alloc (.cells #[.int .i64 c.ae, .slice a3 c.ids.length d3] 34)).alloc (.cells #[.int .i64 x.id, .bool true, .int .i64 x.ae, .int .i64 x.au, .slice a4 x.writes.length d4, .int .i64 x.sure, .int .i64 x.clean] 63) = w1 at *
 have z0 := aA.at (uh HC) 0 _ rfl
 have z1 := aA.at (uh HC) 1 _ rfl
 have y0 := aA.at (uh HX) 0 _ rfl
 have y1 := aA.at (uh HX) 1 _ rfl
 simp only [ga, gb, gc] at z0 z1 y0 y1
 go_wp2_with fail
 refine (uh HL).mono ?_
 rintro e w2 ⟨rfl, hb⟩
 replace HC := yh ((uh HC).ai hb)
 replace HX := yh ((uh HX).ai hb)
 replace HB := bZ HB hb
 clear hb HL z0 z1 y0 y1
 have z0 := aA.at (uh HC) 0 _ rfl
 have y2 := aA.at (uh HX) 2 _ rfl
 simp only [ga, gb, gc] at z0 y2
 cases d1 : decide (c.ae < x.ae)
 ·
  cases q
  ·
   go_wp2_with fail
   go_ret
   exact ⟨by (try rw [d1]); rfl, uh HB⟩
  ·
   cases d2 : (x.ae != c.ae)
   ·
    go_wp2_with fail
    go_ret
    exact ⟨by (try rw [d1]); (try rw [d2]); rfl, uh HB⟩
   ·
    go_wp2_with fail
    go_ret
    exact ⟨by (try rw [d1]); (try rw [d2]); rfl, uh HB⟩
 ·
  go_wp2_with fail
  go_ret
  exact ⟨by (try rw [d1]); rfl, uh HB⟩
theorem m2 (c : bQ) {xs : List aV} {k : Nat} (hk : k < xs.length) : cE c k (xs.drop k) = if aJ xs[k] ≠ 0 then aJ xs[k] else if (if xs[k].id ≠ (k : Int) + 1 then (1 : Int) else 0) ≠ 0 then (if xs[k].id ≠ (k : Int) + 1 then (1 : Int) else 0) else if fN c xs[k] ≠ 0 then fN c xs[k] else cE c (k + 1) (xs.drop (k + 1)) := by
 rw [List.drop_eq_getElem_cons hk, cE]
 by_cases h1 : aJ xs[k] ≠ 0
 ·
  rw [if_pos h1, if_pos h1]
 rw [if_neg h1, if_neg h1]
 by_cases h2 : xs[k].id ≠ (k : Int) + 1
 ·
  rw [if_pos h2, if_pos h2, if_pos (show ((1 : Int) ≠ 0) by omega)]
 rw [if_neg h2, if_neg h2, if_neg (show ¬ ((0 : Int) ≠ 0) by omega)]
 by_cases h3 : c.ae < xs[k].ae ∨ (xs[k].up = true ∧ 0 ≤ bK c.ids xs[k].id ∧ xs[k].ae ≠ c.ae)
 ·
  have hE : fN c xs[k] = 7 := if_pos h3
  rw [if_pos h3, hE, if_pos (show ((7 : Int) ≠ 0) by omega)]
 have hE : fN c xs[k] = 0 := if_neg h3
 rw [if_neg h3, hE, if_neg (show ¬ ((0 : Int) ≠ 0) by omega)]
def fb (c : bQ) (ns : List aV) : Int := if 1 ≤ ns.length ∧ ns.length ≤ 5 then cE c 0 ns else 2
theorem nf (us : List Value) (c : bQ) (v : Value) (ns : List aV) (w : World) (hc : ab.aH.Reads w us c) (h : (ab.sl ab.ax).Reads w [v] ns) :
  Calls Tryz.prog 68 #[.agg us.toArray, v] w fun e w' => e = .returned (.int .i64 (fb c ns)) ∧ Below w.heap.size w w' := by
 obtain ⟨a3, d3, rfl, -⟩ := cb hc
 obtain ⟨ao, cap, rfl⟩ := aI h
 have hbig := h.et
 have nb : Below w.heap.size w (w.alloc (.cells #[.int .i64 c.ae, .slice a3 c.ids.length d3] 34)) := (Below.refl _ _).alloc (Nat.le_refl _) _
 have HCH : Hid (aA 0 #[.int .i64 c.ae, .slice a3 c.ids.length d3] 34 (w.alloc (.cells #[.int .i64 c.ae, .slice a3 c.ids.length d3] 34)) w.heap.size) := aD (Nat.zero_le _)
 have HB := yh nb
 have HK := yh hc
 have H := yh h
 have HP : Hid (fb c ns = if 1 ≤ ns.length ∧ ns.length ≤ 5 then cE c 0 (ns.drop 0) else 2) := rfl
 clear nb hc h
 generalize fb c ns = r at *
 go_enter Tryz.func68, Tryz.ntmps68
 go_wp2_with fail
 go_step3
 go_wp2_with fail
 generalize w.alloc (.cells #[.int .i64 c.ae, .slice a3 c.ids.length d3] 34) = w0 at *
 refine (iu (ns.length : Int) w0).mono ?_
 rintro e w1 ⟨rfl, h1⟩
 subst w1
 cases d1 : (decide (1 ≤ (ns.length : Int)) && decide ((ns.length : Int) ≤ 5))
 ·
  replace HP := yh ((uh HP).trans (if_neg (by intro q; rw [decide_eq_true (by omega), decide_eq_true (by omega)] at d1; simp at d1)))
  clear d1
  go_wp2_with fail
  first | go_ret | (rw [Exit.noGoto_ret]; go_ret)
  exact ⟨by rw [uh HP]; rfl, uh HB⟩
 have hn : 1 ≤ ns.length ∧ ns.length ≤ 5 := by simp at d1; omega
 replace HP := yh ((uh HP).trans (if_pos hn))
 have hn5 := hn.2
 clear d1 hn
 go_wp2_with fail
 go_step3
 go_wp2_with fail
 go_loopw [5, 16] (fun f i wr => ∃ k : Nat, k ≤ ns.length ∧ f = .int .i64 0 ∧ i = .int .i64 k ∧ r = cE c k (ns.drop k) ∧ Below w.heap.size w wr ∧ aA 0 #[.int .i64 c.ae, .slice a3 c.ids.length d3] 34 wr w.heap.size) (fun _ i _ => ns.length - (intOf i).toNat)
 case atStart => exact ⟨0, Nat.zero_le _, rfl, rfl, uh HP, uh HB, uh HCH⟩
 case round =>
  obtain ⟨k, hk, rfl, rfl, hF, hB, hC⟩ := hrel
  clear HP HB HCH
  by_cases hlt : k < ns.length
  ·
   obtain ⟨b, off, rfl, hbl⟩ := ab.aS (uh H) (by omega)
   obtain ⟨row, hcl, hr⟩ := ab.bE (uh H) hlt
   replace hr := hr.later hB
   rw [m2 c hlt] at hF
   have hdl : decide ((k : Int) < (ns.length : Int)) = true := by simp; omega
   obtain ⟨a4, d4, rfl, -⟩ := bG hr
   have c0 : wr.cell? ⟨b, off + k * 7, none⟩ = some (.int .i64 (ns[k]).id) := (hB.cell (p := ⟨b, off + k * 7, none⟩) hbl).trans (hcl 0 (by decide))
   have c1 : wr.cell? ⟨b, off + k * 7 + 1, none⟩ = some (.bool (ns[k]).up) := (hB.cell (p := ⟨b, off + k * 7 + 1, none⟩) hbl).trans (hcl 1 (by decide))
   have c2 : wr.cell? ⟨b, off + k * 7 + 2, none⟩ = some (.int .i64 (ns[k]).ae) := (hB.cell (p := ⟨b, off + k * 7 + 2, none⟩) hbl).trans (hcl 2 (by decide))
   have c3 : wr.cell? ⟨b, off + k * 7 + 3, none⟩ = some (.int .i64 (ns[k]).au) := (hB.cell (p := ⟨b, off + k * 7 + 3, none⟩) hbl).trans (hcl 3 (by decide))
   have c4 : wr.cell? ⟨b, off + k * 7 + 4, none⟩ = some (.slice a4 (ns[k]).writes.length d4) := (hB.cell (p := ⟨b, off + k * 7 + 4, none⟩) hbl).trans (hcl 4 (by decide))
   have c5 : wr.cell? ⟨b, off + k * 7 + 5, none⟩ = some (.int .i64 (ns[k]).sure) := (hB.cell (p := ⟨b, off + k * 7 + 5, none⟩) hbl).trans (hcl 5 (by decide))
   have c6 : wr.cell? ⟨b, off + k * 7 + 6, none⟩ = some (.int .i64 (ns[k]).clean) := (hB.cell (p := ⟨b, off + k * 7 + 6, none⟩) hbl).trans (hcl 6 (by decide))
   have HF := yh hF
   have HR := yh hr
   have HB := yh hB
   have HC := yh hC
   clear hF hr hB hcl hC
   generalize hx : ns[k] = x at *
   clear hx
   have nb : Below wr.heap.size wr (wr.alloc (.cells #[.int .i64 x.id, .bool x.up, .int .i64 x.ae, .int .i64 x.au, .slice a4 x.writes.length d4, .int .i64 x.sure, .int .i64 x.clean] 63)) := (Below.refl _ _).alloc (Nat.le_refl _) _
   have HX1 : Hid (aA 0 #[.int .i64 x.id, .bool x.up, .int .i64 x.ae, .int .i64 x.au, .slice a4 x.writes.length d4, .int .i64 x.sure, .int .i64 x.clean] 63 (wr.alloc (.cells #[.int .i64 x.id, .bool x.up, .int .i64 x.ae, .int .i64 x.au, .slice a4 x.writes.length d4, .int .i64 x.sure, .int .i64 x.clean] 63)) wr.heap.size) := aD (Nat.zero_le _)
   have HC1 := yh ((uh HC).ai nb)
   have HR1 := yh ((uh HR).later nb)
   have HK1 := yh ((uh HK).later ((uh HB).trans (nb.mono (uh HB).size)))
   have HB1 := yh ((uh HB).trans (nb.mono (uh HB).size))
   clear nb HR HC HB
   go_upto_region 7 with fail
   generalize wr.alloc (.cells #[.int .i64 x.id, .bool x.up, .int .i64 x.ae, .int .i64 x.au, .slice a4 x.writes.length d4, .int .i64 x.sure, .int .i64 x.clean] 63) = W1 at *
   clear c0 c1 c2 c3 c4 c5 c6
   have L1 : Hid (∀ W, Below W1.heap.size W1 W → Calls Tryz.prog 129 #[.agg #[.int .i64 x.id, .bool x.up, .int .i64 x.ae, .int .i64 x.au, .slice a4 x.writes.length d4, .int .i64 x.sure, .int .i64 x.clean]] W fun e w' => e = .returned (.int .i64 (aJ x)) ∧ Below W.heap.size W w') := fun W hW => fq _ x _ ((uh HR1).later hW)
   have L2 : Hid (∀ W, Below W1.heap.size W1 W → Calls Tryz.prog 130 #[.int .i64 (k : Int), .agg #[.int .i64 x.id, .bool x.up, .int .i64 x.ae, .int .i64 x.au, .slice a4 x.writes.length d4, .int .i64 x.sure, .int .i64 x.clean]] W fun e w' => e = .returned (.int .i64 (if x.id ≠ (k : Int) + 1 then (1 : Int) else 0)) ∧ Below W.heap.size W w') := fun W hW => nw k _ x _ ((uh HR1).later hW) (by omega)
   have L3 : Hid (∀ W, Below W1.heap.size W1 W → Calls Tryz.prog 131 #[.agg #[.int .i64 c.ae, .slice a3 c.ids.length d3], .agg #[.int .i64 x.id, .bool x.up, .int .i64 x.ae, .int .i64 x.au, .slice a4 x.writes.length d4, .int .i64 x.sure, .int .i64 x.clean]] W fun e w' => e = .returned (.int .i64 (fN c x)) ∧ Below W.heap.size W w') := fun W hW => nH _ c _ x _ ((uh HK1).later hW) ((uh HR1).later hW)
   generalize aJ x = c1 at *
   generalize (if x.id ≠ (k : Int) + 1 then (1 : Int) else 0) = c2 at *
   generalize fN c x = c3 at *
   refine wZz (fun w' => Below W1.heap.size W1 w') ((Below.refl _ _).drew) (fun zq => ?_)
   generalize W1.drew = wD at zq ⊢
   refine tkJ 0 (v := ?vn0) ?hn0 zq ?rn0
   case hn0 =>
    intro wS hSw
    have bS := (uh HX1).ai hSw
    obtain ⟨q0, q1, q2, q3, q4, q5, q6⟩ := aZ7 bS
    clear bS hSw
    exact fZ
   refine tkH 2 zq ?_
   refine tkJ 3 (v := ?vn3) ?hn3 zq ?rn3
   case hn3 =>
    intro wS hSw
    have bS := (uh HX1).ai hSw
    obtain ⟨q0, q1, q2, q3, q4, q5, q6⟩ := aZ7 bS
    clear bS hSw
    exact fZ
   refine tkJ 5 (v := ?vn5) ?hn5 zq ?rn5
   case hn5 =>
    intro wS hSw
    have bS := (uh HC1).ai hSw
    have q0 := aA.at bS 0 _ rfl
    have q1 := aA.at bS 1 _ rfl
    simp only [ga, gb, gc] at q0 q1
    clear bS hSw
    exact fZ
   refine tkJ 6 (v := ?vn6) ?hn6 zq ?rn6
   case hn6 =>
    intro wS hSw
    have bS := (uh HX1).ai hSw
    obtain ⟨q0, q1, q2, q3, q4, q5, q6⟩ := aZ7 bS
    clear bS hSw
    exact fZ
   refine tkH 9 zq ?_
   refine rdH 1 (fun K hK => ?_)
   go_simp
   go_at_call 129
   refine (uh L1 _ zq).mono ?_
   rintro e u1 ⟨rfl, hb1⟩
   have hz1 := hb1.size
   try go_wp2_with fail
   refine hK.out _ _ (zq.trans (hb1.mono zq.size)) (fun zq => ?_)
   clear hK K
   try simp only [Act.put, pz, py, px]
   refine rdH 4 (fun K hK => ?_)
   go_simp
   go_at_call 130
   refine (uh L2 _ zq).mono ?_
   rintro e u2 ⟨rfl, hb2⟩
   have hz2 := hb2.size
   try go_wp2_with fail
   refine hK.out _ _ (zq.trans (hb2.mono zq.size)) (fun zq => ?_)
   clear hK K
   try simp only [Act.put, pz, py, px]
   refine rdH 7 (fun K hK => ?_)
   go_simp
   go_at_call 131
   refine (uh L3 _ zq).mono ?_
   rintro e u3 ⟨rfl, hb3⟩
   have hz3 := hb3.size
   try go_wp2_with fail
   refine hK.out _ _ (zq.trans (hb3.mono zq.size)) (fun zq => ?_)
   clear hK K
   try simp only [Act.put, pz, py, px]
   refine tkH 8 zq ?_
   refine dZ ?_
   have HB5 := yh ((uh HB1).trans (zq.mono (uh HB1).size))
   replace HCH := yh ((uh HC1).ai zq)
   clear zq HX1 HC1 HR1 HK1 hb1 hb2 hb3 hz1 hz2 hz3 HB1
   clear L1 L2 L3
   have x0 : ∀ w : World, (Instr.index 186 (.agg #[.int .i64 c1, .int .i64 c2, .int .i64 c3]) (.int .i64 0)).run Tryz.prog w = .ok (.int .i64 c1) w := fun _ => by kernel_rfl
   have x1 : ∀ w : World, (Instr.index 186 (.agg #[.int .i64 c1, .int .i64 c2, .int .i64 c3]) (.int .i64 1)).run Tryz.prog w = .ok (.int .i64 c2) w := fun _ => by kernel_rfl
   have x2 : ∀ w : World, (Instr.index 186 (.agg #[.int .i64 c1, .int .i64 c2, .int .i64 c3]) (.int .i64 2)).run Tryz.prog w = .ok (.int .i64 c3) w := fun _ => by kernel_rfl
   by_cases e1 : c1 = 0
   ·
    subst e1
    by_cases e2 : c2 = 0
    ·
     subst e2
     by_cases e3 : c3 = 0
     ·
      subst e3
      replace HF := yh ((uh HF).trans (by rw [if_neg (by decide), if_neg (by decide), if_neg (by decide)]))
      go_wp2_with fail
      refine wp_loop_rounds 5 ?_
      rw [rounds_succ]
      go_wp2_with fail
      rw [rounds_succ]
      go_wp2_with fail
      rw [rounds_succ]
      go_wp2_with fail
      rw [rounds_succ]
      go_wp2_with fail
      go_roundw
      case rel => exact ⟨k + 1, by omega, rfl, by go_num, uh HF, uh HB5, uh HCH⟩
      case measure => simp [intOf]; omega
     have hd : (c3 != 0) = true := by simpa using e3
     replace HF := yh ((uh HF).trans (by rw [if_neg (by decide), if_neg (by decide), if_pos e3]))
     clear e3
     go_wp2_with fail
     refine wp_loop_rounds 5 ?_
     rw [rounds_succ]
     go_wp2_with fail
     rw [rounds_succ]
     go_wp2_with fail
     rw [rounds_succ]
     go_wp2_with fail
     first | go_ret | (rw [Exit.noGoto_ret]; go_ret)
     exact ⟨by rw [uh HF]; rfl, uh HB5⟩
    have hd : (c2 != 0) = true := by simpa using e2
    replace HF := yh ((uh HF).trans (by rw [if_neg (by decide), if_pos e2]))
    clear e2
    go_wp2_with fail
    refine wp_loop_rounds 5 ?_
    rw [rounds_succ]
    go_wp2_with fail
    rw [rounds_succ]
    go_wp2_with fail
    first | go_ret | (rw [Exit.noGoto_ret]; go_ret)
    exact ⟨by rw [uh HF]; rfl, uh HB5⟩
   have hd : (c1 != 0) = true := by simpa using e1
   replace HF := yh ((uh HF).trans (if_pos e1))
   clear e1
   go_wp2_with fail
   refine wp_loop_rounds 5 ?_
   rw [rounds_succ]
   go_wp2_with fail
   first | go_ret | (rw [Exit.noGoto_ret]; go_ret)
   exact ⟨by rw [uh HF]; rfl, uh HB5⟩
  obtain rfl : k = ns.length := by omega
  rw [List.drop_length] at hF
  have hdl : decide ((ns.length : Int) < (ns.length : Int)) = false := by simp
  have HF := yh hF
  have HB := yh hB
  clear hF hB hC
  go_wp2_with fail
  first | go_ret | (rw [Exit.noGoto_ret]; go_ret)
  exact ⟨by rw [uh HF]; rfl, uh HB⟩
def fs (ev : Int) (e : bj) : Bool := ((decide (1 ≤ e.kind) && decide (e.kind ≤ 3)) && ((decide (1 ≤ e.start) && decide (e.start ≤ ev)) && ((e.fin == 0 || (decide (e.start ≤ e.fin) && decide (e.fin ≤ ev))) && (decide (0 ≤ e.place) && decide (e.place ≤ 40)))))
theorem rJ (cs : List Value) (x : bj) (ev : Int) (w : World) (h : ab.ar.Reads w cs x) :
  Calls Tryz.prog 136 #[.agg cs.toArray, .int .i64 ev] w fun e w' => e = .returned (.bool (fs ev x)) ∧ Below w.heap.size w w' := by
 have HP : Hid (fs ev x = ((decide (1 ≤ x.kind) && decide (x.kind ≤ 3)) && ((decide (1 ≤ x.start) && decide (x.start ≤ ev)) && ((x.fin == 0 || (decide (x.start ≤ x.fin) && decide (x.fin ≤ ev))) && (decide (0 ≤ x.place) && decide (x.place ≤ 40)))))) := rfl
 generalize fs ev x = r at *
 obtain ⟨aq, dq, av, dv, ah, dh, rfl, -, -, -⟩ := cd h
 have nb : Below w.heap.size w (w.alloc (.cells #[.int .i64 x.kind, .int .i64 x.aa, .int .i64 x.seq, .int .i64 x.id, .slice aq x.query.length dq, .int .i64 x.k, .int .i64 x.start, .int .i64 x.fin, .int .i64 x.place, .slice av x.vec.length dv, .slice ah x.aY.length dh] 89)) := (Below.refl _ _).alloc (Nat.le_refl _) _
 have bX : aA 0 #[.int .i64 x.kind, .int .i64 x.aa, .int .i64 x.seq, .int .i64 x.id, .slice aq x.query.length dq, .int .i64 x.k, .int .i64 x.start, .int .i64 x.fin, .int .i64 x.place, .slice av x.vec.length dv, .slice ah x.aY.length dh] 89 (w.alloc (.cells #[.int .i64 x.kind, .int .i64 x.aa, .int .i64 x.seq, .int .i64 x.id, .slice aq x.query.length dq, .int .i64 x.k, .int .i64 x.start, .int .i64 x.fin, .int .i64 x.place, .slice av x.vec.length dv, .slice ah x.aY.length dh] 89)) w.heap.size := aD (Nat.zero_le _)
 have z0 := aA.at bX 0 _ rfl
 have z6 := aA.at bX 6 _ rfl
 have z7 := aA.at bX 7 _ rfl
 have z8 := aA.at bX 8 _ rfl
 simp only [ga, gb, gc] at z0 z6 z7 z8
 have HB := yh nb
 clear nb bX h
 go_enter Tryz.func136, Tryz.ntmps136
 go_upto_region 1 with fail
 generalize w.alloc (.cells #[.int .i64 x.kind, .int .i64 x.aa, .int .i64 x.seq, .int .i64 x.id, .slice aq x.query.length dq, .int .i64 x.k, .int .i64 x.start, .int .i64 x.fin, .int .i64 x.place, .slice av x.vec.length dv, .slice ah x.aY.length dh] 89) = w1 at *
 generalize x.kind = kd at *
 generalize x.start = st at *
 generalize x.fin = fi at *
 generalize x.place = pl at *
 go_cut [5] from 8 to 15 (fun s5 wx => s5 = .bool (decide (1 ≤ kd) && decide (kd ≤ 3)) ∧ wx = w1)
 case first =>
  cases k1 : decide (1 ≤ kd)
  ·
   go_wp2_with fail
   go_meet
   exact ⟨by rw [k1]; rfl, rfl⟩
  go_wp2_with fail
  go_meet
  exact ⟨by rw [k1, Bool.true_and], rfl⟩
 case rest =>
  obtain ⟨rfl, rfl⟩ := hcut
  generalize (decide (1 ≤ kd) && decide (kd ≤ 3)) = A at *
  go_upto_region 2 with fail
  go_cut [6] from 16 to 24 (fun s wx => s = .bool (decide (1 ≤ st) && decide (st ≤ ev)) ∧ wx = wc)
  case first =>
   cases k3 : decide (1 ≤ st)
   ·
    go_wp2_with fail
    go_meet
    exact ⟨by rw [k3]; rfl, rfl⟩
   go_wp2_with fail
   go_meet
   exact ⟨by rw [k3, Bool.true_and], rfl⟩
  case rest =>
   obtain ⟨rfl, rfl⟩ := hcut
   generalize (decide (1 ≤ st) && decide (st ≤ ev)) = B at *
   go_upto_region 3 with fail
   go_cut [7] from 25 to 35 (fun s wx => s = .bool (decide (st ≤ fi) && decide (fi ≤ ev)) ∧ wx = wc)
   case first =>
    cases k5 : decide (st ≤ fi)
    ·
     go_wp2_with fail
     go_meet
     exact ⟨by rw [k5]; rfl, rfl⟩
    go_wp2_with fail
    go_meet
    exact ⟨by rw [k5, Bool.true_and], rfl⟩
   case rest =>
    obtain ⟨rfl, rfl⟩ := hcut
    generalize (decide (st ≤ fi) && decide (fi ≤ ev)) = C at *
    cases A
    ·
     go_wp2_with fail
     go_ret
     exact ⟨by rw [uh HP]; rfl, uh HB⟩
    cases B
    ·
     go_wp2_with fail
     go_ret
     exact ⟨by rw [uh HP]; rfl, uh HB⟩
    cases C
    ·
     generalize k7 : (fi == 0) = Z at *
     cases Z
     ·
      go_wp2_with fail
      go_ret
      exact ⟨by rw [uh HP]; simp, uh HB⟩
     skip
     go_wp2_with fail
     refine (eN pl 40 wc).mono ?_
     rintro e w2 ⟨rfl, h2⟩
     subst w2
     generalize (decide (0 ≤ pl) && decide (pl ≤ 40)) = D at *
     go_wp2_with fail
     go_ret
     exact ⟨by rw [uh HP]; simp, uh HB⟩
    skip
    go_wp2_with fail
    refine (eN pl 40 wc).mono ?_
    rintro e w2 ⟨rfl, h2⟩
    subst w2
    generalize (decide (0 ≤ pl) && decide (pl ≤ 40)) = D at *
    go_wp2_with fail
    go_ret
    exact ⟨by rw [uh HP]; simp, uh HB⟩
theorem qI (ev : Int) {xs : List bj} {k : Nat} (hk : k < xs.length) : (xs.drop k).all (fs ev) = (fs ev xs[k] && (xs.drop (k + 1)).all (fs ev)) := by
 rw [List.drop_eq_getElem_cons hk, List.all_cons]
def pI (ev : Int) (xs : List bj) : Int := if 60 < xs.length then 2 else if (xs.drop 0).all (fs ev) then 0 else 3
theorem kI (v : Value) (xs : List bj) (ev : Int) (w : World) (h : (ab.sl ab.ar).Reads w [v] xs) :
  Calls Tryz.prog 73 #[v, .int .i64 ev] w fun e w' => e = .returned (.int .i64 (pI ev xs)) ∧ Below w.heap.size w w' := by
 have hbig := h.et
 obtain ⟨ao, cap, rfl⟩ := aI h
 have H := yh h
 have HP : Hid (pI ev xs = if 60 < xs.length then 2 else if (xs.drop 0).all (fs ev) then 0 else 3) := rfl
 clear h
 generalize pI ev xs = r at *
 go_enter Tryz.func73, Tryz.ntmps73
 cases d1 : decide ((60 : Int) < (xs.length : Int))
 ·
  replace HP := yh ((uh HP).trans (if_neg (by simp at d1; omega)))
  go_wp2_with fail
  clear d1
  go_loopw [12] (fun i wr => ∃ k : Nat, k ≤ xs.length ∧ i = .int .i64 k ∧ r = (if (xs.drop k).all (fs ev) = true then 0 else 3) ∧ Below w.heap.size w wr) (fun i _ => xs.length - (intOf i).toNat)
  case atStart => exact ⟨0, Nat.zero_le _, rfl, uh HP, Below.refl _ _⟩
  case round =>
   obtain ⟨k, hk, rfl, hF, hB⟩ := hrel
   clear HP
   by_cases hlt : k < xs.length
   ·
    obtain ⟨b, off, rfl, hbl⟩ := ab.aS (uh H) (by omega)
    obtain ⟨row, hcl, hr⟩ := ab.bE (uh H) hlt
    replace hr := hr.later hB
    rw [qI ev hlt] at hF
    have hdl : decide ((k : Int) < (xs.length : Int)) = true := by simp; omega
    obtain ⟨aq, dq, av, dv, ah, dh, rfl, -⟩ := cd hr
    have c0 : wr.cell? ⟨b, off + k * 11, none⟩ = some (.int .i64 (xs[k]).kind) := (hB.cell (p := ⟨b, off + k * 11, none⟩) hbl).trans (hcl 0 (by decide))
    have c1 : wr.cell? ⟨b, off + k * 11 + 1, none⟩ = some (.int .i64 (xs[k]).aa) := (hB.cell (p := ⟨b, off + k * 11 + 1, none⟩) hbl).trans (hcl 1 (by decide))
    have c2 : wr.cell? ⟨b, off + k * 11 + 2, none⟩ = some (.int .i64 (xs[k]).seq) := (hB.cell (p := ⟨b, off + k * 11 + 2, none⟩) hbl).trans (hcl 2 (by decide))
    have c3 : wr.cell? ⟨b, off + k * 11 + 3, none⟩ = some (.int .i64 (xs[k]).id) := (hB.cell (p := ⟨b, off + k * 11 + 3, none⟩) hbl).trans (hcl 3 (by decide))
    have c4 : wr.cell? ⟨b, off + k * 11 + 4, none⟩ = some (.slice aq (xs[k]).query.length dq) := (hB.cell (p := ⟨b, off + k * 11 + 4, none⟩) hbl).trans (hcl 4 (by decide))
    have c5 : wr.cell? ⟨b, off + k * 11 + 5, none⟩ = some (.int .i64 (xs[k]).k) := (hB.cell (p := ⟨b, off + k * 11 + 5, none⟩) hbl).trans (hcl 5 (by decide))
    have c6 : wr.cell? ⟨b, off + k * 11 + 6, none⟩ = some (.int .i64 (xs[k]).start) := (hB.cell (p := ⟨b, off + k * 11 + 6, none⟩) hbl).trans (hcl 6 (by decide))
    have c7 : wr.cell? ⟨b, off + k * 11 + 7, none⟩ = some (.int .i64 (xs[k]).fin) := (hB.cell (p := ⟨b, off + k * 11 + 7, none⟩) hbl).trans (hcl 7 (by decide))
    have c8 : wr.cell? ⟨b, off + k * 11 + 8, none⟩ = some (.int .i64 (xs[k]).place) := (hB.cell (p := ⟨b, off + k * 11 + 8, none⟩) hbl).trans (hcl 8 (by decide))
    have c9 : wr.cell? ⟨b, off + k * 11 + 9, none⟩ = some (.slice av (xs[k]).vec.length dv) := (hB.cell (p := ⟨b, off + k * 11 + 9, none⟩) hbl).trans (hcl 9 (by decide))
    have c10 : wr.cell? ⟨b, off + k * 11 + 10, none⟩ = some (.slice ah (xs[k]).aY.length dh) := (hB.cell (p := ⟨b, off + k * 11 + 10, none⟩) hbl).trans (hcl 10 (by decide))
    have HF := yh hF
    have HR := yh hr
    have HB := yh hB
    clear hF hr hB hcl
    generalize hx : xs[k] = x at *
    clear hx
    have nb : Below wr.heap.size wr (wr.alloc (.cells #[.int .i64 x.kind, .int .i64 x.aa, .int .i64 x.seq, .int .i64 x.id, .slice aq x.query.length dq, .int .i64 x.k, .int .i64 x.start, .int .i64 x.fin, .int .i64 x.place, .slice av x.vec.length dv, .slice ah x.aY.length dh] 89)) := (Below.refl _ _).alloc (Nat.le_refl _) _
    have HL := yh (rJ _ x ev _ ((uh HR).later nb))
    replace HB := bZ HB nb
    clear nb
    go_wp2_with fail
    refine (uh HL).mono ?_
    generalize wr.alloc (.cells #[.int .i64 x.kind, .int .i64 x.aa, .int .i64 x.seq, .int .i64 x.id, .slice aq x.query.length dq, .int .i64 x.k, .int .i64 x.start, .int .i64 x.fin, .int .i64 x.place, .slice av x.vec.length dv, .slice ah x.aY.length dh] 89) = W1 at *
    rintro e W2 ⟨rfl, hb⟩
    replace HB := bZ HB hb
    clear hb HL c0 c1 c2 c3 c4 c5 c6 c7 c8 c9 c10
    cases hf : fs ev x
    ·
     replace HF := yh ((uh HF).trans (if_neg (by rw [hf]; simp)))
     clear hf
     go_wp2_with fail
     go_ret
     exact ⟨by rw [uh HF]; rfl, uh HB⟩
    rw [hf, Bool.true_and] at HF
    clear hf
    go_wp2_with fail
    go_roundw
    case rel => exact ⟨k + 1, by omega, by go_num, uh HF, uh HB⟩
    case measure => simp [intOf]; omega
   obtain rfl : k = xs.length := by omega
   rw [List.drop_length, List.all_nil, if_pos rfl] at hF
   have hdl : decide ((xs.length : Int) < (xs.length : Int)) = false := by simp
   have HF := yh hF
   have HB := yh hB
   clear hF hB
   go_wp2_with fail
   go_ret
   exact ⟨by rw [uh HF]; rfl, uh HB⟩
 replace HP := yh ((uh HP).trans (if_pos (by simp at d1; omega)))
 go_wp2_with fail
 go_ret
 exact ⟨by rw [uh HP]; rfl, Below.refl _ _⟩
def gm (c : Int) : List PanicEntry := [{ v := .iface 271 (.agg #[.int .i64 c]), recovered := false }]
def iE (c : Int) : Ending := if c = 0 then .returned (.tuple #[]) else .panicked (gm c)
theorem lU {c : Int} (h : c = 0) : iE c = .returned (.tuple #[]) := by rw [iE, if_pos h]
theorem fP {c : Int} (h : c ≠ 0) : iE c = .panicked (gm c) := by rw [iE, if_neg h]
def nC (v : Value) (c : Int) : Ending := if c = 0 then .returned v else .panicked (gm c)
theorem nV {v : Value} {c : Int} (h : c = 0) : nC v c = .returned v := by rw [nC, if_pos h]
theorem lB {v : Value} {c : Int} (h : c ≠ 0) : nC v c = .panicked (gm c) := by rw [nC, if_neg h]
theorem fk (c : Int) (w : World) :
  Calls Tryz.prog 188 #[.bool true, .int .i64 c] w fun e w' => e = .returned (.tuple #[]) ∧ w' = w := by
 go_enter Tryz.func188, Tryz.ntmps188
 go_wp2_with fail
 go_end0
 exact ⟨rfl, rfl⟩
theorem fm (c : Int) (w : World) :
  Calls Tryz.prog 188 #[.bool false, .int .i64 c] w fun e w' => e = .panicked (gm c) ∧ w' = w := by
 go_enter Tryz.func188, Tryz.ntmps188
 go_wp2_with fail
 exact ⟨rfl, rfl, rfl⟩
theorem gR {P : Program} (t ty e : TypeId) (i : TypeInfo) (ht : P.underlying t = some (.slice e)) (hi : P.info? e = some i) (bo : Option Addr) (n cap c : Nat) (hn : n ≤ cap) (w : World) :
  (Builtin.append_ #[t, t] ty #[.slice bo n cap, .slice none 0 c]).run P w = (Builtin.append_ #[t, t] ty #[.slice bo n cap, .slice (some ⟨0, 0, none⟩) 0 c]).run P w := by
 simp [Builtin.append_, run_underlying ht, sizeOf, typeInfo, hi, Builtin.lenOf, hn, Builtin.firstCells, loadCells, loadCellsFrom]
theorem cf.news {w : World} {b off cap : Nat} {zs : List Int} (h : cf w (.slice (some ⟨b, off, none⟩) zs.length cap) zs) (hp : 0 < zs.length) : ∀ j u, (zs.map (Value.int .i64))[j]? = some u → w.cell? ((⟨b, off, none⟩ : Addr).add j) = some u := by
 intro j u hu
 obtain ⟨ao, cp, hv, hwf, hc⟩ := h
 obtain ⟨b', off', hao, hc1⟩ := hc hp
 simp only [Value.slice.injEq] at hv
 obtain ⟨rfl, -, -⟩ := hv
 simp only [Option.some.injEq, Addr.mk.injEq, and_true] at hao
 obtain ⟨rfl, rfl⟩ := hao
 have hj : j < zs.length := by
  have := (List.getElem?_eq_some_iff.1 hu).1
  simpa using this
 rw [Addr.add_lit, hc1 j hj]
 simp [hj] at hu
 simp [List.getD, hj, hu]
theorem jw {w : World} (base ty : Nat) (v : Value) (n : Nat) (xs : List Value) (hown : w.ownsRow base 2 1 v n xs) (x : Value) (ks : List Int) (hx : cf w x ks)
  (hn : n + ks.length ≤ 100000000) (hbase : base ≤ w.heap.size) :
  ∃ v' w', (Builtin.append_ #[22, 22] ty #[v, x]).run Tryz.prog w = .ok v' w' ∧ w'.ownsRow base 2 1 v' (n + ks.length) (xs ++ ks.map (Value.int .i64)) ∧ w.grownBy w' v.ownBlock := by
 obtain ⟨i0, hi, hz0, hz1, hz2⟩ := info_parts tk
 have hml : n + ks.length ≤ maxLen := by unfold maxLen; omega
 by_cases hp : 0 < ks.length
 ·
  have hx' := hx
  obtain ⟨ao, cap, rfl, hwf, hc⟩ := hx'
  obtain ⟨b, off, rfl, hc1⟩ := hc hp
  obtain ⟨v', w', r1, r2, r3, -, -⟩ := run_append_own_at (P := Tryz.prog) w base 22 ty 2 i0 _ 1 8 Tryz.underlying22 hi hz0 hz1 hz2 rfl (by omega) v n xs hown ⟨b, off, none⟩ ks.length cap (ks.map (Value.int .i64)) (by simp) (hx.news hp) (by simp [Value.oneCell']) hml (by omega) hbase
  exact ⟨v', w', r1, r2, r3⟩
 obtain rfl : ks = [] := List.eq_nil_of_length_eq_zero (by omega)
 obtain ⟨ao, cap, rfl, hwf, hc⟩ := hx
 cases ao with
 | none =>
  obtain ⟨v', w', r1, r2, r3, -, -⟩ := run_append_own_at (P := Tryz.prog) w base 22 ty 2 i0 _ 1 8 Tryz.underlying22 hi hz0 hz1 hz2 rfl (by omega) v n xs hown ⟨0, 0, none⟩ 0 cap [] rfl (by simp) (by simp) hml (by simp at hn; omega) hbase
  refine ⟨v', w', ?_, r2, r3⟩
  rcases hown.2 with ⟨rfl, h0⟩ | ⟨g, cp, cur, rfl, _, _, hle, _⟩
  ·
   exact (gR _ _ _ i0 Tryz.underlying22 hi none 0 0 cap (Nat.le_refl _) w).trans r1
  exact (gR _ _ _ i0 Tryz.underlying22 hi _ n cp cap hle w).trans r1
 | some ad =>
  obtain ⟨v', w', r1, r2, r3, -, -⟩ := run_append_own_at (P := Tryz.prog) w base 22 ty 2 i0 _ 1 8 Tryz.underlying22 hi hz0 hz1 hz2 rfl (by omega) v n xs hown ad 0 cap [] rfl (by simp) (by simp) hml (by simp at hn; omega) hbase
  exact ⟨v', w', r1, r2, r3⟩
theorem eV {w : World} {base : Nat} {v : Value} {n : Nat} {xs : List Value} (hown : w.ownsRow base 2 1 v n xs) {X : Value} {ks : List Int} (hx : cf w X ks)
  {ops : Array Oper} {rest : List Oper} {o : Oper} {a : Act} {Q : Exit → Act → World → Prop} (hgd : o.guard = none) (s x : Operand)
  (ho : o.op = .call { callee := .builtin .append, args := #[s, x], argTypes := #[22, 22] }) (hv : a.eval s = v) (hX : a.eval x = X)
  (hn : n + ks.length ≤ 100000000) (hbase : base ≤ w.heap.size)
  (h : ∀ v' w', w'.ownsRow base 2 1 v' (n + ks.length) (xs ++ ks.map (Value.int .i64)) → w.grownBy w' v.ownBlock → Below base w w' → wpList Tryz.prog ops Q rest (a.put o.dst v') w') :
  wpList Tryz.prog ops Q (o :: rest) a w := by
 refine wpList_plain hgd fun K hK => ?_
 obtain ⟨v', w', hr, h2, h3⟩ := jw base o.type v n xs hown X ks hx hn hbase
 unfold Oper.wp execOp
 simp only [ho, resolve, invoke, builtin, Sem.run_bind, Sem.run_pure, Result.andThen_ok, List.map_toArray, List.map_cons, List.map_nil, hv, hX, hr]
 exact hK _ _ (h v' w' h2 h3 ((Below.refl _ _).grown h3 hbase (fun j hj => (hown.lt j hj).1)))
theorem kG {ps qs : List Int} {k : Nat} (h : ps.getD k 0 ≠ qs.getD k 0) : decide (ps = qs) = false := by
 simp only [decide_eq_false_iff_not]
 rintro rfl
 exact h rfl
theorem kz {ps qs : List Int} (hl : ps.length = qs.length) (h : ∀ j, j < ps.length → ps.getD j 0 = qs.getD j 0) : decide (ps = qs) = true := by
 simp only [decide_eq_true_eq]
 refine List.ext_getElem hl fun j h1 h2 => ?_
 have := h j h1
 simpa [List.getD, h1, h2] using this
theorem nn (b off cap b2 off2 cap2 : Nat) (ps qs : List Int) (w : World) (hl : ps.length = qs.length) (hn : ps.length ≤ 9223372036854775807) (hc : ∀ j, j < ps.length → w.cell? ⟨b, off + j, none⟩ = some (.int .i64 (ps.getD j 0)))
  (hc2 : ∀ j, j < ps.length → w.cell? ⟨b2, off2 + j, none⟩ = some (.int .i64 (qs.getD j 0))) :
  Calls Tryz.prog 139 #[.slice (some ⟨b, off, none⟩) ps.length cap, .slice (some ⟨b2, off2, none⟩) ps.length cap2] w fun e w' => e = .returned (.bool (decide (ps = qs))) ∧ Below w.heap.size w w' := by
 have HL := yh hl
 clear hl
 go_enter Tryz.func139, Tryz.ntmps139
 go_wp2
 go_loopw [13] (fun i wr => ∃ k : Nat, k ≤ ps.length ∧ i = .int .i64 k ∧ Below w.heap.size w wr ∧ ∀ j, j < k → ps.getD j 0 = qs.getD j 0) (fun i _ => ps.length - (intOf i).toNat)
 case atStart => exact ⟨0, Nat.zero_le _, rfl, Below.refl _ _, fun j hj => by omega⟩
 case round =>
  obtain ⟨k, hk, rfl, hB, hq⟩ := hrel
  by_cases hlt : k < ps.length
  ·
   have hcx : wr.cell? ⟨b, off + k, none⟩ = some (.int .i64 (ps.getD k 0)) := (hB.cell (World.block_lt_of_cell? _ _ (hc k hlt))).trans (hc k hlt)
   have hcy : wr.cell? ⟨b2, off2 + k, none⟩ = some (.int .i64 (qs.getD k 0)) := (hB.cell (World.block_lt_of_cell? _ _ (hc2 k hlt))).trans (hc2 k hlt)
   have HQ := yh hq
   have HB := yh hB
   clear hc hc2 hq hB
   by_cases he : ps.getD k 0 = qs.getD k 0
   ·
    have HE := yh he
    rw [← he] at hcy
    clear he
    generalize ps.getD k 0 = x at hcx hcy
    have hxx : (x != x) = false := by simp
    go_wp2
    go_quiet (fail)
    go_wp2
    go_roundw
    case rel =>
     refine ⟨k + 1, by omega, by go_num, below_drewN (uh HB) _, fun j hj => ?_⟩
     by_cases hjk : j < k
     ·
      exact uh HQ j hjk
     obtain rfl : j = k := by omega
     exact uh HE
    case measure => simp [intOf]; omega
   have HN := yh (kG he)
   have hxy : (ps.getD k 0 != qs.getD k 0) = true := by rw [bne_iff_ne]; exact he
   clear he
   generalize ps.getD k 0 = x at hcx hxy
   generalize qs.getD k 0 = y at hcy hxy
   go_wp2
   go_quiet (fail)
   go_wp2
   go_ret
   exact ⟨by rw [uh HN]; rfl, below_drewN (uh HB) _⟩
  obtain rfl : k = ps.length := by omega
  have HN := yh (kz (uh HL) hq)
  have HB := yh hB
  clear hc hc2 hq hB
  go_wp2
  go_ret
  exact ⟨by rw [uh HN]; rfl, uh HB⟩
theorem nx (ao ao2 : Option Addr) (n m cap cap2 : Nat) (w : World) (h : n ≠ m) :
  Calls Tryz.prog 139 #[.slice ao n cap, .slice ao2 m cap2] w fun e w' => e = .returned (.bool false) ∧ Below w.heap.size w w' := by
 have hd : ((n : Int) != (m : Int)) = true := by rw [bne_iff_ne]; omega
 go_enter Tryz.func139, Tryz.ntmps139
 go_wp2
 go_ret
 exact ⟨rfl, Below.refl _ _⟩
theorem mh (ao ao2 : Option Addr) (cap cap2 : Nat) (w : World) :
  Calls Tryz.prog 139 #[.slice ao 0 cap, .slice ao2 0 cap2] w fun e w' => e = .returned (.bool true) ∧ Below w.heap.size w w' := by
 go_enter Tryz.func139, Tryz.ntmps139
 go_wp2
 refine wp_loop_rounds 1 ?_
 rw [rounds_succ]
 go_wp2
 go_ret
 exact ⟨rfl, Below.refl _ _⟩
theorem tw (v v2 : Value) (ps qs : List Int) (w : World) (h : cf w v ps) (h2 : cf w v2 qs) (hn : ps.length ≤ 9223372036854775807) :
  Calls Tryz.prog 139 #[v, v2] w fun e w' => e = .returned (.bool (decide (ps = qs))) ∧ Below w.heap.size w w' := by
 obtain ⟨ao, cap, rfl, hwf, hc⟩ := h
 obtain ⟨ao2, cap2, rfl, _, hc2⟩ := h2
 by_cases hl : ps.length = qs.length
 ·
  by_cases hp : 0 < ps.length
  ·
   obtain ⟨b, off, rfl, hc1⟩ := hc hp
   obtain ⟨b2, off2, rfl, hc3⟩ := hc2 (by omega)
   rw [← hl] at hc3 ⊢
   exact nn b off cap b2 off2 cap2 ps qs w hl hn hc1 hc3
  obtain rfl : ps = [] := List.eq_nil_of_length_eq_zero (by omega)
  obtain rfl : qs = [] := List.eq_nil_of_length_eq_zero (by simpa using hl.symm)
  exact mh ao ao2 cap cap2 w
 rw [show decide (ps = qs) = false by simp only [decide_eq_false_iff_not]; rintro rfl; exact hl rfl]
 exact nx ao ao2 _ _ cap cap2 w hl
theorem qZ (cs cs2 : List Value) (x y : aj) (w : World) (h : ab.ag.Reads w cs x) (h2 : ab.ag.Reads w cs2 y) :
  Calls Tryz.prog 78 #[.agg cs.toArray, .agg cs2.toArray] w fun e w' => e = .returned (.bool (dR x y)) ∧ Below w.heap.size w w' := by
 obtain ⟨a2, d2, rfl, R2⟩ := aM h
 obtain ⟨a2z, d2z, rfl, R2z⟩ := aM h2
 clear h h2
 have HB : Hid (Below w.heap.size w ((w.alloc (.cells #[.int .i64 x.kind, .int .i64 x.id, .slice a2 x.vec.length d2, .int .i64 x.aa, .int .i64 x.seq] 44)).alloc (.cells #[.int .i64 y.kind, .int .i64 y.id, .slice a2z y.vec.length d2z, .int .i64 y.aa, .int .i64 y.seq] 44))) := ((Below.refl _ _).alloc (Nat.le_refl _) _).alloc (by simp) _
 cases e0 : (x.kind == y.kind) with
 | false =>
  have HS : Hid (dR x y = false) := by
   show dR x y = false
   simp [dR, e0]
  go_enter Tryz.func78, Tryz.ntmps78
  go_wp2_with fail
  go_ret
  exact ⟨by rw [uh HS]; rfl, uh HB⟩
 | true =>
  cases e1 : (x.id == y.id) with
  | false =>
   have HS : Hid (dR x y = false) := by
    show dR x y = false
    simp [dR, e0, e1]
   go_enter Tryz.func78, Tryz.ntmps78
   go_wp2_with fail
   go_ret
   exact ⟨by rw [uh HS]; rfl, uh HB⟩
  | true =>
   cases e2 : (x.aa == y.aa) with
   | false =>
    have HS : Hid (dR x y = false) := by
     show dR x y = false
     simp [dR, e0, e1, e2]
    go_enter Tryz.func78, Tryz.ntmps78
    go_wp2_with fail
    go_ret
    exact ⟨by rw [uh HS]; rfl, uh HB⟩
   | true =>
    cases e3 : (x.seq == y.seq) with
    | false =>
     have HS : Hid (dR x y = false) := by
      show dR x y = false
      simp [dR, e0, e1, e2, e3]
     go_enter Tryz.func78, Tryz.ntmps78
     go_wp2_with fail
     go_ret
     exact ⟨by rw [uh HS]; rfl, uh HB⟩
    | true =>
     have HS : Hid (dR x y = decide (x.vec = y.vec)) := by
      show dR x y = decide (x.vec = y.vec)
      simp [dR, e0, e1, e2, e3]
     have L := yh (tw _ _ x.vec y.vec _ ((ab.bc R2).later (uh HB)) ((ab.bc R2z).later (uh HB)) R2.et)
     clear R2 R2z
     go_enter Tryz.func78, Tryz.ntmps78
     go_wp2_with fail
     refine (uh L).mono ?_
     rintro e w1 ⟨rfl, hb⟩
     have HB1 := yh ((uh HB).trans (hb.mono (uh HB).size))
     clear hb L HB
     go_wp2_with fail
     go_ret
     exact ⟨by rw [uh HS]; rfl, uh HB1⟩
def gD (x : bP) : Bool := (decide (0 ≤ x.index) && decide (x.index ≤ 40)) && (x.kind == 2 || decide (0 < x.index))
theorem jo (a : Option Addr) (d : Nat) (x : bP) (w : World) :
  Calls Tryz.prog 217 #[.agg #[.int .i64 x.kind, .int .i64 x.ae, .int .i64 x.src, .int .i64 x.dst, .int .i64 x.index, .int .i64 x.write.kind, .int .i64 x.write.id, .slice a x.write.vec.length d, .int .i64 x.write.aa, .int .i64 x.write.seq]] w fun e w' => e = .returned (.bool (gD x)) ∧ Below w.heap.size w w' := by
 have HB : Hid (Below w.heap.size w (w.alloc (.cells #[.int .i64 x.kind, .int .i64 x.ae, .int .i64 x.src, .int .i64 x.dst, .int .i64 x.index, .int .i64 x.write.kind, .int .i64 x.write.id, .slice a x.write.vec.length d, .int .i64 x.write.aa, .int .i64 x.write.seq] 60))) := (Below.refl _ _).alloc (Nat.le_refl _) _
 have L := yh (eN x.index 40 (w.alloc (.cells #[.int .i64 x.kind, .int .i64 x.ae, .int .i64 x.src, .int .i64 x.dst, .int .i64 x.index, .int .i64 x.write.kind, .int .i64 x.write.id, .slice a x.write.vec.length d, .int .i64 x.write.aa, .int .i64 x.write.seq] 60)))
 cases d1 : (decide (0 ≤ x.index) && decide (x.index ≤ 40))
 ·
  have HI : Hid (gD x = false) := by show gD x = false; rw [gD, d1]; rfl
  rw [d1] at L
  clear d1
  go_enter Tryz.func217, Tryz.ntmps217
  go_wp2_with fail
  refine (uh L).mono ?_
  rintro e w1 ⟨rfl, h1⟩
  subst w1
  clear L
  go_wp2_with fail
  go_ret
  exact ⟨by rw [uh HI]; rfl, uh HB⟩
 rw [d1] at L
 cases d2 : (x.kind == 2)
 ·
  have HI : Hid (gD x = decide (0 < x.index)) := by show gD x = _; rw [gD, d1, d2]; rfl
  clear d1
  go_enter Tryz.func217, Tryz.ntmps217
  go_wp2_with fail
  refine (uh L).mono ?_
  rintro e w1 ⟨rfl, h1⟩
  subst w1
  clear L
  go_wp2_with fail
  go_ret
  exact ⟨by rw [uh HI]; rfl, uh HB⟩
 have HI : Hid (gD x = true) := by show gD x = _; rw [gD, d1, d2]; rfl
 clear d1
 go_enter Tryz.func217, Tryz.ntmps217
 go_wp2_with fail
 refine (uh L).mono ?_
 rintro e w1 ⟨rfl, h1⟩
 subst w1
 clear L
 go_wp2_with fail
 go_ret
 exact ⟨by rw [uh HI]; rfl, uh HB⟩
def gS : aj := ⟨0, 0, [], 0, 0⟩
theorem j7 (y : aj) : dR y gS = true ↔ mQ y := by
 constructor
 ·
  intro h
  simp only [dR, gS, Bool.and_eq_true, beq_iff_eq] at h
  exact ⟨h.1, h.2.1, h.2.2.1, h.2.2.2.1, by rw [of_decide_eq_true h.2.2.2.2]; rfl⟩
 rintro ⟨h1, h2, h3, h4, h5⟩
 have h6 : y.vec = [] := List.eq_nil_of_length_eq_zero h5
 simp only [dR, gS, Bool.and_eq_true, beq_iff_eq]
 exact ⟨h1, h2, h3, h4, decide_eq_true h6⟩
theorem nP (w : World) : ab.ag.Reads w [.int .i64 0, .int .i64 0, .slice none 0 0, .int .i64 0, .int .i64 0] gS :=
 ⟨[], ch.2 ⟨none, 0, [], rfl, rfl, by decide, by decide, ⟨none, 0, rfl, ⟨by simp [gS], by simp [gS]⟩, Or.inl ⟨rfl, rfl⟩⟩, by decide, by decide⟩⟩
theorem rz {x : bP} (h : (x.kind == 1) = false) (h2 : (x.kind == 2) = false) : aL x = 1 := by
 have h1 : ¬ x.kind = 1 := by simpa using h
 have h3 : ¬ x.kind = 2 := by simpa using h2
 rw [aL, if_pos (Or.inl (by omega))]
theorem ng {x : bP} (h : (x.src != x.dst) = false) : aL x = 1 := by
 rw [aL, if_pos (Or.inr (Or.inl (by simpa using h)))]
theorem tL {x : bP} (h : (x.kind == 2) = true) (h2 : dR x.write gS = false) : aL x = 1 := by
 rw [aL, if_pos (Or.inr (Or.inr ⟨by simpa using h, fun q => by rw [(j7 _).2 q] at h2; simp at h2⟩))]
def jq (x : bP) : Prop := (1 ≤ x.kind ∧ x.kind ≤ 2) ∧ x.src ≠ x.dst ∧ (x.kind = 2 → mQ x.write)
theorem gu {x : bP} (h : jq x) : aL x = if ¬ (1 ≤ x.ae ∧ x.ae ≤ 999) ∨ ¬ (1 ≤ x.src ∧ x.src ≤ 5) ∨ ¬ (1 ≤ x.dst ∧ x.dst ≤ 5) ∨ ¬ (0 ≤ x.index ∧ x.index ≤ 40) ∨ (x.kind ≠ 2 ∧ x.index = 0) then 3
 else if x.kind = 2 then 0 else wF x.write := by
 rw [aL, if_neg]
 rintro (h1 | h1 | h1)
 ·
  exact h1 h.1
 ·
  exact h.2.1 h1
 exact h1.2 (h.2.2 h1.1)
theorem lK {x : bP} (h : jq x) (h2 : (decide (1 ≤ x.ae) && decide (x.ae ≤ 999)) = false) : aL x = 3 := by
 rw [gu h, if_pos (Or.inl fun q => by simp at h2; omega)]
theorem pv {x : bP} (h : jq x) (h2 : (decide (1 ≤ x.src) && decide (x.src ≤ 5)) = false) : aL x = 3 := by
 rw [gu h, if_pos (Or.inr (Or.inl fun q => by simp at h2; omega))]
theorem pJ {x : bP} (h : jq x) (h2 : (decide (1 ≤ x.dst) && decide (x.dst ≤ 5)) = false) : aL x = 3 := by
 rw [gu h, if_pos (Or.inr (Or.inr (Or.inl fun q => by simp at h2; omega)))]
theorem pP {x : bP} (h : jq x) (h2 : gD x = false) : aL x = 3 := by
 rw [gu h, if_pos]
 have : ¬ (0 ≤ x.index ∧ x.index ≤ 40) ∨ (x.kind ≠ 2 ∧ x.index = 0) := by
  refine Decidable.byContradiction fun q => ?_
  rw [gD] at h2
  have q1 : 0 ≤ x.index ∧ x.index ≤ 40 := Decidable.byContradiction fun z => q (Or.inl z)
  rw [decide_eq_true q1.1, decide_eq_true q1.2] at h2
  simp at h2
  exact q (Or.inr ⟨h2.1, by omega⟩)
 exact Or.inr (Or.inr (Or.inr this))
theorem m6 {x : bP} (h : jq x) (h1 : (decide (1 ≤ x.ae) && decide (x.ae ≤ 999)) = true) (h2 : (decide (1 ≤ x.src) && decide (x.src ≤ 5)) = true) (h3 : (decide (1 ≤ x.dst) && decide (x.dst ≤ 5)) = true) (h4 : gD x = true) : aL x = if x.kind = 2 then 0 else wF x.write := by
 simp only [Bool.and_eq_true, decide_eq_true_eq] at h1 h2 h3
 simp only [gD, Bool.and_eq_true, Bool.or_eq_true, decide_eq_true_eq, beq_iff_eq] at h4
 rw [gu h, if_neg]
 rintro (q | q | q | q | q)
 ·
  exact q h1
 ·
  exact q h2
 ·
  exact q h3
 ·
  exact q h4.1
 rcases h4.2 with z | z
 ·
  exact q.1 z
 omega
theorem ve {w : World} {x : aj} {a : Option Addr} {d : Nat} (h : ab.ag.Reads w [.int .i64 x.kind, .int .i64 x.id, .slice a x.vec.length d, .int .i64 x.aa, .int .i64 x.seq] x) : (ab.sl ab.int).Reads w [.slice a x.vec.length d] x.vec := by
 obtain ⟨a2, d2, e, R⟩ := aM h
 simp only [List.cons.injEq, Value.slice.injEq, and_true, true_and] at e
 obtain ⟨rfl, rfl⟩ := e
 exact R
theorem od (cs : List Value) (x : bP) (w : World) (h : ab.aQ.Reads w cs x) :
  Calls Tryz.prog 189 #[.agg cs.toArray] w fun e w' => e = iE (aL x) ∧ Below w.heap.size w w' := by
 obtain ⟨a, d, rfl, R⟩ := cN h
 have nb : Below w.heap.size w (w.alloc (.cells #[.int .i64 x.kind, .int .i64 x.ae, .int .i64 x.src, .int .i64 x.dst, .int .i64 x.index, .int .i64 x.write.kind, .int .i64 x.write.id, .slice a x.write.vec.length d, .int .i64 x.write.aa, .int .i64 x.write.seq] 60)) := (Below.refl _ _).alloc (Nat.le_refl _) _
 have HR := yh (R.later nb)
 have HB := yh nb
 have HX : Hid (aA 0 #[.int .i64 x.kind, .int .i64 x.ae, .int .i64 x.src, .int .i64 x.dst, .int .i64 x.index, .int .i64 x.write.kind, .int .i64 x.write.id, .slice a x.write.vec.length d, .int .i64 x.write.aa, .int .i64 x.write.seq] 60 (w.alloc (.cells #[.int .i64 x.kind, .int .i64 x.ae, .int .i64 x.src, .int .i64 x.dst, .int .i64 x.index, .int .i64 x.write.kind, .int .i64 x.write.id, .slice a x.write.vec.length d, .int .i64 x.write.aa, .int .i64 x.write.seq] 60)) w.heap.size) := aD (Nat.zero_le _)
 clear R h nb
 go_enter Tryz.func189, Tryz.ntmps189
 go_upto_region 1 with fail
 generalize (w.alloc (.cells #[.int .i64 x.kind, .int .i64 x.ae, .int .i64 x.src, .int .i64 x.dst, .int .i64 x.index, .int .i64 x.write.kind, .int .i64 x.write.id, .slice a x.write.vec.length d, .int .i64 x.write.aa, .int .i64 x.write.seq] 60)) = W1 at *
 have z0 : W1.cell? ⟨w.heap.size, 0, none⟩ = some (.int .i64 x.kind) := (uh HX).at 0 _ rfl
 have z1 : W1.cell? ⟨w.heap.size, 1, none⟩ = some (.int .i64 x.ae) := (uh HX).at 1 _ rfl
 have z2 : W1.cell? ⟨w.heap.size, 2, none⟩ = some (.int .i64 x.src) := (uh HX).at 2 _ rfl
 have z3 : W1.cell? ⟨w.heap.size, 3, none⟩ = some (.int .i64 x.dst) := (uh HX).at 3 _ rfl
 have z4 : W1.cell? ⟨w.heap.size, 4, none⟩ = some (.int .i64 x.index) := (uh HX).at 4 _ rfl
 have z5 : W1.cell? ⟨w.heap.size, 5, none⟩ = some (.int .i64 x.write.kind) := (uh HX).at 5 _ rfl
 have z6 : W1.cell? ⟨w.heap.size, 6, none⟩ = some (.int .i64 x.write.id) := (uh HX).at 6 _ rfl
 have z7 : W1.cell? ⟨w.heap.size, 7, none⟩ = some (.slice a x.write.vec.length d) := (uh HX).at 7 _ rfl
 have z8 : W1.cell? ⟨w.heap.size, 8, none⟩ = some (.int .i64 x.write.aa) := (uh HX).at 8 _ rfl
 have z9 : W1.cell? ⟨w.heap.size, 9, none⟩ = some (.int .i64 x.write.seq) := (uh HX).at 9 _ rfl
 cases e1 : (x.kind == 1)
 ·
  cases e2 : (x.kind == 2)
  ·
   have HF := yh (rz e1 e2)
   go_wp2_with fail
   refine (fm 1 _).mono ?_
   rintro e w9 ⟨rfl, h9⟩
   subst w9
   go_wp2_with fail
   exact ⟨rfl, by rw [uh HF]; rfl, uh HB⟩
  go_wp2_with fail
  refine (fk 1 _).mono ?_
  rintro e w9 ⟨rfl, h9⟩
  subst w9
  cases e3 : (x.src != x.dst)
  ·
   have HF := yh (ng e3)
   go_wp2_with fail
   refine (fm 1 _).mono ?_
   rintro e w9 ⟨rfl, h9⟩
   subst w9
   go_wp2_with fail
   exact ⟨rfl, by rw [uh HF]; rfl, uh HB⟩
  go_wp2_with fail
  refine (fk 1 _).mono ?_
  rintro e w9 ⟨rfl, h9⟩
  subst w9
  have HL := yh (qZ _ _ x.write gS W1 (uh HR) (nP W1))
  go_wp2_with fail
  refine (uh HL).mono ?_
  rintro e Wa ⟨rfl, hb⟩
  replace HX := yh ((uh HX).ai hb)
  replace HR := yh ((uh HR).later hb)
  replace HB := bZ HB hb
  clear hb z0 z1 z2 z3 z4 z5 z6 z7 z8 z9
  have z0 : Wa.cell? ⟨w.heap.size, 0, none⟩ = some (.int .i64 x.kind) := (uh HX).at 0 _ rfl
  have z1 : Wa.cell? ⟨w.heap.size, 1, none⟩ = some (.int .i64 x.ae) := (uh HX).at 1 _ rfl
  have z2 : Wa.cell? ⟨w.heap.size, 2, none⟩ = some (.int .i64 x.src) := (uh HX).at 2 _ rfl
  have z3 : Wa.cell? ⟨w.heap.size, 3, none⟩ = some (.int .i64 x.dst) := (uh HX).at 3 _ rfl
  have z4 : Wa.cell? ⟨w.heap.size, 4, none⟩ = some (.int .i64 x.index) := (uh HX).at 4 _ rfl
  have z5 : Wa.cell? ⟨w.heap.size, 5, none⟩ = some (.int .i64 x.write.kind) := (uh HX).at 5 _ rfl
  have z6 : Wa.cell? ⟨w.heap.size, 6, none⟩ = some (.int .i64 x.write.id) := (uh HX).at 6 _ rfl
  have z7 : Wa.cell? ⟨w.heap.size, 7, none⟩ = some (.slice a x.write.vec.length d) := (uh HX).at 7 _ rfl
  have z8 : Wa.cell? ⟨w.heap.size, 8, none⟩ = some (.int .i64 x.write.aa) := (uh HX).at 8 _ rfl
  have z9 : Wa.cell? ⟨w.heap.size, 9, none⟩ = some (.int .i64 x.write.seq) := (uh HX).at 9 _ rfl
  clear HL
  cases e9 : dR x.write gS
  ·
   have HF := yh (tL e2 e9)
   clear e9
   go_wp2_with fail
   refine (fm 1 _).mono ?_
   rintro e w9 ⟨rfl, h9⟩
   subst w9
   go_wp2_with fail
   exact ⟨rfl, by rw [uh HF]; rfl, uh HB⟩
  have HFM : Hid (jq x) := ⟨by simp at e2; omega, by simpa using e3, fun _ => (j7 _).1 e9⟩
  clear e9
  go_wp2_with fail
  refine (fk 1 _).mono ?_
  rintro e w9 ⟨rfl, h9⟩
  subst w9
  cases e4 : (decide (1 ≤ x.ae) && decide (x.ae ≤ 999))
  ·
   have HL := yh (dy x.ae Wa)
   rw [e4] at HL
   have HF := yh (lK (uh HFM) e4)
   clear e4
   go_wp2_with fail
   refine (uh HL).mono ?_
   rintro e w9 ⟨rfl, h9⟩
   subst w9
   clear HL
   go_wp2_with fail
   refine (fm 3 _).mono ?_
   rintro e w9 ⟨rfl, h9⟩
   subst w9
   go_wp2_with fail
   exact ⟨rfl, by rw [uh HF]; rfl, uh HB⟩
  have HL := yh (dy x.ae Wa)
  rw [e4] at HL
  have HE := yh e4
  clear e4
  go_wp2_with fail
  refine (uh HL).mono ?_
  rintro e w9 ⟨rfl, h9⟩
  subst w9
  clear HL
  go_wp2_with fail
  refine (fk 3 _).mono ?_
  rintro e w9 ⟨rfl, h9⟩
  subst w9
  cases e5 : (decide (1 ≤ x.src) && decide (x.src ≤ 5))
  ·
   have HL := yh (du x.src Wa)
   rw [e5] at HL
   have HF := yh (pv (uh HFM) e5)
   clear e5
   go_wp2_with fail
   refine (uh HL).mono ?_
   rintro e w9 ⟨rfl, h9⟩
   subst w9
   clear HL
   go_wp2_with fail
   refine (fm 3 _).mono ?_
   rintro e w9 ⟨rfl, h9⟩
   subst w9
   go_wp2_with fail
   exact ⟨rfl, by rw [uh HF]; rfl, uh HB⟩
  have HL := yh (du x.src Wa)
  rw [e5] at HL
  have HS := yh e5
  clear e5
  go_wp2_with fail
  refine (uh HL).mono ?_
  rintro e w9 ⟨rfl, h9⟩
  subst w9
  clear HL
  cases e6 : (decide (1 ≤ x.dst) && decide (x.dst ≤ 5))
  ·
   have HL := yh (du x.dst Wa)
   rw [e6] at HL
   have HF := yh (pJ (uh HFM) e6)
   clear e6
   go_wp2_with fail
   refine (uh HL).mono ?_
   rintro e w9 ⟨rfl, h9⟩
   subst w9
   clear HL
   go_wp2_with fail
   refine (fm 3 _).mono ?_
   rintro e w9 ⟨rfl, h9⟩
   subst w9
   go_wp2_with fail
   exact ⟨rfl, by rw [uh HF]; rfl, uh HB⟩
  have HL := yh (du x.dst Wa)
  rw [e6] at HL
  have HD := yh e6
  clear e6
  go_wp2_with fail
  refine (uh HL).mono ?_
  rintro e w9 ⟨rfl, h9⟩
  subst w9
  clear HL
  go_wp2_with fail
  refine (fk 3 _).mono ?_
  rintro e w9 ⟨rfl, h9⟩
  subst w9
  have HL := yh (jo a d x Wa)
  go_wp2_with fail
  refine (uh HL).mono ?_
  rintro e W2 ⟨rfl, hb⟩
  replace HX := yh ((uh HX).ai hb)
  replace HR := yh ((uh HR).later hb)
  replace HB := bZ HB hb
  clear hb z0 z1 z2 z3 z4 z5 z6 z7 z8 z9
  have z0 : W2.cell? ⟨w.heap.size, 0, none⟩ = some (.int .i64 x.kind) := (uh HX).at 0 _ rfl
  have z1 : W2.cell? ⟨w.heap.size, 1, none⟩ = some (.int .i64 x.ae) := (uh HX).at 1 _ rfl
  have z2 : W2.cell? ⟨w.heap.size, 2, none⟩ = some (.int .i64 x.src) := (uh HX).at 2 _ rfl
  have z3 : W2.cell? ⟨w.heap.size, 3, none⟩ = some (.int .i64 x.dst) := (uh HX).at 3 _ rfl
  have z4 : W2.cell? ⟨w.heap.size, 4, none⟩ = some (.int .i64 x.index) := (uh HX).at 4 _ rfl
  have z5 : W2.cell? ⟨w.heap.size, 5, none⟩ = some (.int .i64 x.write.kind) := (uh HX).at 5 _ rfl
  have z6 : W2.cell? ⟨w.heap.size, 6, none⟩ = some (.int .i64 x.write.id) := (uh HX).at 6 _ rfl
  have z7 : W2.cell? ⟨w.heap.size, 7, none⟩ = some (.slice a x.write.vec.length d) := (uh HX).at 7 _ rfl
  have z8 : W2.cell? ⟨w.heap.size, 8, none⟩ = some (.int .i64 x.write.aa) := (uh HX).at 8 _ rfl
  have z9 : W2.cell? ⟨w.heap.size, 9, none⟩ = some (.int .i64 x.write.seq) := (uh HX).at 9 _ rfl
  clear HL
  cases e7 : gD x
  ·
   have HF := yh (pP (uh HFM) e7)
   clear e7
   go_wp2_with fail
   refine (fm 3 _).mono ?_
   rintro e w9 ⟨rfl, h9⟩
   subst w9
   go_wp2_with fail
   exact ⟨rfl, by rw [uh HF]; rfl, uh HB⟩
  have HF := yh (m6 (uh HFM) (uh HE) (uh HS) (uh HD) e7)
  clear e7
  go_wp2_with fail
  refine (fk 3 _).mono ?_
  rintro e w9 ⟨rfl, h9⟩
  subst w9
  replace HF := yh ((uh HF).trans (if_pos (by simpa using e2)))
  go_wp2_with fail
  go_end0
  exact ⟨by rw [uh HF]; rfl, uh HB⟩
 go_wp2_with fail
 refine (fk 1 _).mono ?_
 rintro e w9 ⟨rfl, h9⟩
 subst w9
 cases e3 : (x.src != x.dst)
 ·
  have HF := yh (ng e3)
  go_wp2_with fail
  refine (fm 1 _).mono ?_
  rintro e w9 ⟨rfl, h9⟩
  subst w9
  go_wp2_with fail
  exact ⟨rfl, by rw [uh HF]; rfl, uh HB⟩
 have HFM : Hid (jq x) := ⟨by simp at e1; omega, by simpa using e3, fun q => by simp at e1; omega⟩
 go_wp2_with fail
 refine (fk 1 _).mono ?_
 rintro e w9 ⟨rfl, h9⟩
 subst w9
 go_wp2_with fail
 refine (fk 1 _).mono ?_
 rintro e w9 ⟨rfl, h9⟩
 subst w9
 cases e4 : (decide (1 ≤ x.ae) && decide (x.ae ≤ 999))
 ·
  have HL := yh (dy x.ae W1)
  rw [e4] at HL
  have HF := yh (lK (uh HFM) e4)
  clear e4
  go_wp2_with fail
  refine (uh HL).mono ?_
  rintro e w9 ⟨rfl, h9⟩
  subst w9
  clear HL
  go_wp2_with fail
  refine (fm 3 _).mono ?_
  rintro e w9 ⟨rfl, h9⟩
  subst w9
  go_wp2_with fail
  exact ⟨rfl, by rw [uh HF]; rfl, uh HB⟩
 have HL := yh (dy x.ae W1)
 rw [e4] at HL
 have HE := yh e4
 clear e4
 go_wp2_with fail
 refine (uh HL).mono ?_
 rintro e w9 ⟨rfl, h9⟩
 subst w9
 clear HL
 go_wp2_with fail
 refine (fk 3 _).mono ?_
 rintro e w9 ⟨rfl, h9⟩
 subst w9
 cases e5 : (decide (1 ≤ x.src) && decide (x.src ≤ 5))
 ·
  have HL := yh (du x.src W1)
  rw [e5] at HL
  have HF := yh (pv (uh HFM) e5)
  clear e5
  go_wp2_with fail
  refine (uh HL).mono ?_
  rintro e w9 ⟨rfl, h9⟩
  subst w9
  clear HL
  go_wp2_with fail
  refine (fm 3 _).mono ?_
  rintro e w9 ⟨rfl, h9⟩
  subst w9
  go_wp2_with fail
  exact ⟨rfl, by rw [uh HF]; rfl, uh HB⟩
 have HL := yh (du x.src W1)
 rw [e5] at HL
 have HS := yh e5
 clear e5
 go_wp2_with fail
 refine (uh HL).mono ?_
 rintro e w9 ⟨rfl, h9⟩
 subst w9
 clear HL
 cases e6 : (decide (1 ≤ x.dst) && decide (x.dst ≤ 5))
 ·
  have HL := yh (du x.dst W1)
  rw [e6] at HL
  have HF := yh (pJ (uh HFM) e6)
  clear e6
  go_wp2_with fail
  refine (uh HL).mono ?_
  rintro e w9 ⟨rfl, h9⟩
  subst w9
  clear HL
  go_wp2_with fail
  refine (fm 3 _).mono ?_
  rintro e w9 ⟨rfl, h9⟩
  subst w9
  go_wp2_with fail
  exact ⟨rfl, by rw [uh HF]; rfl, uh HB⟩
 have HL := yh (du x.dst W1)
 rw [e6] at HL
 have HD := yh e6
 clear e6
 go_wp2_with fail
 refine (uh HL).mono ?_
 rintro e w9 ⟨rfl, h9⟩
 subst w9
 clear HL
 go_wp2_with fail
 refine (fk 3 _).mono ?_
 rintro e w9 ⟨rfl, h9⟩
 subst w9
 have HL := yh (jo a d x W1)
 go_wp2_with fail
 refine (uh HL).mono ?_
 rintro e W2 ⟨rfl, hb⟩
 replace HX := yh ((uh HX).ai hb)
 replace HR := yh ((uh HR).later hb)
 replace HB := bZ HB hb
 clear hb z0 z1 z2 z3 z4 z5 z6 z7 z8 z9
 have z0 : W2.cell? ⟨w.heap.size, 0, none⟩ = some (.int .i64 x.kind) := (uh HX).at 0 _ rfl
 have z1 : W2.cell? ⟨w.heap.size, 1, none⟩ = some (.int .i64 x.ae) := (uh HX).at 1 _ rfl
 have z2 : W2.cell? ⟨w.heap.size, 2, none⟩ = some (.int .i64 x.src) := (uh HX).at 2 _ rfl
 have z3 : W2.cell? ⟨w.heap.size, 3, none⟩ = some (.int .i64 x.dst) := (uh HX).at 3 _ rfl
 have z4 : W2.cell? ⟨w.heap.size, 4, none⟩ = some (.int .i64 x.index) := (uh HX).at 4 _ rfl
 have z5 : W2.cell? ⟨w.heap.size, 5, none⟩ = some (.int .i64 x.write.kind) := (uh HX).at 5 _ rfl
 have z6 : W2.cell? ⟨w.heap.size, 6, none⟩ = some (.int .i64 x.write.id) := (uh HX).at 6 _ rfl
 have z7 : W2.cell? ⟨w.heap.size, 7, none⟩ = some (.slice a x.write.vec.length d) := (uh HX).at 7 _ rfl
 have z8 : W2.cell? ⟨w.heap.size, 8, none⟩ = some (.int .i64 x.write.aa) := (uh HX).at 8 _ rfl
 have z9 : W2.cell? ⟨w.heap.size, 9, none⟩ = some (.int .i64 x.write.seq) := (uh HX).at 9 _ rfl
 clear HL
 cases e7 : gD x
 ·
  have HF := yh (pP (uh HFM) e7)
  clear e7
  go_wp2_with fail
  refine (fm 3 _).mono ?_
  rintro e w9 ⟨rfl, h9⟩
  subst w9
  go_wp2_with fail
  exact ⟨rfl, by rw [uh HF]; rfl, uh HB⟩
 have HF := yh (m6 (uh HFM) (uh HE) (uh HS) (uh HD) e7)
 clear e7
 go_wp2_with fail
 refine (fk 3 _).mono ?_
 rintro e w9 ⟨rfl, h9⟩
 subst w9
 replace HF := yh ((uh HF).trans (if_neg (by simp at e1; omega)))
 have HL := yh (eY x.write.kind x.write.id _ x.write.aa x.write.seq x.write.vec W2 (ab.bc (ve (uh HR))))
 go_wp2_with fail
 refine (uh HL).mono ?_
 rintro e W3 ⟨rfl, hb⟩
 replace HX := yh ((uh HX).ai hb)
 replace HR := yh ((uh HR).later hb)
 replace HB := bZ HB hb
 clear hb z0 z1 z2 z3 z4 z5 z6 z7 z8 z9
 have z0 : W3.cell? ⟨w.heap.size, 0, none⟩ = some (.int .i64 x.kind) := (uh HX).at 0 _ rfl
 have z1 : W3.cell? ⟨w.heap.size, 1, none⟩ = some (.int .i64 x.ae) := (uh HX).at 1 _ rfl
 have z2 : W3.cell? ⟨w.heap.size, 2, none⟩ = some (.int .i64 x.src) := (uh HX).at 2 _ rfl
 have z3 : W3.cell? ⟨w.heap.size, 3, none⟩ = some (.int .i64 x.dst) := (uh HX).at 3 _ rfl
 have z4 : W3.cell? ⟨w.heap.size, 4, none⟩ = some (.int .i64 x.index) := (uh HX).at 4 _ rfl
 have z5 : W3.cell? ⟨w.heap.size, 5, none⟩ = some (.int .i64 x.write.kind) := (uh HX).at 5 _ rfl
 have z6 : W3.cell? ⟨w.heap.size, 6, none⟩ = some (.int .i64 x.write.id) := (uh HX).at 6 _ rfl
 have z7 : W3.cell? ⟨w.heap.size, 7, none⟩ = some (.slice a x.write.vec.length d) := (uh HX).at 7 _ rfl
 have z8 : W3.cell? ⟨w.heap.size, 8, none⟩ = some (.int .i64 x.write.aa) := (uh HX).at 8 _ rfl
 have z9 : W3.cell? ⟨w.heap.size, 9, none⟩ = some (.int .i64 x.write.seq) := (uh HX).at 9 _ rfl
 clear HL
 replace HF : Hid (aL x = aC x.write.kind x.write.id x.write.vec x.write.aa x.write.seq) := uh HF
 generalize aC x.write.kind x.write.id x.write.vec x.write.aa x.write.seq = f at *
 cases e8 : (f == 0)
 ·
  have hf : f ≠ 0 := by simpa using e8
  have HG := yh hf
  clear hf
  go_wp2_with fail
  refine (fm f _).mono ?_
  rintro e w9 ⟨rfl, h9⟩
  subst w9
  go_wp2_with fail
  exact ⟨rfl, by rw [uh HF]; exact (fP (uh HG)).symm, uh HB⟩
 have hf : f = 0 := by simpa using e8
 subst hf
 clear e8
 go_wp2_with fail
 refine (fk 0 _).mono ?_
 rintro e w9 ⟨rfl, h9⟩
 subst w9
 go_wp2_with fail
 go_end0
 exact ⟨by rw [uh HF]; rfl, uh HB⟩
theorem tE (v : Value) (w : World) : (Instr.typeAssert (.iface 271 v) 20 271 true).run Tryz.prog w = .ok (.tuple #[v, .bool true]) w := by kernel_rfl
theorem oB (c : Int) (w : World) :
  Calls Tryz.prog 187 #[.iface 271 (.agg #[.int .i64 c])] w fun e w' => e = .returned (.int .i64 c) ∧ Below w.heap.size w w' := by
 have HB : Hid (Below w.heap.size w (w.alloc (.cells #[.int .i64 c] 271))) := yh ((Below.refl _ _).alloc (Nat.le_refl _) _)
 have q := tE
 go_enter Tryz.func187, Tryz.ntmps187
 go_wp2_with fail
 go_ret
 exact ⟨rfl, uh HB⟩
theorem jE (p : Addr) (x c : Int) (w : World) (hc : w.cell? p = some (.int .i64 x)) (hz : w.frozen? p = false) (hp : p.block < w.heap.size) :
  CallsD Tryz.prog 186 #[.pointer (some p)] (.panicking (gm c)) w fun e u' w' =>
   e = .returned (.tuple #[]) ∧ u' = .panicking [{ v := .iface 271 (.agg #[.int .i64 c]), recovered := true }] ∧ ∃ w1, w' = w1.setCell p (.int .i64 c) ∧ Below w.heap.size w w1 := by
 refine callsD_of_wpS Tryz.func186 rfl fun c₀ cs hu => ?_
 apply wpS_seq
 apply wpS_region
 simp [wpOpsS, go_sem, recoverD, hu, Tryz.ntmps186, Exit.thenS, gm]
 refine wpS_of_wp ?_
 have HL := yh (oB c w)
 go_wp2_with fail
 refine (uh HL).mono ?_
 rintro e w1 ⟨rfl, hb⟩
 have hc1 : w1.cell? p = some (.int .i64 x) := (hb.cell (p := p) hp).trans hc
 have hz1 : w1.frozen? p = false := (World.frozen?_of_block (hb.block _ hp)).trans hz
 have hp1 : p.block < w1.heap.size := Nat.lt_of_lt_of_le hp hb.size
 have HB := yh hb
 clear hb HL hc hz
 go_wp2_with fail
 refine ⟨rfl, _, rfl, .tuple #[], ?_, rfl, rfl, w1, rfl, uh HB⟩
 simp [results, Tryz.results186, go_sem]
theorem kY (p : Addr) (w : World) :
  CallsD Tryz.prog 186 #[.pointer (some p)] .returning w fun e u' w' => e = .returned (.tuple #[]) ∧ u' = .returning ∧ w' = w := by
 refine callsD_of_wpS Tryz.func186 rfl fun c₀ cs hu => ?_
 apply wpS_seq
 apply wpS_region
 simp [wpOpsS, go_sem, recoverD, hu, Tryz.ntmps186, Exit.thenS]
 refine wpS_of_wp ?_
 go_wp2_with fail
 cases c₀
 simp_all [bodyPostS, results, Tryz.results186, go_sem]
theorem kv (N : Nat) (cap : Array Value) (c : Int) (w : World) (hf : ∀ W : World, (callFunc N cap).run Tryz.prog W = .ok (.enter N cap) W)
  (h : Calls Tryz.prog N cap (w.alloc (.cells #[.int .i64 0] 2)) fun e w' => e = .panicked (gm c) ∧ Below (w.heap.size + 1) (w.alloc (.cells #[.int .i64 0] 2)) w') :
  Calls Tryz.prog 133 #[.func (.func N) #[] cap] w fun e w' => e = .returned (.tuple #[.bool false, .int .i64 c]) ∧ Below w.heap.size w w' := by
 have hmf : ∀ (fn : Fn) (first cap : Array Value) (w : World), (Instr.makeFunc fn first cap).run Tryz.prog w = .ok (.func fn first cap) w := fun _ _ _ _ => rfl
 have HL := yh h
 have nb : Below w.heap.size w (w.alloc (.cells #[.int .i64 0] 2)) := (Below.refl _ _).alloc (Nat.le_refl _) _
 have HX : Hid (aA 0 #[.int .i64 0] 2 (w.alloc (.cells #[.int .i64 0] 2)) w.heap.size) := aD (Nat.zero_le _)
 have HN := yh nb
 clear h nb
 go_enter_defers Tryz.func133, Tryz.ntmps133
 go_wp2_with fail
 refine (uh HL).mono ?_
 rintro e w1 ⟨rfl, hb⟩
 replace HN := yh ((uh HN).trans (hb.mono (by omega)))
 have hX := (uh HX).ai (hb.mono (by simp))
 have z0 : w1.cell? ⟨w.heap.size, 0, none⟩ = some (.int .i64 0) := hX.at 0 _ rfl
 have zf : w1.frozen? ⟨w.heap.size, 0, none⟩ = false := hX.soft 0
 have zl := hX.lt
 clear HL HX hX hb
 go_wp2_with fail
 refine leaves_cons (f := 186) (args := #[.pointer (some ⟨w.heap.size, 0, none⟩)]) (by simp) (by simp [go_sem]) ?_
 refine (jE ⟨w.heap.size, 0, none⟩ 0 c w1 z0 zf zl).mono ?_
 rintro e u' w2 ⟨rfl, rfl, w3, rfl, hb⟩
 have hN : Below w.heap.size w (w3.setCell ⟨w.heap.size, 0, none⟩ (.int .i64 c)) := ((uh HN).trans (hb.mono (uh HN).size)).setCell (by simp) _
 have z1 : (w3.setCell ⟨w.heap.size, 0, none⟩ (.int .i64 c)).cell? ⟨w.heap.size, 0, none⟩ = some (.int .i64 c) := World.cell?_setCell_same _ _ _ ((hb.cell (p := ⟨w.heap.size, 0, none⟩) zl).trans z0)
 simp [Leaves, settle, results, Tryz.results133, go_sem, z1]
 exact hN
theorem kD (N : Nat) (cap : Array Value) (w : World) (Q : Value → World → Prop) (hf : ∀ W : World, (callFunc N cap).run Tryz.prog W = .ok (.enter N cap) W)
  (h : Calls Tryz.prog N cap (w.alloc (.cells #[.int .i64 0] 2)) fun e w' => ∃ v, e = .returned v ∧ Q v w' ∧ Below (w.heap.size + 1) (w.alloc (.cells #[.int .i64 0] 2)) w') :
  Calls Tryz.prog 133 #[.func (.func N) #[] cap] w fun e w' => ∃ v w1, e = .returned (.tuple #[v, .int .i64 0]) ∧ Q v w1 ∧ w' = w1.setCell ⟨w.heap.size, 0, none⟩ (.int .i64 0) ∧ Below w.heap.size w w' ∧ w.heap.size < w1.heap.size := by
 have hmf : ∀ (fn : Fn) (first cap : Array Value) (w : World), (Instr.makeFunc fn first cap).run Tryz.prog w = .ok (.func fn first cap) w := fun _ _ _ _ => rfl
 have HL := yh h
 have nb : Below w.heap.size w (w.alloc (.cells #[.int .i64 0] 2)) := (Below.refl _ _).alloc (Nat.le_refl _) _
 have HX : Hid (aA 0 #[.int .i64 0] 2 (w.alloc (.cells #[.int .i64 0] 2)) w.heap.size) := aD (Nat.zero_le _)
 have HN := yh nb
 clear h nb
 go_enter_defers Tryz.func133, Tryz.ntmps133
 go_wp2_with fail
 refine (uh HL).mono ?_
 rintro e w1 ⟨v, rfl, hq, hb⟩
 have HQ := yh hq
 replace HN := yh ((uh HN).trans (hb.mono (by omega)))
 have hX := (uh HX).ai (hb.mono (by simp))
 have z0 : w1.cell? ⟨w.heap.size, 0, none⟩ = some (.int .i64 0) := hX.at 0 _ rfl
 have zf : w1.frozen? ⟨w.heap.size, 0, none⟩ = false := hX.soft 0
 have zl := hX.lt
 clear HL HX hX hb hq
 go_wp2_with fail
 refine leaves_cons (f := 186) (args := #[.pointer (some ⟨w.heap.size, 0, none⟩)]) (by simp) (by simp [go_sem]) ?_
 refine (kY ⟨w.heap.size, 0, none⟩ _).mono ?_
 rintro e u' w2 ⟨rfl, rfl, rfl⟩
 have hN : Below w.heap.size w (w1.setCell ⟨w.heap.size, 0, none⟩ (.int .i64 0)) := (uh HN).setCell (by simp) _
 have z1 : (w1.setCell ⟨w.heap.size, 0, none⟩ (.int .i64 0)).cell? ⟨w.heap.size, 0, none⟩ = some (.int .i64 0) := World.cell?_setCell_same _ _ _ z0
 refine ⟨.tuple #[v, .int .i64 0], by simp [results, Tryz.results133, go_sem, z1], v, w1, rfl, uh HQ, rfl, hN, zl⟩
theorem kX {xs : List bP} {k : Nat} (hk : k < xs.length) : cw (xs.drop k) = if aL xs[k] = 0 then cw (xs.drop (k + 1)) else aL xs[k] := by
 rw [List.drop_eq_getElem_cons hk, cw]
theorem nZ (v : Value) (xs : List bP) (w : World) (h : (ab.sl ab.aQ).Reads w [v] xs) :
  Calls Tryz.prog 135 #[v] w fun e w' => e = iE (bd xs) ∧ Below w.heap.size w w' := by
 have hbig := h.et
 obtain ⟨ao, cap, rfl⟩ := aI h
 have H := yh h
 clear h
 go_enter Tryz.func135, Tryz.ntmps135
 cases e1 : decide ((xs.length : Int) ≤ 40)
 ·
  have HF : Hid (bd xs = 2) := by show bd xs = 2; rw [bd, if_pos (by simp at e1; omega)]
  go_wp2_with fail
  refine (fm 2 _).mono ?_
  rintro e w9 ⟨rfl, h9⟩
  subst w9
  go_wp2_with fail
  exact ⟨rfl, by rw [uh HF]; rfl, Below.refl _ _⟩
 have HF : Hid (bd xs = cw (xs.drop 0)) := by show bd xs = _; rw [bd, if_neg (by simp at e1; omega)]; rfl
 go_wp2_with fail
 refine (fk 2 _).mono ?_
 rintro e w9 ⟨rfl, h9⟩
 subst w9
 clear e1
 go_wp2_with fail
 go_loopw [10] (fun i wr => ∃ k : Nat, k ≤ xs.length ∧ i = .int .i64 k ∧ bd xs = cw (xs.drop k) ∧ Below w.heap.size w wr) (fun i _ => xs.length - (intOf i).toNat)
 case atStart => exact ⟨0, Nat.zero_le _, rfl, uh HF, Below.refl _ _⟩
 case round =>
  obtain ⟨k, hk, rfl, hF, hB⟩ := hrel
  clear HF
  by_cases hlt : k < xs.length
  ·
   obtain ⟨b, off, rfl, hbl⟩ := ab.aS (uh H) (by omega)
   obtain ⟨row, hc, hr⟩ := ab.bE (uh H) hlt
   replace hr := hr.later hB
   rw [kX hlt] at hF
   have hdl : decide ((k : Int) < (xs.length : Int)) = true := by simp; omega
   obtain ⟨a, d, rfl, -⟩ := cN hr
   have c0 : wr.cell? ⟨b, off + k * 10, none⟩ = some (.int .i64 (xs[k]).kind) := (hB.cell (p := ⟨b, off + k * 10, none⟩) hbl).trans (hc 0 (by decide))
   have c1 : wr.cell? ⟨b, off + k * 10 + 1, none⟩ = some (.int .i64 (xs[k]).ae) := (hB.cell (p := ⟨b, off + k * 10 + 1, none⟩) hbl).trans (hc 1 (by decide))
   have c2 : wr.cell? ⟨b, off + k * 10 + 2, none⟩ = some (.int .i64 (xs[k]).src) := (hB.cell (p := ⟨b, off + k * 10 + 2, none⟩) hbl).trans (hc 2 (by decide))
   have c3 : wr.cell? ⟨b, off + k * 10 + 3, none⟩ = some (.int .i64 (xs[k]).dst) := (hB.cell (p := ⟨b, off + k * 10 + 3, none⟩) hbl).trans (hc 3 (by decide))
   have c4 : wr.cell? ⟨b, off + k * 10 + 4, none⟩ = some (.int .i64 (xs[k]).index) := (hB.cell (p := ⟨b, off + k * 10 + 4, none⟩) hbl).trans (hc 4 (by decide))
   have c5 : wr.cell? ⟨b, off + k * 10 + 5, none⟩ = some (.int .i64 (xs[k]).write.kind) := (hB.cell (p := ⟨b, off + k * 10 + 5, none⟩) hbl).trans (hc 5 (by decide))
   have c6 : wr.cell? ⟨b, off + k * 10 + 6, none⟩ = some (.int .i64 (xs[k]).write.id) := (hB.cell (p := ⟨b, off + k * 10 + 6, none⟩) hbl).trans (hc 6 (by decide))
   have c7 : wr.cell? ⟨b, off + k * 10 + 7, none⟩ = some (.slice a (xs[k]).write.vec.length d) := (hB.cell (p := ⟨b, off + k * 10 + 7, none⟩) hbl).trans (hc 7 (by decide))
   have c8 : wr.cell? ⟨b, off + k * 10 + 8, none⟩ = some (.int .i64 (xs[k]).write.aa) := (hB.cell (p := ⟨b, off + k * 10 + 8, none⟩) hbl).trans (hc 8 (by decide))
   have c9 : wr.cell? ⟨b, off + k * 10 + 9, none⟩ = some (.int .i64 (xs[k]).write.seq) := (hB.cell (p := ⟨b, off + k * 10 + 9, none⟩) hbl).trans (hc 9 (by decide))
   have HF := yh hF
   have HR := yh hr
   have HB := yh hB
   clear hF hr hB hc
   generalize hx : xs[k] = x at *
   clear hx
   have nb : Below wr.heap.size wr (wr.alloc (.cells #[.int .i64 x.kind, .int .i64 x.ae, .int .i64 x.src, .int .i64 x.dst, .int .i64 x.index, .int .i64 x.write.kind, .int .i64 x.write.id, .slice a x.write.vec.length d, .int .i64 x.write.aa, .int .i64 x.write.seq] 60)) := (Below.refl _ _).alloc (Nat.le_refl _) _
   have HL := yh (od _ x _ ((uh HR).later nb))
   replace HB := bZ HB nb
   clear nb
   go_wp2_with fail
   refine (uh HL).mono ?_
   generalize wr.alloc (.cells #[.int .i64 x.kind, .int .i64 x.ae, .int .i64 x.src, .int .i64 x.dst, .int .i64 x.index, .int .i64 x.write.kind, .int .i64 x.write.id, .slice a x.write.vec.length d, .int .i64 x.write.aa, .int .i64 x.write.seq] 60) = W1 at *
   rintro e W2 ⟨he, hb⟩
   replace HB := bZ HB hb
   clear hb HL c0 c1 c2 c3 c4 c5 c6 c7 c8 c9
   by_cases hf : aL x = 0
   ·
    rw [lU hf] at he
    subst he
    replace HF := yh ((uh HF).trans (if_pos hf))
    clear hf
    go_wp2_with fail
    go_roundw
    case rel => exact ⟨k + 1, by omega, by go_num, uh HF, uh HB⟩
    case measure => simp [intOf]; omega
   rw [fP hf] at he
   subst he
   replace HF := yh ((uh HF).trans (if_neg hf))
   have HG := yh hf
   clear hf
   go_wp2_with fail
   exact ⟨rfl, by rw [uh HF]; exact (fP (uh HG)).symm, uh HB⟩
  obtain rfl : k = xs.length := by omega
  rw [List.drop_length] at hF
  have hdl : decide ((xs.length : Int) < (xs.length : Int)) = false := by simp
  have HF := yh hF
  have HB := yh hB
  clear hF hB
  go_wp2_with fail
  go_end0
  exact ⟨by rw [uh HF]; rfl, uh HB⟩
theorem mO (v : Value) (xs : List bP) (g : Nat) (w : World) (h : (ab.sl ab.aQ).Reads w [v] xs) (hx : aA 0 #[v] 36 w g) :
  Calls Tryz.prog 134 #[.pointer (some ⟨g, 0, none⟩)] w fun e w' => e = nC (.bool true) (bd xs) ∧ Below w.heap.size w w' := by
 have HL := yh (nZ v xs w h)
 obtain ⟨ao, cap, rfl⟩ := aI h
 have HX := yh hx
 clear hx h
 have z0 : w.cell? ⟨g, 0, none⟩ = some (.slice ao xs.length cap) := (uh HX).at 0 _ rfl
 go_enter Tryz.func134, Tryz.ntmps134
 go_wp2_with fail
 refine (uh HL).mono ?_
 rintro e W2 ⟨he, hb⟩
 have HB := yh hb
 clear hb HL z0
 by_cases hf : bd xs = 0
 ·
  rw [lU hf] at he
  subst he
  have HF := yh hf
  clear hf
  go_wp2_with fail
  go_ret
  exact ⟨(nV (uh HF)).symm, uh HB⟩
 rw [fP hf] at he
 subst he
 have HF := yh hf
 clear hf
 go_wp2_with fail
 exact ⟨rfl, (lB (uh HF)).symm, uh HB⟩
theorem ml (v : Value) (xs : List bP) (w : World) (h : (ab.sl ab.aQ).Reads w [v] xs) :
  Calls Tryz.prog 72 #[v] w fun e w' => e = .returned (.int .i64 (bd xs)) ∧ Below w.heap.size w w' := by
 have hmf : ∀ (fn : Fn) (first cap : Array Value) (w : World), (Instr.makeFunc fn first cap).run Tryz.prog w = .ok (.func fn first cap) w := fun _ _ _ _ => rfl
 obtain ⟨ao, cap, rfl⟩ := aI h
 have nb : Below w.heap.size w (w.alloc (.cells #[.slice ao xs.length cap] 36)) := (Below.refl _ _).alloc (Nat.le_refl _) _
 have HR := yh (h.later nb)
 have HB := yh nb
 have HX : Hid (aA 0 #[.slice ao xs.length cap] 36 (w.alloc (.cells #[.slice ao xs.length cap] 36)) w.heap.size) := aD (Nat.zero_le _)
 clear h nb
 go_enter Tryz.func72, Tryz.ntmps72
 go_upto_region 1 with fail
 generalize w.alloc (.cells #[.slice ao xs.length cap] 36) = W1 at *
 have nb : Below W1.heap.size W1 (W1.alloc (.cells #[.int .i64 0] 2)) := (Below.refl _ _).alloc (Nat.le_refl _) _
 have HW := yh (mO _ xs w.heap.size _ ((uh HR).later nb) ((uh HX).ai nb))
 have hz : (W1.alloc (.cells #[.int .i64 0] 2)).heap.size = W1.heap.size + 1 := by simp
 have HZ := yh hz
 clear nb hz
 by_cases hf : bd xs = 0
 ·
  have HL := yh (kD 134 #[.pointer (some ⟨w.heap.size, 0, none⟩)] W1 (fun v _ => v = .bool true) (fun _ => by rfl) ((uh HW).mono (by
   rintro e w' ⟨he, hb⟩
   rw [nV hf] at he
   rw [uh HZ] at hb
   exact ⟨_, he, rfl, hb⟩)))
  have HF := yh hf
  clear hf HW HZ
  go_wp2_with fail
  refine (uh HL).mono ?_
  rintro e W2 ⟨v, W3, rfl, rfl, hW, hb, -⟩
  replace HB := bZ HB hb
  clear hW hb HL
  go_wp2_with fail
  go_ret
  exact ⟨by rw [uh HF]; rfl, uh HB⟩
 have HL := yh (kv 134 #[.pointer (some ⟨w.heap.size, 0, none⟩)] (bd xs) W1 (fun _ => by rfl) ((uh HW).mono (by
  rintro e w' ⟨he, hb⟩
  rw [lB hf] at he
  rw [uh HZ] at hb
  exact ⟨he, hb⟩)))
 clear hf HW HZ
 go_wp2_with fail
 refine (uh HL).mono ?_
 rintro e W2 ⟨rfl, hb⟩
 replace HB := bZ HB hb
 clear hb HL
 go_wp2_with fail
 go_ret
 exact ⟨rfl, uh HB⟩
theorem rn (a3 : Option Addr) (d3 : Nat) (a4 : Option Addr) (d4 : Nat) (a5 : Option Addr) (d5 : Nat) (a6 : Option Addr) (d6 : Nat) (x : ay) (id : Int) (g : Nat) (w : World) (h : ab.aF.Reads w [.int .i64 x.now, .int .i64 x.events, .int .i64 x.chain.ae, .slice a3 x.chain.ids.length d3, .slice a4 x.nodes.length d4, .slice a5 x.msgs.length d5, .slice a6 x.af.length d6] x) (hx : aA 0 #[.int .i64 x.now, .int .i64 x.events, .int .i64 x.chain.ae, .slice a3 x.chain.ids.length d3, .slice a4 x.nodes.length d4, .slice a5 x.msgs.length d5, .slice a6 x.af.length d6] 39 w g) :
  Calls Tryz.prog 69 #[.int .i64 id, .pointer (some ⟨g, 0, none⟩)] w fun e w' => e = .returned (.bool (!cz x id)) ∧ Below w.heap.size w w' := by
 have HL := yh (sY _ x id w h)
 obtain ⟨z0, z1, z2, z3, z4, z5, z6⟩ := aZ7 hx
 clear h
 go_enter Tryz.func69, Tryz.ntmps69
 go_wp2_with fail
 refine (uh HL).mono ?_
 rintro e w1 ⟨rfl, hb⟩
 have HB := yh hb
 clear hb HL z0 z1 z2 z3 z4 z5 z6
 go_wp2_with fail
 go_ret
 exact ⟨rfl, uh HB⟩
theorem mX (a3 : Option Addr) (d3 : Nat) (a4 : Option Addr) (d4 : Nat) (a5 : Option Addr) (d5 : Nat) (a6 : Option Addr) (d6 : Nat) (x : ay) (v : Value) (ids : List Int) (g : Nat) (w : World) (h : ab.aF.Reads w [.int .i64 x.now, .int .i64 x.events, .int .i64 x.chain.ae, .slice a3 x.chain.ids.length d3, .slice a4 x.nodes.length d4, .slice a5 x.msgs.length d5, .slice a6 x.af.length d6] x) (hx : aA 0 #[.int .i64 x.now, .int .i64 x.events, .int .i64 x.chain.ae, .slice a3 x.chain.ids.length d3, .slice a4 x.nodes.length d4, .slice a5 x.msgs.length d5, .slice a6 x.af.length d6] 39 w g) (R : (ab.sl ab.int).Reads w [v] ids) :
  Calls Tryz.prog 132 #[v, .func (.func 69) #[] #[.pointer (some ⟨g, 0, none⟩)]] w fun e w' => ∃ i : Int, e = .returned (.int .i64 i) ∧ decide (0 ≤ i) = !(ids.all (cz x)) ∧ Below w.heap.size w w' := by
 have hbig := R.et
 obtain ⟨ao, cap, rfl⟩ := aI R
 have H := yh R
 have HX := yh h
 have HBX := yh hx
 clear h hx R
 go_enter Tryz.func132, Tryz.ntmps132
 go_wp2_with fail
 go_loopw [8] (fun i wr => ∃ k : Nat, k ≤ ids.length ∧ i = .int .i64 k ∧ (∀ j (hj : j < ids.length), j < k → cz x ids[j] = true) ∧ Below w.heap.size w wr) (fun i _ => ids.length - (intOf i).toNat)
 case atStart => exact ⟨0, Nat.zero_le _, rfl, fun j _ hj => by omega, Below.refl _ _⟩
 case round =>
  obtain ⟨k, hk, rfl, hz, hB⟩ := hrel
  by_cases hlt : k < ids.length
  ·
   obtain ⟨b, off, rfl, hbl⟩ := ab.aS (uh H) (by omega)
   have c1 := (hB.cell (p := ⟨b, off + k, none⟩) hbl).trans (eB (uh H) hlt)
   have hdl : decide ((k : Int) < (ids.length : Int)) = true := by simp; omega
   have HL := yh (rn a3 d3 a4 d4 a5 d5 a6 d6 x ids[k] g wr ((uh HX).later hB) ((uh HBX).ai hB))
   have HA : Hid (cz x ids[k] = false → (!(ids.all (cz x))) = true) := fun q => by
    have : ids.all (cz x) = false := by rw [List.all_eq_false]; exact ⟨ids[k], List.getElem_mem _, by rw [q]; simp⟩
    rw [this]; rfl
   have HN : Hid (cz x ids[k] = true → ∀ j (hj : j < ids.length), j < k + 1 → cz x ids[j] = true) := fun q j hj hjk => by
    by_cases h2 : j < k
    ·
     exact hz j hj h2
    obtain rfl : j = k := by omega
    exact q
   have HB := yh hB
   clear hz hB
   generalize hy : ids[k] = y at *
   clear hy
   go_wp2_with fail
   refine (uh HL).mono ?_
   rintro e w2 ⟨rfl, hb⟩
   replace HB := bZ HB hb
   clear hb HL c1
   cases hq : cz x y
   ·
    have HAA := yh (uh HA hq)
    clear HN HA hq
    go_wp2_with fail
    go_ret
    exact ⟨(k : Int), rfl, by rw [uh HAA]; simp, uh HB⟩
   have HNN := yh (uh HN hq)
   clear HN HA hq
   go_wp2_with fail
   go_roundw
   case rel => exact ⟨k + 1, by omega, by go_num, uh HNN, uh HB⟩
   case measure => simp [intOf]; omega
  obtain rfl : k = ids.length := by omega
  have hdl : decide ((ids.length : Int) < (ids.length : Int)) = false := by simp
  have HB := yh hB
  have HZ : Hid (ids.all (cz x) = true) := List.all_eq_true.2 fun y hy => by
   obtain ⟨j, hj, rfl⟩ := List.getElem_of_mem hy
   exact hz j hj hj
  clear hz hB
  go_wp2_with fail
  go_ret
  exact ⟨-1, rfl, by rw [uh HZ]; simp, uh HB⟩
theorem jK (a3 : Option Addr) (d3 : Nat) (a4 : Option Addr) (d4 : Nat) (a5 : Option Addr) (d5 : Nat) (a6 : Option Addr) (d6 : Nat) (x : ay) (v : Value) (ids : List Int) (g : Nat) (w : World) (h : ab.aF.Reads w [.int .i64 x.now, .int .i64 x.events, .int .i64 x.chain.ae, .slice a3 x.chain.ids.length d3, .slice a4 x.nodes.length d4, .slice a5 x.msgs.length d5, .slice a6 x.af.length d6] x) (hx : aA 0 #[.int .i64 x.now, .int .i64 x.events, .int .i64 x.chain.ae, .slice a3 x.chain.ids.length d3, .slice a4 x.nodes.length d4, .slice a5 x.msgs.length d5, .slice a6 x.af.length d6] 39 w g) (R : (ab.sl ab.int).Reads w [v] ids) :
  Calls Tryz.prog 71 #[v, .func (.func 69) #[] #[.pointer (some ⟨g, 0, none⟩)]] w fun e w' => e = .returned (.bool (!(ids.all (cz x)))) ∧ Below w.heap.size w w' := by
 have HL := yh (mX a3 d3 a4 d4 a5 d5 a6 d6 x v ids g w h hx R)
 obtain ⟨ao, cap, rfl⟩ := aI R
 clear h hx R
 go_enter Tryz.func71, Tryz.ntmps71
 go_wp2_with fail
 refine (uh HL).mono ?_
 rintro e w1 ⟨i, rfl, hi, hb⟩
 have HI := yh hi
 have HB := yh hb
 clear hb HL hi
 go_wp2_with fail
 go_ret
 exact ⟨by rw [← uh HI]; rfl, uh HB⟩
theorem vD (x : ay) : aW x = if (decide (0 ≤ x.now) && decide (x.now ≤ 9000)) = false ∨ (decide (0 ≤ x.events) && decide (x.events ≤ 9999)) = false then 3
  else if aX x.chain ≠ 0 then aX x.chain else if fb x.chain x.nodes ≠ 0 then fb x.chain x.nodes else if (!(x.chain.ids.all (cz x))) = true then 4
  else if bd x.msgs ≠ 0 then bd x.msgs else pI x.events x.af := by
 have e1 : (¬ (0 ≤ x.now ∧ x.now ≤ 9000) ∨ ¬ (0 ≤ x.events ∧ x.events ≤ 9999)) ↔ ((decide (0 ≤ x.now) && decide (x.now ≤ 9000)) = false ∨ (decide (0 ≤ x.events) && decide (x.events ≤ 9999)) = false) := by
  simp only [Bool.and_eq_false_iff, decide_eq_false_iff_not]
  omega
 unfold aW
 by_cases h1 : (decide (0 ≤ x.now) && decide (x.now ≤ 9000)) = false ∨ (decide (0 ≤ x.events) && decide (x.events ≤ 9999)) = false
 ·
  rw [if_pos (e1.2 h1), if_pos h1]
 rw [if_neg (fun q => h1 (e1.1 q)), if_neg h1]
 by_cases h2 : aX x.chain ≠ 0
 ·
  rw [if_pos h2, if_pos h2]
 rw [if_neg h2, if_neg h2]
 by_cases h3 : x.nodes.length < 1 ∨ 5 < x.nodes.length
 ·
  have hP : fb x.chain x.nodes = 2 := if_neg (by omega)
  rw [if_pos h3, hP, if_pos (show ((2 : Int) ≠ 0) by omega)]
 have hP : fb x.chain x.nodes = cE x.chain 0 x.nodes := if_pos (by omega)
 rw [if_neg h3, hP]
 unfold bN
 by_cases h4 : cE x.chain 0 x.nodes ≠ 0
 ·
  rw [if_pos h4, if_pos h4, if_pos h4]
 rw [if_neg h4, if_neg h4]
 cases h5 : x.chain.ids.all (cz x)
 ·
  simp
 simp only [if_true, Bool.not_true, ne_eq, not_true_eq_false, if_false]
 by_cases h6 : bd x.msgs ≠ 0
 ·
  rw [if_pos h6, if_pos h6]; simp
 rw [if_neg h6, if_neg h6]
 rfl
theorem pU (x : ay) : 0 ≤ aW x ∧ aW x ≤ 10 := fR x (fT _)
theorem jQ (cs : List Value) (x : ay) (w : World) (h : ab.aF.Reads w cs x) :
  Calls Tryz.prog 24 #[.agg cs.toArray] w fun e w' => e = .returned (.int .i64 (aW x)) ∧ Below w.heap.size w w' := by
 obtain ⟨a3, d3, a4, d4, a5, d5, a6, d6, rfl, RC, RN, RM, RE⟩ := aK h
 have nb : Below w.heap.size w (w.alloc (.cells #[.int .i64 x.now, .int .i64 x.events, .int .i64 x.chain.ae, .slice a3 x.chain.ids.length d3, .slice a4 x.nodes.length d4, .slice a5 x.msgs.length d5, .slice a6 x.af.length d6] 39)) := (Below.refl _ _).alloc (Nat.le_refl _) _
 have HX : Hid (aA 0 #[.int .i64 x.now, .int .i64 x.events, .int .i64 x.chain.ae, .slice a3 x.chain.ids.length d3, .slice a4 x.nodes.length d4, .slice a5 x.msgs.length d5, .slice a6 x.af.length d6] 39 (w.alloc (.cells #[.int .i64 x.now, .int .i64 x.events, .int .i64 x.chain.ae, .slice a3 x.chain.ids.length d3, .slice a4 x.nodes.length d4, .slice a5 x.msgs.length d5, .slice a6 x.af.length d6] 39)) w.heap.size) := aD (Nat.zero_le _)
 have HR := yh (h.later nb)
 have HP := yh (vD x)
 have HB := yh nb
 have hmf : ∀ (fn : Fn) (first cap : Array Value) (w : World), (Instr.makeFunc fn first cap).run Tryz.prog w = .ok (.func fn first cap) w := fun _ _ _ _ => rfl
 clear nb h RC RN RM RE
 generalize aW x = r at *
 go_enter Tryz.func24, Tryz.ntmps24
 go_upto_region 1 with fail
 generalize w.alloc (.cells #[.int .i64 x.now, .int .i64 x.events, .int .i64 x.chain.ae, .slice a3 x.chain.ids.length d3, .slice a4 x.nodes.length d4, .slice a5 x.msgs.length d5, .slice a6 x.af.length d6] 39) = w1 at *
 obtain ⟨z0, z1, z2, z3, z4, z5, z6⟩ := aZ7 (uh HX)
 go_wp2_with fail
 refine (eN x.now 9000 w1).mono ?_
 rintro e w2 ⟨rfl, h2⟩
 subst w2
 cases d1 : (decide (0 ≤ x.now) && decide (x.now ≤ 9000))
 ·
  replace HP := yh ((uh HP).trans (if_pos (Or.inl d1)))
  clear d1
  go_wp2_with fail
  go_ret
  exact ⟨by rw [uh HP]; rfl, uh HB⟩
 go_wp2_with fail
 refine (eN x.events 9999 w1).mono ?_
 rintro e w2 ⟨rfl, h2⟩
 subst w2
 cases d2 : (decide (0 ≤ x.events) && decide (x.events ≤ 9999))
 ·
  replace HP := yh ((uh HP).trans (if_pos (Or.inr d2)))
  clear d1 d2
  go_wp2_with fail
  go_ret
  exact ⟨by rw [uh HP]; rfl, uh HB⟩
 replace HP := yh ((uh HP).trans (if_neg (by rw [d1, d2]; simp)))
 clear d1 d2
 go_wp2_with fail
 obtain ⟨_, _, _, _, _, _, _, _, hq, RC, -, -, -⟩ := aK (uh HR)
 simp only [List.cons.injEq, Value.slice.injEq, and_true, true_and] at hq
 obtain ⟨⟨rfl, rfl⟩, ⟨rfl, rfl⟩, ⟨rfl, rfl⟩, rfl, rfl⟩ := hq
 refine (ki _ x.chain w1 RC).mono ?_
 rintro e w2 ⟨rfl, hb⟩
 clear RC z0 z1 z2 z3 z4 z5 z6
 replace HX := yh ((uh HX).ai hb)
 replace HR := yh ((uh HR).later hb)
 replace HB := bZ HB hb
 clear hb
 obtain ⟨z0, z1, z2, z3, z4, z5, z6⟩ := aZ7 (uh HX)
 by_cases d3 : aX x.chain ≠ 0
 ·
  have hd : (aX x.chain != 0) = true := by simpa using d3
  replace HP := yh ((uh HP).trans (if_pos d3))
  clear d3
  generalize aX x.chain = c at *
  go_wp2_with fail
  go_ret
  exact ⟨by rw [uh HP]; rfl, uh HB⟩
 replace HP := yh ((uh HP).trans (if_neg d3))
 have hd : aX x.chain = 0 := by simpa using d3
 clear d3
 rw [hd]
 clear hd
 go_wp2_with fail
 obtain ⟨_, _, _, _, _, _, _, _, hq, RC, RN, -, -⟩ := aK (uh HR)
 simp only [List.cons.injEq, Value.slice.injEq, and_true, true_and] at hq
 obtain ⟨⟨rfl, rfl⟩, ⟨rfl, rfl⟩, ⟨rfl, rfl⟩, rfl, rfl⟩ := hq
 refine (nf _ x.chain _ x.nodes w2 RC RN).mono ?_
 rintro e w3 ⟨rfl, hb⟩
 clear RC RN z0 z1 z2 z3 z4 z5 z6
 replace HX := yh ((uh HX).ai hb)
 replace HR := yh ((uh HR).later hb)
 replace HB := bZ HB hb
 clear hb
 obtain ⟨z0, z1, z2, z3, z4, z5, z6⟩ := aZ7 (uh HX)
 by_cases d3 : fb x.chain x.nodes ≠ 0
 ·
  have hd : (fb x.chain x.nodes != 0) = true := by simpa using d3
  replace HP := yh ((uh HP).trans (if_pos d3))
  clear d3
  generalize fb x.chain x.nodes = c at *
  go_wp2_with fail
  go_ret
  exact ⟨by rw [uh HP]; rfl, uh HB⟩
 replace HP := yh ((uh HP).trans (if_neg d3))
 have hd : fb x.chain x.nodes = 0 := by simpa using d3
 clear d3
 rw [hd]
 clear hd
 go_wp2_with fail
 obtain ⟨_, _, _, _, _, _, _, _, hq, RC, -, -, -⟩ := aK (uh HR)
 simp only [List.cons.injEq, Value.slice.injEq, and_true, true_and] at hq
 obtain ⟨⟨rfl, rfl⟩, ⟨rfl, rfl⟩, ⟨rfl, rfl⟩, rfl, rfl⟩ := hq
 obtain ⟨_, _, hq, RI⟩ := cb RC
 simp only [List.cons.injEq, Value.slice.injEq, and_true, true_and] at hq
 obtain ⟨rfl, rfl⟩ := hq
 refine (jK a3 d3 a4 d4 a5 d5 a6 d6 x _ x.chain.ids w.heap.size w3 (uh HR) (uh HX) RI).mono ?_
 rintro e w4 ⟨rfl, hb⟩
 clear RC RI z0 z1 z2 z3 z4 z5 z6
 replace HX := yh ((uh HX).ai hb)
 replace HR := yh ((uh HR).later hb)
 replace HB := bZ HB hb
 clear hb
 obtain ⟨z0, z1, z2, z3, z4, z5, z6⟩ := aZ7 (uh HX)
 cases d3 : x.chain.ids.all (cz x)
 ·
  replace HP := yh ((uh HP).trans (if_pos (by rw [d3]; rfl)))
  clear d3
  go_wp2_with fail
  go_ret
  exact ⟨by rw [uh HP]; rfl, uh HB⟩
 replace HP := yh ((uh HP).trans (if_neg (by rw [d3]; simp)))
 clear d3
 go_wp2_with fail
 obtain ⟨_, _, _, _, _, _, _, _, hq, -, -, RM, -⟩ := aK (uh HR)
 simp only [List.cons.injEq, Value.slice.injEq, and_true, true_and] at hq
 obtain ⟨⟨rfl, rfl⟩, ⟨rfl, rfl⟩, ⟨rfl, rfl⟩, rfl, rfl⟩ := hq
 refine (ml _ x.msgs w4 RM).mono ?_
 rintro e w5 ⟨rfl, hb⟩
 clear RM z0 z1 z2 z3 z4 z5 z6
 replace HX := yh ((uh HX).ai hb)
 replace HR := yh ((uh HR).later hb)
 replace HB := bZ HB hb
 clear hb
 obtain ⟨z0, z1, z2, z3, z4, z5, z6⟩ := aZ7 (uh HX)
 by_cases d3 : bd x.msgs ≠ 0
 ·
  have hd : (bd x.msgs != 0) = true := by simpa using d3
  replace HP := yh ((uh HP).trans (if_pos d3))
  clear d3
  generalize bd x.msgs = c at *
  go_wp2_with fail
  go_ret
  exact ⟨by rw [uh HP]; rfl, uh HB⟩
 replace HP := yh ((uh HP).trans (if_neg d3))
 have hd : bd x.msgs = 0 := by simpa using d3
 clear d3
 rw [hd]
 clear hd
 go_wp2_with fail
 obtain ⟨_, _, _, _, _, _, _, _, hq, -, -, -, RE⟩ := aK (uh HR)
 simp only [List.cons.injEq, Value.slice.injEq, and_true, true_and] at hq
 obtain ⟨⟨rfl, rfl⟩, ⟨rfl, rfl⟩, ⟨rfl, rfl⟩, rfl, rfl⟩ := hq
 refine (kI _ x.af x.events w5 RE).mono ?_
 rintro e w6 ⟨rfl, hb⟩
 replace HB := bZ HB hb
 clear RE hb z0 z1 z2 z3 z4 z5 z6
 go_wp2_with fail
 go_ret
 exact ⟨by rw [uh HP]; rfl, uh HB⟩
theorem ue (ad : Addr) (cap : Nat) (zs : List Int) (w : World) (h : cf w (.slice (some ad) zs.length cap) zs) (hn : zs.length ≤ 100000000) :
  Calls Tryz.prog 197 #[.slice (some ad) zs.length cap] w fun e w' => ∃ v', e = .returned v' ∧ w'.ownsRow w.heap.size 2 1 v' zs.length (zs.map (Value.int .i64)) ∧ Below w.heap.size w w' := by
 have nb : Below w.heap.size w (w.alloc (.cells #[] 2)) := (Below.refl _ _).alloc (Nat.le_refl _) _
 have O : (w.alloc (.cells #[] 2)).ownsRow w.heap.size 2 1 (.slice (some ⟨w.heap.size, 0, none⟩) 0 0) 0 [] := World.ownsRow_lit w _ 0 (Nat.le_refl _) (by unfold maxLen; omega) rfl
 have h1 := h.later nb
 have HB := yh nb
 have hnil : ∀ w : World, (binOp .eql 22 (.slice (some ad) zs.length cap) (.slice none 0 0)).run Tryz.prog w = .ok (.bool false) w := fun _ => by kernel_rfl
 clear nb h
 go_enter Tryz.func197, Tryz.ntmps197
 go_wp2_with (at_builtin; refine eV O h1 rfl _ _ rfl rfl rfl (by omega) (by simp) ?_)
 rintro v' w' O2 - hb
 have HB2 := yh ((uh HB).trans hb)
 clear O h1 hb HB
 go_wp2_with fail
 go_ret
 exact ⟨v', rfl, by simpa using O2, uh HB2⟩
theorem qy (d : Nat) (w : World) : Calls Tryz.prog 197 #[.slice none 0 d] w fun e w' => e = .returned (.slice none 0 0) ∧ Below w.heap.size w w' := by
 have hnil : ∀ w : World, (binOp .eql 22 (.slice none 0 d) (.slice none 0 0)).run Tryz.prog w = .ok (.bool true) w := fun _ => by kernel_rfl
 have HB : Hid (∀ o, Below w.heap.size w (w.alloc o)) := fun o => (Below.refl _ _).alloc (Nat.le_refl _) o
 go_enter Tryz.func197, Tryz.ntmps197
 go_wp2_with fail
 go_ret
 exact ⟨rfl, Below.refl _ _⟩
theorem kq (v : Value) (zs : List Int) (w : World) (h : (ab.sl ab.int).Reads w [v] zs) (hn : zs.length ≤ 10000000) :
  Calls Tryz.prog 197 #[v] w fun e w' => ∃ a n c, e = .returned (.slice a n c) ∧ ((ab.sl ab.int).aN w' [.slice a n c] zs w.heap.size w'.heap.size ∧ n = zs.length) ∧ Below w.heap.size w w' := by
 obtain ⟨ao, cap, rfl⟩ := aI h
 cases ao with
 | none =>
  have h0 : zs = [] := by
   by_cases hp : 0 < zs.length
   ·
    obtain ⟨b, off, e, -⟩ := ab.aS h hp
    cases e
   exact List.eq_nil_of_length_eq_zero (by omega)
  subst h0
  refine (qy cap w).mono ?_
  rintro e w' ⟨rfl, hb⟩
  exact ⟨none, 0, 0, rfl, ⟨fO, rfl⟩, hb⟩
 | some ad =>
  refine (ue ad cap zs w (ab.bc h) (by omega)).mono ?_
  rintro e w' ⟨v', rfl, O, hb⟩
  have hO := ab.eM (ab.bc h).wf (by omega) O
  obtain ⟨a3, c3, rfl⟩ := aI hO.reads
  exact ⟨a3, _, c3, rfl, ⟨hO, rfl⟩, hb⟩
theorem pg : (Tryz.prog.info? 44).map (fun i => (i.zero, i.size, decide (i.bytes ≤ 1000))) = some (some (.agg #[.int .i64 0, .int .i64 0, .slice none 0 0, .int .i64 0, .int .i64 0]), 5, true) := by kernel_rfl
theorem ot {w : World} {x : aj} {v : Value} {lo hi : Nat} (h : (ab.sl ab.int).aN w [v] x.vec lo hi) (v0 : (Lit.int .i64 x.kind).wf = true) (v1 : (Lit.int .i64 x.id).wf = true) (v3 : (Lit.int .i64 x.aa).wf = true) (v4 : (Lit.int .i64 x.seq).wf = true) : ab.ag.aN w [.int .i64 x.kind, .int .i64 x.id, v, .int .i64 x.aa, .int .i64 x.seq] x lo hi := by
 obtain ⟨bl, O, i⟩ := h
 exact ⟨bl, dD O v0 v1 v3 v4 O.2.1, i⟩
theorem pw (v : Value) (xs : List aj) (w : World) (h : (ab.sl ab.ag).Reads w [v] xs) (hlen : xs.length ≤ 1000000) (hv : ∀ x ∈ xs, x.vec.length ≤ 10000000) :
  Calls Tryz.prog 219 #[v] w fun e w' => ∃ (g : Nat), e = .returned (.slice (some ⟨g, 0, none⟩) xs.length xs.length) ∧ (ab.sl ab.ag).aN w' [.slice (some ⟨g, 0, none⟩) xs.length xs.length] xs w.heap.size w'.heap.size ∧ Below w.heap.size w w' := by
 have hbig := h.et
 obtain ⟨ao, cap, rfl⟩ := aI h
 obtain ⟨i0, hi, hz0, hz1, hz2⟩ : ∃ i, Tryz.prog.info? 44 = some i ∧ i.zero = some (.agg #[.int .i64 0, .int .i64 0, .slice none 0 0, .int .i64 0, .int .i64 0]) ∧ i.size = 5 ∧ i.bytes ≤ 1000 := by
  have := pg
  cases hq : Tryz.prog.info? 44 with
  | none => rw [hq] at this; simp at this
  | some i =>
   rw [hq] at this
   simp only [Option.map_some, Option.some.injEq, Prod.mk.injEq, decide_eq_true_eq] at this
   exact ⟨i, rfl, this.1, this.2.1, this.2.2⟩
 have H := yh h
 have HN := yh hv
 clear h hv
 go_enter Tryz.func219, Tryz.ntmps219
 go_wp2_with (at_make; refine wpList_make_full _ rfl _ _ 61 rfl w.heap.size 44 i0 _ 5 Tryz.underlying61 hi hz0 hz1 _ _ _ _ xs.length rfl rfl rfl rfl ?c1 ?c2 ?c3 ?_)
 case c1 => have := Nat.mul_le_mul hz2 hlen; omega
 case c2 => unfold maxLen; omega
 case c3 => exact Nat.le_refl _
 intro w1 hown1 hgrow1
 have hB1 : Below w.heap.size w w1 := (Below.refl _ _).grown hgrow1 (Nat.le_refl _) (by simp)
 clear hgrow1 hi hz0 hz1 hz2
 have HO1 := yh hown1
 have HB1 := yh hB1
 clear hown1 hB1
 go_wp2_with fail
 go_loopw [11] (fun i wr => ∃ (k : Nat) (rows : List (List Value)) (Q : List Value) (hi : Nat), k ≤ xs.length ∧ i = .int .i64 k ∧ wr.ownsRow w.heap.size 44 5 (.slice (some ⟨w.heap.size, 0, none⟩) xs.length xs.length) xs.length (rows.flatten ++ Q) ∧ Q.length = (xs.length - k) * 5 ∧ ab.gj ab.ag wr rows (xs.take k) (w.heap.size + 1) hi ∧ hi ≤ wr.heap.size ∧ w.heap.size < hi ∧ Below w.heap.size w wr) (fun i _ => xs.length - (intOf i).toNat)
 case atStart =>
  have hl := ((uh HO1).lt w.heap.size rfl).2
  exact ⟨0, [], _, w1.heap.size, Nat.zero_le _, rfl, by simpa using uh HO1, by have := (uh HO1).1; simpa using this, ab.ek, Nat.le_refl _, hl, uh HB1⟩
 case round =>
  obtain ⟨k, rows, Q, hi, hk, rfl, hown, hQ, hsub, hhi, hlo, hB⟩ := hrel
  clear HO1 HB1
  by_cases hlt : k < xs.length
  ·
   obtain ⟨b, off, rfl, hbl⟩ := ab.aS (uh H) (by omega)
   obtain ⟨row, hc, hr⟩ := ab.bE (uh H) hlt
   replace hr := hr.later hB
   have hr2 := hr
   obtain ⟨a2, d2, rfl, R2⟩ := aM hr2
   obtain ⟨v0, v1, v3, v4⟩ : (Lit.int .i64 (xs[k]).kind).wf = true ∧ (Lit.int .i64 (xs[k]).id).wf = true ∧ (Lit.int .i64 (xs[k]).aa).wf = true ∧ (Lit.int .i64 (xs[k]).seq).wf = true := by
    obtain ⟨bl9, hl9⟩ := hr
    obtain ⟨a9, d9, b9, -, -, f0, f1, -, f3, f4⟩ := ch.1 hl9
    exact ⟨f0, f1, f3, f4⟩
   have c0 : wr.cell? ⟨b, off + k * 5, none⟩ = some (.int .i64 (xs[k]).kind) := (hB.cell (p := ⟨b, off + k * 5, none⟩) hbl).trans (hc 0 (by decide))
   have c1 : wr.cell? ⟨b, off + k * 5 + 1, none⟩ = some (.int .i64 (xs[k]).id) := (hB.cell (p := ⟨b, off + k * 5 + 1, none⟩) hbl).trans (hc 1 (by decide))
   have c2 : wr.cell? ⟨b, off + k * 5 + 2, none⟩ = some (.slice a2 (xs[k]).vec.length d2) := (hB.cell (p := ⟨b, off + k * 5 + 2, none⟩) hbl).trans (hc 2 (by decide))
   have c3' : wr.cell? ⟨b, off + k * 5 + 3, none⟩ = some (.int .i64 (xs[k]).aa) := (hB.cell (p := ⟨b, off + k * 5 + 3, none⟩) hbl).trans (hc 3 (by decide))
   have c4 : wr.cell? ⟨b, off + k * 5 + 4, none⟩ = some (.int .i64 (xs[k]).seq) := (hB.cell (p := ⟨b, off + k * 5 + 4, none⟩) hbl).trans (hc 4 (by decide))
   have hrl : rows.flatten.length = k * 5 := by have := (ab.eh hsub).1; rw [List.length_take, Nat.min_eq_left hk] at this; exact this
   have hvl := uh HN xs[k] (List.getElem_mem hlt)
   have HT : Hid (xs.take (k + 1) = xs.take k ++ [xs[k]]) := List.take_succ_eq_append_getElem hlt
   have HB := yh hB
   have HO := yh hown
   have HS := yh hsub
   have HQ := yh hQ
   have HV := yh (And.intro v0 (And.intro v1 (And.intro v3 v4)))
   clear hB hr hc hown hsub hQ v0 v1 v3 v4
   generalize hxk : xs[k] = x at *
   clear hxk
   have hbr : b < wr.heap.size := Nat.lt_of_lt_of_le hbl (uh HB).size
   have nb : Below wr.heap.size wr (wr.alloc (.cells #[.int .i64 x.kind, .int .i64 x.id, .slice a2 x.vec.length d2, .int .i64 x.aa, .int .i64 x.seq] 44)) := (Below.refl _ _).alloc (Nat.le_refl _) _
   have bT : aA wr.heap.size #[.int .i64 x.kind, .int .i64 x.id, .slice a2 x.vec.length d2, .int .i64 x.aa, .int .i64 x.seq] 44 (wr.alloc (.cells #[.int .i64 x.kind, .int .i64 x.id, .slice a2 x.vec.length d2, .int .i64 x.aa, .int .i64 x.seq] 44)) wr.heap.size := aD (Nat.le_refl _)
   have HL := yh (kq _ x.vec _ (R2.later nb) hvl)
   have HNB := yh nb
   have HBT := yh bT
   clear R2 nb bT
   go_wp2_with fail
   clear c0 c1 c2 c3' c4
   refine (uh HL).mono ?_
   generalize hW0 : wr.alloc (.cells #[.int .i64 x.kind, .int .i64 x.id, .slice a2 x.vec.length d2, .int .i64 x.aa, .int .i64 x.seq] 44) = W0 at *
   have hz0 : W0.heap.size = wr.heap.size + 1 := by rw [← hW0]; simp
   clear hW0
   rintro e w2 ⟨a3, n3, c3, rfl, ⟨O, hn3⟩, hb⟩
   subst hn3
   have hbt := (uh HBT).ai hb
   have y0 := hbt.at 0 _ rfl
   have y1 := hbt.at 1 _ rfl
   have y2 := hbt.at 2 _ rfl
   have y3 := hbt.at 3 _ rfl
   have y4 := hbt.at 4 _ rfl
   have yf := hbt.soft
   have yl := hbt.lt
   simp only [ga, gb, gc] at y0 y1 y2 y3 y4
   have hnb2 := (uh HNB).trans (hb.mono (uh HNB).size)
   have hz2 : W0.heap.size ≤ w2.heap.size := hb.size
   have e3 : Ext (fun q => q = wr.heap.size) w2 (w2.setCell ⟨wr.heap.size, 2, none⟩ (.slice a3 x.vec.length c3)) := (Ext.refl (fun q => q = wr.heap.size) _).setCell ⟨wr.heap.size, 2, none⟩ _ rfl
   have hb3 : Below wr.heap.size wr (w2.setCell ⟨wr.heap.size, 2, none⟩ (.slice a3 x.vec.length c3)) := hnb2.setCell (by simp) _
   have o2 := de (uh HO) hb3
   have o1 := de (uh HO) hnb2
   have ow : ab.ag.aN (w2.setCell ⟨wr.heap.size, 2, none⟩ (.slice a3 x.vec.length c3)) [.int .i64 x.kind, .int .i64 x.id, .slice a3 x.vec.length c3, .int .i64 x.aa, .int .i64 x.seq] x W0.heap.size w2.heap.size := ot (O.ext e3 (fun q h1 h2 h3 => by omega)) (uh HV).1 (uh HV).2.1 (uh HV).2.2.1 (uh HV).2.2.2
   replace HS := yh (ab.dK (ab.cC (uh HS) (az hb3 dz) (fun _ _ _ h => h)) ow (by omega) (by omega) (by omega))
   have hb2 := (uh HB).trans (hb3.mono (uh HB).size)
   have hz3 : (w2.setCell ⟨wr.heap.size, 2, none⟩ (.slice a3 x.vec.length c3)).heap.size = w2.heap.size := by simp
   have hxw : w.heap.size < wr.heap.size := by omega
   clear hb HB HO O HV HNB HBT HL hnb2 e3 hb3 ow hbt
   have hQ := uh HQ
   have hl5 : (rows.flatten ++ Q).length = xs.length * 5 := o2.1
   obtain ⟨u0, g0⟩ : ∃ u, w2.cell? ⟨w.heap.size, k * 5, none⟩ = some u := by
    rw [o1.cellAt (k * 5) (by omega)]
    exact gZ (by omega)
   have t0 := o1.frozenAt (k * 5)
   obtain ⟨u1, g1⟩ : ∃ u, w2.cell? ⟨w.heap.size, k * 5 + 1, none⟩ = some u := by
    rw [o1.cellAt (k * 5 + 1) (by omega)]
    exact gZ (by omega)
   have t1 := o1.frozenAt (k * 5 + 1)
   obtain ⟨u2, g2⟩ : ∃ u, w2.cell? ⟨w.heap.size, k * 5 + 2, none⟩ = some u := by
    rw [o1.cellAt (k * 5 + 2) (by omega)]
    exact gZ (by omega)
   have t2 := o1.frozenAt (k * 5 + 2)
   obtain ⟨u3, g3⟩ : ∃ u, w2.cell? ⟨w.heap.size, k * 5 + 3, none⟩ = some u := by
    rw [o1.cellAt (k * 5 + 3) (by omega)]
    exact gZ (by omega)
   have t3 := o1.frozenAt (k * 5 + 3)
   obtain ⟨u4, g4⟩ : ∃ u, w2.cell? ⟨w.heap.size, k * 5 + 4, none⟩ = some u := by
    rw [o1.cellAt (k * 5 + 4) (by omega)]
    exact gZ (by omega)
   have t4 := o1.frozenAt (k * 5 + 4)
   have o3 := di o2 (k * 5) [.int .i64 x.kind, .int .i64 x.id, .slice a3 x.vec.length c3, .int .i64 x.aa, .int .i64 x.seq]
   rw [show k * 5 = rows.flatten.length from hrl.symm, cY _ _ _ (by rw [hQ]; simp; have : 1 * 5 ≤ (xs.length - k) * 5 := Nat.mul_le_mul_right _ (by omega); omega), hrl] at o3
   have E : Ext (fun q => q = w.heap.size) (w2.setCell ⟨wr.heap.size, 2, none⟩ (.slice a3 x.vec.length c3)) (aG (w2.setCell ⟨wr.heap.size, 2, none⟩ (.slice a3 x.vec.length c3)) w.heap.size (k * 5) [.int .i64 x.kind, .int .i64 x.id, .slice a3 x.vec.length c3, .int .i64 x.aa, .int .i64 x.seq]) := bb _ (Ext.refl _ _) _ _ _ rfl
   replace HS := yh (ab.cC (uh HS) E (fun q h1 h2 h3 => by omega))
   have HB := yh (aB hb2 w.heap.size (k * 5) [.int .i64 x.kind, .int .i64 x.id, .slice a3 x.vec.length c3, .int .i64 x.aa, .int .i64 x.seq] (Nat.le_refl _))
   have HZ : Hid ((aG (w2.setCell ⟨wr.heap.size, 2, none⟩ (.slice a3 x.vec.length c3)) w.heap.size (k * 5) [.int .i64 x.kind, .int .i64 x.id, .slice a3 x.vec.length c3, .int .i64 x.aa, .int .i64 x.seq]).heap.size = w2.heap.size) := (bL _ _ _ _).trans hz3
   have HO : Hid ((aG (w2.setCell ⟨wr.heap.size, 2, none⟩ (.slice a3 x.vec.length c3)) w.heap.size (k * 5) [.int .i64 x.kind, .int .i64 x.id, .slice a3 x.vec.length c3, .int .i64 x.aa, .int .i64 x.seq]).ownsRow w.heap.size 44 5 (.slice (some ⟨w.heap.size, 0, none⟩) xs.length xs.length) xs.length ((rows ++ [([.int .i64 x.kind, .int .i64 x.id, .slice a3 x.vec.length c3, .int .i64 x.aa, .int .i64 x.seq] : List Value)]).flatten ++ Q.drop 5)) := by
    show (aG (w2.setCell ⟨wr.heap.size, 2, none⟩ (.slice a3 x.vec.length c3)) w.heap.size (k * 5) [.int .i64 x.kind, .int .i64 x.id, .slice a3 x.vec.length c3, .int .i64 x.aa, .int .i64 x.seq]).ownsRow w.heap.size 44 5 (.slice (some ⟨w.heap.size, 0, none⟩) xs.length xs.length) xs.length ((rows ++ [([.int .i64 x.kind, .int .i64 x.id, .slice a3 x.vec.length c3, .int .i64 x.aa, .int .i64 x.seq] : List Value)]).flatten ++ Q.drop 5)
    rw [List.flatten_append]
    simpa using o3
   have hl2 := (o1.lt w.heap.size rfl).2
   clear o3 o2 o1 E hb2 hl5
   have hQ2 : Hid ((Q.drop 5).length = (xs.length - (k + 1)) * 5) := by
    show (Q.drop 5).length = (xs.length - (k + 1)) * 5
    rw [List.length_drop, hQ, show xs.length - k = xs.length - (k + 1) + 1 by omega, Nat.add_mul]
    omega
   have HW2 : Hid (w.heap.size < w2.heap.size) := hl2
   clear hQ HQ hz3 hz2 hz0
   go_wp2_with fail
   go_roundw
   case rel => exact ⟨k + 1, rows ++ [([.int .i64 x.kind, .int .i64 x.id, .slice a3 x.vec.length c3, .int .i64 x.aa, .int .i64 x.seq] : List Value)], Q.drop 5, w2.heap.size, by omega, by go_num, uh HO, uh hQ2, (by rw [uh HT]; exact uh HS), Nat.le_of_eq (uh HZ).symm, uh HW2, uh HB⟩
   case measure => simp [intOf]; omega
  obtain rfl : k = xs.length := by omega
  have e0 : Q = [] := List.eq_nil_of_length_eq_zero (by rw [hQ]; simp)
  subst e0
  rw [List.append_nil] at hown
  rw [List.take_length] at hsub
  have HO := yh (ab.dJ (A := ab.ag) hown hsub (by omega) hhi hbig)
  have HB := yh hB
  clear hown hsub hB
  go_wp2_with fail
  go_ret
  exact ⟨_, rfl, uh HO, uh HB⟩
end Go.Proofs.YtomphbenbnnfgaaGreatDoor
