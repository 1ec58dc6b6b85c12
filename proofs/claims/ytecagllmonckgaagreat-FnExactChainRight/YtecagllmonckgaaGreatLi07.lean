/-
  Texts of this proof in one: ImplStory, ImplOnce, ImplWrF, ImplNodeF, ImplWN, ImplWNs, ImplWH, ImplMust, AppInts, ImplInts, ImplSameW.
  Their conditions stand in their theorems.
-/
import Derived.Test.YtecagllmonckgaaGreatLi06
import Derived.Carry
import Derived.Test.YtecagllmonckgaaGreatLi00
import Derived.Deep.RegionHeld3
import Derived.Test.YtecagllmonckgaaGreatLi05
import Derived.Deep.CutRange
import Derived.WalkMore
import Derived.Test.YtecagllmonckgaaGreatChecked
import Derived.Test.YtecagllmonckgaaGreatLi01
import Derived.WalkKit
import Derived.WalkLawsBesides
import Derived.Maps.AppendAt
import Derived.BigQuiet
import Derived.Deep.QuietTactic
import Derived.WalkSmall
set_option maxRecDepth 100000
set_option maxHeartbeats 4000000
namespace Go.Proofs.YtecagllmonckgaaGreat
open Go.RowKit
def jW (w w' : World) (e : Ending) (ws : List ak) : Prop := ∃ r, e = .returned (.tuple #[r, .int .i64 (aV ws)]) ∧ (aV ws = 0 → r = .pointer (some ⟨w.heap.size + 1, 0, none⟩) ∧ ∃ v rows bls, Told w' (w.heap.size + 1) w.heap.size w'.heap.size ws v rows bls) ∧ (aV ws ≠ 0 → r = .pointer none) ∧ Below w.heap.size w w'
theorem eU (w : World) : Told ((w.alloc (.map #[] 0)).alloc (.cells #[.slice none 0 0, .map (some w.heap.size), .int .i64 0, .int .i64 0, .int .i64 0, .int .i64 0, .int .i64 0, .int .i64 0, .int .i64 0, .int .i64 0, .int .i64 0, .int .i64 0] 237)) (w.heap.size + 1) w.heap.size ((w.alloc (.map #[] 0)).alloc (.cells #[.slice none 0 0, .map (some w.heap.size), .int .i64 0, .int .i64 0, .int .i64 0, .int .i64 0, .int .i64 0, .int .i64 0, .int .i64 0, .int .i64 0, .int .i64 0, .int .i64 0] 237)).heap.size [] (.slice none 0 0) [] [] := kk w
theorem jn (b off cap : Nat) (ws : List ak) (w : World) (h : (ad.sl ad.ag).Reads w [.slice (some ⟨b, off, none⟩) ws.length cap] ws) (hbl : b < w.heap.size) (hn : ws.length ≤ 200) :
  Calls Tryz.prog 215 #[.slice (some ⟨b, off, none⟩) ws.length cap] w fun e w' => jW w w' e ws := by
 have HW : Hid (aV ws = bw ws) := by show aV ws = bw ws; rw [aV, if_neg (by omega)]
 have H := yh h
 clear h
 have HT0 := yh (eU w)
 have HB0 := yh (((Below.refl w.heap.size w).alloc (Nat.le_refl _) (.map #[] 0)).alloc (by simp) (.cells #[.slice none 0 0, .map (some w.heap.size), .int .i64 0, .int .i64 0, .int .i64 0, .int .i64 0, .int .i64 0, .int .i64 0, .int .i64 0, .int .i64 0, .int .i64 0, .int .i64 0] 237))
 have hmk := @run_makeMap Tryz.prog
 go_enter Tryz.func215, Tryz.ntmps215
 go_wp2_with fail
 clear hmk
 generalize (w.alloc (.map #[] 0)).alloc (.cells #[.slice none 0 0, .map (some w.heap.size), .int .i64 0, .int .i64 0, .int .i64 0, .int .i64 0, .int .i64 0, .int .i64 0, .int .i64 0, .int .i64 0, .int .i64 0, .int .i64 0] 237) = W1 at *
 go_loopw [17] (fun i wr => ∃ k : Nat, k ≤ ws.length ∧ i = .int .i64 k ∧ (∀ j (hj : j < ws.length), j < k → wF ws[j] = 0) ∧ (∃ v rows bls, Told wr (w.heap.size + 1) w.heap.size wr.heap.size (ws.take k) v rows bls) ∧ Below w.heap.size w wr) (fun i _ => ws.length - (intOf i).toNat)
 case atStart => exact ⟨0, Nat.zero_le _, rfl, fun j _ hj => by omega, ⟨_, _, _, uh HT0⟩, uh HB0⟩
 case round =>
  obtain ⟨k, hk, rfl, hz, ⟨v, rows, bls, hT⟩, hB⟩ := hrel
  clear HT0 HB0
  by_cases hlt : k < ws.length
  ·
   obtain ⟨row, hc, hr⟩ := ad.aR (uh H) hlt
   replace hr := hr.af hB
   obtain ⟨a2, d2, rfl, R2⟩ := aI hr
   have c0 : wr.cell? ⟨b, off + k * 5, none⟩ = some (.int .i64 (ws[k]).kind) := (hB.cell (p := ⟨b, off + k * 5, none⟩) hbl).trans (hc 0 (by decide))
   have c1 : wr.cell? ⟨b, off + k * 5 + 1, none⟩ = some (.int .i64 (ws[k]).id) := (hB.cell (p := ⟨b, off + k * 5 + 1, none⟩) hbl).trans (hc 1 (by decide))
   have c2 : wr.cell? ⟨b, off + k * 5 + 2, none⟩ = some (.slice a2 (ws[k]).vec.length d2) := (hB.cell (p := ⟨b, off + k * 5 + 2, none⟩) hbl).trans (hc 2 (by decide))
   have c3 : wr.cell? ⟨b, off + k * 5 + 3, none⟩ = some (.int .i64 (ws[k]).aa) := (hB.cell (p := ⟨b, off + k * 5 + 3, none⟩) hbl).trans (hc 3 (by decide))
   have c4 : wr.cell? ⟨b, off + k * 5 + 4, none⟩ = some (.int .i64 (ws[k]).seq) := (hB.cell (p := ⟨b, off + k * 5 + 4, none⟩) hbl).trans (hc 4 (by decide))
   have HZ := yh hz
   have HST : Hid (ws.take (k + 1) = ws.take k ++ [ws[k]]) := List.take_succ_eq_append_getElem hlt
   have HAT : Hid (wF ws[k] ≠ 0 → aV ws = wF ws[k]) := fun hn => (uh HW).trans (ea ws k hlt hz hn)
   have HZ2 : Hid (wF ws[k] = 0 → ∀ j (hj : j < ws.length), j < k + 1 → wF ws[j] = 0) := by
    intro h0 j hj hjk
    by_cases hjk2 : j < k
    ·
     exact uh HZ j hj hjk2
    obtain rfl : j = k := by omega
    exact h0
   have HLK : Hid ((ws.take k).length = k) := by show (ws.take k).length = k; rw [List.length_take]; omega
   clear hc hr hz HZ
   generalize hx : ws[k] = x at *
   clear hx
   have hbr : b < wr.heap.size := Nat.lt_of_lt_of_le hbl hB.size
   have nb : Below wr.heap.size wr (wr.alloc (.cells #[.int .i64 x.kind, .int .i64 x.id, .slice a2 x.vec.length d2, .int .i64 x.aa, .int .i64 x.seq] 142)) := (Below.refl _ _).alloc (Nat.le_refl _) _
   have bI : ar wr.heap.size #[.int .i64 x.kind, .int .i64 x.id, .slice a2 x.vec.length d2, .int .i64 x.aa, .int .i64 x.seq] 142 (wr.alloc (.cells #[.int .i64 x.kind, .int .i64 x.id, .slice a2 x.vec.length d2, .int .i64 x.aa, .int .i64 x.seq] 142)) wr.heap.size := aM (Nat.le_refl _)
   have L := ik x.kind x.id (.slice a2 x.vec.length d2) x.aa x.seq x.vec _ ((ad.bd R2).af nb)
   simp only [bW] at L
   rw [show al x.kind x.id x.vec x.aa x.seq = wF x from rfl] at L
   have HL := yh L
   have HT := yh (hT.af nb)
   have HB := yh (hB.trans (nb.mono hB.size))
   have HBI := yh bI
   have HZW : Hid (w.heap.size ≤ wr.heap.size) := hB.size
   clear R2 hT hB nb bI L
   go_wp2_with fail
   clear c0 c1 c2 c3 c4
   refine (uh HL).mono ?_
   generalize hW0 : wr.alloc (.cells #[.int .i64 x.kind, .int .i64 x.id, .slice a2 x.vec.length d2, .int .i64 x.aa, .int .i64 x.seq] 142) = W0 at *
   clear hW0
   rintro e w2 ⟨rfl, hb⟩
   replace HT := yh ((uh HT).af hb)
   replace HBI := yh ((uh HBI).au hb)
   replace HB := bZ HB hb
   clear hb HL
   by_cases hf : wF x = 0
   ·
    rw [hf, show dR x.kind x.id x.vec x.aa x.seq = fO x.kind x.vec from if_pos hf]
    have hb1 : w2.cell? ⟨wr.heap.size, 1, none⟩ = some (.int .i64 x.id) := (uh HBI).at 1 _ rfl
    have hb3 : w2.cell? ⟨wr.heap.size, 3, none⟩ = some (.int .i64 x.aa) := (uh HBI).at 3 _ rfl
    have hb4 : w2.cell? ⟨wr.heap.size, 4, none⟩ = some (.int .i64 x.seq) := (uh HBI).at 4 _ rfl
    have hbl1 : wr.heap.size < w2.heap.size := (uh HBI).lt
    have HZ3 := yh (uh HZ2 hf)
    have HL := yh (kH x w2 hf)
    have HF := yh hf
    generalize hdv : fO x.kind x.vec = dv at *
    clear hf hdv HZ2 HAT HBI
    go_wp2_with fail
    refine (uh HL).mono ?_
    rintro e w3 ⟨cs, rfl, ⟨bl, hO, hr⟩, hb3⟩
    have hT3 := (uh HT).af hb3
    replace HB := bZ HB hb3
    have HC := yh (mi (hT3.raise (Nat.le_trans (Nat.le_of_lt hbl1) (Nat.le_refl w2.heap.size))) hO.1 (fun c hc => ⟨(hr c hc).1, hO.2.2 c hc⟩) hO.2.1 hb3.size (uh HF) (by rw [uh HLK]; omega))
    rw [← uh HST] at HC
    clear hO hr hb3 HL HT hT3 HF hb1 hb4 hbl1
    go_wp2_with fail
    refine (uh HC).mono ?_
    rintro e w4 ⟨rfl, ⟨v4, rows4, bls4, hT4⟩, hb4⟩
    have HT4 := yh hT4
    have HB4 := yh ((uh HB).trans hb4)
    clear hT4 hb4 HC HB
    go_wp2_with fail
    go_roundw
    case rel => exact ⟨k + 1, by omega, by go_num, uh HZ3, ⟨_, _, _, uh HT4⟩, uh HB4⟩
    case measure => simp [intOf]; omega
   have hd : (wF x != 0) = true := by simpa using hf
   have HG := yh (uh HAT hf)
   have HF := yh hf
   generalize hdr : dR x.kind x.id x.vec x.aa x.seq = dr at *
   clear hf hdr HZ2 HAT HST HT HBI
   go_wp2_with fail
   refine bodyPost_ret (v := .tuple #[.pointer none, .int .i64 (wF x)]) (by simp [results, Tryz.results215, go_sem]) rfl ?_
   exact ⟨.pointer none, by rw [uh HG], fun e => absurd ((uh HG).symm.trans e) (uh HF), fun _ => rfl, uh HB⟩
  obtain rfl : k = ws.length := by omega
  have HG : Hid (aV ws = 0) := (uh HW).trans (dB ws fun j hj => hz j hj hj)
  rw [List.take_length] at hT
  have HT := yh hT
  have HB := yh hB
  clear hT hB hz H HW
  go_wp2_with fail
  refine bodyPost_ret (v := .tuple #[.pointer (some ⟨w.heap.size + 1, 0, none⟩), .int .i64 0]) (by simp [results, Tryz.results215, go_sem]) rfl ?_
  exact ⟨.pointer (some ⟨w.heap.size + 1, 0, none⟩), by rw [uh HG], fun _ => ⟨rfl, _, _, _, uh HT⟩, fun e => absurd (uh HG) e, uh HB⟩
theorem iJ (v : Value) (ws : List ak) (w : World) (h : (ad.sl ad.ag).Reads w [v] ws) :
  Calls Tryz.prog 215 #[v] w fun e w' => jW w w' e ws := by
 obtain ⟨ao, cap, rfl⟩ := aB h
 by_cases hn : ws.length ≤ 200
 ·
  by_cases hp : 0 < ws.length
  ·
   obtain ⟨b, off, rfl, hbl⟩ := ad.aD h hp
   exact jn b off cap ws w h hbl hn
  obtain rfl : ws = [] := List.eq_nil_of_length_eq_zero (by omega)
  clear h hn hp
  have HT0 := yh (eU w)
  have HB0 := yh (((Below.refl w.heap.size w).alloc (Nat.le_refl _) (.map #[] 0)).alloc (by simp) (.cells #[.slice none 0 0, .map (some w.heap.size), .int .i64 0, .int .i64 0, .int .i64 0, .int .i64 0, .int .i64 0, .int .i64 0, .int .i64 0, .int .i64 0, .int .i64 0, .int .i64 0] 237))
  have hmk := @run_makeMap Tryz.prog
  go_enter Tryz.func215, Tryz.ntmps215
  go_wp2_with fail
  clear hmk
  refine wp_loop_rounds 1 ?_
  rw [rounds_succ]
  go_wp2_with fail
  refine bodyPost_ret (v := .tuple #[.pointer (some ⟨w.heap.size + 1, 0, none⟩), .int .i64 0]) (by simp [results, Tryz.results215, go_sem]) rfl ?_
  exact ⟨.pointer (some ⟨w.heap.size + 1, 0, none⟩), rfl, fun _ => ⟨rfl, _, _, _, uh HT0⟩, fun e => absurd rfl e, uh HB0⟩
 have e : aV ws = 2 := by rw [aV, if_pos (by omega)]
 have HG := yh e
 have hd : decide ((200 : Int) < (ws.length : Int)) = true := by simp; omega
 clear h e
 go_enter Tryz.func215, Tryz.ntmps215
 go_wp2_with fail
 refine bodyPost_ret (v := .tuple #[.pointer none, .int .i64 2]) (by simp [results, Tryz.results215, go_sem]) rfl ?_
 exact ⟨.pointer none, by rw [uh HG], fun e => absurd ((uh HG).symm.trans e) (by decide), fun _ => rfl, Below.refl _ _⟩
def dC (f : Int → Int) : Array Value := #[.int .i64 (f 0), .int .i64 (f 1), .int .i64 (f 2), .int .i64 (f 3), .int .i64 (f 4), .int .i64 (f 5), .int .i64 (f 6), .int .i64 (f 7), .int .i64 (f 8), .int .i64 (f 9)]
theorem du (f : Int → Int) (i : Nat) (h : i < 10) : (dC f)[i]? = some (.int .i64 (f i)) := by
 match i, h with
 | 0, _ => rfl
 | 1, _ => rfl
 | 2, _ => rfl
 | 3, _ => rfl
 | 4, _ => rfl
 | 5, _ => rfl
 | 6, _ => rfl
 | 7, _ => rfl
 | 8, _ => rfl
 | 9, _ => rfl
theorem iV (f : Int → Int) (i : Nat) (h : i < 10) (z : Int) : (dC f).setIfInBounds i (.int .i64 z) = dC (fun j => if j = i then z else f j) := by
 match i, h with
 | 0, _ => rfl
 | 1, _ => rfl
 | 2, _ => rfl
 | 3, _ => rfl
 | 4, _ => rfl
 | 5, _ => rfl
 | 6, _ => rfl
 | 7, _ => rfl
 | 8, _ => rfl
 | 9, _ => rfl
theorem fG (b off cap : Nat) (ws : List ak) (w : World) (h : (ad.sl ad.ag).Reads w [.slice (some ⟨b, off, none⟩) ws.length cap] ws) (hbl : b < w.heap.size) (hf : aV ws = 0) :
  Calls Tryz.prog 258 #[.slice (some ⟨b, off, none⟩) ws.length cap] w fun e w' => e = .returned (.bool (bG [] ws)) ∧ Below w.heap.size w w' := by
 have HL := yh (iJ _ ws w h)
 have H := yh h
 obtain ⟨hlen, hall⟩ := gp hf
 have HA := yh hall
 have HF := yh hf
 clear h hall hf
 go_enter Tryz.func258, Tryz.ntmps258
 go_wp2_with fail
 refine (uh HL).mono ?_
 rintro e w2 ⟨r, rfl, g0, -, hb⟩
 obtain ⟨rfl, -⟩ := g0 (uh HF)
 rw [uh HF]
 have HB0 := yh (hb.alloc hb.size (.cells #[.int .i64 0, .int .i64 0, .int .i64 0, .int .i64 0, .int .i64 0, .int .i64 0, .int .i64 0, .int .i64 0, .int .i64 0, .int .i64 0] 235))
 have HX0 : Hid (ar 0 (dC (aA [])) 235 (w2.alloc (.cells #[.int .i64 0, .int .i64 0, .int .i64 0, .int .i64 0, .int .i64 0, .int .i64 0, .int .i64 0, .int .i64 0, .int .i64 0, .int .i64 0] 235)) w2.heap.size) := aM (Nat.zero_le _)
 have hz2 := hb.size
 clear hb HL HF g0
 go_wp2_with fail
 generalize w2.alloc (.cells #[.int .i64 0, .int .i64 0, .int .i64 0, .int .i64 0, .int .i64 0, .int .i64 0, .int .i64 0, .int .i64 0, .int .i64 0, .int .i64 0] 235) = W1 at *
 generalize w2.heap.size = L at *
 go_loopw [17] (fun i wr => ∃ k : Nat, k ≤ ws.length ∧ i = .int .i64 k ∧ (∀ j (hj : j < ws.length), j < k → aA ([] ++ ws.take j) (ws[j]).aa < (ws[j]).seq) ∧ ar 0 (dC (aA (ws.take k))) 235 wr L ∧ Below w.heap.size w wr) (fun i _ => ws.length - (intOf i).toNat)
 case atStart => exact ⟨0, Nat.zero_le _, rfl, fun j _ hj => by omega, uh HX0, uh HB0⟩
 case round =>
  obtain ⟨k, hk, rfl, hz, hX, hB⟩ := hrel
  clear HX0 HB0
  by_cases hlt : k < ws.length
  ·
   obtain ⟨row, hc, hr⟩ := ad.aR (uh H) hlt
   replace hr := hr.af hB
   obtain ⟨a2, d2, rfl, R2⟩ := aI hr
   have c0 : wr.cell? ⟨b, off + k * 5, none⟩ = some (.int .i64 (ws[k]).kind) := (hB.cell (p := ⟨b, off + k * 5, none⟩) hbl).trans (hc 0 (by decide))
   have c1 : wr.cell? ⟨b, off + k * 5 + 1, none⟩ = some (.int .i64 (ws[k]).id) := (hB.cell (p := ⟨b, off + k * 5 + 1, none⟩) hbl).trans (hc 1 (by decide))
   have c2 : wr.cell? ⟨b, off + k * 5 + 2, none⟩ = some (.slice a2 (ws[k]).vec.length d2) := (hB.cell (p := ⟨b, off + k * 5 + 2, none⟩) hbl).trans (hc 2 (by decide))
   have c3 : wr.cell? ⟨b, off + k * 5 + 3, none⟩ = some (.int .i64 (ws[k]).aa) := (hB.cell (p := ⟨b, off + k * 5 + 3, none⟩) hbl).trans (hc 3 (by decide))
   have c4 : wr.cell? ⟨b, off + k * 5 + 4, none⟩ = some (.int .i64 (ws[k]).seq) := (hB.cell (p := ⟨b, off + k * 5 + 4, none⟩) hbl).trans (hc 4 (by decide))
   have hsq := iC (uh HA ws[k] (List.getElem_mem hlt))
   have HAT : Hid ((ws[k]).seq ≤ aA (ws.take k) (ws[k]).aa → bG [] ws = false) := fun he => eT ws [] k hlt (by simpa using he)
   have HZ2 : Hid (aA (ws.take k) (ws[k]).aa < (ws[k]).seq → ∀ j (hj : j < ws.length), j < k + 1 → aA ([] ++ ws.take j) (ws[j]).aa < (ws[j]).seq) := by
    intro h0 j hj hjk
    by_cases hjk2 : j < k
    ·
     exact hz j hj hjk2
    obtain rfl : j = k := by omega
    simpa using h0
   have HLT : Hid (aA (ws.take k) (ws[k]).aa < (ws[k]).seq → ∀ j : Int, (if j = ((ws[k]).aa.toNat : Int) then (ws[k]).seq else aA (ws.take k) j) = aA (ws.take (k + 1)) j) := by
    intro h0 j
    have h9 := iC (uh HA ws[k] (List.getElem_mem hlt))
    rw [eM ws k hlt, show ((ws[k]).aa.toNat : Int) = (ws[k]).aa by omega]
    by_cases e : j = (ws[k]).aa
    ·
     rw [if_pos e, if_pos e.symm, e]; omega
    rw [if_neg e, if_neg (fun h => e h.symm)]
   clear hc hr hz R2
   generalize hx : ws[k] = x at *
   clear hx
   have hbr : b < wr.heap.size := Nat.lt_of_lt_of_le hbl hB.size
   have nb : Below wr.heap.size wr (wr.alloc (.cells #[.int .i64 x.kind, .int .i64 x.id, .slice a2 x.vec.length d2, .int .i64 x.aa, .int .i64 x.seq] 142)) := (Below.refl _ _).alloc (Nat.le_refl _) _
   have bI : ar 0 #[.int .i64 x.kind, .int .i64 x.id, .slice a2 x.vec.length d2, .int .i64 x.aa, .int .i64 x.seq] 142 (wr.alloc (.cells #[.int .i64 x.kind, .int .i64 x.id, .slice a2 x.vec.length d2, .int .i64 x.aa, .int .i64 x.seq] 142)) wr.heap.size := aM (Nat.zero_le _)
   have hLq := hX.lt
   have HX1 := yh (hX.au nb)
   have HB1 := yh (hB.trans (nb.mono hB.size))
   have HBI := yh bI
   have hLw : w.heap.size ≤ L := hz2
   clear nb bI hX hB
   go_wp2_with fail
   clear c0 c1 c2 c3 c4
   generalize wr.alloc (.cells #[.int .i64 x.kind, .int .i64 x.id, .slice a2 x.vec.length d2, .int .i64 x.aa, .int .i64 x.seq] 142) = W0 at *
   obtain ⟨b1, b9, q1, q9⟩ := hsq
   have hs9 : x.aa.toNat < 10 := by omega
   have hsi : (x.aa.toNat : Int) = x.aa := by omega
   have i1 : (0 : Int) ≤ x.aa := by omega
   have i2 : x.aa < 10 := by omega
   have hXD := uh HX1
   have hID := uh HBI
   refine wZz (fun w' => w' = W0.drew) rfl (fun zq => ?_)
   refine tkH 0 zq ?_
   refine tkJ 1 (v := ?vo1) ?ho1 zq ?ro1
   case ho1 =>
    intro wS hSw
    have y3 : wS.cell? ⟨wr.heap.size, 3, none⟩ = some (.int .i64 x.aa) := by rw [hSw]; exact hID.at 3 _ rfl
    have y4 : wS.cell? ⟨wr.heap.size, 4, none⟩ = some (.int .i64 x.seq) := by rw [hSw]; exact hID.at 4 _ rfl
    have yl : wS.cell? ⟨L, x.aa.toNat, none⟩ = some (.int .i64 (aA (ws.take k) x.aa)) := by
     have := hXD.at _ _ (du (aA (ws.take k)) x.aa.toNat hs9)
     rw [hsi] at this
     rw [hSw]; exact this
    clear hSw
    exact fZ
   refine tkH 2 zq ?_
   refine tkJ 3 (v := ?vo3) ?ho3 zq ?ro3
   case ho3 =>
    intro wS hSw
    have y3 : wS.cell? ⟨wr.heap.size, 3, none⟩ = some (.int .i64 x.aa) := by rw [hSw]; exact hID.at 3 _ rfl
    have y4 : wS.cell? ⟨wr.heap.size, 4, none⟩ = some (.int .i64 x.seq) := by rw [hSw]; exact hID.at 4 _ rfl
    have yl : wS.cell? ⟨L, x.aa.toNat, none⟩ = some (.int .i64 (aA (ws.take k) x.aa)) := by
     have := hXD.at _ _ (du (aA (ws.take k)) x.aa.toNat hs9)
     rw [hsi] at this
     rw [hSw]; exact this
    clear hSw
    exact fZ
   refine tkH 4 zq ?_
   refine tkJ 5 (v := ?vo5) ?ho5 zq ?ro5
   case ho5 =>
    intro wS hSw
    have y3 : wS.cell? ⟨wr.heap.size, 3, none⟩ = some (.int .i64 x.aa) := by rw [hSw]; exact hID.at 3 _ rfl
    have y4 : wS.cell? ⟨wr.heap.size, 4, none⟩ = some (.int .i64 x.seq) := by rw [hSw]; exact hID.at 4 _ rfl
    have yl : wS.cell? ⟨L, x.aa.toNat, none⟩ = some (.int .i64 (aA (ws.take k) x.aa)) := by
     have := hXD.at _ _ (du (aA (ws.take k)) x.aa.toNat hs9)
     rw [hsi] at this
     rw [hSw]; exact this
    clear hSw
    exact fZ
   refine tkH 6 zq ?_
   refine dZ ?_
   clear zq
   have HBD := yh (uh HB1).drew
   have hX2 : ar 0 (dC (aA (ws.take k))) 235 W0.drew L := uh HX1
   have hI2 : ar 0 #[.int .i64 x.kind, .int .i64 x.id, .slice a2 x.vec.length d2, .int .i64 x.aa, .int .i64 x.seq] 142 W0.drew wr.heap.size := uh HBI
   generalize W0.drew = W2 at *
   clear HX1 HBI HB1 hXD hID
   by_cases hq : x.seq ≤ aA (ws.take k) x.aa
   ·
    have hd : decide (x.seq ≤ aA (ws.take k) x.aa) = true := by simpa using hq
    have HG := yh (uh HAT hq)
    clear hq HAT HZ2 HLT hsi
    rw [hd]
    go_wp2_with fail
    go_ret
    exact ⟨by rw [uh HG]; first | done | rfl, uh HBD⟩
   ·
    have hd : decide (x.seq ≤ aA (ws.take k) x.aa) = false := by simpa using hq
    have HZ := yh (uh HZ2 (by omega))
    have HX3 : Hid (ar 0 (dC (aA (ws.take (k + 1)))) 235 (W2.setCell ⟨L, x.aa.toNat, none⟩ (.int .i64 x.seq)) L) := by
     have e := hX2.set x.aa.toNat (.int .i64 x.seq)
     rw [iV _ _ hs9, funext (uh HLT (by omega))] at e
     exact e
    have HB3 : Hid (Below w.heap.size w (W2.setCell ⟨L, x.aa.toNat, none⟩ (.int .i64 x.seq))) := (uh HBD).setCell (by simp; omega) _
    have y3 : W2.cell? ⟨wr.heap.size, 3, none⟩ = some (.int .i64 x.aa) := hI2.at 3 _ rfl
    have y4 : W2.cell? ⟨wr.heap.size, 4, none⟩ = some (.int .i64 x.seq) := hI2.at 4 _ rfl
    have yl : W2.cell? ⟨L, x.aa.toNat, none⟩ = some (.int .i64 (aA (ws.take k) x.aa)) := by
     have := hX2.at _ _ (du (aA (ws.take k)) x.aa.toNat hs9)
     rwa [hsi] at this
    have fl := hX2.soft x.aa.toNat
    have ll := hX2.lt
    clear hq HAT HZ2 HLT hsi hX2 hI2 HBD
    rw [hd]
    go_wp2_with fail
    go_roundw
    case rel => exact ⟨k + 1, by omega, by go_num, uh HZ, uh HX3, uh HB3⟩
    case measure => simp [intOf]; omega
  obtain rfl : k = ws.length := by omega
  have HG : Hid (bG [] ws = true) := ee ws [] fun j hj => hz j hj hj
  have HB := yh hB
  clear H hz hB hX
  go_wp2_with fail
  go_ret
  exact ⟨by rw [uh HG]; first | done | rfl, uh HB⟩
theorem ke (v : Value) (ws : List ak) (w : World) (h : (ad.sl ad.ag).Reads w [v] ws) :
  Calls Tryz.prog 258 #[v] w fun e w' => e = .returned (.bool (ek ws)) ∧ Below w.heap.size w w' := by
 obtain ⟨ao, cap, rfl⟩ := aB h
 by_cases hf : aV ws = 0
 ·
  have e1 : ek ws = bG [] ws := by simp [ek, hf]
  rw [e1]
  by_cases hp : 0 < ws.length
  ·
   obtain ⟨b, off, rfl, hbl⟩ := ad.aD h hp
   exact fG b off cap ws w h hbl hf
  obtain rfl : ws = [] := List.eq_nil_of_length_eq_zero (by omega)
  have HL := yh (iJ _ [] w h)
  clear h hp e1 hf
  go_enter Tryz.func258, Tryz.ntmps258
  go_wp2_with fail
  refine (uh HL).mono ?_
  rintro e w2 ⟨r, rfl, g0, -, hb⟩
  obtain ⟨rfl, -⟩ := g0 rfl
  rw [show aV [] = 0 from rfl]
  have HB0 := yh (hb.alloc hb.size (.cells #[.int .i64 0, .int .i64 0, .int .i64 0, .int .i64 0, .int .i64 0, .int .i64 0, .int .i64 0, .int .i64 0, .int .i64 0, .int .i64 0] 235))
  clear hb HL g0
  go_wp2_with fail
  refine wp_loop_rounds 1 ?_
  rw [rounds_succ]
  go_wp2_with fail
  go_ret
  exact ⟨rfl, uh HB0⟩
 have HL := yh (iJ _ ws w h)
 have HG : Hid (ek ws = false) := by show ek ws = _; simp [ek, hf]
 have hd : (aV ws != 0) = true := by simpa using hf
 clear h
 go_enter Tryz.func258, Tryz.ntmps258
 go_wp2_with fail
 refine (uh HL).mono ?_
 rintro e w2 ⟨r, rfl, -, -, hb⟩
 have HB0 := yh hb
 clear hb HL hf
 go_wp2_with fail
 go_ret
 exact ⟨by rw [uh HG]; first | done | rfl, uh HB0⟩
theorem dc (k i : Int) (v : Value) (s q : Int) (zs : List Int) (w : World) (h : bh w v zs) :
  Calls Tryz.prog 257 #[.agg #[.int .i64 k, .int .i64 i, v, .int .i64 s, .int .i64 q]] w fun e w' => e = .returned (.int .i64 (al k i zs s q)) ∧ Below w.heap.size w w' := by
 have h' := h
 obtain ⟨ao, cap, rfl, -⟩ := h'
 have B0 : Below w.heap.size w (w.alloc (.cells #[.int .i64 k, .int .i64 i, .slice ao zs.length cap, .int .i64 s, .int .i64 q] 142)) := (Below.refl _ _).alloc (Nat.le_refl _) _
 have L := yh (ik k i (.slice ao zs.length cap) s q zs _ (h.af B0))
 have HB := yh B0
 clear B0 h
 go_enter Tryz.func257, Tryz.ntmps257
 go_wp2_with fail
 refine (uh L).mono ?_
 rintro e w1 ⟨rfl, hb1⟩
 have HB1 := yh ((uh HB).trans (hb1.mono (uh HB).size))
 clear hb1 HB L
 go_wp2_with fail
 go_ret
 exact ⟨rfl, uh HB1⟩
theorem lU (v : Value) (ws : List ak) (w : World) (h : (ad.sl ad.ag).Reads w [v] ws) :
  Calls Tryz.prog 227 #[v] w fun e w' => e = .returned (.int .i64 (bo ws)) ∧ Below w.heap.size w w' := by
 obtain ⟨ao, cap, rfl⟩ := aB h
 by_cases hn0 : 40 < ws.length
 ·
  have HF : Hid (bo ws = 2) := by show bo ws = 2; rw [bo, if_pos hn0]
  have hbig := h.cK
  have hd : decide ((40 : Int) < (ws.length : Int)) = true := by simp; omega
  clear h
  go_enter Tryz.func227, Tryz.ntmps227
  go_wp2_with fail
  go_ret
  exact ⟨by rw [uh HF]; rfl, Below.refl _ _⟩
 have hn : ws.length ≤ 40 := by omega
 have HW : Hid (bo ws = if bw ws ≠ 0 then bw ws else if bG [] ws = false then 6 else 0) := by show bo ws = _; rw [bo, if_neg hn0]
 have H := yh h
 clear h hn0
 go_enter Tryz.func227, Tryz.ntmps227
 go_wp2_with fail
 go_loopw [11] (fun i wr => ∃ k : Nat, k ≤ ws.length ∧ i = .int .i64 k ∧ (∀ j (hj : j < ws.length), j < k → wF ws[j] = 0) ∧ Below w.heap.size w wr) (fun i _ => ws.length - (intOf i).toNat)
 case atStart => exact ⟨0, Nat.zero_le _, rfl, fun j _ hj => by omega, Below.refl _ _⟩
 case round =>
  obtain ⟨k, hk, rfl, hz, hB⟩ := hrel
  by_cases hlt : k < ws.length
  ·
   obtain ⟨b, off, rfl, hbl⟩ := ad.aD (uh H) (by omega)
   obtain ⟨row, hc, hr⟩ := ad.aR (uh H) hlt
   replace hr := hr.af hB
   obtain ⟨a2, d2, rfl, R2⟩ := aI hr
   have c0 : wr.cell? ⟨b, off + k * 5, none⟩ = some (.int .i64 (ws[k]).kind) := (hB.cell (p := ⟨b, off + k * 5, none⟩) hbl).trans (hc 0 (by decide))
   have c1 : wr.cell? ⟨b, off + k * 5 + 1, none⟩ = some (.int .i64 (ws[k]).id) := (hB.cell (p := ⟨b, off + k * 5 + 1, none⟩) hbl).trans (hc 1 (by decide))
   have c2 : wr.cell? ⟨b, off + k * 5 + 2, none⟩ = some (.slice a2 (ws[k]).vec.length d2) := (hB.cell (p := ⟨b, off + k * 5 + 2, none⟩) hbl).trans (hc 2 (by decide))
   have c3 : wr.cell? ⟨b, off + k * 5 + 3, none⟩ = some (.int .i64 (ws[k]).aa) := (hB.cell (p := ⟨b, off + k * 5 + 3, none⟩) hbl).trans (hc 3 (by decide))
   have c4 : wr.cell? ⟨b, off + k * 5 + 4, none⟩ = some (.int .i64 (ws[k]).seq) := (hB.cell (p := ⟨b, off + k * 5 + 4, none⟩) hbl).trans (hc 4 (by decide))
   have HZ := yh hz
   have HAT : Hid (wF ws[k] ≠ 0 → bo ws = wF ws[k]) := fun hn => by
    have e := ea ws k hlt hz hn
    rw [uh HW, e, if_pos hn]
   have HZ2 : Hid (wF ws[k] = 0 → ∀ j (hj : j < ws.length), j < k + 1 → wF ws[j] = 0) := by
    intro h0 j hj hjk
    by_cases hjk2 : j < k
    ·
     exact uh HZ j hj hjk2
    obtain rfl : j = k := by omega
    exact h0
   clear hc hr hz HZ
   generalize hx : ws[k] = x at *
   clear hx
   have hbr : b < wr.heap.size := Nat.lt_of_lt_of_le hbl hB.size
   have nb : Below wr.heap.size wr (wr.alloc (.cells #[.int .i64 x.kind, .int .i64 x.id, .slice a2 x.vec.length d2, .int .i64 x.aa, .int .i64 x.seq] 142)) := (Below.refl _ _).alloc (Nat.le_refl _) _
   have L := dc x.kind x.id (.slice a2 x.vec.length d2) x.aa x.seq x.vec _ ((ad.bd R2).af nb)
   rw [show al x.kind x.id x.vec x.aa x.seq = wF x from rfl] at L
   have HL := yh L
   have HB := yh (hB.trans (nb.mono hB.size))
   clear R2 hB nb L
   go_wp2_with fail
   clear c0 c1 c2 c3 c4
   refine (uh HL).mono ?_
   generalize hW0 : wr.alloc (.cells #[.int .i64 x.kind, .int .i64 x.id, .slice a2 x.vec.length d2, .int .i64 x.aa, .int .i64 x.seq] 142) = W0 at *
   clear hW0
   rintro e w2 ⟨rfl, hb⟩
   replace HB := bZ HB hb
   clear hb HL
   by_cases hf : wF x = 0
   ·
    have HZ3 := yh (uh HZ2 hf)
    rw [hf]
    clear hf HZ2 HAT
    go_wp2_with fail
    go_roundw
    case rel => exact ⟨k + 1, by omega, by go_num, uh HZ3, uh HB⟩
    case measure => simp [intOf]; omega
   have hd : (wF x != 0) = true := by simpa using hf
   have HE := yh (uh HAT hf)
   clear HAT HZ2 hf
   generalize wF x = c at *
   go_wp2_with fail
   go_ret
   exact ⟨by rw [uh HE]; rfl, uh HB⟩
  obtain rfl : k = ws.length := by omega
  have e0 := dB ws (fun j hj => hz j hj hj)
  have HL := yh (ke _ ws wr ((uh H).af hB))
  have hf0 : aV ws = 0 := by rw [aV, if_neg (by omega), e0]
  have hor : ek ws = bG [] ws := by rw [ek, hf0]; simp
  rw [hor] at HL
  have HB := yh hB
  have HT : Hid (bo ws = if bG [] ws = false then 6 else 0) := by show bo ws = _; rw [uh HW, e0, if_neg (by simp)]
  clear hB hz e0 hf0 hor H HW
  cases ho : bG [] ws
  ·
   rw [ho] at HL HT
   clear ho
   go_wp2_with fail
   refine (uh HL).mono ?_
   rintro e w2 ⟨rfl, hb⟩
   have HB2 := yh ((uh HB).trans (hb.mono (uh HB).size))
   clear hb HL
   go_wp2_with fail
   go_ret
   exact ⟨by rw [uh HT]; rfl, uh HB2⟩
  rw [ho] at HL HT
  clear ho
  go_wp2_with fail
  refine (uh HL).mono ?_
  rintro e w2 ⟨rfl, hb⟩
  have HB2 := yh ((uh HB).trans (hb.mono (uh HB).size))
  clear hb HL
  go_wp2_with fail
  go_ret
  exact ⟨by rw [uh HT]; rfl, uh HB2⟩
theorem gw (cs : List Value) (x : bn) (w : World) (h : ad.aP.Reads w cs x) :
  Calls Tryz.prog 228 #[.agg cs.toArray] w fun e w' => e = .returned (.bool (bV x)) ∧ Below w.heap.size w w' := by
 obtain ⟨a4, d4, rfl, R4⟩ := aQ h
 have hbig := R4.cK
 clear h R4
 have HB := yh ((Below.refl w.heap.size w).alloc (Nat.le_refl _) (.cells #[.int .i64 x.id, .bool x.up, .int .i64 x.ab, .int .i64 x.ai, .slice a4 x.writes.length d4, .int .i64 x.sure, .int .i64 x.clean] 79))
 cases d1 : (x.sure == (x.writes.length : Int))
 ·
  have HF : Hid (bV x = false) := by show bV x = false; rw [bV, d1]; rfl
  go_enter Tryz.func228, Tryz.ntmps228
  go_wp2_with fail
  go_ret
  exact ⟨by rw [uh HF]; rfl, uh HB⟩
 cases d2 : (x.clean == 0)
 ·
  have HF : Hid (bV x = false) := by show bV x = false; rw [bV, d1, d2]; rfl
  go_enter Tryz.func228, Tryz.ntmps228
  go_wp2_with fail
  go_ret
  exact ⟨by rw [uh HF]; rfl, uh HB⟩
 cases d3 : (x.ai == 0)
 ·
  have HF : Hid (bV x = false) := by show bV x = false; rw [bV, d1, d2, d3]; rfl
  go_enter Tryz.func228, Tryz.ntmps228
  go_wp2_with fail
  go_ret
  exact ⟨by rw [uh HF]; rfl, uh HB⟩
 have HF : Hid (bV x = true) := by show bV x = true; rw [bV, d1, d2, d3]; rfl
 go_enter Tryz.func228, Tryz.ntmps228
 go_wp2_with fail
 go_ret
 exact ⟨by rw [uh HF]; rfl, uh HB⟩
theorem fF (cs : List Value) (x : bn) (w : World) (h : ad.aP.Reads w cs x) :
  Calls Tryz.prog 180 #[.agg cs.toArray] w fun e w' => e = .returned (.int .i64 (aC x)) ∧ Below w.heap.size w w' := by
 have hN := h
 obtain ⟨a4, d4, rfl, R4⟩ := aQ h
 have hbig := R4.cK
 have nb : Below w.heap.size w (w.alloc (.cells #[.int .i64 x.id, .bool x.up, .int .i64 x.ab, .int .i64 x.ai, .slice a4 x.writes.length d4, .int .i64 x.sure, .int .i64 x.clean] 79)) := (Below.refl _ _).alloc (Nat.le_refl _) _
 have bX : ar w.heap.size #[.int .i64 x.id, .bool x.up, .int .i64 x.ab, .int .i64 x.ai, .slice a4 x.writes.length d4, .int .i64 x.sure, .int .i64 x.clean] 79 (w.alloc (.cells #[.int .i64 x.id, .bool x.up, .int .i64 x.ab, .int .i64 x.ai, .slice a4 x.writes.length d4, .int .i64 x.sure, .int .i64 x.clean] 79)) w.heap.size := aM (Nat.le_refl _)
 have HT := yh (lU _ x.writes _ (R4.af nb))
 have HN := yh hN
 have HB := yh nb
 have HX := yh bX
 clear h hN nb bX R4
 go_enter Tryz.func180, Tryz.ntmps180
 go_wp2_with fail
 generalize w.alloc (.cells #[.int .i64 x.id, .bool x.up, .int .i64 x.ab, .int .i64 x.ai, .slice a4 x.writes.length d4, .int .i64 x.sure, .int .i64 x.clean] 79) = W0 at *
 have x1 := (uh HX).at 1 _ rfl
 have x2 := (uh HX).at 2 _ rfl
 have x3 := (uh HX).at 3 _ rfl
 have x4 := (uh HX).at 4 _ rfl
 have x5 := (uh HX).at 5 _ rfl
 have x6 := (uh HX).at 6 _ rfl
 simp only [ga, gb, gc] at x1 x2 x3 x4 x5 x6
 have xl := (uh HX).lt
 refine (bK x.id W0).mono ?_
 rintro e W1 ⟨rfl, h1⟩
 subst W1
 cases d1 : (decide (1 ≤ x.id) && decide (x.id ≤ 5))
 ·
  have HF := yh (lB d1)
  clear d1
  go_wp2_with fail
  go_ret
  exact ⟨by rw [uh HF]; rfl, uh HB⟩
 go_wp2_with fail
 refine (ct x.ab 999 W0).mono ?_
 rintro e W1 ⟨rfl, h1⟩
 subst W1
 cases d2 : (decide (0 ≤ x.ab) && decide (x.ab ≤ 999))
 ·
  have HF := yh (ie d2)
  clear d1 d2
  go_wp2_with fail
  go_ret
  exact ⟨by rw [uh HF]; rfl, uh HB⟩
 go_wp2_with fail
 refine (ct x.ai 9999 W0).mono ?_
 rintro e W1 ⟨rfl, h1⟩
 subst W1
 cases d3 : (decide (0 ≤ x.ai) && decide (x.ai ≤ 9999))
 ·
  have HF := yh (gF d3)
  clear d1 d2 d3
  go_wp2_with fail
  go_ret
  exact ⟨by rw [uh HF]; rfl, uh HB⟩
 have HF := yh (jd d1 d2 d3)
 clear d1 d2 d3
 go_wp2_with fail
 refine (uh HT).mono ?_
 rintro e W1 ⟨rfl, hb⟩
 have bX1 := (uh HX).au hb
 replace x1 := bX1.at 1 _ rfl
 replace x2 := bX1.at 2 _ rfl
 replace x3 := bX1.at 3 _ rfl
 replace x4 := bX1.at 4 _ rfl
 replace x5 := bX1.at 5 _ rfl
 replace x6 := bX1.at 6 _ rfl
 have x0 := bX1.at 0 _ rfl
 simp only [ga, gb, gc] at x0 x1 x2 x3 x4 x5 x6
 replace xl := bX1.lt
 have HB1 := yh ((uh HB).trans (hb.mono (uh HB).size))
 clear hb bX1 HT HX HB
 by_cases ht : bo x.writes = 0
 ·
  rw [ht]
  have HF1 := yh ((uh HF).trans (if_neg (by simpa using ht)))
  clear HF ht
  go_wp2_with fail
  refine (ct x.sure (x.writes.length : Int) W1).mono ?_
  rintro e W2 ⟨rfl, h1⟩
  subst W2
  cases d4 : (decide (0 ≤ x.sure) && decide (x.sure ≤ (x.writes.length : Int)))
  ·
   have HF2 := yh ((uh HF1).trans (if_neg (by rw [d4]; simp)))
   clear HF1 d4
   go_wp2_with fail
   go_ret
   exact ⟨by rw [uh HF2]; rfl, uh HB1⟩
  go_wp2_with fail
  refine (ct x.clean x.sure W1).mono ?_
  rintro e W2 ⟨rfl, h1⟩
  subst W2
  cases d5 : (decide (0 ≤ x.clean) && decide (x.clean ≤ x.sure))
  ·
   have HF2 := yh ((uh HF1).trans (if_neg (by rw [d5]; simp)))
   clear HF1 d4 d5
   go_wp2_with fail
   go_ret
   exact ⟨by rw [uh HF2]; rfl, uh HB1⟩
  have HF2 := yh ((uh HF1).trans (if_pos ⟨d4, d5⟩))
  clear HF1 d4 d5
  have HD := yh (gw _ x W1 ((uh HN).af (uh HB1)))
  cases hu : x.up
  ·
   rw [hu] at x1 HF2 HD
   cases hdn : bV x
   ·
    have HF3 := yh ((uh HF2).trans (if_pos ⟨rfl, hdn⟩))
    rw [hdn] at HD
    clear HF2 hdn hu
    go_wp2_with fail
    refine (uh HD).mono ?_
    rintro e W2 ⟨rfl, hb⟩
    have HB2 := yh ((uh HB1).trans (hb.mono (uh HB1).size))
    clear hb HD
    go_wp2_with fail
    go_ret
    exact ⟨by rw [uh HF3]; rfl, uh HB2⟩
   have HF3 := yh ((uh HF2).trans (if_neg (by simp [hdn])))
   rw [hdn] at HD
   clear HF2 hdn hu
   go_wp2_with fail
   refine (uh HD).mono ?_
   rintro e W2 ⟨rfl, hb⟩
   have HB2 := yh ((uh HB1).trans (hb.mono (uh HB1).size))
   clear hb HD
   go_wp2_with fail
   go_ret
   exact ⟨by rw [uh HF3]; rfl, uh HB2⟩
  rw [hu] at x1 HF2
  have HF3 := yh ((uh HF2).trans (if_neg (by simp)))
  clear HF2 hu HD
  go_wp2_with fail
  go_ret
  exact ⟨by rw [uh HF3]; rfl, uh HB1⟩
 have HF1 := yh ((uh HF).trans (if_pos (by simpa using ht)))
 have hd : (bo x.writes != 0) = true := by simpa using ht
 clear HF ht
 generalize bo x.writes = c at *
 go_wp2_with fail
 go_ret
 exact ⟨by rw [uh HF1]; rfl, uh HB1⟩
theorem ka (cs : List Value) (x : aN) (id : Int) (w : World) (h : ad.a8.Reads w cs x) :
  Calls Tryz.prog 117 #[.agg cs.toArray, .int .i64 id] w fun e w' => e = .returned (.bool (bk x id)) ∧ Below w.heap.size w w' := by
 obtain ⟨a3, d3, a4, d4, a5, d5, a6, d6, rfl, -, R4, -, -⟩ := aF h
 have hbig := R4.cK
 have nb : Below w.heap.size w (w.alloc (.cells #[.int .i64 x.now, .int .i64 x.events, .int .i64 x.chain.ab, .slice a3 x.chain.ids.length d3, .slice a4 x.nodes.length d4, .slice a5 x.msgs.length d5, .slice a6 x.ae.length d6] 37)) := (Below.refl _ _).alloc (Nat.le_refl _) _
 have bX : ar 0 #[.int .i64 x.now, .int .i64 x.events, .int .i64 x.chain.ab, .slice a3 x.chain.ids.length d3, .slice a4 x.nodes.length d4, .slice a5 x.msgs.length d5, .slice a6 x.ae.length d6] 37 (w.alloc (.cells #[.int .i64 x.now, .int .i64 x.events, .int .i64 x.chain.ab, .slice a3 x.chain.ids.length d3, .slice a4 x.nodes.length d4, .slice a5 x.msgs.length d5, .slice a6 x.ae.length d6] 37)) w.heap.size := aM (Nat.zero_le _)
 have z3 := ar.at bX 3 _ rfl
 simp only [ga, gb, gc] at z3
 have HB := yh nb
 clear nb bX R4 h
 show Calls _ _ _ _ fun e w' => e = .returned (.bool (decide (1 ≤ id) && decide (id ≤ (x.nodes.length : Int)))) ∧ _
 cases d1 : decide (1 ≤ id)
 ·
  go_enter Tryz.func117, Tryz.ntmps117
  go_wp2_with fail
  go_ret
  exact ⟨rfl, uh HB⟩
 cases d2 : decide (id ≤ (x.nodes.length : Int)) <;>
 ·
  go_enter Tryz.func117, Tryz.ntmps117
  go_wp2_with fail
  go_ret
  exact ⟨rfl, uh HB⟩
theorem iF (cs : List Value) (x : bc) (id : Int) (w : World) (h : ad.aZ.Reads w cs x) :
  Calls Tryz.prog 229 #[.agg cs.toArray, .int .i64 id] w fun e w' => e = .returned (.bool (decide (0 ≤ aS x.ids id))) ∧ Below w.heap.size w w' := by
 obtain ⟨a3, d3, rfl, R3⟩ := ba h
 have nb : Below w.heap.size w (w.alloc (.cells #[.int .i64 x.ab, .slice a3 x.ids.length d3] 32)) := (Below.refl _ _).alloc (Nat.le_refl _) _
 have bX : ar 0 #[.int .i64 x.ab, .slice a3 x.ids.length d3] 32 (w.alloc (.cells #[.int .i64 x.ab, .slice a3 x.ids.length d3] 32)) w.heap.size := aM (Nat.zero_le _)
 have z1 := ar.at bX 1 _ rfl
 simp only [ga, gb, gc] at z1
 have HL := yh (fY _ x.ids id _ (R3.af nb))
 have HB := yh nb
 clear nb bX R3 h
 generalize decide (0 ≤ aS x.ids id) = c at *
 go_enter Tryz.func229, Tryz.ntmps229
 go_wp2_with fail
 refine (uh HL).mono ?_
 generalize w.alloc (.cells #[.int .i64 x.ab, .slice a3 x.ids.length d3] 32) = w1 at *
 rintro e w2 ⟨rfl, h2⟩
 subst w2
 clear HL z1
 go_wp2_with fail
 go_ret
 exact ⟨rfl, uh HB⟩
theorem ib (k : Nat) (cs : List Value) (x : bn) (w : World) (h : ad.aP.Reads w cs x) (hk : k ≤ 1000) :
  Calls Tryz.prog 181 #[.int .i64 (k : Int), .agg cs.toArray] w fun e w' => e = .returned (.int .i64 (if x.id ≠ (k : Int) + 1 then 1 else 0)) ∧ Below w.heap.size w w' := by
 obtain ⟨a4, d4, rfl, R4⟩ := aQ h
 have nb : Below w.heap.size w (w.alloc (.cells #[.int .i64 x.id, .bool x.up, .int .i64 x.ab, .int .i64 x.ai, .slice a4 x.writes.length d4, .int .i64 x.sure, .int .i64 x.clean] 79)) := (Below.refl _ _).alloc (Nat.le_refl _) _
 have HB := yh nb
 clear nb R4 h
 by_cases hd : x.id = (k : Int) + 1
 ·
  rw [if_neg (by simpa using hd)]
  have hb : (x.id != (k : Int) + 1) = false := by simpa using hd
  have HD := yh hd
  clear hd
  generalize x.id = i at *
  go_enter Tryz.func181, Tryz.ntmps181
  go_wp2_with fail
  go_ret
  exact ⟨rfl, uh HB⟩
 rw [if_pos hd]
 have hb : (x.id != (k : Int) + 1) = true := by simpa using hd
 clear hd
 go_enter Tryz.func181, Tryz.ntmps181
 go_wp2_with fail
 go_ret
 exact ⟨rfl, uh HB⟩
def lC (a q b : Bool) : Int := cond a 7 (cond q (cond b 7 0) 0)
def cP (c : bc) (n : bn) : Int := if c.ab < n.ab ∨ (n.up = true ∧ 0 ≤ aS c.ids n.id ∧ n.ab ≠ c.ab) then 7 else 0
theorem hJ (us : List Value) (c : bc) (cs : List Value) (x : bn) (w : World) (hc : ad.aZ.Reads w us c) (h : ad.aP.Reads w cs x) :
  Calls Tryz.prog 182 #[.agg us.toArray, .agg cs.toArray] w fun e w' => e = .returned (.int .i64 (cP c x)) ∧ Below w.heap.size w w' := by
 obtain ⟨a3, d3, rfl, -⟩ := ba hc
 obtain ⟨a4, d4, rfl, -⟩ := aQ h
 have nb1 : Below w.heap.size w (w.alloc (.cells #[.int .i64 c.ab, .slice a3 c.ids.length d3] 32)) := (Below.refl _ _).alloc (Nat.le_refl _) _
 have nb : Below w.heap.size w ((w.alloc (.cells #[.int .i64 c.ab, .slice a3 c.ids.length d3] 32)).alloc (.cells #[.int .i64 x.id, .bool x.up, .int .i64 x.ab, .int .i64 x.ai, .slice a4 x.writes.length d4, .int .i64 x.sure, .int .i64 x.clean] 79)) := nb1.alloc (by simp) _
 have bC : ar 0 #[.int .i64 c.ab, .slice a3 c.ids.length d3] 32 ((w.alloc (.cells #[.int .i64 c.ab, .slice a3 c.ids.length d3] 32)).alloc (.cells #[.int .i64 x.id, .bool x.up, .int .i64 x.ab, .int .i64 x.ai, .slice a4 x.writes.length d4, .int .i64 x.sure, .int .i64 x.clean] 79)) w.heap.size := (aM (Nat.zero_le _)).grow _
 have bX : ar 0 #[.int .i64 x.id, .bool x.up, .int .i64 x.ab, .int .i64 x.ai, .slice a4 x.writes.length d4, .int .i64 x.sure, .int .i64 x.clean] 79 ((w.alloc (.cells #[.int .i64 c.ab, .slice a3 c.ids.length d3] 32)).alloc (.cells #[.int .i64 x.id, .bool x.up, .int .i64 x.ab, .int .i64 x.ai, .slice a4 x.writes.length d4, .int .i64 x.sure, .int .i64 x.clean] 79)) (w.heap.size + 1) := aX (Nat.zero_le _) (by simp)
 have HL := yh (iF _ c x.id _ (hc.af nb))
 have HC := yh bC
 have HX := yh bX
 have HB := yh nb
 have hE : cP c x = lC (decide (c.ab < x.ab)) (x.up && decide (0 ≤ aS c.ids x.id)) (x.ab != c.ab) := by
  unfold cP lC
  by_cases e1 : c.ab < x.ab
  ·
   simp [e1]
  by_cases e2 : (x.up && decide (0 ≤ aS c.ids x.id)) = true
  ·
   simp only [Bool.and_eq_true, decide_eq_true_eq] at e2
   simp [e1, e2.1, e2.2]
  have e3 : ¬ (x.up = true ∧ 0 ≤ aS c.ids x.id ∧ x.ab ≠ c.ab) := fun q => e2 (by simp [q.1, q.2.1])
  simp only [e1, e3, e2]
  simp
 rw [hE]
 clear hE nb1 nb bC bX hc h
 generalize hu : x.up = u at *
 clear hu
 generalize decide (0 ≤ aS c.ids x.id) = q at *
 cases u
 ·
  simp only [Bool.false_and]
  have z0 := ar.at (uh HC) 0 _ rfl
  have y0 := ar.at (uh HX) 0 _ rfl
  have y1 := ar.at (uh HX) 1 _ rfl
  have y2 := ar.at (uh HX) 2 _ rfl
  simp only [ga, gb, gc] at z0 y0 y1 y2
  cases d1 : decide (c.ab < x.ab)
  ·
   go_enter Tryz.func182, Tryz.ntmps182
   go_wp2_with fail
   go_ret
   exact ⟨rfl, uh HB⟩
  go_enter Tryz.func182, Tryz.ntmps182
  go_wp2_with fail
  go_ret
  exact ⟨rfl, uh HB⟩
 simp only [Bool.true_and]
 go_enter Tryz.func182, Tryz.ntmps182
 go_upto_region 1 with fail
 generalize (w.alloc (.cells #[.int .i64 c.ab, .slice a3 c.ids.length d3] 32)).alloc (.cells #[.int .i64 x.id, .bool true, .int .i64 x.ab, .int .i64 x.ai, .slice a4 x.writes.length d4, .int .i64 x.sure, .int .i64 x.clean] 79) = w1 at *
 have z0 := ar.at (uh HC) 0 _ rfl
 have z1 := ar.at (uh HC) 1 _ rfl
 have y0 := ar.at (uh HX) 0 _ rfl
 have y1 := ar.at (uh HX) 1 _ rfl
 simp only [ga, gb, gc] at z0 z1 y0 y1
 go_wp2_with fail
 refine (uh HL).mono ?_
 rintro e w2 ⟨rfl, hb⟩
 replace HC := yh ((uh HC).au hb)
 replace HX := yh ((uh HX).au hb)
 replace HB := bZ HB hb
 clear hb HL z0 z1 y0 y1
 have z0 := ar.at (uh HC) 0 _ rfl
 have y2 := ar.at (uh HX) 2 _ rfl
 simp only [ga, gb, gc] at z0 y2
 cases d1 : decide (c.ab < x.ab)
 ·
  cases q
  ·
   go_wp2_with fail
   go_ret
   exact ⟨by (try rw [d1]); rfl, uh HB⟩
  ·
   cases d2 : (x.ab != c.ab)
   ·
    go_wp2_with fail
    go_ret
    exact ⟨by (try rw [d1]); (try rw [d2]); rfl, uh HB⟩
   ·
    go_wp2_with fail
    go_ret
    exact ⟨by (try rw [d1]); (try rw [d2]); rfl, uh HB⟩
 ·
  go_wp2_with fail
  go_ret
  exact ⟨by (try rw [d1]); rfl, uh HB⟩
theorem gS (c : bc) {xs : List bn} {k : Nat} (hk : k < xs.length) : bz c k (xs.drop k) = if aC xs[k] ≠ 0 then aC xs[k] else if (if xs[k].id ≠ (k : Int) + 1 then (1 : Int) else 0) ≠ 0 then (if xs[k].id ≠ (k : Int) + 1 then (1 : Int) else 0) else if cP c xs[k] ≠ 0 then cP c xs[k] else bz c (k + 1) (xs.drop (k + 1)) := by
 rw [List.drop_eq_getElem_cons hk, bz]
 by_cases h1 : aC xs[k] ≠ 0
 ·
  rw [if_pos h1, if_pos h1]
 rw [if_neg h1, if_neg h1]
 by_cases h2 : xs[k].id ≠ (k : Int) + 1
 ·
  rw [if_pos h2, if_pos h2, if_pos (show ((1 : Int) ≠ 0) by omega)]
 rw [if_neg h2, if_neg h2, if_neg (show ¬ ((0 : Int) ≠ 0) by omega)]
 by_cases h3 : c.ab < xs[k].ab ∨ (xs[k].up = true ∧ 0 ≤ aS c.ids xs[k].id ∧ xs[k].ab ≠ c.ab)
 ·
  have hE : cP c xs[k] = 7 := if_pos h3
  rw [if_pos h3, hE, if_pos (show ((7 : Int) ≠ 0) by omega)]
 have hE : cP c xs[k] = 0 := if_neg h3
 rw [if_neg h3, hE, if_neg (show ¬ ((0 : Int) ≠ 0) by omega)]
def cw (c : bc) (ns : List bn) : Int := if 1 ≤ ns.length ∧ ns.length ≤ 5 then bz c 0 ns else 2
theorem gW (us : List Value) (c : bc) (v : Value) (ns : List bn) (w : World) (hc : ad.aZ.Reads w us c) (h : (ad.sl ad.aP).Reads w [v] ns) :
  Calls Tryz.prog 115 #[.agg us.toArray, v] w fun e w' => e = .returned (.int .i64 (cw c ns)) ∧ Below w.heap.size w w' := by
 obtain ⟨a3, d3, rfl, -⟩ := ba hc
 obtain ⟨ao, cap, rfl⟩ := aB h
 have hbig := h.cK
 have nb : Below w.heap.size w (w.alloc (.cells #[.int .i64 c.ab, .slice a3 c.ids.length d3] 32)) := (Below.refl _ _).alloc (Nat.le_refl _) _
 have HCH : Hid (ar 0 #[.int .i64 c.ab, .slice a3 c.ids.length d3] 32 (w.alloc (.cells #[.int .i64 c.ab, .slice a3 c.ids.length d3] 32)) w.heap.size) := aM (Nat.zero_le _)
 have HB := yh nb
 have HK := yh hc
 have H := yh h
 have HP : Hid (cw c ns = if 1 ≤ ns.length ∧ ns.length ≤ 5 then bz c 0 (ns.drop 0) else 2) := rfl
 clear nb hc h
 generalize cw c ns = r at *
 go_enter Tryz.func115, Tryz.ntmps115
 go_wp2_with fail
 go_step3
 go_wp2_with fail
 generalize w.alloc (.cells #[.int .i64 c.ab, .slice a3 c.ids.length d3] 32) = w0 at *
 refine (dN (ns.length : Int) w0).mono ?_
 rintro e w1 ⟨rfl, h1⟩
 subst w1
 cases d1 : (decide (1 ≤ (ns.length : Int)) && decide ((ns.length : Int) ≤ 5))
 ·
  replace HP := yh ((uh HP).trans (if_neg (by intro q; rw [decide_eq_true (by omega), decide_eq_true (by omega)] at d1; simp at d1)))
  clear d1
  go_wp2_with fail
  first | go_ret | (rw [Exit.noGoto_ret]; go_ret)
  exact ⟨by rw [uh HP]; rfl, uh HB⟩
 have hn : 1 ≤ ns.length ∧ ns.length ≤ 5 := by simp at d1; omega
 replace HP := yh ((uh HP).trans (if_pos hn))
 have hn5 := hn.2
 clear d1 hn
 go_wp2_with fail
 go_step3
 go_wp2_with fail
 go_loopw [5, 16] (fun f i wr => ∃ k : Nat, k ≤ ns.length ∧ f = .int .i64 0 ∧ i = .int .i64 k ∧ r = bz c k (ns.drop k) ∧ Below w.heap.size w wr ∧ ar 0 #[.int .i64 c.ab, .slice a3 c.ids.length d3] 32 wr w.heap.size) (fun _ i _ => ns.length - (intOf i).toNat)
 case atStart => exact ⟨0, Nat.zero_le _, rfl, rfl, uh HP, uh HB, uh HCH⟩
 case round =>
  obtain ⟨k, hk, rfl, rfl, hF, hB, hC⟩ := hrel
  clear HP HB HCH
  by_cases hlt : k < ns.length
  ·
   obtain ⟨b, off, rfl, hbl⟩ := ad.aD (uh H) (by omega)
   obtain ⟨row, hcl, hr⟩ := ad.aR (uh H) hlt
   replace hr := hr.af hB
   rw [gS c hlt] at hF
   have hdl : decide ((k : Int) < (ns.length : Int)) = true := by simp; omega
   obtain ⟨a4, d4, rfl, -⟩ := aQ hr
   have c0 : wr.cell? ⟨b, off + k * 7, none⟩ = some (.int .i64 (ns[k]).id) := (hB.cell (p := ⟨b, off + k * 7, none⟩) hbl).trans (hcl 0 (by decide))
   have c1 : wr.cell? ⟨b, off + k * 7 + 1, none⟩ = some (.bool (ns[k]).up) := (hB.cell (p := ⟨b, off + k * 7 + 1, none⟩) hbl).trans (hcl 1 (by decide))
   have c2 : wr.cell? ⟨b, off + k * 7 + 2, none⟩ = some (.int .i64 (ns[k]).ab) := (hB.cell (p := ⟨b, off + k * 7 + 2, none⟩) hbl).trans (hcl 2 (by decide))
   have c3 : wr.cell? ⟨b, off + k * 7 + 3, none⟩ = some (.int .i64 (ns[k]).ai) := (hB.cell (p := ⟨b, off + k * 7 + 3, none⟩) hbl).trans (hcl 3 (by decide))
   have c4 : wr.cell? ⟨b, off + k * 7 + 4, none⟩ = some (.slice a4 (ns[k]).writes.length d4) := (hB.cell (p := ⟨b, off + k * 7 + 4, none⟩) hbl).trans (hcl 4 (by decide))
   have c5 : wr.cell? ⟨b, off + k * 7 + 5, none⟩ = some (.int .i64 (ns[k]).sure) := (hB.cell (p := ⟨b, off + k * 7 + 5, none⟩) hbl).trans (hcl 5 (by decide))
   have c6 : wr.cell? ⟨b, off + k * 7 + 6, none⟩ = some (.int .i64 (ns[k]).clean) := (hB.cell (p := ⟨b, off + k * 7 + 6, none⟩) hbl).trans (hcl 6 (by decide))
   have HF := yh hF
   have HR := yh hr
   have HB := yh hB
   have HC := yh hC
   clear hF hr hB hcl hC
   generalize hx : ns[k] = x at *
   clear hx
   have nb : Below wr.heap.size wr (wr.alloc (.cells #[.int .i64 x.id, .bool x.up, .int .i64 x.ab, .int .i64 x.ai, .slice a4 x.writes.length d4, .int .i64 x.sure, .int .i64 x.clean] 79)) := (Below.refl _ _).alloc (Nat.le_refl _) _
   have HX1 : Hid (ar 0 #[.int .i64 x.id, .bool x.up, .int .i64 x.ab, .int .i64 x.ai, .slice a4 x.writes.length d4, .int .i64 x.sure, .int .i64 x.clean] 79 (wr.alloc (.cells #[.int .i64 x.id, .bool x.up, .int .i64 x.ab, .int .i64 x.ai, .slice a4 x.writes.length d4, .int .i64 x.sure, .int .i64 x.clean] 79)) wr.heap.size) := aM (Nat.zero_le _)
   have HC1 := yh ((uh HC).au nb)
   have HR1 := yh ((uh HR).af nb)
   have HK1 := yh ((uh HK).af ((uh HB).trans (nb.mono (uh HB).size)))
   have HB1 := yh ((uh HB).trans (nb.mono (uh HB).size))
   clear nb HR HC HB
   go_upto_region 7 with fail
   generalize wr.alloc (.cells #[.int .i64 x.id, .bool x.up, .int .i64 x.ab, .int .i64 x.ai, .slice a4 x.writes.length d4, .int .i64 x.sure, .int .i64 x.clean] 79) = W1 at *
   clear c0 c1 c2 c3 c4 c5 c6
   have L1 : Hid (∀ W, Below W1.heap.size W1 W → Calls Tryz.prog 180 #[.agg #[.int .i64 x.id, .bool x.up, .int .i64 x.ab, .int .i64 x.ai, .slice a4 x.writes.length d4, .int .i64 x.sure, .int .i64 x.clean]] W fun e w' => e = .returned (.int .i64 (aC x)) ∧ Below W.heap.size W w') := fun W hW => fF _ x _ ((uh HR1).af hW)
   have L2 : Hid (∀ W, Below W1.heap.size W1 W → Calls Tryz.prog 181 #[.int .i64 (k : Int), .agg #[.int .i64 x.id, .bool x.up, .int .i64 x.ab, .int .i64 x.ai, .slice a4 x.writes.length d4, .int .i64 x.sure, .int .i64 x.clean]] W fun e w' => e = .returned (.int .i64 (if x.id ≠ (k : Int) + 1 then (1 : Int) else 0)) ∧ Below W.heap.size W w') := fun W hW => ib k _ x _ ((uh HR1).af hW) (by omega)
   have L3 : Hid (∀ W, Below W1.heap.size W1 W → Calls Tryz.prog 182 #[.agg #[.int .i64 c.ab, .slice a3 c.ids.length d3], .agg #[.int .i64 x.id, .bool x.up, .int .i64 x.ab, .int .i64 x.ai, .slice a4 x.writes.length d4, .int .i64 x.sure, .int .i64 x.clean]] W fun e w' => e = .returned (.int .i64 (cP c x)) ∧ Below W.heap.size W w') := fun W hW => hJ _ c _ x _ ((uh HK1).af hW) ((uh HR1).af hW)
   generalize aC x = c1 at *
   generalize (if x.id ≠ (k : Int) + 1 then (1 : Int) else 0) = c2 at *
   generalize cP c x = c3 at *
   refine wZz (fun w' => Below W1.heap.size W1 w') ((Below.refl _ _).drew) (fun zq => ?_)
   generalize W1.drew = wD at zq ⊢
   refine tkJ 0 (v := ?vn0) ?hn0 zq ?rn0
   case hn0 =>
    intro wS hSw
    have bS := (uh HX1).au hSw
    have q0 := ar.at bS 0 _ rfl
    have q1 := ar.at bS 1 _ rfl
    have q2 := ar.at bS 2 _ rfl
    have q3 := ar.at bS 3 _ rfl
    have q4 := ar.at bS 4 _ rfl
    have q5 := ar.at bS 5 _ rfl
    have q6 := ar.at bS 6 _ rfl
    simp only [ga, gb, gc] at q0 q1 q2 q3 q4 q5 q6
    clear bS hSw
    exact fZ
   refine tkH 2 zq ?_
   refine tkJ 3 (v := ?vn3) ?hn3 zq ?rn3
   case hn3 =>
    intro wS hSw
    have bS := (uh HX1).au hSw
    have q0 := ar.at bS 0 _ rfl
    have q1 := ar.at bS 1 _ rfl
    have q2 := ar.at bS 2 _ rfl
    have q3 := ar.at bS 3 _ rfl
    have q4 := ar.at bS 4 _ rfl
    have q5 := ar.at bS 5 _ rfl
    have q6 := ar.at bS 6 _ rfl
    simp only [ga, gb, gc] at q0 q1 q2 q3 q4 q5 q6
    clear bS hSw
    exact fZ
   refine tkJ 5 (v := ?vn5) ?hn5 zq ?rn5
   case hn5 =>
    intro wS hSw
    have bS := (uh HC1).au hSw
    have q0 := ar.at bS 0 _ rfl
    have q1 := ar.at bS 1 _ rfl
    simp only [ga, gb, gc] at q0 q1
    clear bS hSw
    exact fZ
   refine tkJ 6 (v := ?vn6) ?hn6 zq ?rn6
   case hn6 =>
    intro wS hSw
    have bS := (uh HX1).au hSw
    have q0 := ar.at bS 0 _ rfl
    have q1 := ar.at bS 1 _ rfl
    have q2 := ar.at bS 2 _ rfl
    have q3 := ar.at bS 3 _ rfl
    have q4 := ar.at bS 4 _ rfl
    have q5 := ar.at bS 5 _ rfl
    have q6 := ar.at bS 6 _ rfl
    simp only [ga, gb, gc] at q0 q1 q2 q3 q4 q5 q6
    clear bS hSw
    exact fZ
   refine tkH 9 zq ?_
   refine rdH 1 (fun K hK => ?_)
   go_simp
   go_at_call 180
   refine (uh L1 _ zq).mono ?_
   rintro e u1 ⟨rfl, hb1⟩
   have hz1 := hb1.size
   try go_wp2_with fail
   refine hK.out _ _ (zq.trans (hb1.mono zq.size)) (fun zq => ?_)
   clear hK K
   try simp only [Act.put, pz, py, px]
   refine rdH 4 (fun K hK => ?_)
   go_simp
   go_at_call 181
   refine (uh L2 _ zq).mono ?_
   rintro e u2 ⟨rfl, hb2⟩
   have hz2 := hb2.size
   try go_wp2_with fail
   refine hK.out _ _ (zq.trans (hb2.mono zq.size)) (fun zq => ?_)
   clear hK K
   try simp only [Act.put, pz, py, px]
   refine rdH 7 (fun K hK => ?_)
   go_simp
   go_at_call 182
   refine (uh L3 _ zq).mono ?_
   rintro e u3 ⟨rfl, hb3⟩
   have hz3 := hb3.size
   try go_wp2_with fail
   refine hK.out _ _ (zq.trans (hb3.mono zq.size)) (fun zq => ?_)
   clear hK K
   try simp only [Act.put, pz, py, px]
   refine tkH 8 zq ?_
   refine dZ ?_
   have HB5 := yh ((uh HB1).trans (zq.mono (uh HB1).size))
   replace HCH := yh ((uh HC1).au zq)
   clear zq HX1 HC1 HR1 HK1 hb1 hb2 hb3 hz1 hz2 hz3 HB1
   clear L1 L2 L3
   have x0 : ∀ w : World, (Instr.index 208 (.agg #[.int .i64 c1, .int .i64 c2, .int .i64 c3]) (.int .i64 0)).run Tryz.prog w = .ok (.int .i64 c1) w := fun _ => by kernel_rfl
   have x1 : ∀ w : World, (Instr.index 208 (.agg #[.int .i64 c1, .int .i64 c2, .int .i64 c3]) (.int .i64 1)).run Tryz.prog w = .ok (.int .i64 c2) w := fun _ => by kernel_rfl
   have x2 : ∀ w : World, (Instr.index 208 (.agg #[.int .i64 c1, .int .i64 c2, .int .i64 c3]) (.int .i64 2)).run Tryz.prog w = .ok (.int .i64 c3) w := fun _ => by kernel_rfl
   by_cases e1 : c1 = 0
   ·
    subst e1
    by_cases e2 : c2 = 0
    ·
     subst e2
     by_cases e3 : c3 = 0
     ·
      subst e3
      replace HF := yh ((uh HF).trans (by rw [if_neg (by decide), if_neg (by decide), if_neg (by decide)]))
      go_wp2_with fail
      refine wp_loop_rounds 5 ?_
      rw [rounds_succ]
      go_wp2_with fail
      rw [rounds_succ]
      go_wp2_with fail
      rw [rounds_succ]
      go_wp2_with fail
      rw [rounds_succ]
      go_wp2_with fail
      go_roundw
      case rel => exact ⟨k + 1, by omega, rfl, by go_num, uh HF, uh HB5, uh HCH⟩
      case measure => simp [intOf]; omega
     have hd : (c3 != 0) = true := by simpa using e3
     replace HF := yh ((uh HF).trans (by rw [if_neg (by decide), if_neg (by decide), if_pos e3]))
     clear e3
     go_wp2_with fail
     refine wp_loop_rounds 5 ?_
     rw [rounds_succ]
     go_wp2_with fail
     rw [rounds_succ]
     go_wp2_with fail
     rw [rounds_succ]
     go_wp2_with fail
     first | go_ret | (rw [Exit.noGoto_ret]; go_ret)
     exact ⟨by rw [uh HF]; rfl, uh HB5⟩
    have hd : (c2 != 0) = true := by simpa using e2
    replace HF := yh ((uh HF).trans (by rw [if_neg (by decide), if_pos e2]))
    clear e2
    go_wp2_with fail
    refine wp_loop_rounds 5 ?_
    rw [rounds_succ]
    go_wp2_with fail
    rw [rounds_succ]
    go_wp2_with fail
    first | go_ret | (rw [Exit.noGoto_ret]; go_ret)
    exact ⟨by rw [uh HF]; rfl, uh HB5⟩
   have hd : (c1 != 0) = true := by simpa using e1
   replace HF := yh ((uh HF).trans (if_pos e1))
   clear e1
   go_wp2_with fail
   refine wp_loop_rounds 5 ?_
   rw [rounds_succ]
   go_wp2_with fail
   first | go_ret | (rw [Exit.noGoto_ret]; go_ret)
   exact ⟨by rw [uh HF]; rfl, uh HB5⟩
  obtain rfl : k = ns.length := by omega
  rw [List.drop_length] at hF
  have hdl : decide ((ns.length : Int) < (ns.length : Int)) = false := by simp
  have HF := yh hF
  have HB := yh hB
  clear hF hB hC
  go_wp2_with fail
  first | go_ret | (rw [Exit.noGoto_ret]; go_ret)
  exact ⟨by rw [uh HF]; rfl, uh HB⟩
def cI (ev : Int) (e : bM) : Bool := ((decide (1 ≤ e.kind) && decide (e.kind ≤ 3)) && ((decide (1 ≤ e.start) && decide (e.start ≤ ev)) && ((e.fin == 0 || (decide (e.start ≤ e.fin) && decide (e.fin ≤ ev))) && (decide (0 ≤ e.place) && decide (e.place ≤ 40)))))
theorem jR (cs : List Value) (x : bM) (ev : Int) (w : World) (h : ad.aJ.Reads w cs x) :
  Calls Tryz.prog 187 #[.agg cs.toArray, .int .i64 ev] w fun e w' => e = .returned (.bool (cI ev x)) ∧ Below w.heap.size w w' := by
 have HP : Hid (cI ev x = ((decide (1 ≤ x.kind) && decide (x.kind ≤ 3)) && ((decide (1 ≤ x.start) && decide (x.start ≤ ev)) && ((x.fin == 0 || (decide (x.start ≤ x.fin) && decide (x.fin ≤ ev))) && (decide (0 ≤ x.place) && decide (x.place ≤ 40)))))) := rfl
 generalize cI ev x = r at *
 obtain ⟨aq, dq, av, dv, ah, dh, rfl, -, -, -⟩ := bu h
 have nb : Below w.heap.size w (w.alloc (.cells #[.int .i64 x.kind, .int .i64 x.aa, .int .i64 x.seq, .int .i64 x.id, .slice aq x.query.length dq, .int .i64 x.k, .int .i64 x.start, .int .i64 x.fin, .int .i64 x.place, .slice av x.vec.length dv, .slice ah x.aY.length dh] 85)) := (Below.refl _ _).alloc (Nat.le_refl _) _
 have bX : ar 0 #[.int .i64 x.kind, .int .i64 x.aa, .int .i64 x.seq, .int .i64 x.id, .slice aq x.query.length dq, .int .i64 x.k, .int .i64 x.start, .int .i64 x.fin, .int .i64 x.place, .slice av x.vec.length dv, .slice ah x.aY.length dh] 85 (w.alloc (.cells #[.int .i64 x.kind, .int .i64 x.aa, .int .i64 x.seq, .int .i64 x.id, .slice aq x.query.length dq, .int .i64 x.k, .int .i64 x.start, .int .i64 x.fin, .int .i64 x.place, .slice av x.vec.length dv, .slice ah x.aY.length dh] 85)) w.heap.size := aM (Nat.zero_le _)
 have z0 := ar.at bX 0 _ rfl
 have z6 := ar.at bX 6 _ rfl
 have z7 := ar.at bX 7 _ rfl
 have z8 := ar.at bX 8 _ rfl
 simp only [ga, gb, gc] at z0 z6 z7 z8
 have HB := yh nb
 clear nb bX h
 go_enter Tryz.func187, Tryz.ntmps187
 go_upto_region 1 with fail
 generalize w.alloc (.cells #[.int .i64 x.kind, .int .i64 x.aa, .int .i64 x.seq, .int .i64 x.id, .slice aq x.query.length dq, .int .i64 x.k, .int .i64 x.start, .int .i64 x.fin, .int .i64 x.place, .slice av x.vec.length dv, .slice ah x.aY.length dh] 85) = w1 at *
 generalize x.kind = kd at *
 generalize x.start = st at *
 generalize x.fin = fi at *
 generalize x.place = pl at *
 go_cut [5] from 8 to 15 (fun s5 wx => s5 = .bool (decide (1 ≤ kd) && decide (kd ≤ 3)) ∧ wx = w1)
 case first =>
  cases k1 : decide (1 ≤ kd)
  ·
   go_wp2_with fail
   go_meet
   exact ⟨by rw [k1]; rfl, rfl⟩
  go_wp2_with fail
  go_meet
  exact ⟨by rw [k1, Bool.true_and], rfl⟩
 case rest =>
  obtain ⟨rfl, rfl⟩ := hcut
  generalize (decide (1 ≤ kd) && decide (kd ≤ 3)) = A at *
  go_upto_region 2 with fail
  go_cut [6] from 16 to 24 (fun s wx => s = .bool (decide (1 ≤ st) && decide (st ≤ ev)) ∧ wx = wc)
  case first =>
   cases k3 : decide (1 ≤ st)
   ·
    go_wp2_with fail
    go_meet
    exact ⟨by rw [k3]; rfl, rfl⟩
   go_wp2_with fail
   go_meet
   exact ⟨by rw [k3, Bool.true_and], rfl⟩
  case rest =>
   obtain ⟨rfl, rfl⟩ := hcut
   generalize (decide (1 ≤ st) && decide (st ≤ ev)) = B at *
   go_upto_region 3 with fail
   go_cut [7] from 25 to 35 (fun s wx => s = .bool (decide (st ≤ fi) && decide (fi ≤ ev)) ∧ wx = wc)
   case first =>
    cases k5 : decide (st ≤ fi)
    ·
     go_wp2_with fail
     go_meet
     exact ⟨by rw [k5]; rfl, rfl⟩
    go_wp2_with fail
    go_meet
    exact ⟨by rw [k5, Bool.true_and], rfl⟩
   case rest =>
    obtain ⟨rfl, rfl⟩ := hcut
    generalize (decide (st ≤ fi) && decide (fi ≤ ev)) = C at *
    cases A
    ·
     go_wp2_with fail
     go_ret
     exact ⟨by rw [uh HP]; rfl, uh HB⟩
    cases B
    ·
     go_wp2_with fail
     go_ret
     exact ⟨by rw [uh HP]; rfl, uh HB⟩
    cases C
    ·
     generalize k7 : (fi == 0) = Z at *
     cases Z
     ·
      go_wp2_with fail
      go_ret
      exact ⟨by rw [uh HP]; simp, uh HB⟩
     skip
     go_wp2_with fail
     refine (ct pl 40 wc).mono ?_
     rintro e w2 ⟨rfl, h2⟩
     subst w2
     generalize (decide (0 ≤ pl) && decide (pl ≤ 40)) = D at *
     go_wp2_with fail
     go_ret
     exact ⟨by rw [uh HP]; simp, uh HB⟩
    skip
    go_wp2_with fail
    refine (ct pl 40 wc).mono ?_
    rintro e w2 ⟨rfl, h2⟩
    subst w2
    generalize (decide (0 ≤ pl) && decide (pl ≤ 40)) = D at *
    go_wp2_with fail
    go_ret
    exact ⟨by rw [uh HP]; simp, uh HB⟩
theorem jG (ev : Int) {xs : List bM} {k : Nat} (hk : k < xs.length) : (xs.drop k).all (cI ev) = (cI ev xs[k] && (xs.drop (k + 1)).all (cI ev)) := by
 rw [List.drop_eq_getElem_cons hk, List.all_cons]
def ji (ev : Int) (xs : List bM) : Int := if 60 < xs.length then 2 else if (xs.drop 0).all (cI ev) then 0 else 3
theorem fJ (v : Value) (xs : List bM) (ev : Int) (w : World) (h : (ad.sl ad.aJ).Reads w [v] xs) :
  Calls Tryz.prog 120 #[v, .int .i64 ev] w fun e w' => e = .returned (.int .i64 (ji ev xs)) ∧ Below w.heap.size w w' := by
 have hbig := h.cK
 obtain ⟨ao, cap, rfl⟩ := aB h
 have H := yh h
 have HP : Hid (ji ev xs = if 60 < xs.length then 2 else if (xs.drop 0).all (cI ev) then 0 else 3) := rfl
 clear h
 generalize ji ev xs = r at *
 go_enter Tryz.func120, Tryz.ntmps120
 cases d1 : decide ((60 : Int) < (xs.length : Int))
 ·
  replace HP := yh ((uh HP).trans (if_neg (by simp at d1; omega)))
  go_wp2_with fail
  clear d1
  go_loopw [12] (fun i wr => ∃ k : Nat, k ≤ xs.length ∧ i = .int .i64 k ∧ r = (if (xs.drop k).all (cI ev) = true then 0 else 3) ∧ Below w.heap.size w wr) (fun i _ => xs.length - (intOf i).toNat)
  case atStart => exact ⟨0, Nat.zero_le _, rfl, uh HP, Below.refl _ _⟩
  case round =>
   obtain ⟨k, hk, rfl, hF, hB⟩ := hrel
   clear HP
   by_cases hlt : k < xs.length
   ·
    obtain ⟨b, off, rfl, hbl⟩ := ad.aD (uh H) (by omega)
    obtain ⟨row, hcl, hr⟩ := ad.aR (uh H) hlt
    replace hr := hr.af hB
    rw [jG ev hlt] at hF
    have hdl : decide ((k : Int) < (xs.length : Int)) = true := by simp; omega
    obtain ⟨aq, dq, av, dv, ah, dh, rfl, -⟩ := bu hr
    have c0 : wr.cell? ⟨b, off + k * 11, none⟩ = some (.int .i64 (xs[k]).kind) := (hB.cell (p := ⟨b, off + k * 11, none⟩) hbl).trans (hcl 0 (by decide))
    have c1 : wr.cell? ⟨b, off + k * 11 + 1, none⟩ = some (.int .i64 (xs[k]).aa) := (hB.cell (p := ⟨b, off + k * 11 + 1, none⟩) hbl).trans (hcl 1 (by decide))
    have c2 : wr.cell? ⟨b, off + k * 11 + 2, none⟩ = some (.int .i64 (xs[k]).seq) := (hB.cell (p := ⟨b, off + k * 11 + 2, none⟩) hbl).trans (hcl 2 (by decide))
    have c3 : wr.cell? ⟨b, off + k * 11 + 3, none⟩ = some (.int .i64 (xs[k]).id) := (hB.cell (p := ⟨b, off + k * 11 + 3, none⟩) hbl).trans (hcl 3 (by decide))
    have c4 : wr.cell? ⟨b, off + k * 11 + 4, none⟩ = some (.slice aq (xs[k]).query.length dq) := (hB.cell (p := ⟨b, off + k * 11 + 4, none⟩) hbl).trans (hcl 4 (by decide))
    have c5 : wr.cell? ⟨b, off + k * 11 + 5, none⟩ = some (.int .i64 (xs[k]).k) := (hB.cell (p := ⟨b, off + k * 11 + 5, none⟩) hbl).trans (hcl 5 (by decide))
    have c6 : wr.cell? ⟨b, off + k * 11 + 6, none⟩ = some (.int .i64 (xs[k]).start) := (hB.cell (p := ⟨b, off + k * 11 + 6, none⟩) hbl).trans (hcl 6 (by decide))
    have c7 : wr.cell? ⟨b, off + k * 11 + 7, none⟩ = some (.int .i64 (xs[k]).fin) := (hB.cell (p := ⟨b, off + k * 11 + 7, none⟩) hbl).trans (hcl 7 (by decide))
    have c8 : wr.cell? ⟨b, off + k * 11 + 8, none⟩ = some (.int .i64 (xs[k]).place) := (hB.cell (p := ⟨b, off + k * 11 + 8, none⟩) hbl).trans (hcl 8 (by decide))
    have c9 : wr.cell? ⟨b, off + k * 11 + 9, none⟩ = some (.slice av (xs[k]).vec.length dv) := (hB.cell (p := ⟨b, off + k * 11 + 9, none⟩) hbl).trans (hcl 9 (by decide))
    have c10 : wr.cell? ⟨b, off + k * 11 + 10, none⟩ = some (.slice ah (xs[k]).aY.length dh) := (hB.cell (p := ⟨b, off + k * 11 + 10, none⟩) hbl).trans (hcl 10 (by decide))
    have HF := yh hF
    have HR := yh hr
    have HB := yh hB
    clear hF hr hB hcl
    generalize hx : xs[k] = x at *
    clear hx
    have nb : Below wr.heap.size wr (wr.alloc (.cells #[.int .i64 x.kind, .int .i64 x.aa, .int .i64 x.seq, .int .i64 x.id, .slice aq x.query.length dq, .int .i64 x.k, .int .i64 x.start, .int .i64 x.fin, .int .i64 x.place, .slice av x.vec.length dv, .slice ah x.aY.length dh] 85)) := (Below.refl _ _).alloc (Nat.le_refl _) _
    have HL := yh (jR _ x ev _ ((uh HR).af nb))
    replace HB := bZ HB nb
    clear nb
    go_wp2_with fail
    refine (uh HL).mono ?_
    generalize wr.alloc (.cells #[.int .i64 x.kind, .int .i64 x.aa, .int .i64 x.seq, .int .i64 x.id, .slice aq x.query.length dq, .int .i64 x.k, .int .i64 x.start, .int .i64 x.fin, .int .i64 x.place, .slice av x.vec.length dv, .slice ah x.aY.length dh] 85) = W1 at *
    rintro e W2 ⟨rfl, hb⟩
    replace HB := bZ HB hb
    clear hb HL c0 c1 c2 c3 c4 c5 c6 c7 c8 c9 c10
    cases hf : cI ev x
    ·
     replace HF := yh ((uh HF).trans (if_neg (by rw [hf]; simp)))
     clear hf
     go_wp2_with fail
     go_ret
     exact ⟨by rw [uh HF]; rfl, uh HB⟩
    rw [hf, Bool.true_and] at HF
    clear hf
    go_wp2_with fail
    go_roundw
    case rel => exact ⟨k + 1, by omega, by go_num, uh HF, uh HB⟩
    case measure => simp [intOf]; omega
   obtain rfl : k = xs.length := by omega
   rw [List.drop_length, List.all_nil, if_pos rfl] at hF
   have hdl : decide ((xs.length : Int) < (xs.length : Int)) = false := by simp
   have HF := yh hF
   have HB := yh hB
   clear hF hB
   go_wp2_with fail
   go_ret
   exact ⟨by rw [uh HF]; rfl, uh HB⟩
 replace HP := yh ((uh HP).trans (if_pos (by simp at d1; omega)))
 go_wp2_with fail
 go_ret
 exact ⟨by rw [uh HP]; rfl, Below.refl _ _⟩
def dg (c : Int) : List PanicEntry := [{ v := .iface 285 (.agg #[.int .i64 c]), recovered := false }]
def dX (c : Int) : Ending := if c = 0 then .returned (.tuple #[]) else .panicked (dg c)
theorem fX {c : Int} (h : c = 0) : dX c = .returned (.tuple #[]) := by rw [dX, if_pos h]
theorem cQ {c : Int} (h : c ≠ 0) : dX c = .panicked (dg c) := by rw [dX, if_neg h]
def gX (v : Value) (c : Int) : Ending := if c = 0 then .returned v else .panicked (dg c)
theorem gK {v : Value} {c : Int} (h : c = 0) : gX v c = .returned v := by rw [gX, if_pos h]
theorem fW {v : Value} {c : Int} (h : c ≠ 0) : gX v c = .panicked (dg c) := by rw [gX, if_neg h]
theorem cH (c : Int) (w : World) :
  Calls Tryz.prog 232 #[.bool true, .int .i64 c] w fun e w' => e = .returned (.tuple #[]) ∧ w' = w := by
 go_enter Tryz.func232, Tryz.ntmps232
 go_wp2_with fail
 go_end0
 exact ⟨rfl, rfl⟩
theorem cG (c : Int) (w : World) :
  Calls Tryz.prog 232 #[.bool false, .int .i64 c] w fun e w' => e = .panicked (dg c) ∧ w' = w := by
 go_enter Tryz.func232, Tryz.ntmps232
 go_wp2_with fail
 exact ⟨rfl, rfl, rfl⟩
theorem fD {ps qs : List Int} {k : Nat} (h : ps.getD k 0 ≠ qs.getD k 0) : decide (ps = qs) = false := by
 simp only [decide_eq_false_iff_not]
 rintro rfl
 exact h rfl
theorem eO {ps qs : List Int} (hl : ps.length = qs.length) (h : ∀ j, j < ps.length → ps.getD j 0 = qs.getD j 0) : decide (ps = qs) = true := by
 simp only [decide_eq_true_eq]
 refine List.ext_getElem hl fun j h1 h2 => ?_
 have := h j h1
 simpa [List.getD, h1, h2] using this
theorem im (b off cap b2 off2 cap2 : Nat) (ps qs : List Int) (w : World) (hl : ps.length = qs.length) (hn : ps.length ≤ 9223372036854775807) (hc : ∀ j, j < ps.length → w.cell? ⟨b, off + j, none⟩ = some (.int .i64 (ps.getD j 0)))
  (hc2 : ∀ j, j < ps.length → w.cell? ⟨b2, off2 + j, none⟩ = some (.int .i64 (qs.getD j 0))) :
  Calls Tryz.prog 214 #[.slice (some ⟨b, off, none⟩) ps.length cap, .slice (some ⟨b2, off2, none⟩) ps.length cap2] w fun e w' => e = .returned (.bool (decide (ps = qs))) ∧ Below w.heap.size w w' := by
 have HL := yh hl
 clear hl
 go_enter Tryz.func214, Tryz.ntmps214
 go_wp2
 go_loopw [13] (fun i wr => ∃ k : Nat, k ≤ ps.length ∧ i = .int .i64 k ∧ Below w.heap.size w wr ∧ ∀ j, j < k → ps.getD j 0 = qs.getD j 0) (fun i _ => ps.length - (intOf i).toNat)
 case atStart => exact ⟨0, Nat.zero_le _, rfl, Below.refl _ _, fun j hj => by omega⟩
 case round =>
  obtain ⟨k, hk, rfl, hB, hq⟩ := hrel
  by_cases hlt : k < ps.length
  ·
   have hcx : wr.cell? ⟨b, off + k, none⟩ = some (.int .i64 (ps.getD k 0)) := (hB.cell (World.block_lt_of_cell? _ _ (hc k hlt))).trans (hc k hlt)
   have hcy : wr.cell? ⟨b2, off2 + k, none⟩ = some (.int .i64 (qs.getD k 0)) := (hB.cell (World.block_lt_of_cell? _ _ (hc2 k hlt))).trans (hc2 k hlt)
   have HQ := yh hq
   have HB := yh hB
   clear hc hc2 hq hB
   by_cases he : ps.getD k 0 = qs.getD k 0
   ·
    have HE := yh he
    rw [← he] at hcy
    clear he
    generalize ps.getD k 0 = x at hcx hcy
    have hxx : (x != x) = false := by simp
    go_wp2
    go_quiet (fail)
    go_wp2
    go_roundw
    case rel =>
     refine ⟨k + 1, by omega, by go_num, below_drewN (uh HB) _, fun j hj => ?_⟩
     by_cases hjk : j < k
     ·
      exact uh HQ j hjk
     obtain rfl : j = k := by omega
     exact uh HE
    case measure => simp [intOf]; omega
   have HN := yh (fD he)
   have hxy : (ps.getD k 0 != qs.getD k 0) = true := by rw [bne_iff_ne]; exact he
   clear he
   generalize ps.getD k 0 = x at hcx hxy
   generalize qs.getD k 0 = y at hcy hxy
   go_wp2
   go_quiet (fail)
   go_wp2
   go_ret
   exact ⟨by rw [uh HN]; rfl, below_drewN (uh HB) _⟩
  obtain rfl : k = ps.length := by omega
  have HN := yh (eO (uh HL) hq)
  have HB := yh hB
  clear hc hc2 hq hB
  go_wp2
  go_ret
  exact ⟨by rw [uh HN]; rfl, uh HB⟩
theorem gM (ao ao2 : Option Addr) (n m cap cap2 : Nat) (w : World) (h : n ≠ m) :
  Calls Tryz.prog 214 #[.slice ao n cap, .slice ao2 m cap2] w fun e w' => e = .returned (.bool false) ∧ Below w.heap.size w w' := by
 have hd : ((n : Int) != (m : Int)) = true := by rw [bne_iff_ne]; omega
 go_enter Tryz.func214, Tryz.ntmps214
 go_wp2
 go_ret
 exact ⟨rfl, Below.refl _ _⟩
theorem gn (ao ao2 : Option Addr) (cap cap2 : Nat) (w : World) :
  Calls Tryz.prog 214 #[.slice ao 0 cap, .slice ao2 0 cap2] w fun e w' => e = .returned (.bool true) ∧ Below w.heap.size w w' := by
 go_enter Tryz.func214, Tryz.ntmps214
 go_wp2
 refine wp_loop_rounds 1 ?_
 rw [rounds_succ]
 go_wp2
 go_ret
 exact ⟨rfl, Below.refl _ _⟩
theorem lh (v v2 : Value) (ps qs : List Int) (w : World) (h : bh w v ps) (h2 : bh w v2 qs) (hn : ps.length ≤ 9223372036854775807) :
  Calls Tryz.prog 214 #[v, v2] w fun e w' => e = .returned (.bool (decide (ps = qs))) ∧ Below w.heap.size w w' := by
 obtain ⟨ao, cap, rfl, hwf, hc⟩ := h
 obtain ⟨ao2, cap2, rfl, _, hc2⟩ := h2
 by_cases hl : ps.length = qs.length
 ·
  by_cases hp : 0 < ps.length
  ·
   obtain ⟨b, off, rfl, hc1⟩ := hc hp
   obtain ⟨b2, off2, rfl, hc3⟩ := hc2 (by omega)
   rw [← hl] at hc3 ⊢
   exact im b off cap b2 off2 cap2 ps qs w hl hn hc1 hc3
  obtain rfl : ps = [] := List.eq_nil_of_length_eq_zero (by omega)
  obtain rfl : qs = [] := List.eq_nil_of_length_eq_zero (by simpa using hl.symm)
  exact gn ao ao2 cap cap2 w
 rw [show decide (ps = qs) = false by simp only [decide_eq_false_iff_not]; rintro rfl; exact hl rfl]
 exact gM ao ao2 _ _ cap cap2 w hl
theorem fT (cs cs2 : List Value) (x y : ak) (w : World) (h : ad.ag.Reads w cs x) (h2 : ad.ag.Reads w cs2 y) :
  Calls Tryz.prog 252 #[.agg cs.toArray, .agg cs2.toArray] w fun e w' => e = .returned (.bool (aU x y)) ∧ Below w.heap.size w w' := by
 obtain ⟨a2, d2, rfl, R2⟩ := aI h
 obtain ⟨a2z, d2z, rfl, R2z⟩ := aI h2
 clear h h2
 have HB : Hid (Below w.heap.size w ((w.alloc (.cells #[.int .i64 x.kind, .int .i64 x.id, .slice a2 x.vec.length d2, .int .i64 x.aa, .int .i64 x.seq] 142)).alloc (.cells #[.int .i64 y.kind, .int .i64 y.id, .slice a2z y.vec.length d2z, .int .i64 y.aa, .int .i64 y.seq] 142))) := ((Below.refl _ _).alloc (Nat.le_refl _) _).alloc (by simp) _
 cases e0 : (x.kind == y.kind) with
 | false =>
  have HS : Hid (aU x y = false) := by
   show aU x y = false
   simp [aU, e0]
  go_enter Tryz.func252, Tryz.ntmps252
  go_wp2_with fail
  go_ret
  exact ⟨by rw [uh HS]; rfl, uh HB⟩
 | true =>
  cases e1 : (x.id == y.id) with
  | false =>
   have HS : Hid (aU x y = false) := by
    show aU x y = false
    simp [aU, e0, e1]
   go_enter Tryz.func252, Tryz.ntmps252
   go_wp2_with fail
   go_ret
   exact ⟨by rw [uh HS]; rfl, uh HB⟩
  | true =>
   cases e2 : (x.aa == y.aa) with
   | false =>
    have HS : Hid (aU x y = false) := by
     show aU x y = false
     simp [aU, e0, e1, e2]
    go_enter Tryz.func252, Tryz.ntmps252
    go_wp2_with fail
    go_ret
    exact ⟨by rw [uh HS]; rfl, uh HB⟩
   | true =>
    cases e3 : (x.seq == y.seq) with
    | false =>
     have HS : Hid (aU x y = false) := by
      show aU x y = false
      simp [aU, e0, e1, e2, e3]
     go_enter Tryz.func252, Tryz.ntmps252
     go_wp2_with fail
     go_ret
     exact ⟨by rw [uh HS]; rfl, uh HB⟩
    | true =>
     have HS : Hid (aU x y = decide (x.vec = y.vec)) := by
      show aU x y = decide (x.vec = y.vec)
      simp [aU, e0, e1, e2, e3]
     have L := yh (lh _ _ x.vec y.vec _ ((ad.bd R2).af (uh HB)) ((ad.bd R2z).af (uh HB)) R2.cK)
     clear R2 R2z
     go_enter Tryz.func252, Tryz.ntmps252
     go_wp2_with fail
     refine (uh L).mono ?_
     rintro e w1 ⟨rfl, hb⟩
     have HB1 := yh ((uh HB).trans (hb.mono (uh HB).size))
     clear hb L HB
     go_wp2_with fail
     go_ret
     exact ⟨by rw [uh HS]; rfl, uh HB1⟩
end Go.Proofs.YtecagllmonckgaaGreat
