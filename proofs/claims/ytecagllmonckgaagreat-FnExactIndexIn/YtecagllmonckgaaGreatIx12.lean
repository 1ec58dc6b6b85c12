/-
  Texts of this proof in one: SpecWF, SpecComm, SpecSeen, NodeKitP, SpecPlace, ImplTail, ImplTailIn, ImplSure, ImplLast, ImplSeenAt, ImplPlace, LawIndex, OpenChain, OpenWrite.
  Their conditions stand in their theorems.
-/
import Derived.Test.YtecagllmonckgaaGreatIx11
import Derived.Test.YtecagllmonckgaaGreatIx00
import Derived.Test.YtecagllmonckgaaGreatIx09
import Derived.Deep.RegionHeld3
import Derived.Deep.QuietTactic
import Derived.BigQuiet
import Derived.Test.YtecagllmonckgaaGreatIx10
import Derived.Test.YtecagllmonckgaaGreatIx06
import Derived.Test.YtecagllmonckgaaGreatIx08
import Derived.Deep.CutRange
import Derived.Test.YtecagllmonckgaaGreatIx07
import Derived.Test.YtecagllmonckgaaGreatIx05
import Derived.Test.YtecagllmonckgaaGreatIx01
set_option maxRecDepth 100000
set_option maxHeartbeats 4000000
namespace Go.Proofs.YtecagllmonckgaaGreat
open Go.RowKit
theorem jS (a3 : Option Addr) (d3 : Nat) (a4 : Option Addr) (d4 : Nat) (a5 : Option Addr) (d5 : Nat) (a6 : Option Addr) (d6 : Nat) (x : aM) (xb : Nat) (w : World) (hX : al 0 #[.int .i64 x.now, .int .i64 x.events, .int .i64 x.chain.ab, .slice a3 x.chain.ids.length d3, .slice a4 x.nodes.length d4, .slice a5 x.msgs.length d5, .slice a6 x.ae.length d6] 37 w xb) (h : ad.aW.Reads w [.int .i64 x.now, .int .i64 x.events, .int .i64 x.chain.ab, .slice a3 x.chain.ids.length d3, .slice a4 x.nodes.length d4, .slice a5 x.msgs.length d5, .slice a6 x.ae.length d6] x) :
  Calls Tryz.prog 85 #[.pointer (some ⟨xb, 0, none⟩)] w fun e w' => e = .returned (.int .i64 (aA x)) ∧ Below w.heap.size w w' := by
 have HX := yh hX
 have HR := yh h
 have HB := yh (Below.refl w.heap.size w)
 have HP : Hid (aA x = if (decide (0 ≤ x.now) && decide (x.now ≤ 9000)) = false ∨ (decide (0 ≤ x.events) && decide (x.events ≤ 9999)) = false then 3 else if au x.chain ≠ 0 then au x.chain
  else if x.nodes.length < 1 ∨ 5 < x.nodes.length then 2 else if aR x ≠ 0 then aR x else if aG x.msgs ≠ 0 then aG x.msgs
  else if 60 < x.ae.length then 2 else if (x.ae.drop 0).all (dm x) = true then 0 else 3) := by
  have e1 : (¬ (0 ≤ x.now ∧ x.now ≤ 9000) ∨ ¬ (0 ≤ x.events ∧ x.events ≤ 9999)) ↔ ((decide (0 ≤ x.now) && decide (x.now ≤ 9000)) = false ∨ (decide (0 ≤ x.events) && decide (x.events ≤ 9999)) = false) := by
   simp only [Bool.and_eq_false_iff, decide_eq_false_iff_not]
   omega
  show aA x = _
  unfold aA
  by_cases h1 : (decide (0 ≤ x.now) && decide (x.now ≤ 9000)) = false ∨ (decide (0 ≤ x.events) && decide (x.events ≤ 9999)) = false
  ·
   rw [if_pos (e1.2 h1), if_pos h1]
  rw [if_neg (fun q => h1 (e1.1 q)), if_neg h1]
  rfl
 clear h hX
 generalize aA x = r at *
 have z0 := al.at (uh HX) 0 _ rfl
 have z1 := al.at (uh HX) 1 _ rfl
 have z2 := al.at (uh HX) 2 _ rfl
 have z3 := al.at (uh HX) 3 _ rfl
 have z4 := al.at (uh HX) 4 _ rfl
 have z5 := al.at (uh HX) 5 _ rfl
 have z6 := al.at (uh HX) 6 _ rfl
 simp only [ga, gb, gc] at z0 z1 z2 z3 z4 z5 z6
 have xl := (uh HX).lt
 go_enter Tryz.func85, Tryz.ntmps85
 go_wp2_with fail
 refine (cP x.now 0 9000 w).mono ?_
 rintro e w2 ⟨rfl, h2⟩
 subst w2
 cases d1 : (decide (0 ≤ x.now) && decide (x.now ≤ 9000))
 ·
  replace HP := yh ((uh HP).trans (if_pos (Or.inl d1)))
  clear d1
  go_wp2_with fail
  go_ret
  exact ⟨by rw [uh HP]; rfl, uh HB⟩
 go_wp2_with fail
 refine (cP x.events 0 9999 w).mono ?_
 rintro e w2 ⟨rfl, h2⟩
 subst w2
 cases d2 : (decide (0 ≤ x.events) && decide (x.events ≤ 9999))
 ·
  replace HP := yh ((uh HP).trans (if_pos (Or.inr d2)))
  clear d1 d2
  go_wp2_with fail
  go_ret
  exact ⟨by rw [uh HP]; rfl, uh HB⟩
 replace HP := yh ((uh HP).trans (if_neg (by rw [d1, d2]; simp)))
 clear d1 d2
 go_wp2_with fail
 obtain ⟨_, _, _, _, _, _, _, _, hq, RC, -, -, -⟩ := aE (uh HR)
 simp only [List.cons.injEq, Value.slice.injEq, and_true, true_and] at hq
 obtain ⟨⟨rfl, rfl⟩, ⟨rfl, rfl⟩, ⟨rfl, rfl⟩, rfl, rfl⟩ := hq
 obtain ⟨_, _, hq, RI⟩ := bc RC
 simp only [List.cons.injEq, Value.slice.injEq, and_true, true_and] at hq
 obtain ⟨rfl, rfl⟩ := hq
 refine (jv xb 2 _ _ x.chain w ⟨(uh HX).at 2 _ rfl, (uh HX).at 3 _ rfl⟩ RI).mono ?_
 rintro e w2 ⟨rfl, h2⟩
 subst w2
 clear RC RI
 by_cases d3 : au x.chain ≠ 0
 ·
  have hd : (au x.chain != 0) = true := by simpa using d3
  replace HP := yh ((uh HP).trans (if_pos d3))
  clear d3
  generalize au x.chain = c at *
  go_wp2_with fail
  go_ret
  exact ⟨by rw [uh HP]; rfl, uh HB⟩
 replace HP := yh ((uh HP).trans (if_neg d3))
 have hd : au x.chain = 0 := by simpa using d3
 clear d3
 rw [hd]
 clear hd
 have hbn := (show x.nodes.length ≤ 9223372036854775807 from by
  obtain ⟨_, _, _, _, _, _, _, _, hq, -, RN, -, -⟩ := aE (uh HR)
  exact RN.db)
 by_cases d4 : x.nodes.length < 1 ∨ 5 < x.nodes.length
 ·
  replace HP := yh ((uh HP).trans (if_pos d4))
  by_cases d5 : x.nodes.length < 1
  ·
   have hd : decide ((x.nodes.length : Int) < 1) = true := by simp; omega
   clear d4 d5
   go_wp2_with fail
   go_ret
   exact ⟨by rw [uh HP]; rfl, uh HB⟩
  have hd : decide ((x.nodes.length : Int) < 1) = false := by simp; omega
  have hd2 : decide ((5 : Int) < (x.nodes.length : Int)) = true := by simp; omega
  clear d4 d5
  go_wp2_with fail
  go_ret
  exact ⟨by rw [uh HP]; rfl, uh HB⟩
 replace HP := yh ((uh HP).trans (if_neg d4))
 have hd : decide ((x.nodes.length : Int) < 1) = false := by simp; omega
 have hd2 : decide ((5 : Int) < (x.nodes.length : Int)) = false := by simp; omega
 have hn5 : x.nodes.length ≤ 5 := by omega
 clear d4
 go_wp2_with fail
 refine (jQ _ _ _ _ _ _ _ _ x xb w (uh HX) (uh HR)).mono ?_
 rintro e w4 ⟨rfl, hb⟩
 clear xl hn5 z0 z1 z2 z3 z4 z5 z6
 replace HX := yh ((uh HX).ar hb)
 replace HR := yh ((uh HR).af hb)
 replace HB := bZ HB hb
 clear hb
 have z0 := al.at (uh HX) 0 _ rfl
 have z1 := al.at (uh HX) 1 _ rfl
 have z2 := al.at (uh HX) 2 _ rfl
 have z3 := al.at (uh HX) 3 _ rfl
 have z4 := al.at (uh HX) 4 _ rfl
 have z5 := al.at (uh HX) 5 _ rfl
 have z6 := al.at (uh HX) 6 _ rfl
 simp only [ga, gb, gc] at z0 z1 z2 z3 z4 z5 z6
 have xl := (uh HX).lt
 by_cases d3 : aR x ≠ 0
 ·
  have hd : (aR x != 0) = true := by simpa using d3
  replace HP := yh ((uh HP).trans (if_pos d3))
  clear d3
  generalize aR x = c at *
  go_wp2_with fail
  go_ret
  exact ⟨by rw [uh HP]; rfl, uh HB⟩
 replace HP := yh ((uh HP).trans (if_neg d3))
 have hd : aR x = 0 := by simpa using d3
 clear d3
 rw [hd]
 clear hd
 go_wp2_with fail
 obtain ⟨_, _, _, _, _, _, _, _, hq, -, -, RM, -⟩ := aE (uh HR)
 simp only [List.cons.injEq, Value.slice.injEq, and_true, true_and] at hq
 obtain ⟨⟨rfl, rfl⟩, ⟨rfl, rfl⟩, ⟨rfl, rfl⟩, rfl, rfl⟩ := hq
 refine (jw _ x.msgs w4 RM).mono ?_
 rintro e w5 ⟨rfl, hb⟩
 clear RM xl z0 z1 z2 z3 z4 z5 z6
 replace HX := yh ((uh HX).ar hb)
 replace HR := yh ((uh HR).af hb)
 replace HB := bZ HB hb
 clear hb
 have z0 := al.at (uh HX) 0 _ rfl
 have z1 := al.at (uh HX) 1 _ rfl
 have z2 := al.at (uh HX) 2 _ rfl
 have z3 := al.at (uh HX) 3 _ rfl
 have z4 := al.at (uh HX) 4 _ rfl
 have z5 := al.at (uh HX) 5 _ rfl
 have z6 := al.at (uh HX) 6 _ rfl
 simp only [ga, gb, gc] at z0 z1 z2 z3 z4 z5 z6
 have xl := (uh HX).lt
 by_cases d3 : aG x.msgs ≠ 0
 ·
  have hd : (aG x.msgs != 0) = true := by simpa using d3
  replace HP := yh ((uh HP).trans (if_pos d3))
  clear d3
  generalize aG x.msgs = c at *
  go_wp2_with fail
  go_ret
  exact ⟨by rw [uh HP]; rfl, uh HB⟩
 replace HP := yh ((uh HP).trans (if_neg d3))
 have hd : aG x.msgs = 0 := by simpa using d3
 clear d3
 rw [hd]
 clear hd
 obtain ⟨_, _, _, _, _, _, _, _, hq, -, -, -, RE⟩ := aE (uh HR)
 simp only [List.cons.injEq, Value.slice.injEq, and_true, true_and] at hq
 obtain ⟨⟨rfl, rfl⟩, ⟨rfl, rfl⟩, ⟨rfl, rfl⟩, rfl, rfl⟩ := hq
 have HE := yh RE
 have hbig := RE.db
 clear RE
 by_cases d4 : 60 < x.ae.length
 ·
  replace HP := yh ((uh HP).trans (if_pos d4))
  have hd : decide ((60 : Int) < (x.ae.length : Int)) = true := by simp; omega
  clear d4
  go_wp2_with fail
  go_ret
  exact ⟨by rw [uh HP]; rfl, uh HB⟩
 replace HP := yh ((uh HP).trans (if_neg d4))
 have hd : decide ((60 : Int) < (x.ae.length : Int)) = false := by simp; omega
 clear d4
 go_wp2_with fail
 clear z0 z1 z2 z3 z4 z5 z6 xl hd
 go_loopw [6] (fun i wr => ∃ k : Nat, k ≤ x.ae.length ∧ i = .int .i64 k ∧ r = (if (x.ae.drop k).all (dm x) = true then 0 else 3) ∧ Below w5.heap.size w5 wr) (fun i _ => x.ae.length - (intOf i).toNat)
 case atStart => exact ⟨0, Nat.zero_le _, rfl, uh HP, Below.refl _ _⟩
 case round =>
  obtain ⟨k, hk, rfl, hF, hB⟩ := hrel
  clear HP
  have hX2 := (uh HX).ar hB
  have y6 := al.at hX2 6 _ rfl
  simp only [ga, gb, gc] at y6
  have xl := hX2.lt
  have HB3 := yh ((uh HB).trans (hB.mono (uh HB).size))
  by_cases hlt : k < x.ae.length
  ·
   obtain ⟨b, off, rfl, hbl⟩ := ad.aI (uh HE) (by omega)
   obtain ⟨row, hcl, hr⟩ := ad.aY (uh HE) hlt
   rw [List.drop_eq_getElem_cons hlt, List.all_cons] at hF
   have hdl : decide ((k : Int) < (x.ae.length : Int)) = true := by simp; omega
   have hrl := hr.len
   obtain ⟨aq, dq, av, dv, ah, dh, rfl, -⟩ := bu hr
   have hE : cr #[.int .i64 (x.ae[k]).kind, .int .i64 (x.ae[k]).aa, .int .i64 (x.ae[k]).seq, .int .i64 (x.ae[k]).id, .slice aq (x.ae[k]).query.length dq, .int .i64 (x.ae[k]).k, .int .i64 (x.ae[k]).start, .int .i64 (x.ae[k]).fin, .int .i64 (x.ae[k]).place, .slice av (x.ae[k]).vec.length dv, .slice ah (x.ae[k]).aV.length dh] wr b (off + k * 11) := cr.ofRow (A := ad.aL) (k := k) (fun m hm => (hB.cell (p := ⟨b, off + k * 11 + m, none⟩) hbl).trans (hcl m hm)) hrl (Nat.lt_of_lt_of_le hbl hB.size)
   have HL := yh (jn _ _ _ _ _ _ _ _ _ _ _ _ _ _ x _ xb b (off + k * 11) wr hX2 hE)
   have HF := yh hF
   have HBQ := yh hB
   clear hF hX2 hB hr hrl hcl hE
   generalize x.ae[k] = z at *
   go_wp2_with fail
   refine (uh HL).mono ?_
   rintro e w5 ⟨rfl, hb⟩
   replace HB3 := bZ HB3 hb
   replace HBQ := bZ HBQ hb
   clear HL hb y6
   generalize dm x z = q at *
   cases q
   ·
    replace HF := yh ((uh HF).trans (if_neg (by simp)))
    go_wp2_with fail
    go_ret
    exact ⟨by rw [uh HF]; rfl, uh HB3⟩
   rw [Bool.true_and] at HF
   go_wp2_with fail
   go_roundw
   case rel => exact ⟨k + 1, by omega, by go_num, uh HF, uh HBQ⟩
   case measure => simp [intOf]; omega
  obtain rfl : k = x.ae.length := by omega
  rw [List.drop_length, List.all_nil, if_pos rfl] at hF
  have hdl : decide ((x.ae.length : Int) < (x.ae.length : Int)) = false := by simp
  have HF := yh hF
  clear hF hB hX2
  go_wp2_with fail
  go_ret
  exact ⟨by rw [uh HF]; rfl, uh HB3⟩
theorem kF (a3 : Option Addr) (d3 : Nat) (d4 : Nat) (a5 : Option Addr) (d5 : Nat) (a6 : Option Addr) (d6 : Nat) (b off k : Nat) (x : aM) (xb : Nat) (w : World) (hX : al 0 #[.int .i64 x.now, .int .i64 x.events, .int .i64 x.chain.ab, .slice a3 x.chain.ids.length d3, .slice (some ⟨b, off, none⟩) x.nodes.length d4, .slice a5 x.msgs.length d5, .slice a6 x.ae.length d6] 37 w xb) (h : ad.aW.Reads w [.int .i64 x.now, .int .i64 x.events, .int .i64 x.chain.ab, .slice a3 x.chain.ids.length d3, .slice (some ⟨b, off, none⟩) x.nodes.length d4, .slice a5 x.msgs.length d5, .slice a6 x.ae.length d6] x) (hok : cA x) (hk : k < x.nodes.length) (ht : cy x = (k : Int) + 1) :
  Calls Tryz.prog 82 #[.pointer (some ⟨xb, 0, none⟩)] w fun e w' => e = .returned (.pointer (some ⟨b, off + k * 7, none⟩)) ∧ Below w.heap.size w w' := by
 obtain ⟨_, _, _, _, _, _, _, _, hq, RC, RN, -, -⟩ := aE h
 simp only [List.cons.injEq, Value.slice.injEq, and_true, true_and] at hq
 obtain ⟨⟨rfl, rfl⟩, ⟨rfl, rfl⟩, -, -, -⟩ := hq
 obtain ⟨_, _, hq, RI⟩ := bc RC
 simp only [List.cons.injEq, Value.slice.injEq, and_true, true_and] at hq
 obtain ⟨rfl, rfl⟩ := hq
 have hl := (cz hok.chain).len
 obtain ⟨n, hn⟩ : ∃ n, x.chain.ids.length = n + 1 := ⟨x.chain.ids.length - 1, by omega⟩
 obtain ⟨bi, oi, rfl, hbi⟩ := ad.aI RI (by omega)
 have hlt : n < x.chain.ids.length := by omega
 have c1 := cu RI hlt
 have hv : x.chain.ids[n] = (k : Int) + 1 := by
  rw [← ht]
  have e : x.chain.ids.length - 1 = n := by omega
  simp [cy, e, List.getD, hlt]
 rw [hv] at c1
 have z3 := al.at hX 3 _ rfl
 have z4 := al.at hX 4 _ rfl
 simp only [ga, gb, gc] at z3 z4
 have zl := hX.lt
 have hn5 := hok.some
 have hw1 : IntKind.i64.wrap (k : Int) = (k : Int) := by
  rw [IntKind.wrap_i64]
  omega
 have hw2 : IntKind.i64.wrap (n : Int) = (n : Int) := by
  rw [IntKind.wrap_i64]
  omega
 have hw3 : IntKind.i64.wrap ((n : Int) + 1 - 1) = (n : Int) := by
  rw [IntKind.wrap_i64]
  omega
 have hki : (k : Int) < (x.nodes.length : Int) := by omega
 have hki0 : (0 : Int) ≤ (k : Int) := by omega
 have hni : (n : Int) < ((n + 1 : Nat) : Int) := by omega
 have hni0 : (0 : Int) ≤ (n : Int) := by omega
 have hns : ((n + 1 : Nat) : Int) - 1 = (n : Int) := by omega
 have HB := yh (Below.refl w.heap.size w)
 have HBD : Hid (∀ m, Below w.heap.size w (w.drewN m)) := fun m => bQ (Below.refl _ _) m
 rw [hn] at z3
 clear hX h RC RN RI hl hlt hv hok hn5 hn ht
 go_enter Tryz.func82, Tryz.ntmps82
 go_wp2_with fail
 go_quiet (fail)
 go_wp2_with fail
 go_ret
 exact ⟨rfl, uh HBD _⟩
theorem ja (b off cap : Nat) (ws : List ai) (s q : Int) (w : World) (h : (ad.sl ad.ag).Reads w [.slice (some ⟨b, off, none⟩) ws.length cap] ws)  (hn : ws.length ≤ 10000000) :
  Calls Tryz.prog 83 #[.slice (some ⟨b, off, none⟩) ws.length cap, .int .i64 s, .int .i64 q] w fun e w' => e = .returned (.int .i64 (bf ws s q)) ∧ w' = w := by
 have H := yh h
 clear h
 go_enter Tryz.func83, Tryz.ntmps83
 go_wp2_with fail
 go_loop [7] (fun i => ∃ k : Nat, k ≤ ws.length ∧ i = .int .i64 k ∧ (∀ j (hj : j < ws.length), j < k → ¬ (ws[j].aa = s ∧ ws[j].seq = q))) (fun i => ws.length - (intOf i).toNat)
 case atStart => exact ⟨0, Nat.zero_le _, rfl, fun j _ hj => by omega⟩
 case round =>
  obtain ⟨k, hk, rfl, hz⟩ := hrel
  by_cases hlt : k < ws.length
  ·
   obtain ⟨row, hc, hr⟩ := ad.aY (uh H) hlt
   obtain ⟨a2, d2, rfl, R2⟩ := aQ hr
   have c3 : w.cell? ⟨b, off + k * 5 + 3, none⟩ = some (.int .i64 (ws[k]).aa) := hc 3 (by decide)
   have c4 : w.cell? ⟨b, off + k * 5 + 4, none⟩ = some (.int .i64 (ws[k]).seq) := hc 4 (by decide)
   have HAT : Hid (ws[k].aa = s ∧ ws[k].seq = q → bf ws s q = k + 1) := fun he => jU hlt hz he
   have HZ2 : Hid (¬ (ws[k].aa = s ∧ ws[k].seq = q) → ∀ j (hj : j < ws.length), j < k + 1 → ¬ (ws[j].aa = s ∧ ws[j].seq = q)) := by
    intro h0 j hj hjk
    by_cases hjk2 : j < k
    ·
     exact hz j hj hjk2
    obtain rfl : j = k := by omega
    exact h0
   clear hc hr R2 hz
   generalize hx : ws[k] = x at *
   clear hx
   have hwr : IntKind.i64.wrap ((k : Int) + 1) = (k : Int) + 1 := by rw [IntKind.wrap_i64]; omega
   by_cases hs : x.aa = s
   ·
    have ds : (x.aa == s) = true := by simpa using hs
    by_cases hq : x.seq = q
    ·
     have dq : (x.seq == q) = true := by simpa using hq
     have HG := yh (uh HAT ⟨hs, hq⟩)
     clear HAT HZ2 hs hq
     go_wp2_with fail
     go_ret
     exact ⟨by rw [uh HG]; simp, rfl⟩
    have dq : (x.seq == q) = false := by simpa using hq
    have HZ := yh (uh HZ2 fun e => hq e.2)
    clear HAT HZ2 hs hq hwr
    go_wp2_with fail
    go_round
    case rel => exact ⟨k + 1, by omega, by go_num, uh HZ⟩
    case measure => simp [intOf]; omega
   have ds : (x.aa == s) = false := by simpa using hs
   have HZ := yh (uh HZ2 fun e => hs e.1)
   clear HAT HZ2 hs hwr
   go_wp2_with fail
   go_round
   case rel => exact ⟨k + 1, by omega, by go_num, uh HZ⟩
   case measure => simp [intOf]; omega
  obtain rfl : k = ws.length := by omega
  have HG : Hid (bf ws s q = 0) := ff fun j hj => hz j hj hj
  clear H hz
  go_wp2_with fail
  go_ret
  exact ⟨by rw [uh HG]; rfl, rfl⟩
theorem lq (v : Value) (ws : List ai) (s q : Int) (w : World) (h : (ad.sl ad.ag).Reads w [v] ws) (hn : ws.length ≤ 10000000) :
  Calls Tryz.prog 83 #[v, .int .i64 s, .int .i64 q] w fun e w' => e = .returned (.int .i64 (bf ws s q)) ∧ w' = w := by
 obtain ⟨ao, cap, rfl⟩ := aC h
 by_cases hp : 0 < ws.length
 ·
  obtain ⟨b, off, rfl, -⟩ := ad.aI h hp
  exact ja b off cap ws s q w h hn
 obtain rfl : ws = [] := List.eq_nil_of_length_eq_zero (by omega)
 clear h hn hp
 go_enter Tryz.func83, Tryz.ntmps83
 go_wp2_with fail
 refine wp_loop_rounds 1 ?_
 rw [rounds_succ]
 go_wp2_with fail
 go_ret
 exact ⟨rfl, rfl⟩
theorem lz {α : Type} {A : ad α} {w : World} {xs : List α} {b off cap n lo hi : Nat} (h : (ad.sl A).aT w [.slice (some ⟨b, off, none⟩) n cap] xs lo hi) (k : Nat) (hk : k ≤ xs.length) : (ad.sl A).aT w [.slice (some ⟨b, off, none⟩) k cap] (xs.take k) lo hi := by
 have hl : (xs.take k).length = k := by rw [List.length_take]; omega
 obtain ⟨bl, ⟨⟨ao, cap', he, ⟨h1, h2⟩, hor⟩, hnd, hfz⟩, hr⟩ := h
 simp only [List.cons.injEq, Value.slice.injEq, and_true] at he
 obtain ⟨rfl, rfl, rfl⟩ := he
 rcases hor with ⟨rfl, -⟩ | ⟨b', off', rows, bls, he, hb, rfl, n1, n2, hj⟩
 ·
  obtain rfl : k = 0 := by simpa using hk
  exact ⟨[], ⟨⟨_, _, rfl, ⟨by simp, by simp⟩, Or.inl ⟨rfl, rfl⟩⟩, by simp, by simp⟩, by simp⟩
 simp only [Option.some.injEq, Addr.mk.injEq, and_true] at he
 obtain ⟨rfl, rfl⟩ := he
 have hsub : ∀ c ∈ b :: (bls.take k).flatten, c ∈ b :: bls.flatten := by
  intro c hc
  rcases List.mem_cons.1 hc with rfl | hc
  ·
   simp
  obtain ⟨l, h3, h4⟩ := List.mem_flatten.1 hc
  exact List.mem_cons_of_mem _ (List.mem_flatten.2 ⟨l, List.mem_of_mem_take h3, h4⟩)
 refine ⟨b :: (bls.take k).flatten, ⟨⟨_, _, by rw [hl], ⟨by omega, by omega⟩, Or.inr ⟨b, off, rows.take k, bls.take k, rfl, hb, rfl, by simp [n1], by simp [n2], fun j q1 q2 q3 => ?_⟩⟩, ?_, fun c hc => hfz c (hsub c hc)⟩, fun c hc => hr c (hsub c hc)⟩
 ·
  simp only [List.getElem_take]
  rw [List.length_take] at q1 q2 q3
  exact hj j (by omega) (by omega) (by omega)
 refine List.Nodup.sublist ?_ hnd
 refine List.Sublist.cons_cons _ ?_
 conv => rhs; rw [← List.take_append_drop k bls]
 rw [List.flatten_append]
 exact List.sublist_append_left _ _
theorem dR {α : Type} {A : ad α} {w : World} {xs : List α} {a : Option Addr} {cap n lo hi : Nat} (h : (ad.sl A).cb w [.slice a n cap] xs lo hi) (k : Nat) (hk : k ≤ xs.length) : (ad.sl A).cb w [.slice a k cap] (xs.take k) lo hi := by
 have hl : (xs.take k).length = k := by rw [List.length_take]; omega
 obtain ⟨bl, ⟨ao, cap', he, ⟨h1, h2⟩, hor⟩, hr⟩ := h
 simp only [List.cons.injEq, Value.slice.injEq, and_true] at he
 obtain ⟨rfl, rfl, rfl⟩ := he
 rcases hor with ⟨rfl, -⟩ | ⟨b', off', rows, bls, rfl, hb, rfl, n1, n2, hj⟩
 ·
  obtain rfl : k = 0 := by simpa using hk
  exact ⟨[], ⟨_, _, rfl, ⟨by simp, by simp⟩, Or.inl ⟨rfl, rfl⟩⟩, by simp⟩
 refine ⟨b' :: (bls.take k).flatten, ⟨_, _, by rw [hl], ⟨by omega, by omega⟩, Or.inr ⟨b', off', rows.take k, bls.take k, rfl, hb, rfl, by simp [n1], by simp [n2], fun j q1 q2 q3 => ?_⟩⟩, fun c hc => hr c ?_⟩
 ·
  simp only [List.getElem_take]
  rw [List.length_take] at q1 q2 q3
  exact hj j (by omega) (by omega) (by omega)
 rcases List.mem_cons.1 hc with rfl | hc
 ·
  simp
 obtain ⟨l, h3, h4⟩ := List.mem_flatten.1 hc
 exact List.mem_cons_of_mem _ (List.mem_flatten.2 ⟨l, List.mem_of_mem_take h3, h4⟩)
theorem jR (a3 : Option Addr) (d3 : Nat) (d4 : Nat) (a5 : Option Addr) (d5 : Nat) (a6 : Option Addr) (d6 : Nat) (b off k : Nat) (x : aM) (s q : Int) (xb : Nat) (w : World) (hX : al 0 #[.int .i64 x.now, .int .i64 x.events, .int .i64 x.chain.ab, .slice a3 x.chain.ids.length d3, .slice (some ⟨b, off, none⟩) x.nodes.length d4, .slice a5 x.msgs.length d5, .slice a6 x.ae.length d6] 37 w xb) (h : ad.aW.Reads w [.int .i64 x.now, .int .i64 x.events, .int .i64 x.chain.ab, .slice a3 x.chain.ids.length d3, .slice (some ⟨b, off, none⟩) x.nodes.length d4, .slice a5 x.msgs.length d5, .slice a6 x.ae.length d6] x) (hok : cA x) (hk : k < x.nodes.length) (ht : cy x = (k : Int) + 1) :
  Calls Tryz.prog 95 #[.pointer (some ⟨xb, 0, none⟩), .int .i64 s, .int .i64 q] w fun e w' => e = .returned (.int .i64 (bE x s q)) ∧ Below w.heap.size w w' := by
 have HLT := yh (kF a3 d3 d4 a5 d5 a6 d6 b off k x xb w hX h hok hk ht)
 have HR := yh h
 have HNT := yh (ch (hok.nodes k hk).1)
 have HPL : Hid (bE x s q = ((bf (x.nodes[k].writes.take x.nodes[k].sure.toNat) s q : Nat) : Int)) := by show bE x s q = _; rw [bE, dY hk ht]
 clear hX h hok ht
 go_enter Tryz.func95, Tryz.ntmps95
 go_wp2_with fail
 refine (uh HLT).mono ?_
 rintro e w5 ⟨rfl, hb5⟩
 replace HR := yh ((uh HR).af (hb5.trans ((Below.refl _ _).drew.mono hb5.size)))
 have HB : Hid (Below w.heap.size w w5.drew) := yh (hb5.trans ((Below.refl _ _).drew.mono hb5.size))
 clear hb5 HLT
 obtain ⟨_, _, _, _, _, _, _, _, hq, -, RN, -, -⟩ := aE (uh HR)
 simp only [List.cons.injEq, Value.slice.injEq, and_true, true_and] at hq
 obtain ⟨-, ⟨rfl, rfl⟩, -, -, -⟩ := hq
 obtain ⟨rowt, hclt, hrt⟩ := ad.aY RN hk
 obtain ⟨an, dn, rfl, RW⟩ := aZ hrt
 have hnt := uh HNT
 obtain ⟨m, hm⟩ : ∃ m : Nat, x.nodes[k].sure = (m : Int) := ⟨x.nodes[k].sure.toNat, by have := hnt.sure; omega⟩
 have s4 : w5.drew.cell? ⟨b, off + k * 7 + 4, none⟩ = some (.slice an x.nodes[k].writes.length dn) := hclt 4 (by decide)
 have s5 : w5.drew.cell? ⟨b, off + k * 7 + 5, none⟩ = some (.int .i64 x.nodes[k].sure) := hclt 5 (by decide)
 rw [hm] at s5
 have hmw : m ≤ x.nodes[k].writes.length := by have := hnt.sure; omega
 have hm40 : m ≤ 40 := by have := hnt.len; omega
 have hmd : m ≤ dn := Nat.le_trans hmw RW.cap.2
 have htm : x.nodes[k].sure.toNat = m := by omega
 rw [htm] at HPL
 have HT := dR RW.cm m hmw
 have hlt : (x.nodes[k].writes.take m).length = m := by rw [List.length_take]; omega
 have HL5 := yh (lq _ (x.nodes[k].writes.take m) s q w5.drew HT.reads (by rw [hlt]; omega))
 clear RN hclt hrt RW hnt hm HT hlt htm HNT HR
 go_upto_region 2 with fail
 refine wZz (fun w' => w' = w5.drew) rfl (fun zq => ?_)
 generalize w5.drew = wD at zq HL5 s4 s5 HB ⊢
 refine tkH 0 zq ?_
 refine tkH 1 zq ?_
 refine tkH 2 zq ?_
 refine tkJ 3 (v := ?ve3) ?he3 zq ?re3
 case he3 =>
  intro wS hSw
  subst hSw
  exact fZ
 refine tkH 4 zq ?_
 refine tkH 5 zq ?_
 refine tkH 6 zq ?_
 refine tkJ 7 (v := ?ve7) ?he7 zq ?re7
 case he7 =>
  intro wS hSw
  subst hSw
  exact fZ
 refine tkH 8 zq ?_
 refine tkH 9 zq ?_
 refine tkH 10 zq ?_
 refine rdH 11 (fun K hK => ?_)
 go_simp
 go_at_call 83
 refine (uh HL5).mono ?_
 rintro e u ⟨rfl, hu⟩
 subst hu
 try go_wp2_with fail
 refine hK.out _ _ rfl (fun zq => ?_)
 clear hK K
 try simp only [Act.put, pz, py, px]
 refine tkH 12 zq ?_
 refine dZ ?_
 clear zq s4 s5 HL5
 go_wp2_with fail
 go_ret
 exact ⟨by rw [uh HPL]; try rfl, uh HB⟩
theorem gH (cs : List Value) (x : aM) (s q : Int) (w : World) (h : ad.aW.Reads w cs x) :
  Calls Tryz.prog 39 #[.agg cs.toArray, .int .i64 s, .int .i64 q] w fun e w' => ∃ cs', e = .returned (.agg cs'.toArray) ∧ ad.bB.Reads w' cs' (cJ x s q) ∧ Below w.heap.size w w' := by
 have HP : Hid (cJ x s q = if aA x ≠ 0 then ⟨aA x, 0⟩ else if bE x s q = 0 then ⟨4, 0⟩ else ⟨0, bE x s q⟩) := rfl
 obtain ⟨a3, d3, a4, d4, a5, d5, a6, d6, rfl, -, -, -, -⟩ := aE h
 have nb : Below w.heap.size w ((w.alloc (.cells #[.int .i64 x.now, .int .i64 x.events, .int .i64 x.chain.ab, .slice a3 x.chain.ids.length d3, .slice a4 x.nodes.length d4, .slice a5 x.msgs.length d5, .slice a6 x.ae.length d6] 37)).alloc (.cells #[.int .i64 0, .int .i64 0] 60)) := ((Below.refl _ _).alloc (Nat.le_refl _) _).alloc (by simp) _
 have HX : Hid (al 0 #[.int .i64 x.now, .int .i64 x.events, .int .i64 x.chain.ab, .slice a3 x.chain.ids.length d3, .slice a4 x.nodes.length d4, .slice a5 x.msgs.length d5, .slice a6 x.ae.length d6] 37 ((w.alloc (.cells #[.int .i64 x.now, .int .i64 x.events, .int .i64 x.chain.ab, .slice a3 x.chain.ids.length d3, .slice a4 x.nodes.length d4, .slice a5 x.msgs.length d5, .slice a6 x.ae.length d6] 37)).alloc (.cells #[.int .i64 0, .int .i64 0] 60)) w.heap.size) := (aK (Nat.zero_le _)).grow _
 have HY : Hid (al 0 #[.int .i64 0, .int .i64 0] 60 ((w.alloc (.cells #[.int .i64 x.now, .int .i64 x.events, .int .i64 x.chain.ab, .slice a3 x.chain.ids.length d3, .slice a4 x.nodes.length d4, .slice a5 x.msgs.length d5, .slice a6 x.ae.length d6] 37)).alloc (.cells #[.int .i64 0, .int .i64 0] 60)) (w.heap.size + 1)) := aU (Nat.zero_le _) (by simp)
 have hz0 : ((w.alloc (.cells #[.int .i64 x.now, .int .i64 x.events, .int .i64 x.chain.ab, .slice a3 x.chain.ids.length d3, .slice a4 x.nodes.length d4, .slice a5 x.msgs.length d5, .slice a6 x.ae.length d6] 37)).alloc (.cells #[.int .i64 0, .int .i64 0] 60)).heap.size = w.heap.size + 2 := by simp
 have HR := yh (h.af nb)
 have HB := yh nb
 clear nb h
 generalize cJ x s q = R at *
 go_enter Tryz.func39, Tryz.ntmps39
 go_upto_region 1 with fail
 generalize ((w.alloc (.cells #[.int .i64 x.now, .int .i64 x.events, .int .i64 x.chain.ab, .slice a3 x.chain.ids.length d3, .slice a4 x.nodes.length d4, .slice a5 x.msgs.length d5, .slice a6 x.ae.length d6] 37)).alloc (.cells #[.int .i64 0, .int .i64 0] 60)) = W0 at *
 go_wp2_with fail
 refine (jS a3 d3 a4 d4 a5 d5 a6 d6 x w.heap.size W0 (uh HX) (uh HR)).mono ?_
 rintro e wa ⟨rfl, hb⟩
 replace HX := yh ((uh HX).ar hb)
 replace HR := yh ((uh HR).af hb)
 replace HY := yh ((uh HY).ar hb)
 replace HB := bZ HB hb
 have hza := hb.size
 clear hb
 by_cases d1 : aA x ≠ 0
 ·
  have hd : (aA x != 0) = true := by simpa using d1
  replace HP := yh ((uh HP).trans (if_pos d1))
  have HC := yh (je x)
  clear d1
  generalize aA x = c at *
  have r0 := al.at (uh HY) 0 _ rfl
  have r1 := al.at (uh HY) 1 _ rfl
  simp only [ga, gb, gc] at r0 r1
  have rf := al.soft (uh HY)
  have rl := (uh HY).lt
  have HB9 := yh (((uh HB).setCell (p := ⟨w.heap.size + 1, 0, none⟩) (by simp) (.int .i64 c)).setCell (p := ⟨w.heap.size + 1, 1, none⟩) (by simp) (.int .i64 0))
  clear HX HR HY HB
  go_wp2_with fail
  refine bodyPost_ret (v := .agg #[.int .i64 c, .int .i64 0]) (by simp [results, Tryz.results39, go_sem, r0, r1]) rfl ?_
  rw [uh HP]
  exact ⟨[.int .i64 c, .int .i64 0], rfl, (cC (lo := 0) (hi := 0) (bF (by have := uh HC; omega)) (by decide)).reads, uh HB9⟩
 replace HP := yh ((uh HP).trans (if_neg d1))
 have hok := cY (by simpa using d1 : aA x = 0)
 rw [show aA x = 0 by simpa using d1]
 obtain ⟨k, hk, ht⟩ := tail_at hok
 obtain ⟨_, _, _, _, _, _, _, _, hq, -, RN, -, -⟩ := aE (uh HR)
 simp only [List.cons.injEq, Value.slice.injEq, and_true, true_and] at hq
 obtain ⟨-, ⟨rfl, rfl⟩, -, -, -⟩ := hq
 obtain ⟨b, off, rfl, hbl⟩ := ad.aI RN (by omega)
 have HL := yh (jR a3 d3 d4 a5 d5 a6 d6 b off k x s q w.heap.size wa (uh HX) (uh HR) hok hk ht)
 have HPB := yh (fL hok s q)
 clear RN hok hk ht d1 HX HR
 go_wp2_with fail
 refine (uh HL).mono ?_
 rintro e w3 ⟨rfl, hb3⟩
 replace HY := yh ((uh HY).ar hb3)
 replace HB := bZ HB hb3
 clear hb3 HL
 by_cases h0 : bE x s q = 0
 ·
  replace HP := yh ((uh HP).trans (if_pos h0))
  rw [h0] at *
  clear h0 HPB
  have r0 := al.at (uh HY) 0 _ rfl
  have r1 := al.at (uh HY) 1 _ rfl
  simp only [ga, gb, gc] at r0 r1
  have rf := al.soft (uh HY)
  have rl := (uh HY).lt
  have HB9 := yh (((uh HB).setCell (p := ⟨w.heap.size + 1, 0, none⟩) (by simp) (.int .i64 4)).setCell (p := ⟨w.heap.size + 1, 1, none⟩) (by simp) (.int .i64 0))
  clear HY HB
  go_wp2_with fail
  refine bodyPost_ret (v := .agg #[.int .i64 4, .int .i64 0]) (by simp [results, Tryz.results39, go_sem, r0, r1]) rfl ?_
  rw [uh HP]
  exact ⟨[.int .i64 4, .int .i64 0], rfl, (cC (lo := 0) (hi := 0) (by decide) (by decide)).reads, uh HB9⟩
 replace HP := yh ((uh HP).trans (if_neg h0))
 have hd0 : (bE x s q == 0) = false := by simpa using h0
 clear h0
 generalize bE x s q = p at *
 have r0 := al.at (uh HY) 0 _ rfl
 have r1 := al.at (uh HY) 1 _ rfl
 simp only [ga, gb, gc] at r0 r1
 have rf := al.soft (uh HY)
 have rl := (uh HY).lt
 have HB9 := yh (((uh HB).setCell (p := ⟨w.heap.size + 1, 0, none⟩) (by simp) (.int .i64 0)).setCell (p := ⟨w.heap.size + 1, 1, none⟩) (by simp) (.int .i64 p))
 clear HY HB
 go_wp2_with fail
 refine bodyPost_ret (v := .agg #[.int .i64 0, .int .i64 p]) (by simp [results, Tryz.results39, go_sem, r0, r1]) rfl ?_
 rw [uh HP]
 exact ⟨[.int .i64 0, .int .i64 p], rfl, (cC (lo := 0) (hi := 0) (by decide) (bF (by have := uh HPB; omega))).reads, uh HB9⟩
theorem kX (cs : List Value) (x : a0) (w : World) (h : ad.aX.Reads w cs x) (k : Nat) (hk : x.ids.length = k + 1) (hn : x.ids.length ≤ 5) :
  Calls Tryz.prog 194 #[.agg cs.toArray] w fun e w' => e = .returned (.int .i64 (x.ids.getD k 0)) ∧ Below w.heap.size w w' := by
 obtain ⟨a3, d3, rfl, R3⟩ := bc h
 have hlt : k < x.ids.length := by omega
 have hv : x.ids.getD k 0 = x.ids[k] := by simp [List.getD, hlt]
 rw [hv]
 have nb : Below w.heap.size w (w.alloc (.cells #[.int .i64 x.ab, .slice a3 x.ids.length d3] 32)) := (Below.refl _ _).alloc (Nat.le_refl _) _
 have HX : Hid (al 0 #[.int .i64 x.ab, .slice a3 x.ids.length d3] 32 (w.alloc (.cells #[.int .i64 x.ab, .slice a3 x.ids.length d3] 32)) w.heap.size) := aK (Nat.zero_le _)
 have R := R3.af nb
 obtain ⟨b, off, rfl, hbl⟩ := ad.aI R (by omega)
 have c1 := cu R hlt
 have HB := yh nb
 have hw1 : IntKind.i64.wrap ((k : Int) + 1 - 1) = (k : Int) := by rw [IntKind.wrap_i64]; omega
 have hw2 : IntKind.i64.wrap (k : Int) = (k : Int) := by rw [IntKind.wrap_i64]; omega
 have hki0 : (0 : Int) ≤ (k : Int) := by omega
 have hki : (k : Int) < ((k + 1 : Nat) : Int) := by omega
 have hks : ((k + 1 : Nat) : Int) - 1 = (k : Int) := by omega
 clear hv
 generalize x.ids[k] = z at *
 have HK := yh hk
 clear nb R R3 h hlt hn hk
 go_enter Tryz.func194, Tryz.ntmps194
 go_upto_region 1 with fail
 generalize hWW : w.alloc (.cells #[.int .i64 x.ab, .slice (some ⟨b, off, none⟩) x.ids.length d3] 32) = w1 at *
 have z1 := al.at (uh HX) 1 _ rfl
 simp only [ga, gb, gc] at z1
 have zl := (uh HX).lt
 clear hWW HX
 have hk := uh HK
 rw [hk] at z1
 clear hk HK
 go_wp2_with fail
 go_ret
 exact ⟨rfl, uh HB⟩
theorem lr (cs : List Value) (x : aM) (k : Nat) (w : World) (h : ad.aW.Reads w cs x) (hok : dK x) (hk : k < x.nodes.length) (ht : cy x = (k : Int) + 1) :
  Calls Tryz.prog 128 #[.agg cs.toArray] w fun e w' => ∃ an dn, e = .returned (.agg #[.int .i64 x.nodes[k].id, .bool x.nodes[k].up, .int .i64 x.nodes[k].ab, .int .i64 x.nodes[k].aj, .slice an x.nodes[k].writes.length dn, .int .i64 x.nodes[k].sure, .int .i64 x.nodes[k].clean]) ∧ ad.aP.Reads w' [.int .i64 x.nodes[k].id, .bool x.nodes[k].up, .int .i64 x.nodes[k].ab, .int .i64 x.nodes[k].aj, .slice an x.nodes[k].writes.length dn, .int .i64 x.nodes[k].sure, .int .i64 x.nodes[k].clean] x.nodes[k] ∧ Below w.heap.size w w' := by
 obtain ⟨a3, d3, a4, d4, a5, d5, a6, d6, rfl, RC0, RN0, -, -⟩ := aE h
 obtain ⟨b, off, rfl, hbl⟩ := ad.aI RN0 (by omega)
 obtain ⟨row, hcl, hr⟩ := ad.aY RN0 hk
 have hr0 := hr
 obtain ⟨an, dn, rfl, -⟩ := aZ hr
 have nb : Below w.heap.size w ((w.alloc (.cells #[.int .i64 x.now, .int .i64 x.events, .int .i64 x.chain.ab, .slice a3 x.chain.ids.length d3, .slice (some ⟨b, off, none⟩) x.nodes.length d4, .slice a5 x.msgs.length d5, .slice a6 x.ae.length d6] 37)).alloc (.cells #[.int .i64 0, .bool false, .int .i64 0, .int .i64 0, .slice none 0 0, .int .i64 0, .int .i64 0] 79)) := ((Below.refl _ _).alloc (Nat.le_refl _) _).alloc (by simp) _
 have HX : Hid (al 0 #[.int .i64 x.now, .int .i64 x.events, .int .i64 x.chain.ab, .slice a3 x.chain.ids.length d3, .slice (some ⟨b, off, none⟩) x.nodes.length d4, .slice a5 x.msgs.length d5, .slice a6 x.ae.length d6] 37 ((w.alloc (.cells #[.int .i64 x.now, .int .i64 x.events, .int .i64 x.chain.ab, .slice a3 x.chain.ids.length d3, .slice (some ⟨b, off, none⟩) x.nodes.length d4, .slice a5 x.msgs.length d5, .slice a6 x.ae.length d6] 37)).alloc (.cells #[.int .i64 0, .bool false, .int .i64 0, .int .i64 0, .slice none 0 0, .int .i64 0, .int .i64 0] 79)) w.heap.size) := (aK (Nat.zero_le _)).grow _
 have HY : Hid (al 0 #[.int .i64 0, .bool false, .int .i64 0, .int .i64 0, .slice none 0 0, .int .i64 0, .int .i64 0] 79 ((w.alloc (.cells #[.int .i64 x.now, .int .i64 x.events, .int .i64 x.chain.ab, .slice a3 x.chain.ids.length d3, .slice (some ⟨b, off, none⟩) x.nodes.length d4, .slice a5 x.msgs.length d5, .slice a6 x.ae.length d6] 37)).alloc (.cells #[.int .i64 0, .bool false, .int .i64 0, .int .i64 0, .slice none 0 0, .int .i64 0, .int .i64 0] 79)) (w.heap.size + 1)) := aU (Nat.zero_le _) (by simp)
 have hz0 : ((w.alloc (.cells #[.int .i64 x.now, .int .i64 x.events, .int .i64 x.chain.ab, .slice a3 x.chain.ids.length d3, .slice (some ⟨b, off, none⟩) x.nodes.length d4, .slice a5 x.msgs.length d5, .slice a6 x.ae.length d6] 37)).alloc (.cells #[.int .i64 0, .bool false, .int .i64 0, .int .i64 0, .slice none 0 0, .int .i64 0, .int .i64 0] 79)).heap.size = w.heap.size + 2 := by simp
 have hl := (cz hok.chain).len
 have HL0 := yh (RC0.af nb)
 have x0 : ((w.alloc (.cells #[.int .i64 x.now, .int .i64 x.events, .int .i64 x.chain.ab, .slice a3 x.chain.ids.length d3, .slice (some ⟨b, off, none⟩) x.nodes.length d4, .slice a5 x.msgs.length d5, .slice a6 x.ae.length d6] 37)).alloc (.cells #[.int .i64 0, .bool false, .int .i64 0, .int .i64 0, .slice none 0 0, .int .i64 0, .int .i64 0] 79)).cell? ⟨b, off + k * 7, none⟩ = some (.int .i64 (x.nodes[k]).id) := (cell_of_heap (nb.block b hbl) _).trans (hcl 0 (by decide))
 have x1 : ((w.alloc (.cells #[.int .i64 x.now, .int .i64 x.events, .int .i64 x.chain.ab, .slice a3 x.chain.ids.length d3, .slice (some ⟨b, off, none⟩) x.nodes.length d4, .slice a5 x.msgs.length d5, .slice a6 x.ae.length d6] 37)).alloc (.cells #[.int .i64 0, .bool false, .int .i64 0, .int .i64 0, .slice none 0 0, .int .i64 0, .int .i64 0] 79)).cell? ⟨b, off + k * 7 + 1, none⟩ = some (.bool (x.nodes[k]).up) := (cell_of_heap (nb.block b hbl) _).trans (hcl 1 (by decide))
 have x2 : ((w.alloc (.cells #[.int .i64 x.now, .int .i64 x.events, .int .i64 x.chain.ab, .slice a3 x.chain.ids.length d3, .slice (some ⟨b, off, none⟩) x.nodes.length d4, .slice a5 x.msgs.length d5, .slice a6 x.ae.length d6] 37)).alloc (.cells #[.int .i64 0, .bool false, .int .i64 0, .int .i64 0, .slice none 0 0, .int .i64 0, .int .i64 0] 79)).cell? ⟨b, off + k * 7 + 2, none⟩ = some (.int .i64 (x.nodes[k]).ab) := (cell_of_heap (nb.block b hbl) _).trans (hcl 2 (by decide))
 have x3 : ((w.alloc (.cells #[.int .i64 x.now, .int .i64 x.events, .int .i64 x.chain.ab, .slice a3 x.chain.ids.length d3, .slice (some ⟨b, off, none⟩) x.nodes.length d4, .slice a5 x.msgs.length d5, .slice a6 x.ae.length d6] 37)).alloc (.cells #[.int .i64 0, .bool false, .int .i64 0, .int .i64 0, .slice none 0 0, .int .i64 0, .int .i64 0] 79)).cell? ⟨b, off + k * 7 + 3, none⟩ = some (.int .i64 (x.nodes[k]).aj) := (cell_of_heap (nb.block b hbl) _).trans (hcl 3 (by decide))
 have x4 : ((w.alloc (.cells #[.int .i64 x.now, .int .i64 x.events, .int .i64 x.chain.ab, .slice a3 x.chain.ids.length d3, .slice (some ⟨b, off, none⟩) x.nodes.length d4, .slice a5 x.msgs.length d5, .slice a6 x.ae.length d6] 37)).alloc (.cells #[.int .i64 0, .bool false, .int .i64 0, .int .i64 0, .slice none 0 0, .int .i64 0, .int .i64 0] 79)).cell? ⟨b, off + k * 7 + 4, none⟩ = some (.slice an (x.nodes[k]).writes.length dn) := (cell_of_heap (nb.block b hbl) _).trans (hcl 4 (by decide))
 have x5 : ((w.alloc (.cells #[.int .i64 x.now, .int .i64 x.events, .int .i64 x.chain.ab, .slice a3 x.chain.ids.length d3, .slice (some ⟨b, off, none⟩) x.nodes.length d4, .slice a5 x.msgs.length d5, .slice a6 x.ae.length d6] 37)).alloc (.cells #[.int .i64 0, .bool false, .int .i64 0, .int .i64 0, .slice none 0 0, .int .i64 0, .int .i64 0] 79)).cell? ⟨b, off + k * 7 + 5, none⟩ = some (.int .i64 (x.nodes[k]).sure) := (cell_of_heap (nb.block b hbl) _).trans (hcl 5 (by decide))
 have x6 : ((w.alloc (.cells #[.int .i64 x.now, .int .i64 x.events, .int .i64 x.chain.ab, .slice a3 x.chain.ids.length d3, .slice (some ⟨b, off, none⟩) x.nodes.length d4, .slice a5 x.msgs.length d5, .slice a6 x.ae.length d6] 37)).alloc (.cells #[.int .i64 0, .bool false, .int .i64 0, .int .i64 0, .slice none 0 0, .int .i64 0, .int .i64 0] 79)).cell? ⟨b, off + k * 7 + 6, none⟩ = some (.int .i64 (x.nodes[k]).clean) := (cell_of_heap (nb.block b hbl) _).trans (hcl 6 (by decide))
 have hbl2 : b < ((w.alloc (.cells #[.int .i64 x.now, .int .i64 x.events, .int .i64 x.chain.ab, .slice a3 x.chain.ids.length d3, .slice (some ⟨b, off, none⟩) x.nodes.length d4, .slice a5 x.msgs.length d5, .slice a6 x.ae.length d6] 37)).alloc (.cells #[.int .i64 0, .bool false, .int .i64 0, .int .i64 0, .slice none 0 0, .int .i64 0, .int .i64 0] 79)).heap.size := by omega
 have HN := yh hr0
 have hw1 : IntKind.i64.wrap (k : Int) = (k : Int) := by
  have := hok.some
  rw [IntKind.wrap_i64]
  omega
 have hki : (k : Int) < (x.nodes.length : Int) := by omega
 have hki0 : (0 : Int) ≤ (k : Int) := by omega
 have HB := yh nb
 clear hcl hr hr0 RC0 RN0 h hok nb
 generalize hnn : x.nodes[k] = n at *
 clear hnn
 go_enter Tryz.func128, Tryz.ntmps128
 go_upto_region 1 with fail
 generalize ((w.alloc (.cells #[.int .i64 x.now, .int .i64 x.events, .int .i64 x.chain.ab, .slice a3 x.chain.ids.length d3, .slice (some ⟨b, off, none⟩) x.nodes.length d4, .slice a5 x.msgs.length d5, .slice a6 x.ae.length d6] 37)).alloc (.cells #[.int .i64 0, .bool false, .int .i64 0, .int .i64 0, .slice none 0 0, .int .i64 0, .int .i64 0] 79)) = W0 at *
 have HL := yh (kX _ x.chain W0.drew ((uh HL0).drew 1) (x.chain.ids.length - 1) (by omega) hl.2)
 rw [show x.chain.ids.getD (x.chain.ids.length - 1) 0 = (k : Int) + 1 from ht] at HL
 have hx := uh HX
 have hxl := hx.lt
 have z2 := al.at hx 2 _ rfl
 have z3 := al.at hx 3 _ rfl
 have z4 := al.at hx 4 _ rfl
 simp only [ga, gb, gc] at z2 z3 z4
 have HYD := yh (uh HY).drew
 have HBD := yh (uh HB).drew
 clear hx HX HY HB HL0 ht hl
 refine wZz (fun w' => Ext (fun q => w.heap.size < q) W0 w') ((Ext.refl _ _).drew 1) (fun zq => ?_)
 generalize W0.drew = wD at zq HL HYD HBD ⊢
 refine tkH 0 zq ?_
 refine tkJ 1 (v := ?vc1) ?hc1 zq ?rc1
 case hc1 =>
  intro wS hSw
  have q4 := (cell_of_heap (hSw.block w.heap.size hxl (fun e => Nat.lt_irrefl _ e)) 4).trans z4
  clear hSw
  exact fZ
 refine tkH 2 zq ?_
 refine tkJ 3 (v := ?vc3) ?hc3 zq ?rc3
 case hc3 =>
  intro wS hSw
  have q2 := (cell_of_heap (hSw.block w.heap.size hxl (fun e => Nat.lt_irrefl _ e)) 2).trans z2
  have q3 := (cell_of_heap (hSw.block w.heap.size hxl (fun e => Nat.lt_irrefl _ e)) 3).trans z3
  clear hSw
  exact fZ
 refine rdH 4 (fun K hK => ?_)
 go_simp
 go_at_call 194
 refine (uh HL).mono ?_
 rintro e w3 ⟨rfl, hb3⟩
 have hy3 := (uh HYD).ar hb3
 have r0 := al.at hy3 0 _ rfl
 have r1 := al.at hy3 1 _ rfl
 have r2 := al.at hy3 2 _ rfl
 have r3 := al.at hy3 3 _ rfl
 have r4 := al.at hy3 4 _ rfl
 have r5 := al.at hy3 5 _ rfl
 have r6 := al.at hy3 6 _ rfl
 simp only [ga, gb, gc] at r0 r1 r2 r3 r4 r5 r6
 have rf := al.soft hy3
 have rl := hy3.lt
 try go_wp2_with fail
 refine hK.out _ _ (zq.trans (bd hb3 _)) (fun zq => ?_)
 clear hK K
 try simp only [Act.put, pz, py, px]
 refine tkH 5 zq ?_
 refine tkH 6 zq ?_
 refine tkJ 7 (v := ?vc7) ?hc7 zq ?rc7
 case hc7 =>
  intro wS hSw
  have q0 : wS.cell? ⟨b, off + k * 7, none⟩ = some (.int .i64 n.id) := (cell_of_heap (hSw.block b hbl2 (fun e => by omega)) (off + k * 7)).trans x0
  have q1 : wS.cell? ⟨b, off + k * 7 + 1, none⟩ = some (.bool n.up) := (cell_of_heap (hSw.block b hbl2 (fun e => by omega)) (off + k * 7 + 1)).trans x1
  have q2 : wS.cell? ⟨b, off + k * 7 + 2, none⟩ = some (.int .i64 n.ab) := (cell_of_heap (hSw.block b hbl2 (fun e => by omega)) (off + k * 7 + 2)).trans x2
  have q3 : wS.cell? ⟨b, off + k * 7 + 3, none⟩ = some (.int .i64 n.aj) := (cell_of_heap (hSw.block b hbl2 (fun e => by omega)) (off + k * 7 + 3)).trans x3
  have q4 : wS.cell? ⟨b, off + k * 7 + 4, none⟩ = some (.slice an n.writes.length dn) := (cell_of_heap (hSw.block b hbl2 (fun e => by omega)) (off + k * 7 + 4)).trans x4
  have q5 : wS.cell? ⟨b, off + k * 7 + 5, none⟩ = some (.int .i64 n.sure) := (cell_of_heap (hSw.block b hbl2 (fun e => by omega)) (off + k * 7 + 5)).trans x5
  have q6 : wS.cell? ⟨b, off + k * 7 + 6, none⟩ = some (.int .i64 n.clean) := (cell_of_heap (hSw.block b hbl2 (fun e => by omega)) (off + k * 7 + 6)).trans x6
  clear hSw
  exact fZ
 refine rdH 8 (fun K hK => ?_)
 go_simp
 refine hK.out _ _ (Ext.setCell (Ext.setCell (Ext.setCell (Ext.setCell (Ext.setCell (Ext.setCell (Ext.setCell zq ⟨w.heap.size + 1, 0, none⟩ (.int .i64 n.id) (Nat.lt_succ_self _)) ⟨w.heap.size + 1, 1, none⟩ (.bool n.up) (Nat.lt_succ_self _)) ⟨w.heap.size + 1, 2, none⟩ (.int .i64 n.ab) (Nat.lt_succ_self _)) ⟨w.heap.size + 1, 3, none⟩ (.int .i64 n.aj) (Nat.lt_succ_self _)) ⟨w.heap.size + 1, 4, none⟩ (.slice an n.writes.length dn) (Nat.lt_succ_self _)) ⟨w.heap.size + 1, 5, none⟩ (.int .i64 n.sure) (Nat.lt_succ_self _)) ⟨w.heap.size + 1, 6, none⟩ (.int .i64 n.clean) (Nat.lt_succ_self _)) (fun zq => ?_)
 clear hK K
 try simp only [Act.put, pz, py, px]
 refine dZ ?_
 have hy9 := (al.set (al.set (al.set (al.set (al.set (al.set (al.set hy3 0 (.int .i64 n.id)) 1 (.bool n.up)) 2 (.int .i64 n.ab)) 3 (.int .i64 n.aj)) 4 (.slice an n.writes.length dn)) 5 (.int .i64 n.sure)) 6 (.int .i64 n.clean))
 simp only [List.setIfInBounds_toArray, List.set_cons_zero, List.set_cons_succ] at hy9
 have HB9 := yh (bH ((uh HBD).trans (hb3.mono (uh HBD).size)) (w.heap.size + 1) 0 [.int .i64 n.id, .bool n.up, .int .i64 n.ab, .int .i64 n.aj, .slice an n.writes.length dn, .int .i64 n.sure, .int .i64 n.clean] (by omega))
 clear r0 r1 r2 r3 r4 r5 r6
 have r0 := al.at hy9 0 _ rfl
 have r1 := al.at hy9 1 _ rfl
 have r2 := al.at hy9 2 _ rfl
 have r3 := al.at hy9 3 _ rfl
 have r4 := al.at hy9 4 _ rfl
 have r5 := al.at hy9 5 _ rfl
 have r6 := al.at hy9 6 _ rfl
 simp only [ga, gb, gc] at r0 r1 r2 r3 r4 r5 r6
 clear zq hy3 hy9 hb3 HL HYD HBD x0 x1 x2 x3 x4 x5 x6
 go_wp2_with fail
 refine bodyPost_ret (v := .agg #[.int .i64 n.id, .bool n.up, .int .i64 n.ab, .int .i64 n.aj, .slice an n.writes.length dn, .int .i64 n.sure, .int .i64 n.clean]) (by simp [results, Tryz.results128, go_sem, r0, r1, r2, r3, r4, r5, r6]) rfl ?_
 exact ⟨an, dn, rfl, (uh HN).af (uh HB9), uh HB9⟩
theorem gJ (cs : List Value) (x : aM) (k : Nat) (w : World) (h : ad.aW.Reads w cs x) (hok : dK x) (hk : k < x.nodes.length) (ht : cy x = (k : Int) + 1) :
  Calls Tryz.prog 163 #[.agg cs.toArray] w fun e w' => ∃ v, e = .returned v ∧ (ad.sl ad.ag).Reads w' [v] (x.nodes[k].writes.take x.nodes[k].sure.toNat) ∧ Below w.heap.size w w' := by
 obtain ⟨a3, d3, a4, d4, a5, d5, a6, d6, rfl, -, -, -, -⟩ := aE h
 have nb : Below w.heap.size w (w.alloc (.cells #[.int .i64 x.now, .int .i64 x.events, .int .i64 x.chain.ab, .slice a3 x.chain.ids.length d3, .slice a4 x.nodes.length d4, .slice a5 x.msgs.length d5, .slice a6 x.ae.length d6] 37)) := (Below.refl _ _).alloc (Nat.le_refl _) _
 have HX : Hid (al 0 #[.int .i64 x.now, .int .i64 x.events, .int .i64 x.chain.ab, .slice a3 x.chain.ids.length d3, .slice a4 x.nodes.length d4, .slice a5 x.msgs.length d5, .slice a6 x.ae.length d6] 37 (w.alloc (.cells #[.int .i64 x.now, .int .i64 x.events, .int .i64 x.chain.ab, .slice a3 x.chain.ids.length d3, .slice a4 x.nodes.length d4, .slice a5 x.msgs.length d5, .slice a6 x.ae.length d6] 37)) w.heap.size) := aK (Nat.zero_le _)
 have HL := yh (lr _ x k _ (h.af nb) hok hk ht)
 have HB := yh nb
 have hno := ch (hok.nodes k hk).1
 have HS := yh hno.sure
 have HN4 := yh hno.len
 clear nb h hok hno
 go_enter Tryz.func163, Tryz.ntmps163
 go_upto_region 1 with fail
 generalize (w.alloc (.cells #[.int .i64 x.now, .int .i64 x.events, .int .i64 x.chain.ab, .slice a3 x.chain.ids.length d3, .slice a4 x.nodes.length d4, .slice a5 x.msgs.length d5, .slice a6 x.ae.length d6] 37)) = W1 at *
 have z0 := al.at (uh HX) 0 _ rfl
 have z1 := al.at (uh HX) 1 _ rfl
 have z2 := al.at (uh HX) 2 _ rfl
 have z3 := al.at (uh HX) 3 _ rfl
 have z4 := al.at (uh HX) 4 _ rfl
 have z5 := al.at (uh HX) 5 _ rfl
 have z6 := al.at (uh HX) 6 _ rfl
 simp only [ga, gb, gc] at z0 z1 z2 z3 z4 z5 z6
 have zl := (uh HX).lt
 go_wp2_with fail
 refine (uh HL).mono ?_
 rintro e w3 ⟨an, dn, rfl, RN, hb3⟩
 generalize hnn : x.nodes[k] = n at *
 obtain ⟨an', dn', hq, RW⟩ := aZ RN
 simp only [List.cons.injEq, Value.slice.injEq, true_and, and_true] at hq
 obtain ⟨rfl, rfl⟩ := hq
 obtain ⟨m, hm⟩ : ∃ m : Nat, n.sure = (m : Int) := ⟨n.sure.toNat, by have := (uh HS).1; omega⟩
 have hmw : m ≤ n.writes.length := by have := (uh HS).2; omega
 have hmd : m ≤ dn := Nat.le_trans hmw RW.cap.2
 have hln : n.writes.length ≤ 40 := uh HN4
 have nb4 : Below w3.heap.size w3 (w3.alloc (.cells #[.int .i64 n.id, .bool n.up, .int .i64 n.ab, .int .i64 n.aj, .slice an n.writes.length dn, .int .i64 n.sure, .int .i64 n.clean] 79)) := (Below.refl _ _).alloc (Nat.le_refl _) _
 have HY : Hid (al 0 #[.int .i64 n.id, .bool n.up, .int .i64 n.ab, .int .i64 n.aj, .slice an n.writes.length dn, .int .i64 n.sure, .int .i64 n.clean] 79 (w3.alloc (.cells #[.int .i64 n.id, .bool n.up, .int .i64 n.ab, .int .i64 n.aj, .slice an n.writes.length dn, .int .i64 n.sure, .int .i64 n.clean] 79)) w3.heap.size) := aK (Nat.zero_le _)
 have HT := yh (dR (RW.af nb4).cm m hmw)
 replace HB := yh (((uh HB).trans (hb3.mono (uh HB).size)).trans (nb4.mono (Nat.le_trans (uh HB).size hb3.size)))
 have HTN : Hid (n.sure.toNat = m) := by show n.sure.toNat = m; omega
 rw [hm] at HY nb4 HT HB ⊢
 clear hb3 nb4 HL z0 z1 z2 z3 z4 z5 z6 zl RN RW HX hm HS
 go_upto_region 2 with fail
 generalize w3.alloc (.cells #[.int .i64 n.id, .bool n.up, .int .i64 n.ab, .int .i64 n.aj, .slice an n.writes.length dn, .int .i64 (m : Int), .int .i64 n.clean] 79) = w4 at *
 have y0 := al.at (uh HY) 0 _ rfl
 have y1 := al.at (uh HY) 1 _ rfl
 have y2 := al.at (uh HY) 2 _ rfl
 have y3 := al.at (uh HY) 3 _ rfl
 have y4 := al.at (uh HY) 4 _ rfl
 have y5 := al.at (uh HY) 5 _ rfl
 have y6 := al.at (uh HY) 6 _ rfl
 simp only [ga, gb, gc] at y0 y1 y2 y3 y4 y5 y6
 have yl := (uh HY).lt
 clear HY
 go_wp2_with fail
 go_ret
 exact ⟨_, rfl, by rw [hnn, uh HTN]; exact (uh HT).reads, uh HB⟩
theorem iN (v : Value) (ws : List ai) (s q : Int) (w : World) (h : (ad.sl ad.ag).Reads w [v] ws) :
  Calls Tryz.prog 162 #[v, .int .i64 s , .int .i64 q] w fun e w' => ∃ cs, e = .returned (.agg cs.toArray) ∧ ad.bB.aT w' cs (bG ws s q) w.heap.size w'.heap.size ∧ Below w.heap.size w w' := by
 have nb : Below w.heap.size w (w.alloc (.cells #[.int .i64 0, .int .i64 0] 60)) := (Below.refl _ _).alloc (Nat.le_refl _) _
 have bR0 : al w.heap.size #[.int .i64 0, .int .i64 0] 60 (w.alloc (.cells #[.int .i64 0, .int .i64 0] 60)) w.heap.size := aK (Nat.le_refl _)
 have HR := yh (h.af nb)
 have HB0 := yh nb
 have HBR := yh bR0
 obtain ⟨ao, cap, rfl⟩ := aC h
 clear nb bR0 h
 have HL := yh (gw _ ws _ (uh HR))
 go_enter Tryz.func162, Tryz.ntmps162
 go_wp2_with fail
 refine (uh HL).mono ?_
 rintro e w2 ⟨r, rfl, g0, g1, hb⟩
 have bR := (uh HBR).ar hb
 have HB2 := yh ((uh HB0).trans (hb.mono (uh HB0).size))
 have hsz : (w.alloc (.cells #[.int .i64 0, .int .i64 0] 60)).heap.size = w.heap.size + 1 := by simp
 rw [hsz] at g0
 clear hb HL HB0 HBR HR hsz
 by_cases hf : aD ws = 0
 ·
  obtain ⟨rfl, v2, rows, bls, hT⟩ := g0 hf
  clear g0 g1
  have HF := yh hf
  rw [hf]
  clear hf
  have HS := yh (ca s w2)
  by_cases hs : 1 ≤ s ∧ s ≤ 9
  ·
   rw [dec9 hs] at HS
   have HQ := yh (fo q w2)
   by_cases hq : 1 ≤ q ∧ q ≤ 999
   ·
    rw [lY hq] at HQ
    have hlk := hT.seen.look (s := s) (q := q) (bF (by omega)) (bF (by omega))
    simp only [tick] at hlk
    have zm : w2.cell? ⟨w.heap.size + 1 + 1, 1, none⟩ = some (.map (some (w.heap.size + 1))) := hT.box.at 1 _ rfl
    by_cases h0 : bf ws s q = 0
    ·
     have HG : Hid (bG ws s q = ⟨4, 0⟩) := by show bG ws s q = _; rw [bG, if_pos (cQ (uh HF) hs), if_pos hq, if_pos h0]
     have hlk2 : (Instr.lookup 234 (.map (some (w.heap.size + 1))) (.agg #[.int .i64 s, .int .i64 q]) true).run Tryz.prog w2 = .ok (.tuple #[.int .i64 0, .bool false]) w2 := by rw [hlk, h0]; rfl
     clear hlk h0 hs hq hT HF
     go_wp2_with fail
     refine (uh HS).mono ?_
     rintro e w3 ⟨rfl, hw3⟩
     rw [hw3]
     clear hw3 w3
     go_wp2_with fail
     refine (uh HQ).mono ?_
     rintro e w3 ⟨rfl, hw3⟩
     rw [hw3]
     clear hw3 w3
     clear HS HQ
     have z0 : w2.cell? ⟨w.heap.size, 0, none⟩ = some (.int .i64 0) := bR.at 0 _ rfl
     have z1 : w2.cell? ⟨w.heap.size, 1, none⟩ = some (.int .i64 0) := bR.at 1 _ rfl
     have f0 := bR.soft 0
     have f1 := bR.soft 1
     have l0 := bR.lt
     clear bR
     go_wp2_with fail
     refine bodyPost_ret (v := .agg #[.int .i64 (4), .int .i64 (0)]) (by simp [results, Tryz.results162, go_sem, z0, z1]) rfl ?_
     rw [uh HG]
     exact ⟨_, rfl, di (by decide) (by decide), ((uh HB2).setCell (by simp) _).setCell (by simp) _⟩
    have HG : Hid (bG ws s q = ⟨0, bf ws s q⟩) := by show bG ws s q = _; rw [bG, if_pos (cQ (uh HF) hs), if_pos hq, if_neg h0]
    have HBD : Hid (bf ws s q ≤ 200) := Nat.le_trans (gE ws s q) (dH (uh HF)).1
    have hlk2 : (Instr.lookup 234 (.map (some (w.heap.size + 1))) (.agg #[.int .i64 s, .int .i64 q]) true).run Tryz.prog w2 = .ok (.tuple #[.int .i64 (bf ws s q), .bool true]) w2 := by rw [hlk]; simp [h0]
    clear hlk h0 hs hq hT HF
    go_wp2_with fail
    refine (uh HS).mono ?_
    rintro e w3 ⟨rfl, hw3⟩
    rw [hw3]
    clear hw3 w3
    go_wp2_with fail
    refine (uh HQ).mono ?_
    rintro e w3 ⟨rfl, hw3⟩
    rw [hw3]
    clear hw3 w3
    clear HS HQ
    have z0 : w2.cell? ⟨w.heap.size, 0, none⟩ = some (.int .i64 0) := bR.at 0 _ rfl
    have z1 : w2.cell? ⟨w.heap.size, 1, none⟩ = some (.int .i64 0) := bR.at 1 _ rfl
    have f0 := bR.soft 0
    have f1 := bR.soft 1
    have l0 := bR.lt
    clear bR
    go_wp2_with fail
    refine bodyPost_ret (v := .agg #[.int .i64 (0), .int .i64 (bf ws s q)]) (by simp [results, Tryz.results162, go_sem, z0, z1]) rfl ?_
    rw [uh HG]
    exact ⟨_, rfl, di (by decide) (bF (by have := uh HBD; omega)), ((uh HB2).setCell (by simp) _).setCell (by simp) _⟩
   rw [lu hq] at HQ
   have HG : Hid (bG ws s q = ⟨3, 0⟩) := by show bG ws s q = _; rw [bG, if_pos (cQ (uh HF) hs), if_neg hq]
   clear hs hq hT HF
   go_wp2_with fail
   refine (uh HS).mono ?_
   rintro e w3 ⟨rfl, hw3⟩
   rw [hw3]
   clear hw3 w3
   go_wp2_with fail
   refine (uh HQ).mono ?_
   rintro e w3 ⟨rfl, hw3⟩
   rw [hw3]
   clear hw3 w3
   clear HS HQ
   have z0 : w2.cell? ⟨w.heap.size, 0, none⟩ = some (.int .i64 0) := bR.at 0 _ rfl
   have z1 : w2.cell? ⟨w.heap.size, 1, none⟩ = some (.int .i64 0) := bR.at 1 _ rfl
   have f0 := bR.soft 0
   have f1 := bR.soft 1
   have l0 := bR.lt
   clear bR
   go_wp2_with fail
   refine bodyPost_ret (v := .agg #[.int .i64 (3), .int .i64 (0)]) (by simp [results, Tryz.results162, go_sem, z0, z1]) rfl ?_
   rw [uh HG]
   exact ⟨_, rfl, di (by decide) (by decide), ((uh HB2).setCell (by simp) _).setCell (by simp) _⟩
  rw [mi hs] at HS
  have HG : Hid (bG ws s q = ⟨3, 0⟩) := by show bG ws s q = _; rw [bG, eg (uh HF) hs, if_neg (by decide)]
  clear hs hT HF
  go_wp2_with fail
  refine (uh HS).mono ?_
  rintro e w3 ⟨rfl, hw3⟩
  rw [hw3]
  clear hw3 w3
  clear HS
  have z0 : w2.cell? ⟨w.heap.size, 0, none⟩ = some (.int .i64 0) := bR.at 0 _ rfl
  have z1 : w2.cell? ⟨w.heap.size, 1, none⟩ = some (.int .i64 0) := bR.at 1 _ rfl
  have f0 := bR.soft 0
  have f1 := bR.soft 1
  have l0 := bR.lt
  clear bR
  go_wp2_with fail
  refine bodyPost_ret (v := .agg #[.int .i64 (3), .int .i64 (0)]) (by simp [results, Tryz.results162, go_sem, z0, z1]) rfl ?_
  rw [uh HG]
  exact ⟨_, rfl, di (by decide) (by decide), ((uh HB2).setCell (by simp) _).setCell (by simp) _⟩
 obtain rfl := g1 hf
 clear g0 g1
 have HG : Hid (bG ws s q = ⟨aD ws, 0⟩) := by show bG ws s q = _; rw [bG, jx s hf, if_neg hf]
 have HWF := yh (l8 ws)
 have hd : (aD ws != 0) = true := by simpa using hf
 clear hf
 have z0 : w2.cell? ⟨w.heap.size, 0, none⟩ = some (.int .i64 0) := bR.at 0 _ rfl
 have z1 : w2.cell? ⟨w.heap.size, 1, none⟩ = some (.int .i64 0) := bR.at 1 _ rfl
 have f0 := bR.soft 0
 have f1 := bR.soft 1
 have l0 := bR.lt
 clear bR
 go_wp2_with fail
 refine bodyPost_ret (v := .agg #[.int .i64 (aD ws), .int .i64 (0)]) (by simp [results, Tryz.results162, go_sem, z0, z1]) rfl ?_
 rw [uh HG]
 exact ⟨_, rfl, di (uh HWF) (by decide), ((uh HB2).setCell (by simp) _).setCell (by simp) _⟩
theorem gy (cs : List Value) (x : aM) (k : Nat) (s q : Int) (w : World) (h : ad.aW.Reads w cs x) (hok : dK x) (hk : k < x.nodes.length) (ht : cy x = (k : Int) + 1) :
  Calls Tryz.prog 96 #[.agg cs.toArray, .int .i64 s, .int .i64 q] w fun e w' => e = .returned (.int .i64 (bE x s q)) ∧ Below w.heap.size w w' := by
 obtain ⟨a3, d3, a4, d4, a5, d5, a6, d6, rfl, -, -, -, -⟩ := aE h
 have nb : Below w.heap.size w (w.alloc (.cells #[.int .i64 x.now, .int .i64 x.events, .int .i64 x.chain.ab, .slice a3 x.chain.ids.length d3, .slice a4 x.nodes.length d4, .slice a5 x.msgs.length d5, .slice a6 x.ae.length d6] 37)) := (Below.refl _ _).alloc (Nat.le_refl _) _
 have HX : Hid (al 0 #[.int .i64 x.now, .int .i64 x.events, .int .i64 x.chain.ab, .slice a3 x.chain.ids.length d3, .slice a4 x.nodes.length d4, .slice a5 x.msgs.length d5, .slice a6 x.ae.length d6] 37 (w.alloc (.cells #[.int .i64 x.now, .int .i64 x.events, .int .i64 x.chain.ab, .slice a3 x.chain.ids.length d3, .slice a4 x.nodes.length d4, .slice a5 x.msgs.length d5, .slice a6 x.ae.length d6] 37)) w.heap.size) := aK (Nat.zero_le _)
 have HL := yh (gJ _ x k _ (h.af nb) hok hk ht)
 have HB := yh nb
 have hno := ch (hok.nodes k hk).1
 have HSV := yh (gN (ws := (x.nodes[k].writes.take x.nodes[k].sure.toNat)) (s := s) (q := q) (by rw [List.length_take]; have := hno.len; omega) (fun v hv => hno.ws v (List.mem_of_mem_take hv)))
 have HPL : Hid (bE x s q = ((bf (x.nodes[k].writes.take x.nodes[k].sure.toNat) s q : Nat) : Int)) := by show bE x s q = _; rw [bE, dY hk ht]
 clear nb h hok hno
 go_enter Tryz.func96, Tryz.ntmps96
 go_upto_region 1 with fail
 generalize (w.alloc (.cells #[.int .i64 x.now, .int .i64 x.events, .int .i64 x.chain.ab, .slice a3 x.chain.ids.length d3, .slice a4 x.nodes.length d4, .slice a5 x.msgs.length d5, .slice a6 x.ae.length d6] 37)) = W1 at *
 have z0 := al.at (uh HX) 0 _ rfl
 have z1 := al.at (uh HX) 1 _ rfl
 have z2 := al.at (uh HX) 2 _ rfl
 have z3 := al.at (uh HX) 3 _ rfl
 have z4 := al.at (uh HX) 4 _ rfl
 have z5 := al.at (uh HX) 5 _ rfl
 have z6 := al.at (uh HX) 6 _ rfl
 simp only [ga, gb, gc] at z0 z1 z2 z3 z4 z5 z6
 have zl := (uh HX).lt
 go_wp2_with fail
 refine (uh HL).mono ?_
 rintro e w3 ⟨v3, rfl, RA, hb3⟩
 have HS := yh (iN v3 _ s q w3 RA)
 replace HB := bZ HB hb3
 clear hb3 HL RA z0 z1 z2 z3 z4 z5 z6 zl HX
 go_wp2_with fail
 refine (uh HS).mono ?_
 rintro e w4 ⟨us, rfl, O0, hb4⟩
 obtain ⟨rfl, -, -⟩ := iD O0
 replace HB := bZ HB hb4
 clear hb4 HS O0
 generalize (bG (x.nodes[k].writes.take x.nodes[k].sure.toNat) s q).code = c1 at *
 generalize (bG (x.nodes[k].writes.take x.nodes[k].sure.toNat) s q).value = v1 at *
 have hfl : ∀ w : World, (Instr.field 60 (.agg #[.int .i64 c1, .int .i64 v1]) 1).run Tryz.prog w = .ok (.int .i64 v1) w := fun _ => by kernel_rfl
 go_wp2_with fail
 go_ret
 exact ⟨by rw [uh HPL, ← uh HSV]; try rfl, uh HB⟩
theorem gS (cs : List Value) (x : aM) (s q : Int) (w : World) (h : ad.aW.Reads w cs x) :
  Calls Tryz.prog 40 #[.agg cs.toArray, .int .i64 s, .int .i64 q] w fun e w' => ∃ cs', e = .returned (.agg cs'.toArray) ∧ ad.bB.aT w' cs' (cJ x s q) w.heap.size w'.heap.size ∧ Below w.heap.size w w' := by
 have HP : Hid (cJ x s q = if aA x ≠ 0 then ⟨aA x, 0⟩ else if bE x s q = 0 then ⟨4, 0⟩ else ⟨0, bE x s q⟩) := rfl
 obtain ⟨a3, d3, a4, d4, a5, d5, a6, d6, rfl, -, -, -, -⟩ := aE h
 have nb : Below w.heap.size w ((w.alloc (.cells #[.int .i64 x.now, .int .i64 x.events, .int .i64 x.chain.ab, .slice a3 x.chain.ids.length d3, .slice a4 x.nodes.length d4, .slice a5 x.msgs.length d5, .slice a6 x.ae.length d6] 37)).alloc (.cells #[.int .i64 0, .int .i64 0] 60)) := ((Below.refl _ _).alloc (Nat.le_refl _) _).alloc (by simp) _
 have HX : Hid (al 0 #[.int .i64 x.now, .int .i64 x.events, .int .i64 x.chain.ab, .slice a3 x.chain.ids.length d3, .slice a4 x.nodes.length d4, .slice a5 x.msgs.length d5, .slice a6 x.ae.length d6] 37 ((w.alloc (.cells #[.int .i64 x.now, .int .i64 x.events, .int .i64 x.chain.ab, .slice a3 x.chain.ids.length d3, .slice a4 x.nodes.length d4, .slice a5 x.msgs.length d5, .slice a6 x.ae.length d6] 37)).alloc (.cells #[.int .i64 0, .int .i64 0] 60)) w.heap.size) := (aK (Nat.zero_le _)).grow _
 have HY : Hid (al 0 #[.int .i64 0, .int .i64 0] 60 ((w.alloc (.cells #[.int .i64 x.now, .int .i64 x.events, .int .i64 x.chain.ab, .slice a3 x.chain.ids.length d3, .slice a4 x.nodes.length d4, .slice a5 x.msgs.length d5, .slice a6 x.ae.length d6] 37)).alloc (.cells #[.int .i64 0, .int .i64 0] 60)) (w.heap.size + 1)) := aU (Nat.zero_le _) (by simp)
 have hz0 : ((w.alloc (.cells #[.int .i64 x.now, .int .i64 x.events, .int .i64 x.chain.ab, .slice a3 x.chain.ids.length d3, .slice a4 x.nodes.length d4, .slice a5 x.msgs.length d5, .slice a6 x.ae.length d6] 37)).alloc (.cells #[.int .i64 0, .int .i64 0] 60)).heap.size = w.heap.size + 2 := by simp
 have HR := yh (h.af nb)
 have HB := yh nb
 clear nb h
 generalize cJ x s q = R at *
 go_enter Tryz.func40, Tryz.ntmps40
 go_upto_region 1 with fail
 generalize ((w.alloc (.cells #[.int .i64 x.now, .int .i64 x.events, .int .i64 x.chain.ab, .slice a3 x.chain.ids.length d3, .slice a4 x.nodes.length d4, .slice a5 x.msgs.length d5, .slice a6 x.ae.length d6] 37)).alloc (.cells #[.int .i64 0, .int .i64 0] 60)) = W0 at *
 have z0 := al.at (uh HX) 0 _ rfl
 have z1 := al.at (uh HX) 1 _ rfl
 have z2 := al.at (uh HX) 2 _ rfl
 have z3 := al.at (uh HX) 3 _ rfl
 have z4 := al.at (uh HX) 4 _ rfl
 have z5 := al.at (uh HX) 5 _ rfl
 have z6 := al.at (uh HX) 6 _ rfl
 simp only [ga, gb, gc] at z0 z1 z2 z3 z4 z5 z6
 have zl := (uh HX).lt
 go_wp2_with fail
 refine (ft _ x W0 (uh HR)).mono ?_
 rintro e wa ⟨rfl, hb⟩
 clear z0 z1 z2 z3 z4 z5 z6 zl
 replace HX := yh ((uh HX).ar hb)
 replace HR := yh ((uh HR).af hb)
 replace HY := yh ((uh HY).ar hb)
 replace HB := bZ HB hb
 have hza := hb.size
 clear hb
 by_cases d1 : aA x ≠ 0
 ·
  have hd : (aA x != 0) = true := by simpa using d1
  replace HP := yh ((uh HP).trans (if_pos d1))
  have HC := yh (je x)
  clear d1
  generalize aA x = c at *
  have r0 := al.at (uh HY) 0 _ rfl
  have r1 := al.at (uh HY) 1 _ rfl
  simp only [ga, gb, gc] at r0 r1
  have rf := al.soft (uh HY)
  have rl := (uh HY).lt
  have HB9 := yh (((uh HB).setCell (p := ⟨w.heap.size + 1, 0, none⟩) (by simp) (.int .i64 c)).setCell (p := ⟨w.heap.size + 1, 1, none⟩) (by simp) (.int .i64 0))
  clear HX HR HY HB
  go_wp2_with fail
  refine bodyPost_ret (v := .agg #[.int .i64 c, .int .i64 0]) (by simp [results, Tryz.results40, go_sem, r0, r1]) rfl ?_
  rw [uh HP]
  exact ⟨[.int .i64 c, .int .i64 0], rfl, cC (bF (by have := uh HC; omega)) (by decide), uh HB9⟩
 replace HP := yh ((uh HP).trans (if_neg d1))
 have hok := cY (by simpa using d1 : aA x = 0)
 rw [show aA x = 0 by simpa using d1]
 obtain ⟨k, hk, ht⟩ := tail_at hok
 have HL := yh (gy _ x k s q wa (uh HR) hok.mid hk ht)
 have HPB := yh (fL hok s q)
 clear hok hk ht d1
 have z0 := al.at (uh HX) 0 _ rfl
 have z1 := al.at (uh HX) 1 _ rfl
 have z2 := al.at (uh HX) 2 _ rfl
 have z3 := al.at (uh HX) 3 _ rfl
 have z4 := al.at (uh HX) 4 _ rfl
 have z5 := al.at (uh HX) 5 _ rfl
 have z6 := al.at (uh HX) 6 _ rfl
 simp only [ga, gb, gc] at z0 z1 z2 z3 z4 z5 z6
 have zl := (uh HX).lt
 go_wp2_with fail
 refine (uh HL).mono ?_
 rintro e w3 ⟨rfl, hb3⟩
 replace HY := yh ((uh HY).ar hb3)
 replace HB := bZ HB hb3
 clear hb3 HL z0 z1 z2 z3 z4 z5 z6 zl HX HR
 by_cases h0 : bE x s q = 0
 ·
  replace HP := yh ((uh HP).trans (if_pos h0))
  rw [h0] at *
  clear h0 HPB
  have r0 := al.at (uh HY) 0 _ rfl
  have r1 := al.at (uh HY) 1 _ rfl
  simp only [ga, gb, gc] at r0 r1
  have rf := al.soft (uh HY)
  have rl := (uh HY).lt
  have HB9 := yh (((uh HB).setCell (p := ⟨w.heap.size + 1, 0, none⟩) (by simp) (.int .i64 4)).setCell (p := ⟨w.heap.size + 1, 1, none⟩) (by simp) (.int .i64 0))
  clear HY HB
  go_wp2_with fail
  refine bodyPost_ret (v := .agg #[.int .i64 4, .int .i64 0]) (by simp [results, Tryz.results40, go_sem, r0, r1]) rfl ?_
  rw [uh HP]
  exact ⟨[.int .i64 4, .int .i64 0], rfl, cC (by decide) (by decide), uh HB9⟩
 replace HP := yh ((uh HP).trans (if_neg h0))
 have hd0 : (bE x s q == 0) = false := by simpa using h0
 clear h0
 generalize bE x s q = p at *
 have r0 := al.at (uh HY) 0 _ rfl
 have r1 := al.at (uh HY) 1 _ rfl
 simp only [ga, gb, gc] at r0 r1
 have rf := al.soft (uh HY)
 have rl := (uh HY).lt
 have HB9 := yh (((uh HB).setCell (p := ⟨w.heap.size + 1, 0, none⟩) (by simp) (.int .i64 0)).setCell (p := ⟨w.heap.size + 1, 1, none⟩) (by simp) (.int .i64 p))
 clear HY HB
 go_wp2_with fail
 refine bodyPost_ret (v := .agg #[.int .i64 0, .int .i64 p]) (by simp [results, Tryz.results40, go_sem, r0, r1]) rfl ?_
 rw [uh HP]
 exact ⟨[.int .i64 0, .int .i64 p], rfl, cC (by decide) (bF (by have := uh HPB; omega)), uh HB9⟩
theorem iY (cs : List Value) (x : aM) (s q : Int) (w : World) (h : ad.aW.Reads w cs x) :
  Calls Tryz.prog 10 #[.agg cs.toArray, .int .i64 s, .int .i64 q] w fun e w' => e = .returned (.bool true) ∧ Below w.heap.size w w' := by
 by_cases hn : ad.aW.sz x ≤ 1048576
 ·
  exact gx cs x s q (cJ x s q) w h hn (fun W a ha => gH a x s q W ha) (fun W a ha => gS a x s q W ha)
 exact eN cs x s q w h (by omega)
theorem gM : da ad.aX 24 := by
 intro H enc W base spare held fuel cs x h
 obtain ⟨xs, n, _, _, hlen, hl, hfi⟩ := DataW.trod_struct Tryz.underlying24 h
 rw [show Tryz.prog.cellsOf 24 = 2 by kernel_rfl] at hlen
 match cs, hlen with
 | [c0, c1], _ =>
 match xs, hl with
 | [y0, y1], _ =>
 have z0 : Tryz.prog.cellsOf 2 = 1 := by kernel_rfl
 have z1 : Tryz.prog.cellsOf 22 = 1 := by kernel_rfl
 have f0 : DataW.trod enc Tryz.prog W base spare held n 2 (([c0, c1].drop 0).take (Tryz.prog.cellsOf 2)) = some y0 := hfi 0 _ rfl
 rw [z0] at f0
 obtain ⟨d0, r0⟩ := (aH Tryz.underlying2) enc W base spare held n _ _ f0
 have f1 : DataW.trod enc Tryz.prog W base spare held n 22 (([c0, c1].drop 1).take (Tryz.prog.cellsOf 22)) = some y1 := hfi 1 _ rfl
 rw [z1] at f1
 obtain ⟨d1, r1⟩ := (cg Tryz.underlying22 (by kernel_rfl) (by decide) (aH Tryz.underlying2)) enc W base spare held n _ _ f1
 exact ⟨⟨d0, d1⟩, (ay r0 r1)⟩
theorem et : da ad.ag 132 := by
 intro H enc W base spare held fuel cs x h
 obtain ⟨xs, n, _, _, hlen, hl, hfi⟩ := DataW.trod_struct Tryz.underlying132 h
 rw [show Tryz.prog.cellsOf 132 = 5 by kernel_rfl] at hlen
 match cs, hlen with
 | [c0, c1, c2, c3, c4], _ =>
 match xs, hl with
 | [y0, y1, y2, y3, y4], _ =>
 have z0 : Tryz.prog.cellsOf 2 = 1 := by kernel_rfl
 have z1 : Tryz.prog.cellsOf 22 = 1 := by kernel_rfl
 have f0 : DataW.trod enc Tryz.prog W base spare held n 2 (([c0, c1, c2, c3, c4].drop 0).take (Tryz.prog.cellsOf 2)) = some y0 := hfi 0 _ rfl
 rw [z0] at f0
 obtain ⟨d0, r0⟩ := (aH Tryz.underlying2) enc W base spare held n _ _ f0
 have f1 : DataW.trod enc Tryz.prog W base spare held n 2 (([c0, c1, c2, c3, c4].drop 1).take (Tryz.prog.cellsOf 2)) = some y1 := hfi 1 _ rfl
 rw [z0] at f1
 obtain ⟨d1, r1⟩ := (aH Tryz.underlying2) enc W base spare held n _ _ f1
 have f2 : DataW.trod enc Tryz.prog W base spare held n 22 (([c0, c1, c2, c3, c4].drop 2).take (Tryz.prog.cellsOf 22)) = some y2 := hfi 2 _ rfl
 rw [z1] at f2
 obtain ⟨d2, r2⟩ := (cg Tryz.underlying22 (by kernel_rfl) (by decide) (aH Tryz.underlying2)) enc W base spare held n _ _ f2
 have f3 : DataW.trod enc Tryz.prog W base spare held n 2 (([c0, c1, c2, c3, c4].drop 3).take (Tryz.prog.cellsOf 2)) = some y3 := hfi 3 _ rfl
 rw [z0] at f3
 obtain ⟨d3, r3⟩ := (aH Tryz.underlying2) enc W base spare held n _ _ f3
 have f4 : DataW.trod enc Tryz.prog W base spare held n 2 (([c0, c1, c2, c3, c4].drop 4).take (Tryz.prog.cellsOf 2)) = some y4 := hfi 4 _ rfl
 rw [z0] at f4
 obtain ⟨d4, r4⟩ := (aH Tryz.underlying2) enc W base spare held n _ _ f4
 exact ⟨⟨d0, d1, d2, d3, d4⟩, (ay r0 (ay r1 (ay r2 (ay r3 r4))))⟩
end Go.Proofs.YtecagllmonckgaaGreat
