/-
  Texts of this proof in one: ImplMember, ChainsPlain, AskedPlain, WorldMsgs, SendPlain, HearPlain, SpecWs, SpecLast5, SpecSeen, SpecIntsB, SpecWCopy, AppWriteAt, SpecApp5, RowIn, SpecApp5O, TakeCode, SpecTakeO, SpecNode9, SpecChainF, SpecChainO, SpecMember, SpecWE, SpecMin, WorldSpec, ClearKit, SpecCopyCh, AppMsg.
  Their conditions stand in their theorems.
-/
import Derived.Test.YtomphbenbnnfgaaGreatDoorHw06
import Derived.Test.YtomphbenbnnfgaaGreatDoorHw05
import Derived.Test.YtomphbenbnnfgaaGreatDoorHw07
import Derived.Deep.CutRange
import Derived.Test.YtomphbenbnnfgaaGreatDoorHw00
import Derived.Test.YtomphbenbnnfgaaGreatDoorHw04
import Derived.Test.YtomphbenbnnfgaaGreatDoorHw01
import Derived.Test.YtomphbenbnnfgaaGreatDoorChecked
import Derived.BigQuiet
import Derived.Deep.QuietTactic
import Derived.WalkSmall
import Derived.Deep.RegionHeld3
import Derived.Test.YtomphbenbnnfgaaGreatDoorHw03
set_option maxRecDepth 100000
set_option maxHeartbeats 4000000
namespace Go.Proofs.YtomphbenbnnfgaaGreatDoor
open Go.RowKit
def iL (x : ay) (id : Int) : Bool := decide (0 ≤ aY x.chain.ids id) && ((cm x id).up && (cm x id).ae == x.chain.ae)
theorem iq (x : ay) (id : Int) : iL x id = cF x id := by
 unfold iL cF
 cases decide (0 ≤ aY x.chain.ids id) <;> cases (cm x id).up <;> simp
theorem jb (cs : List Value) (x : ay) (id : Int) (w : World) (h : ab.aH.Reads w cs x) (hi : ∀ z ∈ x.chain.ids, ch x z = true) (hn5 : x.nodes.length ≤ 5) :
  Calls Tryz.prog 103 #[.agg cs.toArray, .int .i64 id] w fun e w' => e = .returned (.bool (iL x id)) ∧ Below w.heap.size w w' := by
 obtain ⟨a3, d3, a4, d4, a5, d5, a6, d6, rfl, RC, RN, -, -⟩ := aN h
 have nb : Below w.heap.size w (w.alloc (.cells #[.int .i64 x.now, .int .i64 x.events, .int .i64 x.chain.ae, .slice a3 x.chain.ids.length d3, .slice a4 x.nodes.length d4, .slice a5 x.msgs.length d5, .slice a6 x.af.length d6] 39)) := (Below.refl _ _).alloc (Nat.le_refl _) _
 have HX : Hid (ag 0 #[.int .i64 x.now, .int .i64 x.events, .int .i64 x.chain.ae, .slice a3 x.chain.ids.length d3, .slice a4 x.nodes.length d4, .slice a5 x.msgs.length d5, .slice a6 x.af.length d6] 39 (w.alloc (.cells #[.int .i64 x.now, .int .i64 x.events, .int .i64 x.chain.ae, .slice a3 x.chain.ids.length d3, .slice a4 x.nodes.length d4, .slice a5 x.msgs.length d5, .slice a6 x.af.length d6] 39)) w.heap.size) := aC (Nat.zero_le _)
 have HL := yh (j4 _ x.chain id _ (RC.later nb))
 have HRN := yh (RN.later nb)
 have HB := yh nb
 have HP : Hid (iL x id = (decide (0 ≤ aY x.chain.ids id) && ((cm x id).up && (cm x id).ae == x.chain.ae))) := rfl
 have HM : Hid (decide (0 ≤ aY x.chain.ids id) = true → ch x id = true) := fun q => hi id ((mc _ _).1 q)
 clear nb h RC RN hi
 generalize iL x id = r at *
 generalize hq : decide (0 ≤ aY x.chain.ids id) = q at *
 clear hq
 go_enter Tryz.func103, Tryz.ntmps103
 go_upto_region 1 with fail
 generalize w.alloc (.cells #[.int .i64 x.now, .int .i64 x.events, .int .i64 x.chain.ae, .slice a3 x.chain.ids.length d3, .slice a4 x.nodes.length d4, .slice a5 x.msgs.length d5, .slice a6 x.af.length d6] 39) = w1 at *
 have z2 := ag.at (uh HX) 2 _ rfl
 have z3 := ag.at (uh HX) 3 _ rfl
 simp only [ga, gb, gc] at z2 z3
 have zl := (uh HX).lt
 go_wp2_with fail
 refine (uh HL).mono ?_
 rintro e w2 ⟨rfl, hb⟩
 replace HX := yh ((uh HX).aj hb)
 replace HRN := yh ((uh HRN).later hb)
 replace HB := bZ HB hb
 clear hb HL z2 z3 zl
 cases q
 ·
  go_wp2_with fail
  go_ret
  exact ⟨by rw [uh HP]; rfl, uh HB⟩
 obtain ⟨k, hk, rfl⟩ := gY (uh HM rfl)
 rw [eY hk] at HP
 obtain ⟨b, off, rfl, hbl⟩ := ab.aR (uh HRN) (by omega)
 obtain ⟨row, hcl, hr⟩ := ab.bF (uh HRN) hk
 obtain ⟨an, dn, rfl, -⟩ := bt hr
 have c0 : w2.cell? ⟨b, off + k * 7, none⟩ = some (.int .i64 (x.nodes[k]).id) := hcl 0 (by decide)
 have c1 : w2.cell? ⟨b, off + k * 7 + 1, none⟩ = some (.bool (x.nodes[k]).up) := hcl 1 (by decide)
 have c2 : w2.cell? ⟨b, off + k * 7 + 2, none⟩ = some (.int .i64 (x.nodes[k]).ae) := hcl 2 (by decide)
 have c3 : w2.cell? ⟨b, off + k * 7 + 3, none⟩ = some (.int .i64 (x.nodes[k]).ar) := hcl 3 (by decide)
 have c4 : w2.cell? ⟨b, off + k * 7 + 4, none⟩ = some (.slice an (x.nodes[k]).writes.length dn) := hcl 4 (by decide)
 have c5 : w2.cell? ⟨b, off + k * 7 + 5, none⟩ = some (.int .i64 (x.nodes[k]).sure) := hcl 5 (by decide)
 have c6 : w2.cell? ⟨b, off + k * 7 + 6, none⟩ = some (.int .i64 (x.nodes[k]).clean) := hcl 6 (by decide)
 have hw1 : IntKind.i64.wrap (k : Int) = (k : Int) := by
  rw [IntKind.wrap_i64]
  omega
 have hki : (k : Int) < (x.nodes.length : Int) := by omega
 have z4 := ag.at (uh HX) 4 _ rfl
 have z2 := ag.at (uh HX) 2 _ rfl
 simp only [ga, gb, gc] at z4 z2
 have zl := (uh HX).lt
 clear hcl hr HRN HM HX
 generalize x.nodes[k] = n at *
 have nb : Below w2.heap.size w2 (w2.alloc (.cells #[.int .i64 n.id, .bool n.up, .int .i64 n.ae, .int .i64 n.ar, .slice an n.writes.length dn, .int .i64 n.sure, .int .i64 n.clean] 63)) := (Below.refl _ _).alloc (Nat.le_refl _) _
 replace HB := bZ HB nb
 clear nb
 generalize hu : n.up = u at *
 clear hu
 generalize he : (n.ae == x.chain.ae) = v at *
 cases u
 ·
  go_wp2_with fail
  go_ret
  exact ⟨by rw [uh HP]; rfl, uh HB⟩
 cases v
 ·
  go_wp2_with fail
  go_ret
  exact ⟨by rw [uh HP]; rfl, uh HB⟩
 go_wp2_with fail
 go_ret
 exact ⟨by rw [uh HP]; rfl, uh HB⟩
theorem lW {x : ay} {id : Int} (h : cF x id = true) : 0 ≤ aY x.chain.ids id := by
 unfold cF at h
 simp only [Bool.and_eq_true, decide_eq_true_eq] at h
 exact h.2.2
theorem rQ {x : ay} (hc : aB x.chain = 0) {id d : Int} (hp : 0 ≤ aY x.chain.ids id) : br x.chain id d = if df x.chain.ids id d = 0 then ⟨8, 0⟩ else ⟨0, df x.chain.ids id d⟩ := by
 rw [br, if_pos hc, if_neg (by omega)]
theorem eC {w : World} {cs : List Value} {y : dW} {lo hi : Nat} (h : ab.dx.aL w cs y lo hi) : cs = [.int .i64 y.code, .int .i64 y.value] ∧ (Lit.int .i64 y.code).wf = true ∧ (Lit.int .i64 y.value).wf = true := by
 obtain ⟨bl, O, -⟩ := h
 obtain ⟨e, -, w0, w1⟩ := fk.1 O.1
 exact ⟨e, w0, w1⟩
def gE (m : bu) (r : dW) : Bool := (r.code == 0) && (r.value == m.src)
def nU (n : aS) (m : bu) : Bool := ((eh n.writes m.write.aa m.write.seq).code == 4) && (m.index == (n.writes.length : Int) + 1)
def eP (y : ay) (m : bu) : Bool := (bU y m).isSome
def ec (y : ay) (m : bu) : ay := match bU y m with
 | none => y
 | some n => fV y n
theorem ba {y : ay} {m : bu} (h : bU y m = none) : eP y m = false ∧ ec y m = y := by
 constructor
 ·
  rw [eP, h]; rfl
 rw [ec, h]
theorem cS {y : ay} {m : bu} {n : aS} (h : bU y m = some n) : eP y m = true ∧ ec y m = fV y n := by
 constructor
 ·
  rw [eP, h]; rfl
 rw [ec, h]
theorem mq {y : ay} {m : bu} (h : cF y m.dst = false) : bU y m = none := by
 rw [bU, if_pos (Or.inr (Or.inl h))]
theorem jy {y : ay} {m : bu} (h : m.ae ≠ y.chain.ae) : bU y m = none := by
 rw [bU, if_pos (Or.inr (Or.inr h))]
theorem jL {y : ay} {id : Int} (hi : ∀ z ∈ y.chain.ids, ch y z = true) (h : cF y id = true) : ch y id = true := by
 obtain ⟨k, hk, -, hid, -⟩ := kX (lW h)
 have := hi _ (List.getElem_mem hk)
 rw [hid] at this
 exact this
theorem oc {y : ay} {m : bu} (hi : ∀ z ∈ y.chain.ids, ch y z = true) (h : cF y m.dst = true) (he : m.ae = y.chain.ae) : ¬ (ch y m.dst = false ∨ cF y m.dst = false ∨ m.ae ≠ y.chain.ae) := by
 have := jL hi h
 rw [this, h, he]
 simp
theorem mw {y : ay} {m : bu} (hi : ∀ z ∈ y.chain.ids, ch y z = true) (h : cF y m.dst = true) (he : m.ae = y.chain.ae) (hk : m.kind = 2) :
  bU y m = if df y.chain.ids m.dst 1 ≠ m.src then none else some { cm y m.dst with clean := max (cm y m.dst).clean (min m.index (cm y m.dst).sure) } := by
 rw [bU, if_neg (oc hi h he), if_pos hk]
theorem lY {y : ay} {m : bu} (hi : ∀ z ∈ y.chain.ids, ch y z = true) (h : cF y m.dst = true) (he : m.ae = y.chain.ae) (hk : m.kind ≠ 2) :
  bU y m = if df y.chain.ids m.dst (-1) ≠ m.src ∨ m.index ≠ ((cm y m.dst).writes.length : Int) + 1 then none else if 0 < bV (cm y m.dst).writes m.write.aa m.write.seq then none else if (takeN (cm y m.dst) m.write).1 = 0 then some (takeN (cm y m.dst) m.write).2 else none := by
 rw [bU, if_neg (oc hi h he), if_neg hk]
theorem jG {y : ay} (hc : aB y.chain = 0) {m : bu} {d : Int} (h : cF y m.dst = true) (hs : 1 ≤ m.src) : gE m (br y.chain m.dst d) = decide (df y.chain.ids m.dst d = m.src) := by
 rw [rQ hc (lW h), gE]
 by_cases c : df y.chain.ids m.dst d = 0
 ·
  rw [if_pos c, c]
  have : ¬ (0 : Int) = m.src := by omega
  simp [this]
 rw [if_neg c]
 by_cases e : df y.chain.ids m.dst d = m.src
 ·
  simp [e]
 simp [e]
theorem lg {n : aS} {i : Int} (hn : aG n = 0) (hu : n.up = true) (hi : 0 ≤ i ∧ i ≤ 40) : fb n i = ⟨0, 0, { n with clean := max n.clean (min i n.sure) }⟩ := by
 rw [fb, cH, if_pos hn, if_pos hu, if_pos rfl, if_pos hi]
theorem rI {n : aS} {v : au} (hn : aG n = 0) (hu : n.up = true) : ((fg n v).code = 0 ↔ (takeN n v).1 = 0) ∧ ((fg n v).code = 0 → (fg n v).node = (takeN n v).2) := by
 unfold fg takeN cH
 rw [if_pos hn, if_pos hu, if_pos rfl]
 by_cases c : (ca n.writes v).code = 0
 ·
  rw [if_pos c, if_pos c]
  by_cases c2 : 40 < (ca n.writes v).writes.length
  ·
   rw [if_pos c2, if_pos c2]; simp [dV]
  rw [if_neg c2, if_neg c2]; simp
 rw [if_neg c, if_neg c]
 simp [dV, c]
theorem pK {y : ay} {id : Int} (h : cF y id = true) : (cm y id).up = true := by
 unfold cF at h
 simp only [Bool.and_eq_true] at h
 exact h.1
theorem jc {m : bu} (h : aJ m = 0) : (m.kind = 1 ∨ m.kind = 2) ∧ 1 ≤ m.src ∧ (0 ≤ m.index ∧ m.index ≤ 40) ∧ (m.kind ≠ 2 → wF m.write = 0) := by
 unfold aJ at h
 split at h
 ·
  simp at h
 rename_i h1
 split at h
 ·
  simp at h
 rename_i h2
 have a : 1 ≤ m.kind ∧ m.kind ≤ 2 := Decidable.byContradiction fun c => h1 (Or.inl c)
 have b : 1 ≤ m.src ∧ m.src ≤ 5 := Decidable.byContradiction fun c => h2 (Or.inr (Or.inl c))
 have d : 0 ≤ m.index ∧ m.index ≤ 40 := Decidable.byContradiction fun c => h2 (Or.inr (Or.inr (Or.inr (Or.inl c))))
 refine ⟨by omega, b.1, d, fun c => ?_⟩
 rw [if_neg c] at h
 exact h
theorem rB {n : aS} {m : bu} (hn : aG n = 0) (hm : wF m.write = 0) : nU n m = (decide (bV n.writes m.write.aa m.write.seq = 0) && (m.index == (n.writes.length : Int) + 1)) := by
 have hf := (cq hn).aM
 obtain ⟨-, hs, hq, -⟩ := cf hm
 rw [nU, eh, if_pos (iz hf hs), if_pos hq]
 by_cases c : bV n.writes m.write.aa m.write.seq = 0
 ·
  rw [if_pos c, c]; simp
 rw [if_neg c]; simp [c]
theorem kz (b off cap : Nat) (ws : List au) (w : World) (h : (ab.sl ab.ai).Reads w [.slice (some ⟨b, off, none⟩) ws.length cap] ws) (hbl : b < w.heap.size) (hn : ws.length ≤ 200) :
  Calls Tryz.prog 194 #[.slice (some ⟨b, off, none⟩) ws.length cap] w fun e w' => e = .returned (.int .i64 (aM ws)) ∧ w' = w := by
 have HW : Hid (aM ws = cG ws) := by show aM ws = cG ws; rw [aM, if_neg (by omega)]
 have H := yh h
 clear h
 go_enter Tryz.func194, Tryz.ntmps194
 go_wp2_with fail
 go_loop [3] (fun i => ∃ k : Nat, k ≤ ws.length ∧ i = .int .i64 k ∧ (∀ j (hj : j < ws.length), j < k → wF ws[j] = 0)) (fun i => ws.length - (intOf i).toNat)
 case atStart => exact ⟨0, Nat.zero_le _, rfl, fun j _ hj => by omega⟩
 case round =>
  obtain ⟨k, hk, rfl, hz⟩ := hrel
  by_cases hlt : k < ws.length
  ·
   obtain ⟨row, hc, hr⟩ := ab.bF (uh H) hlt
   obtain ⟨a2, d2, rfl, R2⟩ := bg hr
   have c0 : w.cell? ⟨b, off + k * 5, none⟩ = some (.int .i64 (ws[k]).kind) := ((Below.refl w.heap.size w).cell (p := ⟨b, off + k * 5, none⟩) hbl).trans (hc 0 (by decide))
   have c1 : w.cell? ⟨b, off + k * 5 + 1, none⟩ = some (.int .i64 (ws[k]).id) := ((Below.refl w.heap.size w).cell (p := ⟨b, off + k * 5 + 1, none⟩) hbl).trans (hc 1 (by decide))
   have c2 : w.cell? ⟨b, off + k * 5 + 2, none⟩ = some (.slice a2 (ws[k]).vec.length d2) := ((Below.refl w.heap.size w).cell (p := ⟨b, off + k * 5 + 2, none⟩) hbl).trans (hc 2 (by decide))
   have c3 : w.cell? ⟨b, off + k * 5 + 3, none⟩ = some (.int .i64 (ws[k]).aa) := ((Below.refl w.heap.size w).cell (p := ⟨b, off + k * 5 + 3, none⟩) hbl).trans (hc 3 (by decide))
   have c4 : w.cell? ⟨b, off + k * 5 + 4, none⟩ = some (.int .i64 (ws[k]).seq) := ((Below.refl w.heap.size w).cell (p := ⟨b, off + k * 5 + 4, none⟩) hbl).trans (hc 4 (by decide))
   have HZ := yh hz
   have HAT : Hid (wF ws[k] ≠ 0 → aM ws = wF ws[k]) := fun hn => (uh HW).trans (iZ ws k hlt hz hn)
   have HZ2 : Hid (wF ws[k] = 0 → ∀ j (hj : j < ws.length), j < k + 1 → wF ws[j] = 0) := by
    intro h0 j hj hjk
    by_cases hjk2 : j < k
    ·
     exact uh HZ j hj hjk2
    obtain rfl : j = k := by omega
    exact h0
   clear hc hr hz HZ
   generalize hx : ws[k] = x at *
   clear hx
   have L := oa b (off + k * 5) x.kind x.id _ x.aa x.seq x.vec w ⟨c0, c1, c2, c3, c4⟩ (ab.bf R2)
   rw [show aQ x.kind x.id x.vec x.aa x.seq = wF x from rfl] at L
   have HL := yh L
   clear L R2 c0 c1 c2 c3 c4
   go_wp2_with fail
   refine (uh HL).mono ?_
   rintro e w ⟨rfl, rfl⟩
   by_cases hf : wF x = 0
   ·
    rw [hf]
    have HZ3 := yh (uh HZ2 hf)
    clear hf HZ2 HAT HL
    go_wp2_with fail
    go_round
    case rel => exact ⟨k + 1, by omega, by go_num, uh HZ3⟩
    case measure => simp [intOf]; omega
   have hd : (wF x != 0) = true := by simpa using hf
   have HG := yh (uh HAT hf)
   clear hf HZ2 HAT HL
   go_wp2_with fail
   go_ret
   exact ⟨by rw [uh HG]; rfl, rfl⟩
  have HG : Hid (aM ws = 0) := (uh HW).trans (fm ws fun j hj => hz j hj (by omega))
  clear hz H
  go_wp2_with fail
  go_ret
  exact ⟨by rw [uh HG]; rfl, rfl⟩
theorem pM (v : Value) (ws : List au) (w : World) (h : (ab.sl ab.ai).Reads w [v] ws) :
  Calls Tryz.prog 194 #[v] w fun e w' => e = .returned (.int .i64 (aM ws)) ∧ w' = w := by
 obtain ⟨ao, cap, rfl⟩ := aI h
 by_cases hn : ws.length ≤ 200
 ·
  by_cases hp : 0 < ws.length
  ·
   obtain ⟨b, off, rfl, hbl⟩ := ab.aR h hp
   exact kz b off cap ws w h hbl hn
  obtain rfl : ws = [] := List.eq_nil_of_length_eq_zero (by omega)
  clear h hn hp
  go_enter Tryz.func194, Tryz.ntmps194
  go_wp2_with fail
  refine wp_loop_rounds 1 ?_
  rw [rounds_succ]
  go_wp2_with fail
  go_ret
  exact ⟨rfl, rfl⟩
 have e : aM ws = 2 := by rw [aM, if_pos (by omega)]
 rw [e]
 have hd : decide ((200 : Int) < (ws.length : Int)) = true := by simp; omega
 clear h e
 go_enter Tryz.func194, Tryz.ntmps194
 go_wp2_with fail
 go_ret
 exact ⟨rfl, rfl⟩
theorem nD (x y : Int) (w : World) : Calls Tryz.prog 65 #[.int .i64 x, .int .i64 y] w fun e w' => e = .returned (.int .i64 (max x y)) ∧ w' = w := by
 by_cases h : y < x
 ·
  have d : decide (y < x) = true := by simpa using h
  have e : max x y = x := by omega
  rw [e]
  go_enter Tryz.func65, Tryz.ntmps65
  go_wp2
  go_ret
  exact ⟨rfl, rfl⟩
 have d : decide (y < x) = false := by simpa using h
 have e : max x y = y := by omega
 rw [e]
 go_enter Tryz.func65, Tryz.ntmps65
 go_wp2
 go_ret
 exact ⟨rfl, rfl⟩
theorem pH (b off cap : Nat) (ws : List au) (s : Int) (w : World) (h : (ab.sl ab.ai).Reads w [.slice (some ⟨b, off, none⟩) ws.length cap] ws) (hbl : b < w.heap.size) (hn : ws.length ≤ 10000000) :
  Calls Tryz.prog 154 #[.slice (some ⟨b, off, none⟩) ws.length cap, .int .i64 s] w fun e w' => e = .returned (.int .i64 (aT ws s)) ∧ w' = w := by
 have H := yh h
 clear h
 go_enter Tryz.func154, Tryz.ntmps154
 go_wp2_with fail
 go_loop [5, 6] (fun m i => ∃ k : Nat, k ≤ ws.length ∧ i = .int .i64 k ∧ m = .int .i64 (aT (ws.take k) s)) (fun _ i => ws.length - (intOf i).toNat)
 case atStart => exact ⟨0, Nat.zero_le _, rfl, rfl⟩
 case round =>
  obtain ⟨k, hk, rfl, rfl⟩ := hrel
  by_cases hlt : k < ws.length
  ·
   obtain ⟨row, hc, hr⟩ := ab.bF (uh H) hlt
   obtain ⟨a2, d2, rfl, R2⟩ := bg hr
   have c3 : w.cell? ⟨b, off + k * 5 + 3, none⟩ = some (.int .i64 (ws[k]).aa) := hc 3 (by decide)
   have c4 : w.cell? ⟨b, off + k * 5 + 4, none⟩ = some (.int .i64 (ws[k]).seq) := hc 4 (by decide)
   have HT := yh (kF ws k hlt s)
   clear hc hr R2
   generalize hx : ws[k] = x at *
   clear hx
   by_cases hs : x.aa = s
   ·
    have ds : (x.aa == s) = true := by simpa using hs
    have HL := yh (fun W => nD (aT (ws.take k) s) x.seq W)
    have HT2 : Hid (aT (ws.take (k + 1)) s = max (aT (ws.take k) s) x.seq) := by
     have := uh HT
     rw [if_pos hs] at this
     exact this
    clear HT hs
    generalize hl : aT (ws.take k) s = l at *
    clear hl
    go_wp2_with fail
    refine (uh HL _).mono ?_
    rintro e w2 ⟨rfl, rfl⟩
    go_wp2_with fail
    go_round
    case rel => exact ⟨k + 1, by omega, by go_num, by rw [uh HT2]⟩
    case measure => simp [intOf]; omega
   have ds : (x.aa == s) = false := by simpa using hs
   have HT2 : Hid (aT (ws.take (k + 1)) s = aT (ws.take k) s) := by
    have := uh HT
    rw [if_neg hs] at this
    exact this
   clear HT hs
   go_wp2_with fail
   go_round
   case rel => exact ⟨k + 1, by omega, by go_num, by rw [uh HT2]⟩
   case measure => simp [intOf]; omega
  obtain rfl : k = ws.length := by omega
  rw [List.take_length]
  clear H
  go_wp2_with fail
  go_ret
  exact ⟨rfl, rfl⟩
theorem qN (v : Value) (ws : List au) (s : Int) (w : World) (h : (ab.sl ab.ai).Reads w [v] ws) (hn : ws.length ≤ 10000000) :
  Calls Tryz.prog 154 #[v, .int .i64 s] w fun e w' => e = .returned (.int .i64 (aT ws s)) ∧ w' = w := by
 obtain ⟨ao, cap, rfl⟩ := aI h
 by_cases hp : 0 < ws.length
 ·
  obtain ⟨b, off, rfl, hbl⟩ := ab.aR h hp
  exact pH b off cap ws s w h hbl hn
 obtain rfl : ws = [] := List.eq_nil_of_length_eq_zero (by omega)
 clear h hn hp
 go_enter Tryz.func154, Tryz.ntmps154
 go_wp2_with fail
 refine wp_loop_rounds 1 ?_
 rw [rounds_succ]
 go_wp2_with fail
 go_ret
 exact ⟨rfl, rfl⟩
theorem qc (b off cap : Nat) (ws : List au) (s q : Int) (w : World) (h : (ab.sl ab.ai).Reads w [.slice (some ⟨b, off, none⟩) ws.length cap] ws)  (hn : ws.length ≤ 10000000) :
  Calls Tryz.prog 119 #[.slice (some ⟨b, off, none⟩) ws.length cap, .int .i64 s, .int .i64 q] w fun e w' => e = .returned (.int .i64 (bV ws s q)) ∧ w' = w := by
 have H := yh h
 clear h
 go_enter Tryz.func119, Tryz.ntmps119
 go_wp2_with fail
 go_loop [7] (fun i => ∃ k : Nat, k ≤ ws.length ∧ i = .int .i64 k ∧ (∀ j (hj : j < ws.length), j < k → ¬ (ws[j].aa = s ∧ ws[j].seq = q))) (fun i => ws.length - (intOf i).toNat)
 case atStart => exact ⟨0, Nat.zero_le _, rfl, fun j _ hj => by omega⟩
 case round =>
  obtain ⟨k, hk, rfl, hz⟩ := hrel
  by_cases hlt : k < ws.length
  ·
   obtain ⟨row, hc, hr⟩ := ab.bF (uh H) hlt
   obtain ⟨a2, d2, rfl, R2⟩ := bg hr
   have c3 : w.cell? ⟨b, off + k * 5 + 3, none⟩ = some (.int .i64 (ws[k]).aa) := hc 3 (by decide)
   have c4 : w.cell? ⟨b, off + k * 5 + 4, none⟩ = some (.int .i64 (ws[k]).seq) := hc 4 (by decide)
   have HAT : Hid (ws[k].aa = s ∧ ws[k].seq = q → bV ws s q = k + 1) := fun he => um hlt hz he
   have HZ2 : Hid (¬ (ws[k].aa = s ∧ ws[k].seq = q) → ∀ j (hj : j < ws.length), j < k + 1 → ¬ (ws[j].aa = s ∧ ws[j].seq = q)) := by
    intro h0 j hj hjk
    by_cases hjk2 : j < k
    ·
     exact hz j hj hjk2
    obtain rfl : j = k := by omega
    exact h0
   clear hc hr R2 hz
   generalize hx : ws[k] = x at *
   clear hx
   have hwr : IntKind.i64.wrap ((k : Int) + 1) = (k : Int) + 1 := by rw [IntKind.wrap_i64]; omega
   by_cases hs : x.aa = s
   ·
    have ds : (x.aa == s) = true := by simpa using hs
    by_cases hq : x.seq = q
    ·
     have dq : (x.seq == q) = true := by simpa using hq
     have HG := yh (uh HAT ⟨hs, hq⟩)
     clear HAT HZ2 hs hq
     go_wp2_with fail
     go_ret
     exact ⟨by rw [uh HG]; simp, rfl⟩
    have dq : (x.seq == q) = false := by simpa using hq
    have HZ := yh (uh HZ2 fun e => hq e.2)
    clear HAT HZ2 hs hq hwr
    go_wp2_with fail
    go_round
    case rel => exact ⟨k + 1, by omega, by go_num, uh HZ⟩
    case measure => simp [intOf]; omega
   have ds : (x.aa == s) = false := by simpa using hs
   have HZ := yh (uh HZ2 fun e => hs e.1)
   clear HAT HZ2 hs hwr
   go_wp2_with fail
   go_round
   case rel => exact ⟨k + 1, by omega, by go_num, uh HZ⟩
   case measure => simp [intOf]; omega
  obtain rfl : k = ws.length := by omega
  have HG : Hid (bV ws s q = 0) := pB fun j hj => hz j hj hj
  clear H hz
  go_wp2_with fail
  go_ret
  exact ⟨by rw [uh HG]; rfl, rfl⟩
theorem nf (v : Value) (ws : List au) (s q : Int) (w : World) (h : (ab.sl ab.ai).Reads w [v] ws) (hn : ws.length ≤ 10000000) :
  Calls Tryz.prog 119 #[v, .int .i64 s, .int .i64 q] w fun e w' => e = .returned (.int .i64 (bV ws s q)) ∧ w' = w := by
 obtain ⟨ao, cap, rfl⟩ := aI h
 by_cases hp : 0 < ws.length
 ·
  obtain ⟨b, off, rfl, -⟩ := ab.aR h hp
  exact qc b off cap ws s q w h hn
 obtain rfl : ws = [] := List.eq_nil_of_length_eq_zero (by omega)
 clear h hn hp
 go_enter Tryz.func119, Tryz.ntmps119
 go_wp2_with fail
 refine wp_loop_rounds 1 ?_
 rw [rounds_succ]
 go_wp2_with fail
 go_ret
 exact ⟨rfl, rfl⟩
theorem iX (v : Value) (zs : List Int) (w : World) (h : ct w v zs) (hn : zs.length ≤ 100000000) :
  Calls Tryz.prog 152 #[v] w fun e w' => ∃ v', e = .returned v' ∧ w'.ownsRow w.heap.size 2 1 v' zs.length (zs.map (Value.int .i64)) ∧ Below w.heap.size w w' := by
 have nb : Below w.heap.size w (w.alloc (.cells #[] 2)) := (Below.refl _ _).alloc (Nat.le_refl _) _
 have O : (w.alloc (.cells #[] 2)).ownsRow w.heap.size 2 1 (.slice (some ⟨w.heap.size, 0, none⟩) 0 0) 0 [] := World.ownsRow_lit w _ 0 (Nat.le_refl _) (by unfold maxLen; omega) rfl
 have h1 := h.later nb
 obtain ⟨ao, cap, rfl, -⟩ := h
 have HB := yh nb
 clear nb
 go_enter Tryz.func152, Tryz.ntmps152
 go_wp2_with (at_builtin; refine fs O h1 rfl _ _ rfl rfl rfl (by omega) (by simp) ?_)
 rintro v' w' O2 - hb
 have HB2 := yh ((uh HB).trans hb)
 clear O h1 hb HB
 go_wp2_with fail
 go_ret
 exact ⟨v', rfl, by simpa using O2, uh HB2⟩
theorem rD (b off cap : Nat) (ws : List au) (w : World) (h : (ab.sl ab.ai).Reads w [.slice (some ⟨b, off, none⟩) ws.length cap] ws) (hbl : b < w.heap.size) (hn : ws.length ≤ 10000000) (hv : ∀ x ∈ ws, x.vec.length ≤ 100000000) :
  Calls Tryz.prog 153 #[.slice (some ⟨b, off, none⟩) ws.length cap] w fun e w' => ∃ v', e = .returned v' ∧ (∃ rows bls, ck ab.ai w' w.heap.size 44 v' rows ws bls ∧ ∀ c ∈ bls.flatten, w.heap.size ≤ c) ∧ Below w.heap.size w w' := by
 have H := yh h
 have HV := yh hv
 clear h hv
 have HG0 : Hid (ck ab.ai (w.alloc (.cells #[] 44)) w.heap.size 44 (.slice (some ⟨w.heap.size, 0, none⟩) 0 0) [] [] []) := ck.nil (World.ownsRow_lit w #[] 0 (Nat.le_refl _) (Nat.zero_le _) rfl)
 have HB0 := yh ((Below.refl w.heap.size w).alloc (Nat.le_refl _) (.cells #[] 44))
 go_enter Tryz.func153, Tryz.ntmps153
 go_wp2_with fail
 go_loopw [3, 4] (fun v i wr => ∃ (k : Nat) (rows : List (List Value)) (bls : List (List Nat)), k ≤ ws.length ∧ i = .int .i64 k ∧ ck ab.ai wr w.heap.size 44 v rows (ws.take k) bls ∧ (∀ c ∈ bls.flatten, w.heap.size ≤ c) ∧ Below w.heap.size w wr) (fun _ i _ => ws.length - (intOf i).toNat)
 case atStart => exact ⟨0, [], [], Nat.zero_le _, rfl, uh HG0, by simp, uh HB0⟩
 case round =>
  obtain ⟨k, rows, bls, hk, rfl, hG, hSB, hB⟩ := hrel
  have HSB := yh hSB
  clear HG0 HB0 hSB
  by_cases hlt : k < ws.length
  ·
   obtain ⟨row, hc, hr⟩ := ab.bF ((uh H).later hB) hlt
   have hr2 := hr
   obtain ⟨a2, d2, rfl, R2⟩ := bg hr
   have c0 : wr.cell? ⟨b, off + k * 5, none⟩ = some (.int .i64 (ws[k]).kind) := hc 0 (by decide)
   have c1 : wr.cell? ⟨b, off + k * 5 + 1, none⟩ = some (.int .i64 (ws[k]).id) := hc 1 (by decide)
   have c2 : wr.cell? ⟨b, off + k * 5 + 2, none⟩ = some (.slice a2 (ws[k]).vec.length d2) := hc 2 (by decide)
   have c3 : wr.cell? ⟨b, off + k * 5 + 3, none⟩ = some (.int .i64 (ws[k]).aa) := hc 3 (by decide)
   have c4 : wr.cell? ⟨b, off + k * 5 + 4, none⟩ = some (.int .i64 (ws[k]).seq) := hc 4 (by decide)
   have HWF : Hid ((Lit.int .i64 (ws[k]).kind).wf = true ∧ (Lit.int .i64 (ws[k]).id).wf = true ∧ (Lit.int .i64 (ws[k]).aa).wf = true ∧ (Lit.int .i64 (ws[k]).seq).wf = true) := by
    obtain ⟨_, hq⟩ := hr2
    obtain ⟨_, _, _, _, _, q0, q1, _, q3, q4⟩ := cB.1 hq
    exact ⟨q0, q1, q3, q4⟩
   have HT : Hid (ws.take (k + 1) = ws.take k ++ [ws[k]]) := List.take_succ_eq_append_getElem hlt
   have HLn : Hid ((ws.take k).length = k) := by show (ws.take k).length = k; rw [List.length_take]; omega
   have HN := yh (uh HV ws[k] (List.getElem_mem hlt))
   clear hc hr hr2
   generalize hx : ws[k] = x at *
   clear hx
   have hbr : b < wr.heap.size := Nat.lt_of_lt_of_le hbl hB.size
   have nb : Below wr.heap.size wr (wr.alloc (.cells #[.int .i64 x.kind, .int .i64 x.id, .slice a2 x.vec.length d2, .int .i64 x.aa, .int .i64 x.seq] 44)) := (Below.refl _ _).alloc (Nat.le_refl _) _
   have bI : ag 0 #[.int .i64 x.kind, .int .i64 x.id, .slice a2 x.vec.length d2, .int .i64 x.aa, .int .i64 x.seq] 44 (wr.alloc (.cells #[.int .i64 x.kind, .int .i64 x.id, .slice a2 x.vec.length d2, .int .i64 x.aa, .int .i64 x.seq] 44)) wr.heap.size := aC (Nat.zero_le _)
   have HRW := yh (ab.bf R2).wf
   have HL := yh (iX _ x.vec _ ((ab.bf R2).later nb) (uh HN))
   have HG := yh (hG.later nb)
   have HB := yh (hB.trans (nb.mono hB.size))
   have HBI := yh bI
   have HZW : Hid (w.heap.size ≤ wr.heap.size) := hB.size
   have HOW : Hid (∀ c, u3.ownBlock = some c → c < wr.heap.size) := fun c hc => (hG.own.lt c hc).2
   have HSL : Hid (∀ c ∈ bls.flatten, c < wr.heap.size) := fun c hc => hG.sub_lt c hc
   clear R2 hG hB nb bI
   go_wp2_with fail
   clear c0 c1 c2 c3 c4
   refine (uh HL).mono ?_
   generalize hW0 : wr.alloc (.cells #[.int .i64 x.kind, .int .i64 x.id, .slice a2 x.vec.length d2, .int .i64 x.aa, .int .i64 x.seq] 44) = W0 at *
   clear hW0
   rintro e w2 ⟨v2, rfl, hO, hb⟩
   have hO2 := ab.eV (uh HRW) (by have := uh HN; omega) hO
   obtain ⟨ao2, cp2, rfl⟩ := aI hO2.reads
   obtain ⟨bl2, ⟨hl2, -, -⟩, hr2⟩ := hO2
   have bI2 := (uh HBI).aj hb
   have hZ0 : wr.heap.size < W0.heap.size := (uh HBI).lt
   have z0 : w2.cell? ⟨wr.heap.size, 0, none⟩ = some (.int .i64 x.kind) := bI2.at 0 _ rfl
   have z1 : w2.cell? ⟨wr.heap.size, 1, none⟩ = some (.int .i64 x.id) := bI2.at 1 _ rfl
   have z2 : w2.cell? ⟨wr.heap.size, 2, none⟩ = some (.slice a2 x.vec.length d2) := bI2.at 2 _ rfl
   have z3 : w2.cell? ⟨wr.heap.size, 3, none⟩ = some (.int .i64 x.aa) := bI2.at 3 _ rfl
   have z4 : w2.cell? ⟨wr.heap.size, 4, none⟩ = some (.int .i64 x.seq) := bI2.at 4 _ rfl
   have f2 := bI2.soft 2
   have l2 := bI2.lt
   have hE : Ext (fun c => c = wr.heap.size) w2 (w2.setCell ⟨wr.heap.size, 2, none⟩ (.slice ao2 x.vec.length cp2)) := (Ext.refl (fun c => c = wr.heap.size) w2).setCell ⟨wr.heap.size, 2, none⟩ _ rfl
   have hl3 : ab.ai.bD (w2.setCell ⟨wr.heap.size, 2, none⟩ (.slice ao2 x.vec.length cp2)) [.int .i64 x.kind, .int .i64 x.id, .slice ao2 x.vec.length cp2, .int .i64 x.aa, .int .i64 x.seq] x bl2 := cB.2 ⟨ao2, cp2, bl2, rfl, rfl, (uh HWF).1, (uh HWF).2.1, (ab.sl ab.int).aj hl2 (fun c hc => hE.block c ((ab.sl ab.int).lt hl2 c hc) (by have := (hr2 c hc).1; omega)), (uh HWF).2.2.1, (uh HWF).2.2.2⟩
   have hG2 := (uh HG).later hb
   have hoff : ∀ c ∈ bl2, u3.ownBlock ≠ some c := fun c hc e => by have h1 := (hr2 c hc).1; have h2 := uh HOW c e; omega
   have HB3 : Hid (Below w.heap.size w (w2.setCell ⟨wr.heap.size, 2, none⟩ (.slice ao2 x.vec.length cp2))) := ((uh HB).trans (hb.mono (uh HB).size)).setCell (by simpa using uh HZW) _
   have hG3 : ck ab.ai (w2.setCell ⟨wr.heap.size, 2, none⟩ (.slice ao2 x.vec.length cp2)) w.heap.size 44 u3 rows (ws.take k) bls := hG2.kept (by
    obtain ⟨h1, h2⟩ := hG2.own
    refine ⟨h1, ?_⟩
    rcases h2 with h2 | ⟨gb, cap', cur, hv, hg, hh, r⟩
    ·
     exact Or.inl h2
    ·
     exact Or.inr ⟨gb, cap', cur, hv, hg, (hE.block gb (lt_of_block hh) (by have := uh HOW gb (by rw [hv]; rfl); omega)).trans hh, r⟩) (fun c hc => hE.block c (hG2.sub_lt c hc) (fun e => by
    have := uh HSL c hc
    omega))
   have hZ3 : w.heap.size ≤ (w2.setCell ⟨wr.heap.size, 2, none⟩ (.slice ao2 x.vec.length cp2)).heap.size := (uh HB3).size
   have hK : (ws.take k).length + 1 ≤ 100000000 := by rw [uh HLn]; omega
   have y0 : (w2.setCell ⟨wr.heap.size, 2, none⟩ (.slice ao2 x.vec.length cp2)).cell? ⟨wr.heap.size, 0, none⟩ = some (.int .i64 x.kind) := (bI2.set 2 _).at 0 _ rfl
   have y1 : (w2.setCell ⟨wr.heap.size, 2, none⟩ (.slice ao2 x.vec.length cp2)).cell? ⟨wr.heap.size, 1, none⟩ = some (.int .i64 x.id) := (bI2.set 2 _).at 1 _ rfl
   have y2 : (w2.setCell ⟨wr.heap.size, 2, none⟩ (.slice ao2 x.vec.length cp2)).cell? ⟨wr.heap.size, 2, none⟩ = some (.slice ao2 x.vec.length cp2) := (bI2.set 2 _).at 2 _ rfl
   have y3 : (w2.setCell ⟨wr.heap.size, 2, none⟩ (.slice ao2 x.vec.length cp2)).cell? ⟨wr.heap.size, 3, none⟩ = some (.int .i64 x.aa) := (bI2.set 2 _).at 3 _ rfl
   have y4 : (w2.setCell ⟨wr.heap.size, 2, none⟩ (.slice ao2 x.vec.length cp2)).cell? ⟨wr.heap.size, 4, none⟩ = some (.int .i64 x.seq) := (bI2.set 2 _).at 4 _ rfl
   have HSB5 : Hid (∀ c ∈ (bls ++ [bl2]).flatten, w.heap.size ≤ c) := by
    intro c hc
    rw [List.flatten_append] at hc
    rcases List.mem_append.1 hc with hc | hc
    ·
     exact uh HSB c hc
    have h1 := (hr2 c (by simpa using hc)).1
    have h2 := uh HZW
    omega
   clear z0 z1 z3 z4 bI2 hE hG2 hl2 hO HG HL HB HBI HRW HN HWF hb hr2 hZ0
   go_upto_region 7 with fail
   generalize w2.setCell ⟨wr.heap.size, 2, none⟩ (.slice ao2 x.vec.length cp2) = W3 at *
   go_wp2_with (at_builtin; refine hZ hG3 hl3 hoff rfl _ _ rfl rfl rfl hK hZ3 ?_)
   intro g5 cap5 w5 hG5 hb5 hE5 hg5 hz5 hor5
   have HG5 := yh hG5
   have HB5 := yh ((uh HB3).trans hb5)
   clear hG3 hl3 hoff hZ3 hK hG5 hb5 hE5 hg5 hz5 hor5 HB3 y0 y1 y2 y3 y4 z2 f2 l2
   go_wp2_with fail
   go_roundw
   case rel =>
    have hg := uh HG5
    rw [← uh HT] at hg
    try rw [uh HLn] at hg
    exact ⟨k + 1, _, _, by omega, by go_num, hg, uh HSB5, uh HB5⟩
   case measure => simp [intOf]; omega
  obtain rfl : k = ws.length := by omega
  rw [List.take_length] at hG
  have HG := yh hG
  have HB := yh hB
  clear hG hB H
  go_wp2_with fail
  go_ret
  exact ⟨_, rfl, ⟨_, _, uh HG, uh HSB⟩, uh HB⟩
theorem m1 (v : Value) (ws : List au) (w : World) (h : (ab.sl ab.ai).Reads w [v] ws) (hn : ws.length ≤ 10000000) (hv : ∀ x ∈ ws, x.vec.length ≤ 100000000) :
  Calls Tryz.prog 153 #[v] w fun e w' => ∃ v', e = .returned v' ∧ (∃ rows bls, ck ab.ai w' w.heap.size 44 v' rows ws bls ∧ ∀ c ∈ bls.flatten, w.heap.size ≤ c) ∧ Below w.heap.size w w' := by
 obtain ⟨ao, cap, rfl⟩ := aI h
 by_cases hp : 0 < ws.length
 ·
  obtain ⟨b, off, rfl, hbl⟩ := ab.aR h hp
  exact rD b off cap ws w h hbl hn hv
 obtain rfl : ws = [] := List.eq_nil_of_length_eq_zero (by omega)
 clear h hp hn hv
 have HB := yh ((Below.refl w.heap.size w).alloc (Nat.le_refl _) (.cells #[] 44))
 have HG : Hid (ck ab.ai (w.alloc (.cells #[] 44)) w.heap.size 44 (.slice (some ⟨w.heap.size, 0, none⟩) 0 0) [] [] []) := ck.nil (World.ownsRow_lit w #[] 0 (Nat.le_refl _) (Nat.zero_le _) rfl)
 go_enter Tryz.func153, Tryz.ntmps153
 go_wp2_with fail
 refine wp_loop_rounds 1 ?_
 rw [rounds_succ]
 go_wp2_with fail
 go_ret
 exact ⟨_, rfl, ⟨_, _, uh HG, by simp⟩, uh HB⟩
theorem hD {bR : Nat} {w1 : World} {base : Nat} {v : Value} {rows : List (List Value)} {xs : List au} {bls : List (List Nat)} (hG : ck ab.ai w1 base 44 v rows xs bls) {row : List Value} {x : au} {bl : List Nat} (hR : w1.heap[bR]? = some (.cells row.toArray 44 (0, 0))) (hl : ab.ai.bD w1 row x bl) (hbl : ∀ b ∈ bl, v.ownBlock ≠ some b) {ops : Array Oper} {o : Oper} {a : Act} {K : Act → World → Prop} {Q : Exit → Act → World → Prop} {E : Prop} (hgd : o.guard = none) (s y : Operand)
  (ho : o.op = .call { callee := .builtin .append, args := #[s, y], argTypes := #[61, 61] }) (hs : a.eval s = v) (hy : a.eval y = .slice (some ⟨bR, 0, none⟩) 1 1) (hn : xs.length + 1 ≤ 100000000) (hbase : base ≤ w1.heap.size)
  (h : ∀ g cap w', ck ab.ai w' base 44 (.slice (some ⟨g, 0, none⟩) (xs.length + 1) cap) (rows ++ [row]) (xs ++ [x]) (bls ++ [bl]) → Below base w1 w' → Ext (fun q => v.ownBlock = some q) w1 w' → g < w'.heap.size → w1.heap.size ≤ w'.heap.size → (v.ownBlock = some g ∨ w1.heap.size ≤ g) → K (a.put o.dst (.slice (some ⟨g, 0, none⟩) (xs.length + 1) cap)) w') :
  if Region.wanted o (yielded ops a.tmps) = true then Oper.wp Tryz.prog o a w1 K Q else E := by
 obtain ⟨i0, hi0, hz0, hz1, hz2⟩ := info_parts gf
 obtain ⟨h1, hlen⟩ := jh hl
 refine step_append_lies _ hgd s y 61 ho base 44 i0 _ 5 56 Tryz.underlying61 hi0 hz0 hz1 hz2 rfl (by omega) v xs.length rows.flatten hs hG.own ⟨bR, 0, none⟩ 1 1 row hy hlen (World.news_of_block (cs := row.toArray) (t := 44) (fr := (0, 0)) hR) h1 (by omega) (by unfold maxLen; omega) (by omega) (by first | omega | (simp; omega)) w1.heap.size rfl ?_
 intro g cap w' h2 h3 h4 h5
 have hg := h3
 have hbw : Below base w1 w' := (Below.refl _ _).grown hg hbase (fun j hj => (hG.own.lt j hj).1)
 have hor : v.ownBlock = some g ∨ w1.heap.size ≤ g := by
  rcases h4 with h4 | h4
  ·
   exact Or.inl h4
  exact Or.inr (by rw [h4]; exact Nat.le_refl _)
 exact h g cap w' (hG.snoc hl hbl h2 hg hor) hbw ⟨hbw.os, hbw.tape, hbw.output, hbw.size, fun k hk hn => hg.block k hk (fun e => hn e.symm)⟩ h5 hbw.size hor
theorem jZ {x : au} (h : wF x = 0) : x.vec.length ≤ 3 := by
 obtain ⟨-, -, -, hk⟩ := cf h
 rcases hk with ⟨-, hv⟩ | ⟨-, hv⟩
 ·
  have := (cI hv).1; omega
 rw [hv]; simp
theorem nE {x : au} (h : wF x = 0) : (Lit.int .i64 x.kind).wf = true ∧ (Lit.int .i64 x.id).wf = true ∧ (Lit.int .i64 x.aa).wf = true ∧ (Lit.int .i64 x.seq).wf = true := by
 obtain ⟨hi, hs, hq, hk⟩ := cf h
 refine ⟨aK ?_, aK (by omega), aK (by omega), aK (by omega)⟩
 rcases hk with ⟨e, -⟩ | ⟨e, -⟩ <;> omega
theorem kJ {w : World} {lo hi : Nat} : (ab.sl ab.ai).cK w [.slice none 0 0] [] lo hi := ⟨[], ⟨none, 0, rfl, by simp, Or.inl ⟨rfl, rfl⟩⟩, by simp⟩
structure cT (cs : Array Value) (w : World) (b o : Nat) : Prop where
 lt : b < w.heap.size
 cells : ∀ (i : Nat) (v : Value), cs[i]? = some v → w.cell? ⟨b, o + i, none⟩ = some v
variable {cs : Array Value} {w w' : World} {b o : Nat}
theorem cT.at (h : cT cs w b o) (i : Nat) (v : Value) (hi : cs[i]? = some v) : w.cell? ⟨b, o + i, none⟩ = some v := h.cells i v hi
theorem cT.aj (h : cT cs w b o) (hb : Below w.heap.size w w') : cT cs w' b o := ⟨Nat.lt_of_lt_of_le h.lt hb.size, fun i v hi => (hb.cell (p := ⟨b, o + i, none⟩) h.lt).trans (h.cells i v hi)⟩
theorem cT.ext {S : Nat → Prop} (h : cT cs w b o) (e : Ext S w w') (hs : ¬ S b) : cT cs w' b o := ⟨Nat.lt_of_lt_of_le h.lt e.size, fun i v hi => (cell_of_heap (e.block b h.lt hs) _).trans (h.cells i v hi)⟩
theorem cT.drew (h : cT cs w b o) : cT cs w.drew b o := ⟨h.lt, h.cells⟩
theorem cT.ofRow {α : Type} {A : ab α} {off k : Nat} {row : List Value} (hc : ∀ m, m < A.n → w.cell? ⟨b, off + k * A.n + m, none⟩ = row[m]?) (hl : row.length = A.n) (hb : b < w.heap.size) : cT row.toArray w b (off + k * A.n) := ⟨hb, fun i v hi => by
 have h1 : row[i]? = some v := by simpa using hi
 have h2 : i < A.n := by
  rw [← hl]
  rcases Nat.lt_or_ge i row.length with q | q
  ·
   exact q
  rw [List.getElem?_eq_none q] at h1; simp at h1
 rw [hc i h2, h1]⟩
theorem rA (v : Value) (ws : List au) (b o : Nat) (a2 : Option Addr) (d2 : Nat) (x : au) (w : World) (h : (ab.sl ab.ai).Reads w [v] ws) (hQ : cT #[.int .i64 x.kind, .int .i64 x.id, .slice a2 x.vec.length d2, .int .i64 x.aa, .int .i64 x.seq] w b o) (R2 : (ab.sl ab.int).Reads w [.slice a2 x.vec.length d2] x.vec) (hfw : aM ws = 0) (hf : wF x = 0) :
  Calls Tryz.prog 94 #[v, .pointer (some ⟨b, o, none⟩)] w fun e w' => ∃ (a : Option Addr) (n c : Nat), e = .returned (.tuple #[.slice a n c, .int .i64 (ca ws x).place, .int .i64 (ca ws x).code]) ∧ n = (ca ws x).writes.length ∧ (ab.sl ab.ai).cK w' [.slice a n c] (ca ws x).writes w.heap.size w'.heap.size ∧ Below w.heap.size w w' := by
 obtain ⟨hlen, hall⟩ := dK hfw
 have HVF : Hid (∀ y ∈ ws, y.vec.length ≤ 100000000) := fun y hy => Nat.le_trans (jZ (hall y hy)) (by decide)
 have hd0 : Below w.heap.size w w.drew := (Below.refl _ _).drew
 have HS1 := yh (nf v ws x.aa x.seq w.drew (h.later hd0) (by omega))
 have HFW := yh hfw
 have HF := yh hf
 have HR := yh (h.later hd0)
 have HR2 := yh (R2.later hd0)
 have HB1 := yh hd0
 obtain ⟨ao, cap, rfl⟩ := aI h
 clear h R2 hfw hf hall hd0
 go_enter Tryz.func94, Tryz.ntmps94
 go_wp2_with fail
 refine wZz (fun w' => w' = w.drew) rfl (fun zq => ?_)
 refine tkH 0 zq ?_
 refine tkH 1 zq ?_
 refine tkH 2 zq ?_
 refine tkH 3 zq ?_
 refine tkJ 4 (v := ?va4) ?ha4 zq ?ra4
 case ha4 =>
  intro wS hSw
  have y3 : wS.cell? ⟨b, o + 3, none⟩ = some (.int .i64 x.aa) := by rw [hSw]; exact hQ.at 3 _ rfl
  have y4 : wS.cell? ⟨b, o + 4, none⟩ = some (.int .i64 x.seq) := by rw [hSw]; exact hQ.at 4 _ rfl
  clear hSw
  exact fZ
 refine tkH 5 zq ?_
 refine tkH 6 zq ?_
 refine tkH 7 zq ?_
 refine tkJ 8 (v := ?va8) ?ha8 zq ?ra8
 case ha8 =>
  intro wS hSw
  have y3 : wS.cell? ⟨b, o + 3, none⟩ = some (.int .i64 x.aa) := by rw [hSw]; exact hQ.at 3 _ rfl
  have y4 : wS.cell? ⟨b, o + 4, none⟩ = some (.int .i64 x.seq) := by rw [hSw]; exact hQ.at 4 _ rfl
  clear hSw
  exact fZ
 refine rdH 9 (fun K hK => ?_)
 go_simp
 go_at_call 119
 refine (uh HS1).mono ?_
 rintro e w3 ⟨rfl, rfl⟩
 try go_wp2_with fail
 refine hK.out _ _ rfl (fun zq => ?_)
 clear hK K
 try simp only [Act.put, pz, py, px]
 refine tkH 10 zq ?_
 refine dZ ?_
 clear zq HS1
 have hQ1 : cT #[.int .i64 x.kind, .int .i64 x.id, .slice a2 x.vec.length d2, .int .i64 x.aa, .int .i64 x.seq] w.drew b o := hQ.drew
 have HZ1 : Hid (w.heap.size ≤ w.drew.heap.size) := Nat.le_refl _
 clear hQ
 generalize w.drew = w1 at *
 by_cases hsn : bV ws x.aa x.seq = 0
 ·
  have hg : decide ((0 : Int) < (bV ws x.aa x.seq : Int)) = false := by simp [hsn]
  have HS2 := yh (qN _ ws x.aa w1.drew ((uh HR).later (Below.refl _ _).drew) (by omega))
  have HSN := yh hsn
  rw [hsn] at hg
  rw [hsn]
  clear hsn
  go_wp2_with fail
  refine wZz (fun w' => w' = w1.drew) rfl (fun zq => ?_)
  refine tkH 0 zq ?_
  refine tkH 1 zq ?_
  refine tkH 2 zq ?_
  refine tkJ 3 (v := ?vb3) ?hb3 zq ?rb3
  case hb3 =>
   intro wS hSw
   have y3 : wS.cell? ⟨b, o + 3, none⟩ = some (.int .i64 x.aa) := by rw [hSw]; exact hQ1.at 3 _ rfl
   have y4 : wS.cell? ⟨b, o + 4, none⟩ = some (.int .i64 x.seq) := by rw [hSw]; exact hQ1.at 4 _ rfl
   clear hSw
   exact fZ
  refine tkH 4 zq ?_
  refine tkH 5 zq ?_
  refine tkH 6 zq ?_
  refine tkH 7 zq ?_
  refine tkJ 8 (v := ?vb8) ?hb8 zq ?rb8
  case hb8 =>
   intro wS hSw
   have y3 : wS.cell? ⟨b, o + 3, none⟩ = some (.int .i64 x.aa) := by rw [hSw]; exact hQ1.at 3 _ rfl
   have y4 : wS.cell? ⟨b, o + 4, none⟩ = some (.int .i64 x.seq) := by rw [hSw]; exact hQ1.at 4 _ rfl
   clear hSw
   exact fZ
  refine rdH 9 (fun K hK => ?_)
  go_simp
  go_at_call 154
  refine (uh HS2).mono ?_
  rintro e w3 ⟨rfl, rfl⟩
  try go_wp2_with fail
  refine hK.out _ _ rfl (fun zq => ?_)
  clear hK K
  try simp only [Act.put, pz, py, px]
  refine tkH 10 zq ?_
  refine dZ ?_
  clear zq HS2
  have hQ2 : cT #[.int .i64 x.kind, .int .i64 x.id, .slice a2 x.vec.length d2, .int .i64 x.aa, .int .i64 x.seq] w1.drew b o := hQ1.drew
  have HB2 := yh (uh HB1).drew
  have HR3 := yh ((uh HR).later (Below.refl _ _).drew)
  have HR4 := yh ((uh HR2).later (Below.refl _ _).drew)
  have HZ2 : Hid (w.heap.size ≤ w1.drew.heap.size) := uh HZ1
  clear hQ1 HB1 HR HR2 HZ1
  generalize w1.drew = w2 at *
  by_cases c1 : x.seq < aT ws x.aa
  ·
   have hd : decide (x.seq < aT ws x.aa) = true := by simpa using c1
   have HG : Hid (ca ws x = ⟨7, false, 0, []⟩) := gv (uh HFW) (uh HF) (uh HSN) c1
   clear c1 HSN
   rw [hd]
   go_wp2_with fail
   refine bodyPost_ret (v := .tuple #[.slice none 0 0, .int .i64 0, .int .i64 7]) (by simp [results, Tryz.results94, go_sem]) rfl ?_
   rw [uh HG]
   exact ⟨_, _, _, rfl, rfl, kJ, uh HB2⟩
  have hd : decide (x.seq < aT ws x.aa) = false := by simpa using c1
  rw [hd]
  by_cases c2 : 200 ≤ ws.length
  ·
   have hd2 : decide ((200 : Int) ≤ (ws.length : Int)) = true := by simp; omega
   have HG : Hid (ca ws x = ⟨2, false, 0, []⟩) := fS (uh HFW) (uh HF) (uh HSN) c1 c2
   clear c1 c2 HSN
   go_wp2_with fail
   refine bodyPost_ret (v := .tuple #[.slice none 0 0, .int .i64 0, .int .i64 2]) (by simp [results, Tryz.results94, go_sem]) rfl ?_
   rw [uh HG]
   exact ⟨_, _, _, rfl, rfl, kJ, uh HB2⟩
  have hd2 : decide ((200 : Int) ≤ (ws.length : Int)) = false := by simp; omega
  have HG : Hid (ca ws x = ⟨0, true, (ws.length : Int) + 1, ws ++ [x]⟩) := gO (uh HFW) (uh HF) (uh HSN) c1 c2
  clear c1 c2 HSN
  have HRW := HR3
  have y0 : w2.cell? ⟨b, o, none⟩ = some (.int .i64 x.kind) := hQ2.at 0 _ rfl
  have y1 : w2.cell? ⟨b, o + 1, none⟩ = some (.int .i64 x.id) := hQ2.at 1 _ rfl
  have y2 : w2.cell? ⟨b, o + 2, none⟩ = some (.slice a2 x.vec.length d2) := hQ2.at 2 _ rfl
  have y3 : w2.cell? ⟨b, o + 3, none⟩ = some (.int .i64 x.aa) := hQ2.at 3 _ rfl
  have y4 : w2.cell? ⟨b, o + 4, none⟩ = some (.int .i64 x.seq) := hQ2.at 4 _ rfl
  have hbw : b < w2.heap.size := hQ2.lt
  have nb : Below w2.heap.size w2 (w2.alloc (.cells #[.int .i64 x.kind, .int .i64 x.id, .slice a2 x.vec.length d2, .int .i64 x.aa, .int .i64 x.seq] 44)) := (Below.refl _ _).alloc (Nat.le_refl _) _
  have HQB := yh (hQ2.aj nb)
  have HQ4 : Hid (ag 0 #[.int .i64 x.kind, .int .i64 x.id, .slice a2 x.vec.length d2, .int .i64 x.aa, .int .i64 x.seq] 44 (w2.alloc (.cells #[.int .i64 x.kind, .int .i64 x.id, .slice a2 x.vec.length d2, .int .i64 x.aa, .int .i64 x.seq] 44)) w2.heap.size) := aC (Nat.zero_le _)
  have HI := yh (iX _ x.vec _ (ab.bf ((uh HR4).later nb)) (Nat.le_trans (jZ (uh HF)) (by decide)))
  have HWV := yh (ab.bf (uh HR4)).wf
  have HRA := yh ((uh HR3).later nb)
  have HBW := yh nb
  have HBA := yh ((uh HB2).trans (nb.mono (uh HB2).size))
  clear nb HR3 HR4 HB2 hQ2
  go_upto_region 9 with fail
  clear y0 y1 y2 y3 y4
  generalize hw4 : w2.alloc (.cells #[.int .i64 x.kind, .int .i64 x.id, .slice a2 x.vec.length d2, .int .i64 x.aa, .int .i64 x.seq] 44) = WA at *
  clear hw4
  have y2 : WA.cell? ⟨b, o + 2, none⟩ = some (.slice a2 x.vec.length d2) := (uh HQB).at 2 _ rfl
  go_wp2_with fail
  clear y2 HQB
  refine (uh HI).mono ?_
  rintro e w3 ⟨v3, rfl, hO, hb3⟩
  have hO2 := ab.eV (uh HWV) (by have := jZ (uh HF); omega) hO
  obtain ⟨ao2, cp2, rfl⟩ := aI hO2.reads
  obtain ⟨bl2, ⟨hl2, -, -⟩, hr2⟩ := hO2
  have bI := (uh HQ4).aj hb3
  have z2 : w3.cell? ⟨w2.heap.size, 2, none⟩ = some (.slice a2 x.vec.length d2) := bI.at 2 _ rfl
  have f2 := bI.soft 2
  have l2 := bI.lt
  have hqA : w2.heap.size < WA.heap.size := (uh HQ4).lt
  have hE : Ext (fun c => c = w2.heap.size) w3 (w3.setCell ⟨w2.heap.size, 2, none⟩ (.slice ao2 x.vec.length cp2)) := (Ext.refl (fun c => c = w2.heap.size) w3).setCell ⟨w2.heap.size, 2, none⟩ _ rfl
  have HL5 : Hid (ab.ai.bD (w3.setCell ⟨w2.heap.size, 2, none⟩ (.slice ao2 x.vec.length cp2)) [.int .i64 x.kind, .int .i64 x.id, .slice ao2 x.vec.length cp2, .int .i64 x.aa, .int .i64 x.seq] x bl2) := cB.2 ⟨ao2, cp2, bl2, rfl, rfl, (nE (uh HF)).1, (nE (uh HF)).2.1, (ab.sl ab.int).aj hl2 (fun c hc => hE.block c ((ab.sl ab.int).lt hl2 c hc) (by have := (hr2 c hc).1; omega)), (nE (uh HF)).2.2.1, (nE (uh HF)).2.2.2⟩
  have HLB : Hid (∀ c ∈ bl2, w.heap.size ≤ c) := fun c hc => by have := (hr2 c hc).1; have := uh HZ2; omega
  have hQ5 : ag 0 #[.int .i64 x.kind, .int .i64 x.id, .slice ao2 x.vec.length cp2, .int .i64 x.aa, .int .i64 x.seq] 44 (w3.setCell ⟨w2.heap.size, 2, none⟩ (.slice ao2 x.vec.length cp2)) w2.heap.size := bI.set 2 (.slice ao2 x.vec.length cp2)
  have hR5a := (uh HRA).later hb3
  have HR5 : Hid ((ab.sl ab.ai).Reads (w3.setCell ⟨w2.heap.size, 2, none⟩ (.slice ao2 x.vec.length cp2)) [.slice ao ws.length cap] ws) := by
   obtain ⟨blR, lR⟩ := uh HRW
   refine ⟨blR, (ab.sl ab.ai).aj lR fun c hc => ?_⟩
   have hcl := (ab.sl ab.ai).lt lR c hc
   exact (hE.block c (by have := (uh HBW).size; have := hb3.size; omega) (by omega)).trans ((hb3.block c (by omega)).trans ((uh HBW).block c hcl))
  have HB5 : Hid (Below w.heap.size w (w3.setCell ⟨w2.heap.size, 2, none⟩ (.slice ao2 x.vec.length cp2))) := ((uh HBA).trans (hb3.mono (uh HBA).size)).setCell (by simpa using uh HZ2) _
  have HZ5 : Hid (w.heap.size ≤ (w3.setCell ⟨w2.heap.size, 2, none⟩ (.slice ao2 x.vec.length cp2)).heap.size) := (uh HB5).size
  clear hO hb3 hl2 hr2 bI hE HI HQ4 HRA HBA hR5a
  go_upto_region 10 with fail
  clear z2 f2 l2
  generalize hw5 : w3.setCell ⟨w2.heap.size, 2, none⟩ (.slice ao2 x.vec.length cp2) = w5 at *
  clear hw5
  have hwr : IntKind.i64.wrap ((ws.length : Int) + 1) = (ws.length : Int) + 1 := by rw [IntKind.wrap_i64]; omega
  have HDZ : Hid (w5.heap.size ≤ w5.drew.heap.size) := Nat.le_refl _
  generalize w2 = w4 at *
  refine wZz (fun w' => Below w5.heap.size w5 w') (Below.refl _ _).drew (fun zq => ?_)
  generalize w5.drew = wD at zq HDZ ⊢
  refine tkH 0 zq ?_
  refine tkJ 2 (v := ?vc2_2) ?hc2_2 zq ?rc2_2
  case hc2_2 =>
   intro wS hSw
   have y0 : wS.cell? ⟨w4.heap.size, 0, none⟩ = some (.int .i64 x.kind) := (hQ5.aj hSw).at 0 _ rfl
   have y1 : wS.cell? ⟨w4.heap.size, 1, none⟩ = some (.int .i64 x.id) := (hQ5.aj hSw).at 1 _ rfl
   have y2 : wS.cell? ⟨w4.heap.size, 2, none⟩ = some (.slice ao2 x.vec.length cp2) := (hQ5.aj hSw).at 2 _ rfl
   have y3 : wS.cell? ⟨w4.heap.size, 3, none⟩ = some (.int .i64 x.aa) := (hQ5.aj hSw).at 3 _ rfl
   have y4 : wS.cell? ⟨w4.heap.size, 4, none⟩ = some (.int .i64 x.seq) := (hQ5.aj hSw).at 4 _ rfl
   clear hSw
   exact fZ
  refine tkH 5 zq ?_
  refine tkH 6 zq ?_
  refine tkH 7 zq ?_
  refine wpAnyH_ready (rs := [1, 3]) (by kernel_rfl) (by simp) ?_
  refine AllReadyH.cons (o := ⟨some 48, .call { callee := .value (.func 153), args := #[.tmp 47], argTypes := #[61] }, 61, "l05_session.go:71", #[⟨0, .data⟩], none⟩) rfl (fun K hK => ?o1) (AllReadyH.cons (o := ⟨some 50, .buildSlice 61 1 #[(0, .tmp 49)], 61, "l05_session.go:71", #[⟨2, .data⟩], none⟩) rfl (fun K hK => ?o3) AllReadyH.nil)
  case o1 =>
   go_simp
   go_at_call 153
   refine (m1 _ ws _ ((uh HR5).later zq) (by omega) (uh HVF)).mono ?_
   rintro e w6 ⟨v6, rfl, ⟨rows6, bls6, hG6, hS6⟩, hb6⟩
   try go_wp2_with fail
   refine hK.out _ _ (zq.trans (hb6.mono zq.size)) (fun zq => ?_)
   clear hK K
   try simp only [Act.put, pz, py, px]
   refine rdH 3 (fun K hK => ?_)
   have hH6 := zq
   go_simp
   refine hK.out _ _ (zq.alloc zq.size _) (fun zq => ?_)
   clear hK K
   try simp only [Act.put, pz, py, px]
   refine rdH 4 (fun K hK => ?_)
   refine fy hG6 (row := [.int .i64 x.kind, .int .i64 x.id, .slice ao2 x.vec.length cp2, .int .i64 x.aa, .int .i64 x.seq]) (x := x) (bl := bl2) (ab.ai.aj (uh HL5) fun c hc => hH6.block c (ab.ai.lt (uh HL5) c hc)) (fun c hc e => by have h1 := (hG6.own.lt c e).1; have h2 := ab.ai.lt (uh HL5) c hc; have := uh HDZ; omega) rfl _ _ rfl rfl rfl (by omega) (by have := hH6.size; have := hb6.size; omega) ?_
   rintro g9 cp9 w9 hG9 hb9 hE9 hg9 hz9 hor9
   refine hK.out _ _ (hH6.trans (hb9.mono (uh HDZ))) (fun zq => ?_)
   clear hK K
   try simp only [Act.put, pz, py, px]
   refine tkH 8 zq ?_
   refine tkH 9 zq ?_
   refine tkH 10 zq ?_
   refine dZ ?_
   have HX := yh hH6
   clear hH6
   have HF9 : Hid (∀ c ∈ (bls6 ++ [bl2]).flatten, w.heap.size ≤ c) := by
    intro c hc
    rw [List.flatten_append] at hc
    rcases List.mem_append.1 hc with hc | hc
    ·
     have := hS6 c hc; have := uh HDZ; have := uh HZ5; omega
    have := uh HLB c (by simpa using hc); omega
   have HB9 := yh ((uh HB5).trans (zq.mono (uh HB5).size))
   have HG9 := yh (hG9.lower (b' := w.heap.size) (by have := uh HDZ; have := uh HZ5; omega))
   clear hG9 hb9 hE9 hg9 hz9 hor9 zq hG6 hS6 hb6 HX
   go_wp2_with fail
   refine bodyPost_ret (v := .tuple #[.slice (some ⟨g9, 0, none⟩) (ws.length + 1) cp9, .int .i64 ((ws.length : Int) + 1), .int .i64 0]) (by simp [results, Tryz.results94, go_sem]) rfl ?_
   rw [uh HG]
   refine ⟨_, _, _, rfl, by simp, ?_, uh HB9⟩
   have := (uh HG9).ft (by simp; omega) (uh HF9)
   simpa using this
  case o3 =>
   have hH6 := zq
   go_simp
   refine hK.out _ _ (zq.alloc zq.size _) (fun zq => ?_)
   clear hK K
   try simp only [Act.put, pz, py, px]
   refine rdH 1 (fun K hK => ?_)
   have hR6 : (wD.alloc (.cells #[.int .i64 x.kind, .int .i64 x.id, .slice ao2 x.vec.length cp2, .int .i64 x.aa, .int .i64 x.seq] 44)).heap[wD.heap.size]? = some (.cells #[.int .i64 x.kind, .int .i64 x.id, .slice ao2 x.vec.length cp2, .int .i64 x.aa, .int .i64 x.seq] 44 (0, 0)) := heap_alloc_new wD _
   go_simp
   go_at_call 153
   refine (m1 _ ws _ ((uh HR5).later zq) (by omega) (uh HVF)).mono ?_
   rintro e w6 ⟨v6, rfl, ⟨rows6, bls6, hG6, hS6⟩, hb6⟩
   try go_wp2_with fail
   have hR7 := (hb6.block _ (lt_of_block hR6)).trans hR6
   have hH7 := zq.trans (hb6.mono zq.size)
   refine hK.out _ _ (zq.trans (hb6.mono zq.size)) (fun zq => ?_)
   clear hK K
   try simp only [Act.put, pz, py, px]
   refine rdH 4 (fun K hK => ?_)
   refine hD hG6 (bR := wD.heap.size) (row := [.int .i64 x.kind, .int .i64 x.id, .slice ao2 x.vec.length cp2, .int .i64 x.aa, .int .i64 x.seq]) (x := x) (bl := bl2) hR7 (ab.ai.aj (uh HL5) fun c hc => hH7.block c (ab.ai.lt (uh HL5) c hc)) (fun c hc e => by have h1 := (hG6.own.lt c e).1; have h2 := ab.ai.lt (uh HL5) c hc; have h3 := hH6.size; have h4 : (wD.alloc (.cells #[.int .i64 x.kind, .int .i64 x.id, .slice ao2 x.vec.length cp2, .int .i64 x.aa, .int .i64 x.seq] 44)).heap.size = wD.heap.size + 1 := (by simp); omega) rfl _ _ rfl rfl rfl (by omega) hb6.size ?_
   rintro g9 cp9 w9 hG9 hb9 hE9 hg9 hz9 hor9
   refine hK.out _ _ (hH7.trans (hb9.mono (by have h3 := hH6.size; have h4 : (wD.alloc (.cells #[.int .i64 x.kind, .int .i64 x.id, .slice ao2 x.vec.length cp2, .int .i64 x.aa, .int .i64 x.seq] 44)).heap.size = wD.heap.size + 1 := (by simp); omega))) (fun zq => ?_)
   clear hK K
   try simp only [Act.put, pz, py, px]
   refine tkH 8 zq ?_
   refine tkH 9 zq ?_
   refine tkH 10 zq ?_
   refine dZ ?_
   have HX := yh hH6
   have h4 : (wD.alloc (.cells #[.int .i64 x.kind, .int .i64 x.id, .slice ao2 x.vec.length cp2, .int .i64 x.aa, .int .i64 x.seq] 44)).heap.size = wD.heap.size + 1 := (by simp)
   have h3 := hH6.size
   clear hH6 hR6 hR7 hH7
   have HF9 : Hid (∀ c ∈ (bls6 ++ [bl2]).flatten, w.heap.size ≤ c) := by
    intro c hc
    rw [List.flatten_append] at hc
    rcases List.mem_append.1 hc with hc | hc
    ·
     have := hS6 c hc; have := uh HZ5; omega
    have := uh HLB c (by simpa using hc); omega
   have HB9 := yh ((uh HB5).trans (zq.mono (uh HB5).size))
   have HG9 := yh (hG9.lower (b' := w.heap.size) (by have := uh HZ5; omega))
   clear hG9 hb9 hE9 hg9 hz9 hor9 zq hG6 hS6 hb6 HX
   go_wp2_with fail
   refine bodyPost_ret (v := .tuple #[.slice (some ⟨g9, 0, none⟩) (ws.length + 1) cp9, .int .i64 ((ws.length : Int) + 1), .int .i64 0]) (by simp [results, Tryz.results94, go_sem]) rfl ?_
   rw [uh HG]
   refine ⟨_, _, _, rfl, by simp, ?_, uh HB9⟩
   have := (uh HG9).ft (by simp; omega) (uh HF9)
   simpa using this
 have HG : Hid (ca ws x = ⟨0, false, bV ws x.aa x.seq, ws⟩) := fM (uh HFW) (uh HF) hsn
 have HC := yh (m1 _ ws w1 (uh HR) (by omega) (uh HVF))
 generalize bV ws x.aa x.seq = k9 at *
 obtain ⟨m9, rfl⟩ : ∃ m, k9 = m + 1 := ⟨k9 - 1, by omega⟩
 have hg : decide ((0 : Int) < (m9 : Int) + 1) = true := decide_eq_true (by omega)
 clear hsn hQ1
 go_wp2_with fail
 refine (uh HC).mono ?_
 rintro e w4 ⟨v4, rfl, ⟨rows4, bls4, hG4, hS4⟩, hb4⟩
 have hLI := hG4.ft (by omega) hS4
 obtain ⟨ao9, cp9, rfl⟩ := aI hLI.reads
 have HL9 := yh (hLI.mono (lo' := w.heap.size) (uh HZ1) (Nat.le_refl _))
 have HB9 := yh ((uh HB1).trans (hb4.mono (uh HB1).size))
 clear hG4 hS4 hb4 hLI HC
 go_wp2_with fail
 refine bodyPost_ret (v := .tuple #[.slice ao9 ws.length cp9, .int .i64 ((m9 : Int) + 1), .int .i64 0]) (by simp [results, Tryz.results94, go_sem]) rfl ?_
 rw [uh HG]
 exact ⟨_, _, _, by simp, rfl, uh HL9, uh HB9⟩
def aV (r : eg) : Int := if r.code = 0 then (if 40 < r.writes.length then 2 else 0) else r.code
theorem qi {x : aS} {y : au} (h : cH x = 0) (hc : aV (ca x.writes y) ≠ 0) : fg x y = dV (aV (ca x.writes y)) := by
 rw [fg, if_pos h]
 unfold aV at hc ⊢
 by_cases h1 : (ca x.writes y).code = 0
 ·
  rw [if_pos h1] at hc ⊢
  by_cases h2 : 40 < (ca x.writes y).writes.length
  ·
   rw [if_pos h2] at hc ⊢; rw [if_pos h1, if_pos h2]
  rw [if_neg h2] at hc; exact absurd rfl hc
 rw [if_neg h1] at hc ⊢; rw [if_neg h1]
theorem tU {x : aS} {y : au} (h : cH x = 0) (hc : aV (ca x.writes y) = 0) : fg x y = ⟨0, (ca x.writes y).place, cM x (ca x.writes y).writes⟩ := by
 rw [fg, if_pos h]
 unfold aV at hc
 by_cases h1 : (ca x.writes y).code = 0
 ·
  rw [if_pos h1] at hc
  by_cases h2 : 40 < (ca x.writes y).writes.length
  ·
   rw [if_pos h2] at hc; exact absurd hc (by decide)
  rw [if_pos h1, if_neg h2]
 rw [if_neg h1] at hc; exact absurd hc h1
theorem qU {ws : List au} {y : au} (h : aM ws = 0) : (0 ≤ (ca ws y).code ∧ (ca ws y).code ≤ 10) ∧ (0 ≤ (ca ws y).place ∧ (ca ws y).place ≤ 1000) := by
 have hl := (dK h).1
 have hv := iG y
 by_cases hf : wF y = 0
 ·
  by_cases hs : bV ws y.aa y.seq = 0
  ·
   by_cases c : y.seq < aT ws y.aa
   ·
    rw [gv h hf hs c]; simp
   by_cases c2 : 200 ≤ ws.length
   ·
    rw [fS h hf hs c c2]; simp
   rw [gO h hf hs c c2]; simp only; omega
  have := kS ws y.aa y.seq
  rw [fM h hf hs]; simp only; omega
 rw [pe h hf]; simp only; omega
theorem oI {ws : List au} {y : au} (h : aM ws = 0) : 0 ≤ aV (ca ws y) ∧ aV (ca ws y) ≤ 10 := by
 have := (qU (y := y) h).1
 unfold aV
 split
 ·
  split <;> omega
 omega
theorem ui {ws : List au} {y : au} (hfw : aM ws = 0) (hf : wF y = 0) : (ca ws y).writes.length ≤ 201 := by
 have hlen := (dK hfw).1
 by_cases hs : bV ws y.aa y.seq = 0
 ·
  by_cases c : y.seq < aT ws y.aa
  ·
   rw [gv hfw hf hs c]; simp
  by_cases c2 : 200 ≤ ws.length
  ·
   rw [fS hfw hf hs c c2]; simp
  rw [gO hfw hf hs c c2]; simp; omega
 rw [fM hfw hf hs]; simp only; omega
theorem uU (bn on yb yo : Nat) (a6 : Option Addr) (d6 : Nat) (a2 : Option Addr) (d2 : Nat) (ws : List au) (y : au) (w : World) (hX : w.cell? ⟨bn, on + 4, none⟩ = some (.slice a6 ws.length d6)) (hbn : bn < w.heap.size) (hfr : ∀ q, w.frozen? ⟨bn, q, none⟩ = false) (hY : cT #[.int .i64 y.kind, .int .i64 y.id, .slice a2 y.vec.length d2, .int .i64 y.aa, .int .i64 y.seq] w yb yo) (R4 : (ab.sl ab.ai).Reads w [.slice a6 ws.length d6] ws) (R2 : (ab.sl ab.int).Reads w [.slice a2 y.vec.length d2] y.vec) (hfw : aM ws = 0) (hf : wF y = 0) :
  Calls Tryz.prog 38 #[.pointer (some ⟨bn, on, none⟩), .pointer (some ⟨yb, yo, none⟩)] w fun e w' => (aV (ca ws y) ≠ 0 ∧ e = .returned (.tuple #[.int .i64 0, .int .i64 (aV (ca ws y))]) ∧ Below w.heap.size w w') ∨ (aV (ca ws y) = 0 ∧ e = .returned (.tuple #[.int .i64 (ca ws y).place, .int .i64 0]) ∧ ∃ (w1 : World) (a : Option Addr) (n c : Nat), w' = w1.setCell ⟨bn, on + 4, none⟩ (.slice a n c) ∧ n = (ca ws y).writes.length ∧ (ab.sl ab.ai).cK w1 [.slice a n c] (ca ws y).writes w.heap.size w1.heap.size ∧ Below w.heap.size w w1) := by
 have HL := yh (rA _ ws yb yo a2 d2 y w R4 hY R2 hfw hf)
 have HAL : Hid ((ca ws y).writes.length ≤ 201) := ui hfw hf
 have HX := yh hX
 have HFR := yh hfr
 clear hY R4 R2 hfw hf hfr
 generalize hr : ca ws y = r at *
 clear hr
 go_enter Tryz.func38, Tryz.ntmps38
 go_wp2_with fail
 refine (uh HL).mono ?_
 rintro e w1 ⟨a, n, c, rfl, hn, O, hb⟩
 have x4 := (hb.cell (p := ⟨bn, on + 4, none⟩) hbn).trans (uh HX)
 have xl1 : bn < w1.heap.size := Nat.lt_of_lt_of_le hbn hb.size
 have xf : ∀ q, w1.frozen? ⟨bn, q, none⟩ = false := fun q => by rw [frozen_of_heap (hb.block bn hbn)]; exact uh HFR q
 have HB := yh hb
 have HO := yh O
 have hnl : n ≤ 201 := by rw [hn]; exact uh HAL
 have HN := yh hn
 clear hb O hn hX HX HFR HL hbn
 by_cases hc : r.code = 0
 ·
  rw [hc]
  by_cases h40 : 40 < n
  ·
   have HT : Hid (aV r = 2) := by show aV r = 2; rw [aV, if_pos hc, if_pos (by rw [← uh HN]; exact h40)]
   have hd : decide ((40 : Int) < (n : Int)) = true := by simp; omega
   clear hc
   go_wp2_with fail
   refine bodyPost_ret (v := .tuple #[.int .i64 0, .int .i64 2]) (by simp [results, Tryz.results38, go_sem]) rfl ?_
   rw [uh HT]
   exact Or.inl ⟨by decide, rfl, uh HB⟩
  have HT : Hid (aV r = 0) := by show aV r = 0; rw [aV, if_pos hc, if_neg (by rw [← uh HN]; exact h40)]
  have hd : decide ((40 : Int) < (n : Int)) = false := by simp; omega
  clear hc
  go_wp2_with fail
  refine bodyPost_ret (v := .tuple #[.int .i64 r.place, .int .i64 0]) (by simp [results, Tryz.results38, go_sem]) rfl ?_
  rw [uh HT]
  exact Or.inr ⟨rfl, rfl, w1, a, n, c, rfl, uh HN, uh HO, uh HB⟩
 have HT : Hid (aV r = r.code) := by show aV r = r.code; rw [aV, if_neg hc]
 have HC := yh hc
 have hd : (r.code != 0) = true := by simpa using hc
 clear hc
 generalize r.code = cc at *
 go_wp2_with fail
 refine bodyPost_ret (v := .tuple #[.int .i64 0, .int .i64 cc]) (by simp [results, Tryz.results38, go_sem]) rfl ?_
 rw [uh HT]
 exact Or.inl ⟨uh HC, rfl, uh HB⟩
theorem iy (x : Int) (w : World) : Calls Tryz.prog 145 #[.int .i64 x] w fun e w' => e = .returned (.bool (decide (1 ≤ x) && decide (x ≤ 5))) ∧ w' = w := by
 go_enter Tryz.func145, Tryz.ntmps145
 go_wp2_with fail
 refine (fB x 1 5 _).mono ?_
 rintro e w1 ⟨rfl, rfl⟩
 go_wp2_with fail
 go_ret
 exact ⟨rfl, rfl⟩
abbrev fW (w : World) (b : Nat) (v : Value) (x : bx) : Prop := ag 0 #[.int .i64 x.ae, v] 34 w b
theorem tC {x : bx} (h : (decide (1 ≤ x.ae) && decide (x.ae ≤ 999)) = false) : aB x = 3 := by
 rw [aB, if_neg]
 simpa using h
theorem tZ {x : bx} (h : (decide (1 ≤ x.ae) && decide (x.ae ≤ 999)) = true) (hn : x.ids.length < 1 ∨ 5 < x.ids.length) : aB x = 2 := by
 rw [aB, if_pos (by simpa using h), if_neg (by omega)]
theorem vL {x : bx} (h : (decide (1 ≤ x.ae) && decide (x.ae ≤ 999)) = true) (hn : ¬ x.ids.length < 1) (hm : ¬ 5 < x.ids.length) : aB x = gr (x.ids.take 0) (x.ids.drop 0) := by
 rw [aB, if_pos (by simpa using h), if_pos (by omega)]
 simp
def kv (w : World) (b o : Nat) (v : Value) (x : bx) : Prop := w.cell? ⟨b, o, none⟩ = some (.int .i64 x.ae) ∧ w.cell? ⟨b, o + 1, none⟩ = some v
theorem nj (b o : Nat) (a : Option Addr) (d : Nat) (x : bx) (id : Int) (w : World) (hX : kv w b o (.slice a x.ids.length d) x) (R : (ab.sl ab.int).Reads w [.slice a x.ids.length d] x.ids) :
  Calls Tryz.prog 92 #[.pointer (some ⟨b, o, none⟩), .int .i64 id] w fun e w' => e = .returned (.int .i64 (aY x.ids id)) ∧ w' = w := by
 have x1 := hX.2
 have xl : b < w.heap.size := World.block_lt_of_cell? _ _ x1
 have hbig := R.ez
 have H := yh R
 clear hX R
 generalize x.ids = ids at *
 go_enter Tryz.func92, Tryz.ntmps92
 go_wp2_with fail
 go_loop [5] (fun i => ∃ k : Nat, k ≤ ids.length ∧ i = .int .i64 k ∧ (∀ j (hj : j < ids.length), j < k → ids[j] ≠ id)) (fun i => ids.length - (intOf i).toNat)
 case atStart => exact ⟨0, Nat.zero_le _, rfl, fun j _ h => by omega⟩
 case round =>
  obtain ⟨k, hk, rfl, hz⟩ := hrel
  by_cases hlt : k < ids.length
  ·
   obtain ⟨b2, off, rfl, -⟩ := ab.aR (uh H) (by omega)
   have c1 := eH (uh H) hlt
   cases hq : (ids[k] == id)
   ·
    have HZ : Hid (∀ j (hj : j < ids.length), j < k + 1 → ids[j] ≠ id) := fun j hj hjk => by
     by_cases h2 : j < k
     ·
      exact hz j hj h2
     obtain rfl : j = k := by omega
     simpa using hq
    clear hz
    generalize ids[k] = z at *
    go_wp2_with fail
    go_round
    case rel => exact ⟨k + 1, by omega, by go_num, uh HZ⟩
    case measure => simp [intOf]; omega
   have HP := yh (iY hlt (by simpa using hq) (fun j hj => hz j (by omega) hj))
   clear hz
   generalize ids[k] = z at *
   go_wp2_with fail
   go_ret
   exact ⟨by rw [uh HP]; rfl, rfl⟩
  obtain rfl : k = ids.length := by omega
  have HP := yh (jN (id := id) (fun j hj => hz j hj hj))
  clear hz
  go_wp2_with fail
  go_ret
  exact ⟨by rw [uh HP]; rfl, rfl⟩
theorem sa (b o : Nat) (a : Option Addr) (d : Nat) (x : bx) (w : World) (hX : kv w b o (.slice a x.ids.length d) x) (R : (ab.sl ab.int).Reads w [.slice a x.ids.length d] x.ids) :
  Calls Tryz.prog 85 #[.pointer (some ⟨b, o, none⟩)] w fun e w' => e = .returned (.int .i64 (aB x)) ∧ w' = w := by
 have x0 := hX.1
 have x1 := hX.2
 have xl : b < w.heap.size := World.block_lt_of_cell? _ _ x1
 have hbig := R.ez
 have HX := yh hX
 have H := yh R
 clear hX R
 go_enter Tryz.func85, Tryz.ntmps85
 go_wp2_with fail
 refine (fB x.ae 1 999 w).mono ?_
 rintro e w1 ⟨rfl, h1⟩
 subst w1
 cases d1 : (decide (1 ≤ x.ae) && decide (x.ae ≤ 999))
 ·
  have HF := yh (tC d1)
  clear d1
  go_wp2_with fail
  go_ret
  exact ⟨by rw [uh HF]; rfl, rfl⟩
 by_cases hn : x.ids.length < 1
 ·
  have HF := yh (tZ d1 (Or.inl hn))
  have hd : decide ((x.ids.length : Int) < 1) = true := by simp; omega
  clear d1
  go_wp2_with fail
  go_ret
  exact ⟨by rw [uh HF]; rfl, rfl⟩
 have hd : decide ((x.ids.length : Int) < 1) = false := by simp; omega
 by_cases hm : 5 < x.ids.length
 ·
  have HF := yh (tZ d1 (Or.inr hm))
  have hd2 : decide ((5 : Int) < (x.ids.length : Int)) = true := by simp; omega
  clear d1
  go_wp2_with fail
  go_ret
  exact ⟨by rw [uh HF]; rfl, rfl⟩
 have HF := yh (vL d1 hn hm)
 have hd2 : decide ((5 : Int) < (x.ids.length : Int)) = false := by simp; omega
 clear d1
 go_wp2_with fail
 clear hd hd2
 go_loop [3] (fun i => ∃ k : Nat, k ≤ x.ids.length ∧ i = .int .i64 k ∧ aB x = gr (x.ids.take k) (x.ids.drop k)) (fun i => x.ids.length - (intOf i).toNat)
 case atStart => exact ⟨0, Nat.zero_le _, rfl, uh HF⟩
 case round =>
  obtain ⟨k, hk, rfl, hz⟩ := hrel
  clear HF
  by_cases hlt : k < x.ids.length
  ·
   rw [me x.ids k hlt] at hz
   have hself := oZ hlt
   obtain ⟨b2, off, rfl, -⟩ := ab.aR (uh H) (by omega)
   have c1 := eH (uh H) hlt
   have HP := yh (nj b o (some ⟨b2, off, none⟩) d x x.ids[k] w (uh HX) (uh H))
   have hdl : decide ((k : Int) < (x.ids.length : Int)) = true := by simp; omega
   have HZ := yh hz
   have HS := yh hself
   clear hz hself
   generalize x.ids[k] = z at *
   go_wp2_with fail
   refine (iy z w).mono ?_
   rintro e w1 ⟨rfl, h1⟩
   subst w1
   cases d2 : (decide (1 ≤ z) && decide (z ≤ 5))
   ·
    have hz := uh HZ
    rw [if_neg (by simpa using d2)] at hz
    have HF := yh hz
    clear d2 HZ HS hz
    go_wp2_with fail
    go_ret
    exact ⟨by rw [uh HF]; rfl, rfl⟩
   have hz := uh HZ
   rw [if_pos (by simpa using d2)] at hz
   have HZ2 := yh hz
   clear d2 HZ hz
   go_wp2_with fail
   refine (uh HP).mono ?_
   rintro e w1 ⟨rfl, h1⟩
   subst w1
   clear HP
   by_cases hq : aY x.ids z = (k : Int)
   ·
    have hz := uh HZ2
    rw [if_neg ((uh HS).1 hq)] at hz
    have HF := yh hz
    have hb : (aY x.ids z != (k : Int)) = false := by rw [hq]; simp
    clear HZ2 HS hz hq
    generalize aY x.ids z = p at *
    go_wp2_with fail
    go_round
    case rel => exact ⟨k + 1, by omega, by go_num, uh HF⟩
    case measure => simp [intOf]; omega
   have hz := uh HZ2
   rw [if_pos (Classical.not_not.1 fun hc => hq ((uh HS).2 hc))] at hz
   have HF := yh hz
   have hb : (aY x.ids z != (k : Int)) = true := by rw [bne_iff_ne]; exact hq
   clear HZ2 HS hz hq
   generalize aY x.ids z = p at *
   go_wp2_with fail
   go_ret
   exact ⟨by rw [uh HF]; rfl, rfl⟩
  obtain rfl : k = x.ids.length := by omega
  rw [oF] at hz
  have hdl : decide ((x.ids.length : Int) < (x.ids.length : Int)) = false := by simp
  have HF := yh hz
  clear hz
  go_wp2_with fail
  go_ret
  exact ⟨by rw [uh HF]; rfl, rfl⟩
theorem gu (b o : Nat) (a : Option Addr) (d : Nat) (x : bx) (id dd : Int) (w : World) (hX : kv w b o (.slice a x.ids.length d) x) (R : (ab.sl ab.int).Reads w [.slice a x.ids.length d] x.ids) (hn : x.ids.length ≤ 1000) (hd : -1 ≤ dd ∧ dd ≤ 1) :
  Calls Tryz.prog 117 #[.pointer (some ⟨b, o, none⟩), .int .i64 id, .int .i64 dd] w fun e w' => e = .returned (.int .i64 (df x.ids id dd)) ∧ w' = w := by
 have x1 := hX.2
 have xl : b < w.heap.size := World.block_lt_of_cell? _ _ x1
 have HP := yh (nj b o a d x id w hX R)
 have H := yh R
 clear hX R
 go_enter Tryz.func117, Tryz.ntmps117
 go_wp2_with fail
 refine (uh HP).mono ?_
 rintro e w1 ⟨rfl, h1⟩
 subst w1
 clear HP
 have hb := iW x.ids id
 have HV : Hid (df x.ids id dd = if aY x.ids id < 0 ∨ aY x.ids id + dd < 0 ∨ (x.ids.length : Int) ≤ aY x.ids id + dd then 0 else x.ids.getD (aY x.ids id + dd).toNat 0) := rfl
 generalize aY x.ids id = p at *
 by_cases h0 : p < 0
 ·
  have HF := yh ((uh HV).trans (if_pos (Or.inl h0)))
  have hd0 : decide (p < 0) = true := by simpa using h0
  clear HV
  go_wp2_with fail
  go_ret
  exact ⟨by rw [uh HF]; rfl, rfl⟩
 have hd0 : decide (p < 0) = false := by simpa using h0
 by_cases h1 : p + dd < 0
 ·
  have HF := yh ((uh HV).trans (if_pos (Or.inr (Or.inl h1))))
  have hd1 : decide (p + dd < 0) = true := by simpa using h1
  clear HV
  go_wp2_with fail
  go_ret
  exact ⟨by rw [uh HF]; rfl, rfl⟩
 have hd1 : decide (p + dd < 0) = false := by simpa using h1
 by_cases h2 : (x.ids.length : Int) ≤ p + dd
 ·
  have HF := yh ((uh HV).trans (if_pos (Or.inr (Or.inr h2))))
  have hd2 : decide ((x.ids.length : Int) ≤ p + dd) = true := by simpa using h2
  clear HV
  go_wp2_with fail
  go_ret
  exact ⟨by rw [uh HF]; rfl, rfl⟩
 have hd2 : decide ((x.ids.length : Int) ≤ p + dd) = false := by simp; omega
 obtain ⟨m, hm⟩ : ∃ m : Nat, p + dd = (m : Int) := ⟨(p + dd).toNat, by omega⟩
 have hml : m < x.ids.length := by omega
 have HF : Hid (df x.ids id dd = x.ids[m]) := by
  refine (uh HV).trans ?_
  rw [if_neg (by omega), hm]
  simp [List.getD, hml]
 obtain ⟨b2, off, rfl, -⟩ := ab.aR (uh H) (by omega)
 have c1 := eH (uh H) hml
 clear HV
 generalize x.ids[m] = z at *
 rw [hm] at hd1 hd2
 go_wp2_with fail
 go_ret
 exact ⟨by rw [uh HF]; rfl, rfl⟩
theorem ij (a3 : Option Addr) (d3 b off d4 : Nat) (a5 : Option Addr) (d5 : Nat) (a6 : Option Addr) (d6 : Nat) (x : ay) (k xb : Nat) (w : World) (hX : ag 0 #[.int .i64 x.now, .int .i64 x.events, .int .i64 x.chain.ae, .slice a3 x.chain.ids.length d3, .slice (some ⟨b, off, none⟩) x.nodes.length d4, .slice a5 x.msgs.length d5, .slice a6 x.af.length d6] 39 w xb) (h : ab.aH.Reads w [.int .i64 x.now, .int .i64 x.events, .int .i64 x.chain.ae, .slice a3 x.chain.ids.length d3, .slice (some ⟨b, off, none⟩) x.nodes.length d4, .slice a5 x.msgs.length d5, .slice a6 x.af.length d6] x) (hk : k < x.nodes.length) (hn5 : x.nodes.length ≤ 5) :
  Calls Tryz.prog 36 #[.pointer (some ⟨xb, 0, none⟩), .int .i64 ((k : Int) + 1)] w fun e w' => e = .returned (.bool (cF x ((k : Int) + 1))) ∧ Below w.heap.size w w' := by
 have HP : Hid (cF x ((k : Int) + 1) = (x.nodes[k].up && ((x.nodes[k].ae == x.chain.ae) && decide (0 ≤ aY x.chain.ids ((k : Int) + 1))))) := by
  show cF x ((k : Int) + 1) = _
  rw [cF, eY hk]
 obtain ⟨_, _, _, _, _, _, _, _, hq, RC, RN, -, -⟩ := aN h
 simp only [List.cons.injEq, Value.slice.injEq, and_true, true_and] at hq
 obtain ⟨⟨rfl, rfl⟩, ⟨rfl, rfl⟩, -, -, -⟩ := hq
 obtain ⟨_, _, hq, RI⟩ := cl RC
 simp only [List.cons.injEq, Value.slice.injEq, and_true, true_and] at hq
 obtain ⟨rfl, rfl⟩ := hq
 obtain ⟨row, hcl, hr⟩ := ab.bF RN hk
 obtain ⟨an, dn, rfl, -⟩ := bt hr
 have x1 : w.drew.cell? ⟨b, off + k * 7 + 1, none⟩ = some (.bool x.nodes[k].up) := hcl 1 (by decide)
 have x2 : w.drew.cell? ⟨b, off + k * 7 + 2, none⟩ = some (.int .i64 x.nodes[k].ae) := hcl 2 (by decide)
 have z2 : w.drew.cell? ⟨xb, 2, none⟩ = some (.int .i64 x.chain.ae) := ag.at hX 2 _ rfl
 have z3 : w.drew.cell? ⟨xb, 3, none⟩ = some (.slice a3 x.chain.ids.length d3) := ag.at hX 3 _ rfl
 have z4 := ag.at hX 4 _ rfl
 simp only [ga, gb, gc] at z4
 have zl := hX.lt
 have HL : Hid (Calls Tryz.prog 92 #[.pointer (some ⟨xb, 2, none⟩), .int .i64 ((k : Int) + 1)] w.drew fun e w' => e = .returned (.int .i64 (aY x.chain.ids ((k : Int) + 1))) ∧ w' = w.drew) := nj xb 2 a3 d3 x.chain ((k : Int) + 1) w.drew ⟨z2, z3⟩ (RI.drew 1)
 have HB : Hid (Below w.heap.size w w.drew) := (Below.refl _ _).drew
 have hw1 : IntKind.i64.wrap (k : Int) = (k : Int) := by
  rw [IntKind.wrap_i64]
  omega
 have hki : (k : Int) < (x.nodes.length : Int) := by omega
 have hki0 : (0 : Int) ≤ (k : Int) := by omega
 have hbl : b < w.heap.size := World.block_lt_of_cell? _ _ x1
 clear hX h RC RN RI hcl hr z3
 generalize cF x ((k : Int) + 1) = r at *
 generalize x.nodes[k] = n at *
 generalize aY x.chain.ids ((k : Int) + 1) = pp at *
 go_enter Tryz.func36, Tryz.ntmps36
 go_upto_region 2 with fail
 clear z4
 cases hup : n.up
 ·
  rw [hup] at x1 HP
  refine wZz (fun w' => w' = w.drew) rfl (fun zq => ?_)
  generalize w.drew = wD at zq x1 x2 z2 HL HB ⊢
  refine tkH 0 zq ?_
  refine tkH 1 zq ?_
  refine tkH 2 zq ?_
  refine tkJ 3 (v := ?va3) ?ha3 zq ?ra3
  case ha3 =>
   intro wS hSw
   subst hSw
   exact fZ
  refine tkH 4 zq ?_
  refine skH 5 zq ?_
  refine skH 6 zq ?_
  refine skH 7 zq ?_
  refine skH 8 zq ?_
  refine skH 9 zq ?_
  refine skH 10 zq ?_
  refine skH 11 zq ?_
  refine skH 12 zq ?_
  refine skH 13 zq ?_
  refine skH 14 zq ?_
  refine tkH 15 zq ?_
  refine tkH 16 zq ?_
  refine skH 17 zq ?_
  refine skH 18 zq ?_
  refine skH 19 zq ?_
  refine skH 20 zq ?_
  refine skH 21 zq ?_
  refine skH 22 zq ?_
  refine tkH 23 zq ?_
  refine tkH 24 zq ?_
  refine dZ ?_
  clear zq
  go_wp2_with fail
  go_ret
  exact ⟨by rw [uh HP]; rfl, uh HB⟩
 rw [hup] at x1 HP
 cases hep : (n.ae == x.chain.ae)
 ·
  rw [hep] at HP
  refine wZz (fun w' => w' = w.drew) rfl (fun zq => ?_)
  generalize w.drew = wD at zq x1 x2 z2 HL HB ⊢
  refine tkH 0 zq ?_
  refine tkH 1 zq ?_
  refine tkH 2 zq ?_
  refine tkJ 3 (v := ?vb3) ?hb3 zq ?rb3
  case hb3 =>
   intro wS hSw
   subst hSw
   exact fZ
  refine tkH 4 zq ?_
  refine tkH 5 zq ?_
  refine tkH 6 zq ?_
  refine tkH 7 zq ?_
  refine tkJ 8 (v := ?vb8) ?hb8 zq ?rb8
  case hb8 =>
   intro wS hSw
   subst hSw
   exact fZ
  refine tkH 9 zq ?_
  refine tkH 10 zq ?_
  refine tkH 11 zq ?_
  refine tkH 12 zq ?_
  refine tkJ 13 (v := ?vb13) ?hb13 zq ?rb13
  case hb13 =>
   intro wS hSw
   subst hSw
   exact fZ
  refine tkH 14 zq ?_
  refine tkH 15 zq ?_
  refine tkH 16 zq ?_
  refine skH 17 zq ?_
  refine skH 18 zq ?_
  refine skH 19 zq ?_
  refine skH 20 zq ?_
  refine skH 21 zq ?_
  refine skH 22 zq ?_
  refine tkH 23 zq ?_
  refine tkH 24 zq ?_
  refine dZ ?_
  clear zq
  go_wp2_with fail
  go_ret
  exact ⟨by rw [uh HP]; rfl, uh HB⟩
 rw [hep] at HP
 refine wZz (fun w' => w' = w.drew) rfl (fun zq => ?_)
 generalize w.drew = wD at zq x1 x2 z2 HL HB ⊢
 refine tkH 0 zq ?_
 refine tkH 1 zq ?_
 refine tkH 2 zq ?_
 refine tkJ 3 (v := ?vc3) ?hc3 zq ?rc3
 case hc3 =>
  intro wS hSw
  subst hSw
  exact fZ
 refine tkH 4 zq ?_
 refine tkH 5 zq ?_
 refine tkH 6 zq ?_
 refine tkH 7 zq ?_
 refine tkJ 8 (v := ?vc8) ?hc8 zq ?rc8
 case hc8 =>
  intro wS hSw
  subst hSw
  exact fZ
 refine tkH 9 zq ?_
 refine tkH 10 zq ?_
 refine tkH 11 zq ?_
 refine tkH 12 zq ?_
 refine tkJ 13 (v := ?vc13) ?hc13 zq ?rc13
 case hc13 =>
  intro wS hSw
  subst hSw
  exact fZ
 refine tkH 14 zq ?_
 refine tkH 15 zq ?_
 refine tkH 16 zq ?_
 refine tkH 17 zq ?_
 refine tkH 18 zq ?_
 refine tkH 19 zq ?_
 refine tkH 20 zq ?_
 refine rdH 21 (fun K hK => ?_)
 go_simp
 go_at_call 92
 refine (uh HL).mono ?_
 rintro e w2 ⟨rfl, rfl⟩
 try go_wp2_with fail
 refine hK.out _ _ rfl (fun zq => ?_)
 clear hK K
 try simp only [Act.put, pz, py, px]
 refine tkH 22 zq ?_
 refine tkH 23 zq ?_
 refine tkH 24 zq ?_
 refine dZ ?_
 clear zq
 go_wp2_with fail
 go_ret
 exact ⟨by rw [uh HP]; rfl, uh HB⟩
theorem gN (a3 : Option Addr) (d3 : Nat) (a4 : Option Addr) (d4 : Nat) (a5 : Option Addr) (d5 : Nat) (a6 : Option Addr) (d6 : Nat) (x : ay) (id : Int) (xb : Nat) (w : World) (hX : ag 0 #[.int .i64 x.now, .int .i64 x.events, .int .i64 x.chain.ae, .slice a3 x.chain.ids.length d3, .slice a4 x.nodes.length d4, .slice a5 x.msgs.length d5, .slice a6 x.af.length d6] 39 w xb) :
  Calls Tryz.prog 116 #[.pointer (some ⟨xb, 0, none⟩), .int .i64 id] w fun e w' => e = .returned (.bool (ch x id)) ∧ w' = w := by
 have HL := yh (fB id 1 (x.nodes.length : Int) w)
 have z3 := ag.at hX 4 _ rfl
 simp only [ga, gb, gc] at z3
 have xl := hX.lt
 clear hX
 go_enter Tryz.func116, Tryz.ntmps116
 go_wp2_with fail
 refine (uh HL).mono ?_
 rintro e w1 ⟨rfl, h1⟩
 subst w1
 clear HL
 go_wp2_with fail
 go_ret
 exact ⟨rfl, rfl⟩
theorem sh (a3 : Option Addr) (d3 : Nat) (a4 : Option Addr) (d4 : Nat) (a5 : Option Addr) (d5 : Nat) (a6 : Option Addr) (d6 : Nat) (aq : Option Addr) (dq : Nat) (av : Option Addr) (dv : Nat) (ah : Option Addr) (dh : Nat) (x : ay) (e : cj) (xb b o : Nat) (w : World) (hX : ag 0 #[.int .i64 x.now, .int .i64 x.events, .int .i64 x.chain.ae, .slice a3 x.chain.ids.length d3, .slice a4 x.nodes.length d4, .slice a5 x.msgs.length d5, .slice a6 x.af.length d6] 39 w xb) (hE : cT #[.int .i64 e.kind, .int .i64 e.aa, .int .i64 e.seq, .int .i64 e.id, .slice aq e.query.length dq, .int .i64 e.k, .int .i64 e.start, .int .i64 e.fin, .int .i64 e.place, .slice av e.vec.length dv, .slice ah e.aW.length dh] w b o) :
  Calls Tryz.prog 88 #[.pointer (some ⟨xb, 0, none⟩), .pointer (some ⟨b, o, none⟩)] w fun r w' => r = .returned (.bool (gG x e)) ∧ Below w.heap.size w w' := by
 have L1 : Hid (∀ W, Calls Tryz.prog 58 #[.int .i64 e.kind, .int .i64 1, .int .i64 3] W fun r w' => r = .returned (.bool (decide (1 ≤ e.kind) && decide (e.kind ≤ 3))) ∧ w' = W) := fun W => fB _ _ _ W
 have L2 : Hid (∀ W, Calls Tryz.prog 58 #[.int .i64 e.start, .int .i64 1, .int .i64 x.events] W fun r w' => r = .returned (.bool (decide (1 ≤ e.start) && decide (e.start ≤ x.events))) ∧ w' = W) := fun W => fB _ _ _ W
 have L3 : Hid (∀ W, Calls Tryz.prog 58 #[.int .i64 e.fin, .int .i64 e.start, .int .i64 x.events] W fun r w' => r = .returned (.bool (decide (e.start ≤ e.fin) && decide (e.fin ≤ x.events))) ∧ w' = W) := fun W => fB _ _ _ W
 have L4 : Hid (∀ W, Calls Tryz.prog 58 #[.int .i64 e.place, .int .i64 0, .int .i64 40] W fun r w' => r = .returned (.bool (decide (0 ≤ e.place) && decide (e.place ≤ 40))) ∧ w' = W) := fun W => fB _ _ _ W
 have HP : Hid (gG x e = ((decide (1 ≤ e.kind) && decide (e.kind ≤ 3)) && ((decide (1 ≤ e.start) && decide (e.start ≤ x.events)) && ((e.fin == 0 || (decide (e.start ≤ e.fin) && decide (e.fin ≤ x.events))) && (decide (0 ≤ e.place) && decide (e.place ≤ 40)))))) := rfl
 generalize gG x e = r at *
 have HBD : Hid (Below w.heap.size w w.drew) := (Below.refl _ _).drew
 have y1 := ag.at hX.drew 1 _ rfl
 have z0 := hE.drew.at 0 _ rfl
 have z6 := hE.drew.at 6 _ rfl
 have z7 := hE.drew.at 7 _ rfl
 have z8 := hE.drew.at 8 _ rfl
 simp only [List.getElem_toArray, List.getElem_cons_zero, List.getElem_cons_succ, Nat.add_zero] at y1 z0 z6 z7 z8
 clear hX hE
 generalize (decide (1 ≤ e.kind) && decide (e.kind ≤ 3)) = A at *
 generalize (decide (1 ≤ e.start) && decide (e.start ≤ x.events)) = B at *
 generalize (decide (e.start ≤ e.fin) && decide (e.fin ≤ x.events)) = C at *
 generalize (decide (0 ≤ e.place) && decide (e.place ≤ 40)) = D at *
 generalize hz : (e.fin == 0) = Z at *
 go_enter Tryz.func88, Tryz.ntmps88
 cases A
 ·
  go_wp2_with fail
  refine wZz (fun w' => w' = w.drew) rfl (fun zq => ?_)
  generalize w.drew = wD at zq y1 z0 z6 z7 z8 HBD ⊢
  refine tkJ 0 (v := ?vp1_0) ?hp1_0 zq ?rp1_0
  case hp1_0 =>
   intro wS hSw
   subst hSw
   exact fZ
  refine tkJ 1 (v := ?vp1_1) ?hp1_1 zq ?rp1_1
  case hp1_1 =>
   intro wS hSw
   subst hSw
   exact fZ
  refine tkJ 2 (v := ?vp1_2) ?hp1_2 zq ?rp1_2
  case hp1_2 =>
   intro wS hSw
   subst hSw
   exact fZ
  refine tkJ 3 (v := ?vp1_3) ?hp1_3 zq ?rp1_3
  case hp1_3 =>
   intro wS hSw
   subst hSw
   exact fZ
  refine rdH 4 (fun K hK => ?_)
  go_simp
  go_at_call 58
  refine (uh L1 wD).mono ?_
  rintro e u1 ⟨rfl, h1⟩
  subst u1
  try go_wp2_with fail
  refine hK.out _ _ rfl (fun zq => ?_)
  clear hK K
  try simp only [Act.put, pz, py, px]
  refine tkJ 5 (v := ?vp1_5) ?hp1_5 zq ?rp1_5
  case hp1_5 =>
   intro wS hSw
   subst hSw
   exact fZ
  refine skH 6 zq ?_
  refine skH 7 zq ?_
  refine skH 8 zq ?_
  refine skH 9 zq ?_
  refine skH 10 zq ?_
  refine skH 11 zq ?_
  refine skH 12 zq ?_
  refine skH 13 zq ?_
  refine skH 14 zq ?_
  refine tkJ 15 (v := ?vp1_15) ?hp1_15 zq ?rp1_15
  case hp1_15 =>
   intro wS hSw
   subst hSw
   exact fZ
  refine tkJ 16 (v := ?vp1_16) ?hp1_16 zq ?rp1_16
  case hp1_16 =>
   intro wS hSw
   subst hSw
   exact fZ
  refine skH 17 zq ?_
  refine skH 18 zq ?_
  refine skH 19 zq ?_
  refine skH 20 zq ?_
  refine skH 21 zq ?_
  refine skH 22 zq ?_
  refine skH 23 zq ?_
  refine skH 24 zq ?_
  refine skH 25 zq ?_
  refine skH 26 zq ?_
  refine skH 27 zq ?_
  refine skH 28 zq ?_
  refine skH 29 zq ?_
  refine skH 30 zq ?_
  refine skH 31 zq ?_
  refine skH 32 zq ?_
  refine skH 33 zq ?_
  refine skH 34 zq ?_
  refine skH 35 zq ?_
  refine skH 36 zq ?_
  refine tkJ 37 (v := ?vp1_37) ?hp1_37 zq ?rp1_37
  case hp1_37 =>
   intro wS hSw
   subst hSw
   exact fZ
  refine tkJ 38 (v := ?vp1_38) ?hp1_38 zq ?rp1_38
  case hp1_38 =>
   intro wS hSw
   subst hSw
   exact fZ
  refine skH 39 zq ?_
  refine skH 40 zq ?_
  refine skH 41 zq ?_
  refine skH 42 zq ?_
  refine skH 43 zq ?_
  refine tkJ 44 (v := ?vp1_44) ?hp1_44 zq ?rp1_44
  case hp1_44 =>
   intro wS hSw
   subst hSw
   exact fZ
  refine tkJ 45 (v := ?vp1_45) ?hp1_45 zq ?rp1_45
  case hp1_45 =>
   intro wS hSw
   subst hSw
   exact fZ
  refine dZ ?_
  clear zq
  go_wp2_with fail
  go_ret
  exact ⟨by rw [uh HP]; simp, uh HBD⟩
 cases B
 ·
  go_wp2_with fail
  refine wZz (fun w' => w' = w.drew) rfl (fun zq => ?_)
  generalize w.drew = wD at zq y1 z0 z6 z7 z8 HBD ⊢
  refine tkJ 0 (v := ?vp2_0) ?hp2_0 zq ?rp2_0
  case hp2_0 =>
   intro wS hSw
   subst hSw
   exact fZ
  refine tkJ 1 (v := ?vp2_1) ?hp2_1 zq ?rp2_1
  case hp2_1 =>
   intro wS hSw
   subst hSw
   exact fZ
  refine tkJ 2 (v := ?vp2_2) ?hp2_2 zq ?rp2_2
  case hp2_2 =>
   intro wS hSw
   subst hSw
   exact fZ
  refine tkJ 3 (v := ?vp2_3) ?hp2_3 zq ?rp2_3
  case hp2_3 =>
   intro wS hSw
   subst hSw
   exact fZ
  refine rdH 4 (fun K hK => ?_)
  go_simp
  go_at_call 58
  refine (uh L1 wD).mono ?_
  rintro e u1 ⟨rfl, h1⟩
  subst u1
  try go_wp2_with fail
  refine hK.out _ _ rfl (fun zq => ?_)
  clear hK K
  try simp only [Act.put, pz, py, px]
  refine tkJ 5 (v := ?vp2_5) ?hp2_5 zq ?rp2_5
  case hp2_5 =>
   intro wS hSw
   subst hSw
   exact fZ
  refine tkJ 6 (v := ?vp2_6) ?hp2_6 zq ?rp2_6
  case hp2_6 =>
   intro wS hSw
   subst hSw
   exact fZ
  refine tkJ 7 (v := ?vp2_7) ?hp2_7 zq ?rp2_7
  case hp2_7 =>
   intro wS hSw
   subst hSw
   exact fZ
  refine tkJ 8 (v := ?vp2_8) ?hp2_8 zq ?rp2_8
  case hp2_8 =>
   intro wS hSw
   subst hSw
   exact fZ
  refine tkJ 9 (v := ?vp2_9) ?hp2_9 zq ?rp2_9
  case hp2_9 =>
   intro wS hSw
   subst hSw
   exact fZ
  refine tkJ 10 (v := ?vp2_10) ?hp2_10 zq ?rp2_10
  case hp2_10 =>
   intro wS hSw
   subst hSw
   exact fZ
  refine tkJ 11 (v := ?vp2_11) ?hp2_11 zq ?rp2_11
  case hp2_11 =>
   intro wS hSw
   subst hSw
   exact fZ
  refine tkJ 12 (v := ?vp2_12) ?hp2_12 zq ?rp2_12
  case hp2_12 =>
   intro wS hSw
   subst hSw
   exact fZ
  refine tkJ 13 (v := ?vp2_13) ?hp2_13 zq ?rp2_13
  case hp2_13 =>
   intro wS hSw
   subst hSw
   exact fZ
  refine rdH 14 (fun K hK => ?_)
  go_simp
  go_at_call 58
  refine (uh L2 wD).mono ?_
  rintro e u1 ⟨rfl, h1⟩
  subst u1
  try go_wp2_with fail
  refine hK.out _ _ rfl (fun zq => ?_)
  clear hK K
  try simp only [Act.put, pz, py, px]
  refine tkJ 15 (v := ?vp2_15) ?hp2_15 zq ?rp2_15
  case hp2_15 =>
   intro wS hSw
   subst hSw
   exact fZ
  refine tkJ 16 (v := ?vp2_16) ?hp2_16 zq ?rp2_16
  case hp2_16 =>
   intro wS hSw
   subst hSw
   exact fZ
  refine skH 17 zq ?_
  refine skH 18 zq ?_
  refine skH 19 zq ?_
  refine skH 20 zq ?_
  refine skH 21 zq ?_
  refine skH 22 zq ?_
  refine skH 23 zq ?_
  refine skH 24 zq ?_
  refine skH 25 zq ?_
  refine skH 26 zq ?_
  refine skH 27 zq ?_
  refine skH 28 zq ?_
  refine skH 29 zq ?_
  refine skH 30 zq ?_
  refine skH 31 zq ?_
  refine skH 32 zq ?_
  refine skH 33 zq ?_
  refine skH 34 zq ?_
  refine skH 35 zq ?_
  refine skH 36 zq ?_
  refine tkJ 37 (v := ?vp2_37) ?hp2_37 zq ?rp2_37
  case hp2_37 =>
   intro wS hSw
   subst hSw
   exact fZ
  refine tkJ 38 (v := ?vp2_38) ?hp2_38 zq ?rp2_38
  case hp2_38 =>
   intro wS hSw
   subst hSw
   exact fZ
  refine skH 39 zq ?_
  refine skH 40 zq ?_
  refine skH 41 zq ?_
  refine skH 42 zq ?_
  refine skH 43 zq ?_
  refine tkJ 44 (v := ?vp2_44) ?hp2_44 zq ?rp2_44
  case hp2_44 =>
   intro wS hSw
   subst hSw
   exact fZ
  refine tkJ 45 (v := ?vp2_45) ?hp2_45 zq ?rp2_45
  case hp2_45 =>
   intro wS hSw
   subst hSw
   exact fZ
  refine dZ ?_
  clear zq
  go_wp2_with fail
  go_ret
  exact ⟨by rw [uh HP]; simp, uh HBD⟩
 cases Z
 ·
  cases C
  ·
   go_wp2_with fail
   refine wZz (fun w' => w' = w.drew) rfl (fun zq => ?_)
   generalize w.drew = wD at zq y1 z0 z6 z7 z8 HBD ⊢
   refine tkJ 0 (v := ?vp3_0) ?hp3_0 zq ?rp3_0
   case hp3_0 =>
    intro wS hSw
    subst hSw
    exact fZ
   refine tkJ 1 (v := ?vp3_1) ?hp3_1 zq ?rp3_1
   case hp3_1 =>
    intro wS hSw
    subst hSw
    exact fZ
   refine tkJ 2 (v := ?vp3_2) ?hp3_2 zq ?rp3_2
   case hp3_2 =>
    intro wS hSw
    subst hSw
    exact fZ
   refine tkJ 3 (v := ?vp3_3) ?hp3_3 zq ?rp3_3
   case hp3_3 =>
    intro wS hSw
    subst hSw
    exact fZ
   refine rdH 4 (fun K hK => ?_)
   go_simp
   go_at_call 58
   refine (uh L1 wD).mono ?_
   rintro e u1 ⟨rfl, h1⟩
   subst u1
   try go_wp2_with fail
   refine hK.out _ _ rfl (fun zq => ?_)
   clear hK K
   try simp only [Act.put, pz, py, px]
   refine tkJ 5 (v := ?vp3_5) ?hp3_5 zq ?rp3_5
   case hp3_5 =>
    intro wS hSw
    subst hSw
    exact fZ
   refine tkJ 6 (v := ?vp3_6) ?hp3_6 zq ?rp3_6
   case hp3_6 =>
    intro wS hSw
    subst hSw
    exact fZ
   refine tkJ 7 (v := ?vp3_7) ?hp3_7 zq ?rp3_7
   case hp3_7 =>
    intro wS hSw
    subst hSw
    exact fZ
   refine tkJ 8 (v := ?vp3_8) ?hp3_8 zq ?rp3_8
   case hp3_8 =>
    intro wS hSw
    subst hSw
    exact fZ
   refine tkJ 9 (v := ?vp3_9) ?hp3_9 zq ?rp3_9
   case hp3_9 =>
    intro wS hSw
    subst hSw
    exact fZ
   refine tkJ 10 (v := ?vp3_10) ?hp3_10 zq ?rp3_10
   case hp3_10 =>
    intro wS hSw
    subst hSw
    exact fZ
   refine tkJ 11 (v := ?vp3_11) ?hp3_11 zq ?rp3_11
   case hp3_11 =>
    intro wS hSw
    subst hSw
    exact fZ
   refine tkJ 12 (v := ?vp3_12) ?hp3_12 zq ?rp3_12
   case hp3_12 =>
    intro wS hSw
    subst hSw
    exact fZ
   refine tkJ 13 (v := ?vp3_13) ?hp3_13 zq ?rp3_13
   case hp3_13 =>
    intro wS hSw
    subst hSw
    exact fZ
   refine rdH 14 (fun K hK => ?_)
   go_simp
   go_at_call 58
   refine (uh L2 wD).mono ?_
   rintro e u1 ⟨rfl, h1⟩
   subst u1
   try go_wp2_with fail
   refine hK.out _ _ rfl (fun zq => ?_)
   clear hK K
   try simp only [Act.put, pz, py, px]
   refine tkJ 15 (v := ?vp3_15) ?hp3_15 zq ?rp3_15
   case hp3_15 =>
    intro wS hSw
    subst hSw
    exact fZ
   refine tkJ 16 (v := ?vp3_16) ?hp3_16 zq ?rp3_16
   case hp3_16 =>
    intro wS hSw
    subst hSw
    exact fZ
   refine tkJ 17 (v := ?vp3_17) ?hp3_17 zq ?rp3_17
   case hp3_17 =>
    intro wS hSw
    subst hSw
    exact fZ
   refine tkJ 18 (v := ?vp3_18) ?hp3_18 zq ?rp3_18
   case hp3_18 =>
    intro wS hSw
    subst hSw
    exact fZ
   refine tkJ 19 (v := ?vp3_19) ?hp3_19 zq ?rp3_19
   case hp3_19 =>
    intro wS hSw
    subst hSw
    exact fZ
   refine tkJ 20 (v := ?vp3_20) ?hp3_20 zq ?rp3_20
   case hp3_20 =>
    intro wS hSw
    subst hSw
    exact fZ
   refine tkJ 21 (v := ?vp3_21) ?hp3_21 zq ?rp3_21
   case hp3_21 =>
    intro wS hSw
    subst hSw
    exact fZ
   refine tkJ 22 (v := ?vp3_22) ?hp3_22 zq ?rp3_22
   case hp3_22 =>
    intro wS hSw
    subst hSw
    exact fZ
   refine tkJ 23 (v := ?vp3_23) ?hp3_23 zq ?rp3_23
   case hp3_23 =>
    intro wS hSw
    subst hSw
    exact fZ
   refine tkJ 24 (v := ?vp3_24) ?hp3_24 zq ?rp3_24
   case hp3_24 =>
    intro wS hSw
    subst hSw
    exact fZ
   refine tkJ 25 (v := ?vp3_25) ?hp3_25 zq ?rp3_25
   case hp3_25 =>
    intro wS hSw
    subst hSw
    exact fZ
   refine tkJ 26 (v := ?vp3_26) ?hp3_26 zq ?rp3_26
   case hp3_26 =>
    intro wS hSw
    subst hSw
    exact fZ
   refine tkJ 27 (v := ?vp3_27) ?hp3_27 zq ?rp3_27
   case hp3_27 =>
    intro wS hSw
    subst hSw
    exact fZ
   refine tkJ 28 (v := ?vp3_28) ?hp3_28 zq ?rp3_28
   case hp3_28 =>
    intro wS hSw
    subst hSw
    exact fZ
   refine tkJ 29 (v := ?vp3_29) ?hp3_29 zq ?rp3_29
   case hp3_29 =>
    intro wS hSw
    subst hSw
    exact fZ
   refine tkJ 30 (v := ?vp3_30) ?hp3_30 zq ?rp3_30
   case hp3_30 =>
    intro wS hSw
    subst hSw
    exact fZ
   refine tkJ 31 (v := ?vp3_31) ?hp3_31 zq ?rp3_31
   case hp3_31 =>
    intro wS hSw
    subst hSw
    exact fZ
   refine tkJ 32 (v := ?vp3_32) ?hp3_32 zq ?rp3_32
   case hp3_32 =>
    intro wS hSw
    subst hSw
    exact fZ
   refine tkJ 33 (v := ?vp3_33) ?hp3_33 zq ?rp3_33
   case hp3_33 =>
    intro wS hSw
    subst hSw
    exact fZ
   refine tkJ 34 (v := ?vp3_34) ?hp3_34 zq ?rp3_34
   case hp3_34 =>
    intro wS hSw
    subst hSw
    exact fZ
   refine rdH 35 (fun K hK => ?_)
   go_simp
   go_at_call 58
   refine (uh L3 wD).mono ?_
   rintro e u1 ⟨rfl, h1⟩
   subst u1
   try go_wp2_with fail
   refine hK.out _ _ rfl (fun zq => ?_)
   clear hK K
   try simp only [Act.put, pz, py, px]
   refine tkJ 36 (v := ?vp3_36) ?hp3_36 zq ?rp3_36
   case hp3_36 =>
    intro wS hSw
    subst hSw
    exact fZ
   refine tkJ 37 (v := ?vp3_37) ?hp3_37 zq ?rp3_37
   case hp3_37 =>
    intro wS hSw
    subst hSw
    exact fZ
   refine tkJ 38 (v := ?vp3_38) ?hp3_38 zq ?rp3_38
   case hp3_38 =>
    intro wS hSw
    subst hSw
    exact fZ
   refine skH 39 zq ?_
   refine skH 40 zq ?_
   refine skH 41 zq ?_
   refine skH 42 zq ?_
   refine skH 43 zq ?_
   refine tkJ 44 (v := ?vp3_44) ?hp3_44 zq ?rp3_44
   case hp3_44 =>
    intro wS hSw
    subst hSw
    exact fZ
   refine tkJ 45 (v := ?vp3_45) ?hp3_45 zq ?rp3_45
   case hp3_45 =>
    intro wS hSw
    subst hSw
    exact fZ
   refine dZ ?_
   clear zq
   go_wp2_with fail
   go_ret
   exact ⟨by rw [uh HP]; simp, uh HBD⟩
  go_wp2_with fail
  refine wZz (fun w' => w' = w.drew) rfl (fun zq => ?_)
  generalize w.drew = wD at zq y1 z0 z6 z7 z8 HBD ⊢
  refine tkJ 0 (v := ?vp4_0) ?hp4_0 zq ?rp4_0
  case hp4_0 =>
   intro wS hSw
   subst hSw
   exact fZ
  refine tkJ 1 (v := ?vp4_1) ?hp4_1 zq ?rp4_1
  case hp4_1 =>
   intro wS hSw
   subst hSw
   exact fZ
  refine tkJ 2 (v := ?vp4_2) ?hp4_2 zq ?rp4_2
  case hp4_2 =>
   intro wS hSw
   subst hSw
   exact fZ
  refine tkJ 3 (v := ?vp4_3) ?hp4_3 zq ?rp4_3
  case hp4_3 =>
   intro wS hSw
   subst hSw
   exact fZ
  refine rdH 4 (fun K hK => ?_)
  go_simp
  go_at_call 58
  refine (uh L1 wD).mono ?_
  rintro e u1 ⟨rfl, h1⟩
  subst u1
  try go_wp2_with fail
  refine hK.out _ _ rfl (fun zq => ?_)
  clear hK K
  try simp only [Act.put, pz, py, px]
  refine tkJ 5 (v := ?vp4_5) ?hp4_5 zq ?rp4_5
  case hp4_5 =>
   intro wS hSw
   subst hSw
   exact fZ
  refine tkJ 6 (v := ?vp4_6) ?hp4_6 zq ?rp4_6
  case hp4_6 =>
   intro wS hSw
   subst hSw
   exact fZ
  refine tkJ 7 (v := ?vp4_7) ?hp4_7 zq ?rp4_7
  case hp4_7 =>
   intro wS hSw
   subst hSw
   exact fZ
  refine tkJ 8 (v := ?vp4_8) ?hp4_8 zq ?rp4_8
  case hp4_8 =>
   intro wS hSw
   subst hSw
   exact fZ
  refine tkJ 9 (v := ?vp4_9) ?hp4_9 zq ?rp4_9
  case hp4_9 =>
   intro wS hSw
   subst hSw
   exact fZ
  refine tkJ 10 (v := ?vp4_10) ?hp4_10 zq ?rp4_10
  case hp4_10 =>
   intro wS hSw
   subst hSw
   exact fZ
  refine tkJ 11 (v := ?vp4_11) ?hp4_11 zq ?rp4_11
  case hp4_11 =>
   intro wS hSw
   subst hSw
   exact fZ
  refine tkJ 12 (v := ?vp4_12) ?hp4_12 zq ?rp4_12
  case hp4_12 =>
   intro wS hSw
   subst hSw
   exact fZ
  refine tkJ 13 (v := ?vp4_13) ?hp4_13 zq ?rp4_13
  case hp4_13 =>
   intro wS hSw
   subst hSw
   exact fZ
  refine rdH 14 (fun K hK => ?_)
  go_simp
  go_at_call 58
  refine (uh L2 wD).mono ?_
  rintro e u1 ⟨rfl, h1⟩
  subst u1
  try go_wp2_with fail
  refine hK.out _ _ rfl (fun zq => ?_)
  clear hK K
  try simp only [Act.put, pz, py, px]
  refine tkJ 15 (v := ?vp4_15) ?hp4_15 zq ?rp4_15
  case hp4_15 =>
   intro wS hSw
   subst hSw
   exact fZ
  refine tkJ 16 (v := ?vp4_16) ?hp4_16 zq ?rp4_16
  case hp4_16 =>
   intro wS hSw
   subst hSw
   exact fZ
  refine tkJ 17 (v := ?vp4_17) ?hp4_17 zq ?rp4_17
  case hp4_17 =>
   intro wS hSw
   subst hSw
   exact fZ
  refine tkJ 18 (v := ?vp4_18) ?hp4_18 zq ?rp4_18
  case hp4_18 =>
   intro wS hSw
   subst hSw
   exact fZ
  refine tkJ 19 (v := ?vp4_19) ?hp4_19 zq ?rp4_19
  case hp4_19 =>
   intro wS hSw
   subst hSw
   exact fZ
  refine tkJ 20 (v := ?vp4_20) ?hp4_20 zq ?rp4_20
  case hp4_20 =>
   intro wS hSw
   subst hSw
   exact fZ
  refine tkJ 21 (v := ?vp4_21) ?hp4_21 zq ?rp4_21
  case hp4_21 =>
   intro wS hSw
   subst hSw
   exact fZ
  refine tkJ 22 (v := ?vp4_22) ?hp4_22 zq ?rp4_22
  case hp4_22 =>
   intro wS hSw
   subst hSw
   exact fZ
  refine tkJ 23 (v := ?vp4_23) ?hp4_23 zq ?rp4_23
  case hp4_23 =>
   intro wS hSw
   subst hSw
   exact fZ
  refine tkJ 24 (v := ?vp4_24) ?hp4_24 zq ?rp4_24
  case hp4_24 =>
   intro wS hSw
   subst hSw
   exact fZ
  refine tkJ 25 (v := ?vp4_25) ?hp4_25 zq ?rp4_25
  case hp4_25 =>
   intro wS hSw
   subst hSw
   exact fZ
  refine tkJ 26 (v := ?vp4_26) ?hp4_26 zq ?rp4_26
  case hp4_26 =>
   intro wS hSw
   subst hSw
   exact fZ
  refine tkJ 27 (v := ?vp4_27) ?hp4_27 zq ?rp4_27
  case hp4_27 =>
   intro wS hSw
   subst hSw
   exact fZ
  refine tkJ 28 (v := ?vp4_28) ?hp4_28 zq ?rp4_28
  case hp4_28 =>
   intro wS hSw
   subst hSw
   exact fZ
  refine tkJ 29 (v := ?vp4_29) ?hp4_29 zq ?rp4_29
  case hp4_29 =>
   intro wS hSw
   subst hSw
   exact fZ
  refine tkJ 30 (v := ?vp4_30) ?hp4_30 zq ?rp4_30
  case hp4_30 =>
   intro wS hSw
   subst hSw
   exact fZ
  refine tkJ 31 (v := ?vp4_31) ?hp4_31 zq ?rp4_31
  case hp4_31 =>
   intro wS hSw
   subst hSw
   exact fZ
  refine tkJ 32 (v := ?vp4_32) ?hp4_32 zq ?rp4_32
  case hp4_32 =>
   intro wS hSw
   subst hSw
   exact fZ
  refine tkJ 33 (v := ?vp4_33) ?hp4_33 zq ?rp4_33
  case hp4_33 =>
   intro wS hSw
   subst hSw
   exact fZ
  refine tkJ 34 (v := ?vp4_34) ?hp4_34 zq ?rp4_34
  case hp4_34 =>
   intro wS hSw
   subst hSw
   exact fZ
  refine rdH 35 (fun K hK => ?_)
  go_simp
  go_at_call 58
  refine (uh L3 wD).mono ?_
  rintro e u1 ⟨rfl, h1⟩
  subst u1
  try go_wp2_with fail
  refine hK.out _ _ rfl (fun zq => ?_)
  clear hK K
  try simp only [Act.put, pz, py, px]
  refine tkJ 36 (v := ?vp4_36) ?hp4_36 zq ?rp4_36
  case hp4_36 =>
   intro wS hSw
   subst hSw
   exact fZ
  refine tkJ 37 (v := ?vp4_37) ?hp4_37 zq ?rp4_37
  case hp4_37 =>
   intro wS hSw
   subst hSw
   exact fZ
  refine tkJ 38 (v := ?vp4_38) ?hp4_38 zq ?rp4_38
  case hp4_38 =>
   intro wS hSw
   subst hSw
   exact fZ
  refine tkJ 39 (v := ?vp4_39) ?hp4_39 zq ?rp4_39
  case hp4_39 =>
   intro wS hSw
   subst hSw
   exact fZ
  refine tkJ 40 (v := ?vp4_40) ?hp4_40 zq ?rp4_40
  case hp4_40 =>
   intro wS hSw
   subst hSw
   exact fZ
  refine tkJ 41 (v := ?vp4_41) ?hp4_41 zq ?rp4_41
  case hp4_41 =>
   intro wS hSw
   subst hSw
   exact fZ
  refine tkJ 42 (v := ?vp4_42) ?hp4_42 zq ?rp4_42
  case hp4_42 =>
   intro wS hSw
   subst hSw
   exact fZ
  refine rdH 43 (fun K hK => ?_)
  go_simp
  go_at_call 58
  refine (uh L4 wD).mono ?_
  rintro e u1 ⟨rfl, h1⟩
  subst u1
  try go_wp2_with fail
  refine hK.out _ _ rfl (fun zq => ?_)
  clear hK K
  try simp only [Act.put, pz, py, px]
  refine tkJ 44 (v := ?vp4_44) ?hp4_44 zq ?rp4_44
  case hp4_44 =>
   intro wS hSw
   subst hSw
   exact fZ
  refine tkJ 45 (v := ?vp4_45) ?hp4_45 zq ?rp4_45
  case hp4_45 =>
   intro wS hSw
   subst hSw
   exact fZ
  refine dZ ?_
  clear zq
  go_wp2_with fail
  go_ret
  exact ⟨by rw [uh HP]; simp, uh HBD⟩
 go_wp2_with fail
 refine wZz (fun w' => w' = w.drew) rfl (fun zq => ?_)
 generalize w.drew = wD at zq y1 z0 z6 z7 z8 HBD ⊢
 refine tkJ 0 (v := ?vp5_0) ?hp5_0 zq ?rp5_0
 case hp5_0 =>
  intro wS hSw
  subst hSw
  exact fZ
 refine tkJ 1 (v := ?vp5_1) ?hp5_1 zq ?rp5_1
 case hp5_1 =>
  intro wS hSw
  subst hSw
  exact fZ
 refine tkJ 2 (v := ?vp5_2) ?hp5_2 zq ?rp5_2
 case hp5_2 =>
  intro wS hSw
  subst hSw
  exact fZ
 refine tkJ 3 (v := ?vp5_3) ?hp5_3 zq ?rp5_3
 case hp5_3 =>
  intro wS hSw
  subst hSw
  exact fZ
 refine rdH 4 (fun K hK => ?_)
 go_simp
 go_at_call 58
 refine (uh L1 wD).mono ?_
 rintro e u1 ⟨rfl, h1⟩
 subst u1
 try go_wp2_with fail
 refine hK.out _ _ rfl (fun zq => ?_)
 clear hK K
 try simp only [Act.put, pz, py, px]
 refine tkJ 5 (v := ?vp5_5) ?hp5_5 zq ?rp5_5
 case hp5_5 =>
  intro wS hSw
  subst hSw
  exact fZ
 refine tkJ 6 (v := ?vp5_6) ?hp5_6 zq ?rp5_6
 case hp5_6 =>
  intro wS hSw
  subst hSw
  exact fZ
 refine tkJ 7 (v := ?vp5_7) ?hp5_7 zq ?rp5_7
 case hp5_7 =>
  intro wS hSw
  subst hSw
  exact fZ
 refine tkJ 8 (v := ?vp5_8) ?hp5_8 zq ?rp5_8
 case hp5_8 =>
  intro wS hSw
  subst hSw
  exact fZ
 refine tkJ 9 (v := ?vp5_9) ?hp5_9 zq ?rp5_9
 case hp5_9 =>
  intro wS hSw
  subst hSw
  exact fZ
 refine tkJ 10 (v := ?vp5_10) ?hp5_10 zq ?rp5_10
 case hp5_10 =>
  intro wS hSw
  subst hSw
  exact fZ
 refine tkJ 11 (v := ?vp5_11) ?hp5_11 zq ?rp5_11
 case hp5_11 =>
  intro wS hSw
  subst hSw
  exact fZ
 refine tkJ 12 (v := ?vp5_12) ?hp5_12 zq ?rp5_12
 case hp5_12 =>
  intro wS hSw
  subst hSw
  exact fZ
 refine tkJ 13 (v := ?vp5_13) ?hp5_13 zq ?rp5_13
 case hp5_13 =>
  intro wS hSw
  subst hSw
  exact fZ
 refine rdH 14 (fun K hK => ?_)
 go_simp
 go_at_call 58
 refine (uh L2 wD).mono ?_
 rintro e u1 ⟨rfl, h1⟩
 subst u1
 try go_wp2_with fail
 refine hK.out _ _ rfl (fun zq => ?_)
 clear hK K
 try simp only [Act.put, pz, py, px]
 refine tkJ 15 (v := ?vp5_15) ?hp5_15 zq ?rp5_15
 case hp5_15 =>
  intro wS hSw
  subst hSw
  exact fZ
 refine tkJ 16 (v := ?vp5_16) ?hp5_16 zq ?rp5_16
 case hp5_16 =>
  intro wS hSw
  subst hSw
  exact fZ
 refine tkJ 17 (v := ?vp5_17) ?hp5_17 zq ?rp5_17
 case hp5_17 =>
  intro wS hSw
  subst hSw
  exact fZ
 refine tkJ 18 (v := ?vp5_18) ?hp5_18 zq ?rp5_18
 case hp5_18 =>
  intro wS hSw
  subst hSw
  exact fZ
 refine tkJ 19 (v := ?vp5_19) ?hp5_19 zq ?rp5_19
 case hp5_19 =>
  intro wS hSw
  subst hSw
  exact fZ
 refine tkJ 20 (v := ?vp5_20) ?hp5_20 zq ?rp5_20
 case hp5_20 =>
  intro wS hSw
  subst hSw
  exact fZ
 refine tkJ 21 (v := ?vp5_21) ?hp5_21 zq ?rp5_21
 case hp5_21 =>
  intro wS hSw
  subst hSw
  exact fZ
 refine tkJ 22 (v := ?vp5_22) ?hp5_22 zq ?rp5_22
 case hp5_22 =>
  intro wS hSw
  subst hSw
  exact fZ
 refine skH 23 zq ?_
 refine skH 24 zq ?_
 refine skH 25 zq ?_
 refine skH 26 zq ?_
 refine skH 27 zq ?_
 refine skH 28 zq ?_
 refine skH 29 zq ?_
 refine skH 30 zq ?_
 refine skH 31 zq ?_
 refine skH 32 zq ?_
 refine skH 33 zq ?_
 refine skH 34 zq ?_
 refine skH 35 zq ?_
 refine tkJ 36 (v := ?vp5_36) ?hp5_36 zq ?rp5_36
 case hp5_36 =>
  intro wS hSw
  subst hSw
  exact fZ
 refine tkJ 37 (v := ?vp5_37) ?hp5_37 zq ?rp5_37
 case hp5_37 =>
  intro wS hSw
  subst hSw
  exact fZ
 refine tkJ 38 (v := ?vp5_38) ?hp5_38 zq ?rp5_38
 case hp5_38 =>
  intro wS hSw
  subst hSw
  exact fZ
 refine tkJ 39 (v := ?vp5_39) ?hp5_39 zq ?rp5_39
 case hp5_39 =>
  intro wS hSw
  subst hSw
  exact fZ
 refine tkJ 40 (v := ?vp5_40) ?hp5_40 zq ?rp5_40
 case hp5_40 =>
  intro wS hSw
  subst hSw
  exact fZ
 refine tkJ 41 (v := ?vp5_41) ?hp5_41 zq ?rp5_41
 case hp5_41 =>
  intro wS hSw
  subst hSw
  exact fZ
 refine tkJ 42 (v := ?vp5_42) ?hp5_42 zq ?rp5_42
 case hp5_42 =>
  intro wS hSw
  subst hSw
  exact fZ
 refine rdH 43 (fun K hK => ?_)
 go_simp
 go_at_call 58
 refine (uh L4 wD).mono ?_
 rintro e u1 ⟨rfl, h1⟩
 subst u1
 try go_wp2_with fail
 refine hK.out _ _ rfl (fun zq => ?_)
 clear hK K
 try simp only [Act.put, pz, py, px]
 refine tkJ 44 (v := ?vp5_44) ?hp5_44 zq ?rp5_44
 case hp5_44 =>
  intro wS hSw
  subst hSw
  exact fZ
 refine tkJ 45 (v := ?vp5_45) ?hp5_45 zq ?rp5_45
 case hp5_45 =>
  intro wS hSw
  subst hSw
  exact fZ
 refine dZ ?_
 clear zq
 go_wp2_with fail
 go_ret
 exact ⟨by rw [uh HP]; simp, uh HBD⟩
theorem wh (a b : Int) (w : World) : Calls Tryz.prog 118 #[.int .i64 a, .int .i64 b] w fun e w' => e = .returned (.int .i64 (min a b)) ∧ w' = w := by
 by_cases h : a < b
 ·
  have hd : decide (a < b) = true := by simpa using h
  rw [show min a b = a by omega]
  go_enter Tryz.func118, Tryz.ntmps118
  go_wp2_with fail
  go_ret
  exact ⟨rfl, rfl⟩
 have hd : decide (a < b) = false := by simpa using h
 rw [show min a b = b by omega]
 go_enter Tryz.func118, Tryz.ntmps118
 go_wp2_with fail
 go_ret
 exact ⟨rfl, rfl⟩
theorem ab.gP.ext {α : Type} {A : ab α} {w w' : World} {v : Value} {xs : List α} {b : Nat} {r : List Nat} {S : Nat → Prop} (h : A.gP w v xs b r) (e : Ext S w w') (hb : ¬ S b) (hr : ∀ c ∈ r, ¬ S c) : A.gP w' v xs b r := by
 obtain ⟨hl, hn, hf⟩ := h
 have hlt := (ab.sl A).lt hl
 have hk : ∀ c ∈ b :: r, w'.heap[c]? = w.heap[c]? := fun c hc => e.block c (hlt c hc) (by
  rcases List.mem_cons.1 hc with rfl | hc
  ·
   exact hb
  exact hr c hc)
 exact ⟨(ab.sl A).aj hl hk, hn, fun o => (frozen_of_heap (hk b (by simp)) o).trans (hf o)⟩
structure tu where
 a3 : Option Addr
 d3 : Nat
 b : Nat
 off : Nat
 d4 : Nat
 a5 : Option Addr
 d5 : Nat
 a6 : Option Addr
 d6 : Nat
 l3 : List Nat
 r : List Nat
 l5 : List Nat
 l6 : List Nat
def tu.cells (q : tu) (x : ay) : List Value := [.int .i64 x.now, .int .i64 x.events, .int .i64 x.chain.ae, .slice q.a3 x.chain.ids.length q.d3, .slice (some ⟨q.b, q.off, none⟩) x.nodes.length q.d4, .slice q.a5 x.msgs.length q.d5, .slice q.a6 x.af.length q.d6]
structure nq (W : World) (q : tu) (x : ay) : Prop where
 w0 : (Lit.int .i64 x.now).wf = true
 w1 : (Lit.int .i64 x.events).wf = true
 w2 : (Lit.int .i64 x.chain.ae).wf = true
 i3 : (ab.sl ab.int).bD W [.slice q.a3 x.chain.ids.length q.d3] x.chain.ids q.l3
 i4 : ab.aA.gP W (.slice (some ⟨q.b, q.off, none⟩) x.nodes.length q.d4) x.nodes q.b q.r
 i5 : (ab.sl ab.aP).bD W [.slice q.a5 x.msgs.length q.d5] x.msgs q.l5
 i6 : (ab.sl ab.az).bD W [.slice q.a6 x.af.length q.d6] x.af q.l6
 n3 : q.b ∉ q.l3
 n5 : q.b ∉ q.l5
 n6 : q.b ∉ q.l6
def lz (W : World) (lo hi : Nat) (G : Nat → Prop) (cells : List Value) (x : ay) : Prop := ∃ q : tu, cells = q.cells x ∧ nq W q x ∧ (lo ≤ q.b ∧ q.b < hi) ∧ ¬ G q.b ∧ (∀ c ∈ q.l3, ¬ G c) ∧ (∀ c ∈ q.r, ¬ G c) ∧ (∀ c ∈ q.l5, ¬ G c) ∧ (∀ c ∈ q.l6, ¬ G c)
def mP (W : World) (lo hi : Nat) (cells : List Value) (x : ay) : Prop := ∃ q : tu, cells = q.cells x ∧ nq W q x ∧ (lo ≤ q.b ∧ q.b < hi) ∧ (∀ c ∈ q.l3, lo ≤ c ∧ c < hi) ∧ (∀ c ∈ q.r, lo ≤ c ∧ c < hi) ∧ (∀ c ∈ q.l5, lo ≤ c ∧ c < hi) ∧ (∀ c ∈ q.l6, lo ≤ c ∧ c < hi)
theorem nq.ext {W W' : World} {q : tu} {x : ay} {S : Nat → Prop} (h : nq W q x) (e : Ext S W W') (hs : ∀ c, c < W.heap.size → (c = q.b ∨ c ∈ q.l3 ∨ c ∈ q.r ∨ c ∈ q.l5 ∨ c ∈ q.l6) → ¬ S c) : nq W' q x := by
 have l3 := (ab.sl ab.int).lt h.i3
 have l4 := (ab.sl ab.aA).lt h.i4.1
 have l5 := (ab.sl ab.aP).lt h.i5
 have l6 := (ab.sl ab.az).lt h.i6
 exact ⟨h.w0, h.w1, h.w2, (ab.sl ab.int).aj h.i3 (fun c hc => e.block c (l3 c hc) (hs c (l3 c hc) (Or.inr (Or.inl hc)))),
  h.i4.ext e (hs q.b (l4 q.b (by simp)) (Or.inl rfl)) (fun c hc => hs c (l4 c (by simp [hc])) (Or.inr (Or.inr (Or.inl hc)))),
  (ab.sl ab.aP).aj h.i5 (fun c hc => e.block c (l5 c hc) (hs c (l5 c hc) (Or.inr (Or.inr (Or.inr (Or.inl hc)))))),
  (ab.sl ab.az).aj h.i6 (fun c hc => e.block c (l6 c hc) (hs c (l6 c hc) (Or.inr (Or.inr (Or.inr (Or.inr hc)))))), h.n3, h.n5, h.n6⟩
theorem nq.reads {W : World} {q : tu} {x : ay} (h : nq W q x) : ab.aH.Reads W (q.cells x) x :=
 ⟨q.l3 ++ ((q.b :: q.r) ++ (q.l5 ++ q.l6)), dj.2 ⟨q.a3, q.d3, q.l3, _, q.d4, _, q.a5, q.d5, q.l5, q.a6, q.d6, q.l6, rfl, rfl, h.w0, h.w1, h.w2, h.i3, h.i4.1, h.i5, h.i6⟩⟩
theorem lz.reads {W : World} {lo hi : Nat} {G : Nat → Prop} {cells : List Value} {x : ay} (h : lz W lo hi G cells x) : ab.aH.Reads W cells x := by
 obtain ⟨q, rfl, hl, -⟩ := h
 exact hl.reads
theorem lz.ext {S : Nat → Prop} {W W' : World} {lo hi : Nat} {G : Nat → Prop} {cells : List Value} {x : ay} (h : lz W lo hi G cells x) (e : Ext S W W') (hs : ∀ k, k < W.heap.size → ¬ G k → ¬ S k) : lz W' lo hi G cells x := by
 obtain ⟨q, rfl, hl, hb, h4, h3, hr, h5, h6⟩ := h
 refine ⟨q, rfl, hl.ext e (fun c hc hm => hs c hc ?_), hb, h4, h3, hr, h5, h6⟩
 rcases hm with rfl | hm | hm | hm | hm
 ·
  exact h4
 ·
  exact h3 c hm
 ·
  exact hr c hm
 ·
  exact h5 c hm
 exact h6 c hm
theorem lz.dY {W : World} {lo hi B : Nat} {G : Nat → Prop} {cells : List Value} {x : ay} (h : lz W lo hi G cells x) (hB : ∀ c, ¬ G c → B ≤ c) : ab.aH.cK W cells x B W.heap.size := by
 obtain ⟨q, rfl, hl, hb, h4, h3, hr, h5, h6⟩ := h
 refine ⟨q.l3 ++ ((q.b :: q.r) ++ (q.l5 ++ q.l6)), dj.2 ⟨q.a3, q.d3, q.l3, _, q.d4, _, q.a5, q.d5, q.l5, q.a6, q.d6, q.l6, rfl, rfl, hl.w0, hl.w1, hl.w2, hl.i3, hl.i4.1, hl.i5, hl.i6⟩, fun c hc => ?_⟩
 rcases List.mem_append.1 hc with hm | hm
 ·
  exact ⟨hB c (h3 c hm), (ab.sl ab.int).lt hl.i3 c hm⟩
 rcases List.mem_append.1 hm with hm | hm
 ·
  refine ⟨hB c ?_, (ab.sl ab.aA).lt hl.i4.1 c hm⟩
  rcases List.mem_cons.1 hm with rfl | hm
  ·
   exact h4
  exact hr c hm
 rcases List.mem_append.1 hm with hm | hm
 ·
  exact ⟨hB c (h5 c hm), (ab.sl ab.aP).lt hl.i5 c hm⟩
 exact ⟨hB c (h6 c hm), (ab.sl ab.az).lt hl.i6 c hm⟩
theorem sL {W : World} {m : Bool} {cells : List Value} {x : ay} {lo hi : Nat} (h : ab.aH.cK W cells x lo hi) : ab.aD.cK W ([.int .i64 0] ++ ([.bool m] ++ cells)) ⟨0, m, x⟩ lo hi := by
 obtain ⟨bl, l, hb⟩ := h
 exact ⟨bl, ⟨[.int .i64 0], [.bool m] ++ cells, [], bl, rfl, by simp, ⟨rfl, (show (Lit.int .i64 0).wf = true by decide), rfl⟩, ⟨[.bool m], cells, [], bl, rfl, by simp, ⟨rfl, rfl⟩, l⟩⟩, hb⟩
theorem lz.later {W W' : World} {lo hi : Nat} {G : Nat → Prop} {cells : List Value} {x : ay} (h : lz W lo hi G cells x) (hb : Below W.heap.size W W') : lz W' lo hi G cells x := h.ext (ak hb dk) fun _ _ _ q => q
theorem mP.later {W W' : World} {lo hi : Nat} {cells : List Value} {x : ay} (h : mP W lo hi cells x) (hb : Below W.heap.size W W') : mP W' lo hi cells x := by
 obtain ⟨q, rfl, hl, r⟩ := h
 exact ⟨q, rfl, hl.ext (ak hb dk) fun _ _ _ q => q, r⟩
theorem mP.reads {W : World} {lo hi : Nat} {cells : List Value} {x : ay} (h : mP W lo hi cells x) : ab.aH.Reads W cells x := by
 obtain ⟨q, rfl, hl, -⟩ := h
 exact hl.reads
theorem mP.st {W : World} {lo hi : Nat} {G : Nat → Prop} {cells : List Value} {x : ay} (h : mP W lo hi cells x) (hg : ∀ k, G k → hi ≤ k ∨ k < lo) : lz W lo hi G cells x := by
 obtain ⟨q, rfl, hl, hb, h3, hr, h5, h6⟩ := h
 exact ⟨q, rfl, hl, hb, fun e => by have := hg _ e; omega, fun c hm e => by have := h3 c hm; have := hg c e; omega, fun c hm e => by have := hr c hm; have := hg c e; omega, fun c hm e => by have := h5 c hm; have := hg c e; omega, fun c hm e => by have := h6 c hm; have := hg c e; omega⟩
theorem qG {W : World} {lo hi k : Nat} {G : Nat → Prop} {v3 v4 v5 v6 : Value} {y : ay} (h : lz W lo hi G [.int .i64 y.now, .int .i64 y.events, .int .i64 y.chain.ae, v3, v4, v5, v6] y) (hk : k < y.nodes.length) :
  ∃ b off d4 row0, v4 = .slice (some ⟨b, off, none⟩) y.nodes.length d4 ∧ lo ≤ b ∧ b < hi ∧ b < W.heap.size ∧ ¬ G b ∧ cX W W b (off + k * 7) 7 row0 [] ∧ (∃ blk0, ab.aA.bD W row0 y.nodes[k] blk0 ∧ ∀ c ∈ blk0, c ≠ b ∧ ¬ G c) ∧ (∀ V, Ext (fun q => q = b) W V → ab.aF.Reads V [.int .i64 y.chain.ae, v3] y.chain) ∧
   ∀ (W2 : World) (row : List Value) (n : aS) (blk : List Nat), ab.aA.bD W2 row n blk → (∀ c ∈ blk, c ≠ b ∧ ¬ G c) → cX W W2 b (off + k * 7) 7 row [] → lz W2 lo hi G [.int .i64 y.now, .int .i64 y.events, .int .i64 y.chain.ae, v3, v4, v5, v6] (na y k n) := by
 obtain ⟨q, hq, hl, h1, h4, h3, hr, h5, h6⟩ := h
 simp only [tu.cells, List.cons.injEq, and_true, true_and] at hq
 obtain ⟨rfl, rfl, rfl, rfl⟩ := hq
 obtain ⟨row0, hR0, blk0, hl0, hm0⟩ := hl.i4.row hk
 have hlt := (ab.sl ab.aA).lt hl.i4.1 q.b (by simp)
 refine ⟨q.b, q.off, q.d4, row0, rfl, h1.1, h1.2, hlt, h4, hR0, ⟨blk0, hl0, fun c hc => ⟨fun e => hl.i4.2.1 (e ▸ hm0 c hc), hr c (hm0 c hc)⟩⟩, fun V e => ?_, fun W2 row n blk hO hd hR => ?_⟩
 ·
  exact ⟨_, dF.2 ⟨q.a3, q.d3, _, rfl, rfl, hl.w2, (ab.sl ab.int).aj hl.i3 (fun c hc => e.block c ((ab.sl ab.int).lt hl.i3 c hc) (fun e2 => hl.n3 (e2 ▸ hc)))⟩⟩
 have hE : Ext (fun c => c = q.b) W W2 := hR.ext.mono (fun c _ e => by rcases e with e | e; exact e; cases e)
 obtain ⟨r', hA', hm', -⟩ := hl.i4.put hk (x' := n) hR hO (fun hc => (hd _ hc).1 rfl)
 have key : ∀ {α : Type} {A : ab α} {v : Value} {xs : List α} {bl : List Nat}, (ab.sl A).bD W [v] xs bl → q.b ∉ bl → (ab.sl A).bD W2 [v] xs bl := fun hli hni => (ab.sl _).aj hli (fun c hc => hE.block c ((ab.sl _).lt hli c hc) (fun e2 => hni (e2 ▸ hc)))
 refine ⟨⟨q.a3, q.d3, q.b, q.off, q.d4, q.a5, q.d5, q.a6, q.d6, q.l3, r', q.l5, q.l6⟩, by simp [tu.cells, na], ⟨hl.w0, hl.w1, hl.w2, key hl.i3 hl.n3, by simpa [na] using hA', key hl.i5 hl.n5, key hl.i6 hl.n6, hl.n3, hl.n5, hl.n6⟩, h1, h4, h3, fun c hc => ?_, h5, h6⟩
 rcases hm' c hc with e | e
 ·
  exact hr c e
 exact (hd c e).2
def wfM (n : aS) : Prop := (Lit.int .i64 n.id).wf = true ∧ (Lit.int .i64 n.ae).wf = true ∧ (Lit.int .i64 n.ar).wf = true ∧ (Lit.int .i64 n.sure).wf = true ∧ (Lit.int .i64 n.clean).wf = true
theorem vv {W : World} {lo hi k : Nat} {G : Nat → Prop} {v3 v4 v5 v6 : Value} {y : ay} (h : lz W lo hi G [.int .i64 y.now, .int .i64 y.events, .int .i64 y.chain.ae, v3, v4, v5, v6] y) (hk : k < y.nodes.length) :
  ∃ b off d4 an dn, v4 = .slice (some ⟨b, off, none⟩) y.nodes.length d4 ∧ lo ≤ b ∧ b < hi ∧ b < W.heap.size ∧ ¬ G b ∧ cX W W b (off + k * 7) 7 [.int .i64 y.nodes[k].id, .bool y.nodes[k].up, .int .i64 y.nodes[k].ae, .int .i64 y.nodes[k].ar, .slice an y.nodes[k].writes.length dn, .int .i64 y.nodes[k].sure, .int .i64 y.nodes[k].clean] [] ∧ wfM y.nodes[k] ∧ (∀ V, Ext (fun q => q = b) W V → ab.aF.Reads V [.int .i64 y.chain.ae, v3] y.chain) ∧ ab.aA.Reads W [.int .i64 y.nodes[k].id, .bool y.nodes[k].up, .int .i64 y.nodes[k].ae, .int .i64 y.nodes[k].ar, .slice an y.nodes[k].writes.length dn, .int .i64 y.nodes[k].sure, .int .i64 y.nodes[k].clean] y.nodes[k] ∧
   ∀ (W2 : World) (n : aS), n.writes = y.nodes[k].writes → wfM n → cX W W2 b (off + k * 7) 7 [.int .i64 n.id, .bool n.up, .int .i64 n.ae, .int .i64 n.ar, .slice an y.nodes[k].writes.length dn, .int .i64 n.sure, .int .i64 n.clean] [] → lz W2 lo hi G [.int .i64 y.now, .int .i64 y.events, .int .i64 y.chain.ae, v3, v4, v5, v6] (na y k n) := by
 obtain ⟨b, off, d4, row0, rfl, h1, h2, h3, h4, hR, ⟨blk, hl, hd⟩, hc, hput⟩ := qG h hk
 have hl2 := hl
 obtain ⟨an, dn, gn, rfl, rfl, n0, n2, n3, hw, n5, n6⟩ := cC.1 hl
 refine ⟨b, off, d4, an, dn, rfl, h1, h2, h3, h4, hR, ⟨n0, n2, n3, n5, n6⟩, hc, ⟨_, hl2⟩, fun W2 n hn hwf hR2 => ?_⟩
 have hE : Ext (fun c => c = b) W W2 := hR2.ext.mono (fun c _ e => by rcases e with e | e; exact e; cases e)
 have hw2 := (ab.sl ab.ai).aj hw (fun c hc => hE.block c ((ab.sl ab.ai).lt hw c hc) (fun e => (hd c hc).1 e))
 obtain ⟨m0, m2, m3, m5, m6⟩ := hwf
 refine hput W2 _ n _ (cC.2 ⟨an, dn, _, by rw [hn], rfl, m0, m2, m3, by rw [hn]; exact hw2, m5, m6⟩) hd hR2
def Clear {α : Type} (A : ab α) (w : World) (v : Value) (xs : List α) (lo hi g : Nat) : Prop := ∃ bl, (ab.sl A).bD w [v] xs bl ∧ ∀ b ∈ bl, lo ≤ b ∧ b < hi ∧ b ≠ g
theorem Clear.reads {α : Type} {A : ab α} {w : World} {v : Value} {xs : List α} {lo hi g : Nat} (h : Clear A w v xs lo hi g) : (ab.sl A).Reads w [v] xs := by
 obtain ⟨bl, l, -⟩ := h
 exact ⟨bl, l⟩
theorem Clear.ext {α : Type} {A : ab α} {w w' : World} {v : Value} {xs : List α} {lo hi g : Nat} {S : Nat → Prop} (h : Clear A w v xs lo hi g) (e : Ext S w w') (hs : ∀ k, lo ≤ k → k < hi → k ≠ g → ¬ S k) : Clear A w' v xs lo hi g := by
 obtain ⟨bl, l, hb⟩ := h
 exact ⟨bl, A.sl.aj l (fun b hm => e.block b (A.sl.lt l b hm) (hs b (hb b hm).1 (hb b hm).2.1 (hb b hm).2.2)), hb⟩
theorem Clear.wide {α : Type} {A : ab α} {w : World} {v : Value} {xs : List α} {lo hi lo' hi' g : Nat} (h : Clear A w v xs lo hi g) (h1 : lo' ≤ lo) (h2 : hi ≤ hi') : Clear A w v xs lo' hi' g := by
 obtain ⟨bl, l, hb⟩ := h
 exact ⟨bl, l, fun b hm => ⟨by have := hb b hm; omega, by have := hb b hm; omega, (hb b hm).2.2⟩⟩
theorem fP {α : Type} {A : ab α} {w : World} {v : Value} {xs : List α} {lo hi g : Nat} (h : (ab.sl A).cK w [v] xs lo hi) (hg : g < lo ∨ hi ≤ g) : Clear A w v xs lo hi g := by
 obtain ⟨bl, l, hb⟩ := h
 exact ⟨bl, l, fun b hm => ⟨(hb b hm).1, (hb b hm).2, by have := hb b hm; omega⟩⟩
theorem ox (cs : List Value) (x : bx) (w : World) (h : ab.aF.Reads w cs x) (hn : x.ids.length ≤ 100000000) :
  Calls Tryz.prog 149 #[.agg cs.toArray] w fun e w' => ∃ a c, e = .returned (.agg #[.int .i64 x.ae, .slice a x.ids.length c]) ∧ (ab.sl ab.int).aL w' [.slice a x.ids.length c] x.ids w.heap.size w'.heap.size ∧ Below w.heap.size w w' := by
 obtain ⟨a3, d3, rfl, R3⟩ := cl h
 have nb : Below w.heap.size w ((w.alloc (.cells #[.int .i64 x.ae, .slice a3 x.ids.length d3] 34)).alloc (.cells #[.int .i64 0, .slice none 0 0] 34)) := ((Below.refl _ _).alloc (Nat.le_refl _) _).alloc (by simp) _
 have HX : Hid (ag 0 #[.int .i64 x.ae, .slice a3 x.ids.length d3] 34 ((w.alloc (.cells #[.int .i64 x.ae, .slice a3 x.ids.length d3] 34)).alloc (.cells #[.int .i64 0, .slice none 0 0] 34)) w.heap.size) := (aC (Nat.zero_le _)).grow _
 have HY : Hid (ag 0 #[.int .i64 0, .slice none 0 0] 34 ((w.alloc (.cells #[.int .i64 x.ae, .slice a3 x.ids.length d3] 34)).alloc (.cells #[.int .i64 0, .slice none 0 0] 34)) (w.heap.size + 1)) := bb (Nat.zero_le _) (by simp)
 have hz0 : w.heap.size + 1 < ((w.alloc (.cells #[.int .i64 x.ae, .slice a3 x.ids.length d3] 34)).alloc (.cells #[.int .i64 0, .slice none 0 0] 34)).heap.size := by simp
 have HL := yh (iX _ x.ids _ (ab.bf (R3.later nb)) hn)
 have HWF := yh (ab.bf R3).wf
 have HN := yh hn
 have HB := yh nb
 clear nb h R3 hn
 go_enter Tryz.func149, Tryz.ntmps149
 go_upto_region 1 with fail
 generalize (w.alloc (.cells #[.int .i64 x.ae, .slice a3 x.ids.length d3] 34)).alloc (.cells #[.int .i64 0, .slice none 0 0] 34) = W0 at *
 have z0 := ag.at (uh HX) 0 _ rfl
 have z1 := ag.at (uh HX) 1 _ rfl
 simp only [ga, gb, gc] at z0 z1
 have zl := (uh HX).lt
 go_wp2_with fail
 refine (uh HL).mono ?_
 rintro e w1 ⟨v', rfl, O, hb⟩
 obtain ⟨a, c, rfl⟩ := eW O
 have hx := (uh HX).aj hb
 have hy := (uh HY).aj hb
 clear z0 z1 zl
 have z0 := ag.at hx 0 _ rfl
 have z1 := ag.at hx 1 _ rfl
 have y0 := ag.at hy 0 _ rfl
 have y1 := ag.at hy 1 _ rfl
 simp only [ga, gb, gc] at z0 z1 y0 y1
 have zf := ag.soft hx
 have zl := hx.lt
 have yf := ag.soft hy
 have yl := hy.lt
 have hI := ab.eV (uh HWF) (by have := uh HN; omega) O
 have e1 : Ext (fun q => q = w.heap.size ∨ q = w.heap.size + 1) w1 (((w1.setCell ⟨w.heap.size, 1, none⟩ (.slice a x.ids.length c)).setCell ⟨w.heap.size + 1, 0, none⟩ (.int .i64 x.ae)).setCell ⟨w.heap.size + 1, 1, none⟩ (.slice a x.ids.length c)) :=
  (((Ext.refl _ _).setCell _ _ (Or.inl rfl)).setCell _ _ (Or.inr rfl)).setCell _ _ (Or.inr rfl)
 have HI := yh ((hI.ext e1 (fun q h1 h2 h3 => by omega)).mono (show w.heap.size ≤ W0.heap.size by omega) (show w1.heap.size ≤ (((w1.setCell ⟨w.heap.size, 1, none⟩ (.slice a x.ids.length c)).setCell ⟨w.heap.size + 1, 0, none⟩ (.int .i64 x.ae)).setCell ⟨w.heap.size + 1, 1, none⟩ (.slice a x.ids.length c)).heap.size by simp))
 have HB9 := yh (((((uh HB).trans (hb.mono (uh HB).size)).setCell (p := ⟨w.heap.size, 1, none⟩) (Nat.le_refl _) (.slice a x.ids.length c)).setCell (p := ⟨w.heap.size + 1, 0, none⟩) (by simp) (.int .i64 x.ae)).setCell (p := ⟨w.heap.size + 1, 1, none⟩) (by simp) (.slice a x.ids.length c))
 clear hx hy hb O hI e1 HL HX HY HB
 go_wp2_with fail
 refine bodyPost_ret (v := .agg #[.int .i64 x.ae, .slice a x.ids.length c]) (by simp [results, Tryz.results149, go_sem, y0, y1]) rfl ?_
 exact ⟨a, c, rfl, uh HI, uh HB9⟩
theorem ph : (Tryz.prog.info? 60).map (fun i => (i.zero, i.size, i.bytes)) = some (some (.agg #[.int .i64 0, .int .i64 0, .int .i64 0, .int .i64 0, .int .i64 0, .int .i64 0, .int .i64 0, .slice none 0 0, .int .i64 0, .int .i64 0]), 10, 96) := by kernel_rfl
theorem ux {w : World} {row : List Value} {x : bu} {bl : List Nat} (h : ab.aP.bD w row x bl) : (∀ u ∈ row, u.oneCell' = true) ∧ row.length = 1 * 10 := by
 obtain ⟨_, _, _, rfl, -⟩ := dT.1 h
 simp [Value.oneCell']
theorem iI {w1 : World} {base : Nat} {v : Value} {rows : List (List Value)} {xs : List bu} {bls : List (List Nat)} (hG : ck ab.aP w1 base 60 v rows xs bls) {row : List Value} {x : bu} {bl : List Nat} (hl : ab.aP.bD w1 row x bl) (hbl : ∀ b ∈ bl, v.ownBlock ≠ some b) {ops : Array Oper} {rest : List Oper} {o : Oper} {a : Act} {Q : Exit → Act → World → Prop} (hgd : o.guard = none) (s y : Operand)
  (ho : o.op = .call { callee := .builtin .append, args := #[s, y], argTypes := #[36, 36] }) (hs : a.eval s = v) (hy : a.eval y = .slice (some ⟨w1.heap.size, 0, none⟩) 1 1) (hn : xs.length + 1 ≤ 100000000) (hbase : base ≤ w1.heap.size)
  (h : ∀ g cap w', ck ab.aP w' base 60 (.slice (some ⟨g, 0, none⟩) (xs.length + 1) cap) (rows ++ [row]) (xs ++ [x]) (bls ++ [bl]) → Below base w1 w' → Ext (fun q => v.ownBlock = some q) w1 w' → g < w'.heap.size → w1.heap.size ≤ w'.heap.size → (v.ownBlock = some g ∨ w1.heap.size ≤ g) → wpList Tryz.prog ops Q rest (a.put o.dst (.slice (some ⟨g, 0, none⟩) (xs.length + 1) cap)) w') :
  wpList Tryz.prog ops Q (o :: rest) a (w1.alloc (.cells row.toArray 60)) := by
 obtain ⟨i0, hi0, hz0, hz1, hz2⟩ := info_parts ph
 obtain ⟨h1, hlen⟩ := ux hl
 refine wpList_append_lies _ hgd s y 36 ho base 60 i0 _ 10 96 Tryz.underlying36 hi0 hz0 hz1 hz2 rfl (by omega) v xs.length rows.flatten hs (hG.own.alloc _) ⟨w1.heap.size, 0, none⟩ 1 1 row hy hlen (World.news_of_block (cs := row.toArray) (t := 60) (fr := (0, 0)) (heap_alloc_new w1 _)) h1 (by omega) (by unfold maxLen; omega) (by omega) (by simp; omega) (w1.alloc (.cells row.toArray 60)).heap.size rfl ?_
 intro g cap w' h2 h3 h4 h5
 have hg := ed h3
 have hbw : Below base w1 w' := (Below.refl _ _).grown hg hbase (fun j hj => (hG.own.lt j hj).1)
 have hor : v.ownBlock = some g ∨ w1.heap.size ≤ g := by
  rcases h4 with h4 | h4
  ·
   exact Or.inl h4
  exact Or.inr (by rw [h4]; simp)
 exact h g cap w' (hG.snoc hl hbl h2 hg hor) hbw ⟨hbw.os, hbw.tape, hbw.output, hbw.size, fun k hk hn => hg.block k hk (fun e => hn e.symm)⟩ h5 hbw.size hor
end Go.Proofs.YtomphbenbnnfgaaGreatDoor
