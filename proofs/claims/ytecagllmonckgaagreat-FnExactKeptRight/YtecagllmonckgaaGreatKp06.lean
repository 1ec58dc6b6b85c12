/-
  Texts of this proof in one: ImplChainF, ImplUpTo, NodeEqs, TickMap, ToldPlain, AppInt, AppWrite, ImplTell, VecOf, ImplDeed.
  Their conditions stand in their theorems.
-/
import Derived.Test.YtecagllmonckgaaGreatChecked
import Derived.Test.YtecagllmonckgaaGreatKp05
import Derived.Deep.CutRange
import Derived.Test.YtecagllmonckgaaGreatKp00
import Derived.Test.YtecagllmonckgaaGreatKp01
import Derived.Maps.OwnSet
import Derived.DeepKeys4
import Derived.Deep.AppendLies
import Derived.Deep.RegionHeld3
import Derived.WalkSmall
import Derived.Outline
set_option maxRecDepth 100000
set_option maxHeartbeats 4000000
namespace Go.Proofs.YtecagllmonckgaaGreat
open Go.RowKit
theorem dK (n : Int) (w : World) :
  Calls Tryz.prog 179 #[.int .i64 n] w fun e w' => e = .returned (.bool (decide (1 ≤ n) && decide (n ≤ 5))) ∧ w' = w := by
 by_cases h1 : 1 ≤ n
 ·
  have d1 : decide (1 ≤ n) = true := by simpa using h1
  rw [d1]
  cases d2 : decide (n ≤ 5) <;>
  ·
   go_enter Tryz.func179, Tryz.ntmps179
   go_wp2_with fail
   go_ret
   exact ⟨rfl, rfl⟩
 have d1 : decide (1 ≤ n) = false := by simpa using h1
 rw [d1]
 go_enter Tryz.func179, Tryz.ntmps179
 go_wp2_with fail
 go_ret
 exact ⟨rfl, rfl⟩
theorem lI (v : Value) (ids : List Int) (id : Int) (w : World) (R : (ad.sl ad.int).Reads w [v] ids) :
  Calls Tryz.prog 256 #[v, .int .i64 id] w fun e w' => e = .returned (.int .i64 (aR ids id)) ∧ w' = w := by
 obtain ⟨ao, cap, rfl⟩ := aB R
 have hbig := R.da
 have H := yh R
 clear R
 go_enter Tryz.func256, Tryz.ntmps256
 go_wp2_with fail
 go_loop [8] (fun i => ∃ k : Nat, k ≤ ids.length ∧ i = .int .i64 k ∧ (∀ j (hj : j < ids.length), j < k → ids[j] ≠ id)) (fun i => ids.length - (intOf i).toNat)
 case atStart => exact ⟨0, Nat.zero_le _, rfl, fun j _ h => by omega⟩
 case round =>
  obtain ⟨k, hk, rfl, hz⟩ := hrel
  by_cases hlt : k < ids.length
  ·
   obtain ⟨b2, off, rfl, -⟩ := ad.aF (uh H) (by omega)
   have c1 := cm (uh H) hlt
   cases hq : (id == ids[k])
   ·
    have HZ : Hid (∀ j (hj : j < ids.length), j < k + 1 → ids[j] ≠ id) := fun j hj hjk => by
     by_cases h2 : j < k
     ·
      exact hz j hj h2
     obtain rfl : j = k := by omega
     intro h3
     rw [h3] at hq
     simp at hq
    clear hz
    generalize ids[k] = z at *
    go_wp2_with fail
    go_round
    case rel => exact ⟨k + 1, by omega, by go_num, uh HZ⟩
    case measure => simp [intOf]; omega
   have HP := yh (eh hlt (beq_iff_eq.1 hq).symm (fun j hj => hz j (by omega) hj))
   clear hz
   generalize ids[k] = z at *
   go_wp2_with fail
   go_ret
   exact ⟨by rw [uh HP]; rfl, rfl⟩
  obtain rfl : k = ids.length := by omega
  have HP := yh (et (id := id) (fun j hj => hz j hj hj))
  clear hz
  go_wp2_with fail
  go_ret
  exact ⟨by rw [uh HP]; rfl, rfl⟩
theorem fU (v : Value) (ids : List Int) (id : Int) (w : World) (R : (ad.sl ad.int).Reads w [v] ids) :
  Calls Tryz.prog 226 #[v, .int .i64 id] w fun e w' => e = .returned (.bool (decide (0 ≤ aR ids id))) ∧ w' = w := by
 have HL := yh (lI v ids id w R)
 obtain ⟨ao, cap, rfl⟩ := aB R
 generalize aR ids id = n at *
 clear R
 go_enter Tryz.func226, Tryz.ntmps226
 go_wp2_with fail
 refine (uh HL).mono ?_
 rintro e w1 ⟨rfl, h1⟩
 subst w1
 clear HL
 go_wp2_with fail
 go_ret
 exact ⟨rfl, rfl⟩
def cd (ids : List Int) : Int := if 1 ≤ ids.length ∧ ids.length ≤ 5 then dP [] ids else 2
theorem fq {ids : List Int} (h : (decide (1 ≤ (ids.length : Int)) && decide ((ids.length : Int) ≤ 5)) = false) : cd ids = 2 := by
 rw [cd, if_neg]
 intro h2
 rw [decide_eq_true (by omega), decide_eq_true (by omega)] at h
 simp at h
theorem fw {ids : List Int} (h : (decide (1 ≤ (ids.length : Int)) && decide ((ids.length : Int) ≤ 5)) = true) : cd ids = dP (ids.take 0) (ids.drop 0) := by
 rw [cd, if_pos]
 ·
  simp
 simp at h
 omega
theorem iZ (ids : List Int) (z : Int) : decide (0 ≤ aR ids z) = true ↔ z ∈ ids := by
 have h := eU ids z
 rw [decide_eq_true_iff]
 constructor
 ·
  intro h1
  refine Decidable.byContradiction fun h2 => ?_
  have := h.2 h2
  omega
 intro h1
 refine Decidable.byContradiction fun h2 => ?_
 exact h.1 (by omega) h1
theorem jk (v : Value) (ids : List Int) (w : World) (R : (ad.sl ad.int).Reads w [v] ids) :
  Calls Tryz.prog 178 #[v] w fun e w' => e = .returned (.int .i64 (cd ids)) ∧ w' = w := by
 obtain ⟨ao, cap, rfl⟩ := aB R
 have hbig := R.da
 have hcap := R.cap
 have H := yh R
 clear R
 go_enter Tryz.func178, Tryz.ntmps178
 go_wp2_with fail
 refine (dK (ids.length : Int) w).mono ?_
 rintro e w1 ⟨rfl, h1⟩
 subst w1
 cases d1 : (decide (1 ≤ (ids.length : Int)) && decide ((ids.length : Int) ≤ 5))
 ·
  have HF := yh (fq d1)
  clear d1
  go_wp2_with fail
  go_ret
  exact ⟨by rw [uh HF]; rfl, rfl⟩
 have HF := yh (fw d1)
 clear d1
 go_wp2_with fail
 go_loop [11] (fun i => ∃ k : Nat, k ≤ ids.length ∧ i = .int .i64 k ∧ cd ids = dP (ids.take k) (ids.drop k)) (fun i => ids.length - (intOf i).toNat)
 case atStart => exact ⟨0, Nat.zero_le _, rfl, uh HF⟩
 case round =>
  obtain ⟨k, hk, rfl, hz⟩ := hrel
  clear HF
  by_cases hlt : k < ids.length
  ·
   rw [fG ids k hlt] at hz
   obtain ⟨b2, off, rfl, -⟩ := ad.aF (uh H) (by omega)
   have c1 := cm (uh H) hlt
   have HC := yh (fU (.slice (some ⟨b2, off, none⟩) k cap) (ids.take k) ids[k] w (iP (uh H) k (by omega)))
   have HM := yh (iZ (ids.take k) ids[k])
   have hdl : decide ((k : Int) < (ids.length : Int)) = true := by simp; omega
   have HZ := yh hz
   have hkc : k ≤ cap := by omega
   clear hz
   generalize ids[k] = z at *
   generalize ids.take k = zk at *
   go_wp2_with fail
   refine (bK z w).mono ?_
   rintro e w1 ⟨rfl, h1⟩
   subst w1
   cases d2 : (decide (1 ≤ z) && decide (z ≤ 5))
   ·
    have hz := uh HZ
    rw [if_neg (by intro h; simp at d2; omega)] at hz
    have HF := yh hz
    clear hz HZ d2
    go_wp2_with fail
    go_ret
    exact ⟨by rw [uh HF]; rfl, rfl⟩
   have hz := uh HZ
   rw [if_pos (by simpa using d2)] at hz
   clear HZ d2
   have HZ := yh hz
   clear hz
   go_wp2_with fail
   refine (uh HC).mono ?_
   rintro e w1 ⟨rfl, h1⟩
   subst w1
   cases d3 : decide (0 ≤ aR zk z)
   ·
    have hz := uh HZ
    rw [if_neg (fun hm => by rw [(uh HM).2 hm] at d3; simp at d3)] at hz
    have HF := yh hz
    clear hz HZ d3 HM HC
    go_wp2_with fail
    go_round
    case rel => exact ⟨k + 1, by omega, by go_num, uh HF⟩
    case measure => simp [intOf]; omega
   have hz := uh HZ
   rw [if_pos ((uh HM).1 d3)] at hz
   have HF := yh hz
   clear hz HZ d3 HM HC
   go_wp2_with fail
   go_ret
   exact ⟨by rw [uh HF]; rfl, rfl⟩
  obtain rfl : k = ids.length := by omega
  rw [gw] at hz
  have HF := yh hz
  clear hz
  go_wp2_with fail
  go_ret
  exact ⟨by rw [uh HF]; rfl, rfl⟩
theorem kL {x : ba} (h : (decide (1 ≤ x.ab) && decide (x.ab ≤ 999)) = false) : ax x = 3 := by rw [ax, if_neg (by simp at h; omega)]
theorem kR {x : ba} (h : (decide (1 ≤ x.ab) && decide (x.ab ≤ 999)) = true) : ax x = cd x.ids := by rw [ax, if_pos (by simp at h; omega), cd]
theorem fk (cs : List Value) (x : ba) (w : World) (h : ad.aY.Reads w cs x) :
  Calls Tryz.prog 114 #[.agg cs.toArray] w fun e w' => e = .returned (.int .i64 (ax x)) ∧ Below w.heap.size w w' := by
 obtain ⟨a, d, rfl, R⟩ := bb h
 have nb : Below w.heap.size w (w.alloc (.cells #[.int .i64 x.ab, .slice a x.ids.length d] 32)) := (Below.refl _ _).alloc (Nat.le_refl _) _
 have HR := yh (R.af nb)
 have HB := yh nb
 have HX : Hid (aj 0 #[.int .i64 x.ab, .slice a x.ids.length d] 32 (w.alloc (.cells #[.int .i64 x.ab, .slice a x.ids.length d] 32)) w.heap.size) := aI (Nat.zero_le _)
 clear R h nb
 go_enter Tryz.func114, Tryz.ntmps114
 go_upto_region 1 with fail
 generalize w.alloc (.cells #[.int .i64 x.ab, .slice a x.ids.length d] 32) = W at *
 have z0 : W.cell? ⟨w.heap.size, 0, none⟩ = some (.int .i64 x.ab) := (uh HX).at 0 _ rfl
 have z1 : W.cell? ⟨w.heap.size, 1, none⟩ = some (.slice a x.ids.length d) := (uh HX).at 1 _ rfl
 clear HX
 cases d1 : (decide (1 ≤ x.ab) && decide (x.ab ≤ 999))
 ·
  have HF := yh (kL d1)
  have L := yh (bJ x.ab W)
  rw [d1] at L
  clear d1
  go_wp2_with fail
  refine (uh L).mono ?_
  rintro e w1 ⟨rfl, h1⟩
  subst w1
  clear L
  go_wp2_with fail
  go_ret
  exact ⟨by rw [uh HF]; rfl, uh HB⟩
 have HF := yh (kR d1)
 have L := yh (bJ x.ab W)
 rw [d1] at L
 clear d1
 go_wp2_with fail
 refine (uh L).mono ?_
 rintro e w1 ⟨rfl, h1⟩
 subst w1
 clear L
 have L := yh (jk _ x.ids _ (uh HR))
 go_wp2_with fail
 refine (uh L).mono ?_
 rintro e w1 ⟨rfl, h1⟩
 subst w1
 clear L
 go_wp2_with fail
 go_ret
 exact ⟨by rw [uh HF]; rfl, uh HB⟩
theorem cx (n m : Int) (w : World) :
  Calls Tryz.prog 113 #[.int .i64 n, .int .i64 m] w fun e w' => e = .returned (.bool (decide (0 ≤ n) && decide (n ≤ m))) ∧ w' = w := by
 by_cases h1 : 0 ≤ n
 ·
  have d1 : decide (0 ≤ n) = true := by simpa using h1
  rw [d1]
  cases d2 : decide (n ≤ m) <;>
  ·
   go_enter Tryz.func113, Tryz.ntmps113
   go_wp2_with fail
   go_ret
   exact ⟨rfl, rfl⟩
 have d1 : decide (0 ≤ n) = false := by simpa using h1
 rw [d1]
 go_enter Tryz.func113, Tryz.ntmps113
 go_wp2_with fail
 go_ret
 exact ⟨rfl, rfl⟩
def bn (ws : List ai) : Int := if 40 < ws.length then 2 else if bh ws ≠ 0 then bh ws else if bH [] ws = false then 6 else 0
def bW (x : bu) : Bool := (x.sure == (x.writes.length : Int)) && (x.clean == 0 && x.ak == 0)
theorem lu {x : bu} (h : (decide (1 ≤ x.id) && decide (x.id ≤ 5)) = false) : aC x = 3 := by
 simp only [Bool.and_eq_false_iff, decide_eq_false_iff_not] at h
 rw [aC, if_neg (by omega)]
theorem hZ {x : bu} (h : (decide (0 ≤ x.ab) && decide (x.ab ≤ 999)) = false) : aC x = 3 := by
 simp only [Bool.and_eq_false_iff, decide_eq_false_iff_not] at h
 rw [aC, if_neg (by omega)]
theorem gG {x : bu} (h : (decide (0 ≤ x.ak) && decide (x.ak ≤ 9999)) = false) : aC x = 3 := by
 simp only [Bool.and_eq_false_iff, decide_eq_false_iff_not] at h
 rw [aC, if_neg (by omega)]
theorem iY {x : bu} (h1 : (decide (1 ≤ x.id) && decide (x.id ≤ 5)) = true) (h2 : (decide (0 ≤ x.ab) && decide (x.ab ≤ 999)) = true) (h3 : (decide (0 ≤ x.ak) && decide (x.ak ≤ 9999)) = true) :
  aC x = if bn x.writes ≠ 0 then bn x.writes else if (decide (0 ≤ x.sure) && decide (x.sure ≤ (x.writes.length : Int))) = true ∧ (decide (0 ≤ x.clean) && decide (x.clean ≤ x.sure)) = true then (if x.up = false ∧ bW x = false then 1 else 0) else 3 := by
 simp only [Bool.and_eq_true, decide_eq_true_eq] at *
 rw [aC, if_pos (by omega), bn]
 by_cases q1 : 40 < x.writes.length
 ·
  simp only [if_pos q1]; rfl
 simp only [if_neg q1]
 by_cases q2 : bh x.writes ≠ 0
 ·
  simp only [if_pos q2]
 simp only [if_neg q2]
 by_cases q3 : bH [] x.writes = false
 ·
  simp only [if_pos q3]; rfl
 simp only [if_neg q3]
 rw [if_neg (by simp : ¬ ((0 : Int) ≠ 0))]
 have e1 : (0 ≤ x.sure ∧ x.sure ≤ (x.writes.length : Int) ∧ 0 ≤ x.clean ∧ x.clean ≤ x.sure) ↔ ((0 ≤ x.sure ∧ x.sure ≤ (x.writes.length : Int)) ∧ 0 ≤ x.clean ∧ x.clean ≤ x.sure) := by constructor <;> (intro h; omega)
 have e2 : ¬ (x.sure = (x.writes.length : Int) ∧ x.clean = 0 ∧ x.ak = 0) ↔ bW x = false := by
  unfold bW
  rw [← Bool.not_eq_true]
  simp
 simp only [e1, e2]
end Go.Proofs.YtecagllmonckgaaGreat

namespace Go.Proofs.YtecagllmonckgaaGreat
open Go.RowKit Go.Maps
def tick (s q : Int) : Value := .agg #[.int .i64 s, .int .i64 q]
theorem jQ : laidOutB Tryz.prog = true := by kernel_rfl
theorem iS : (117 : TypeId) < Tryz.prog.types.size := of_decide_eq_true (by kernel_rfl)
theorem kk : (match Tryz.prog.underlying 117 with | some (.array _ _) | some (.struct _) => true | _ => false) = true := by kernel_rfl
theorem eb : Keyed Tryz.prog 117 := Keyed.of_law (deep_law_laid jQ (m := 2) (by omega) iS (by kernel_rfl) kk)
theorem eM {s q : Int} (hs : (Lit.int .i64 s).wf = true) (hq : (Lit.int .i64 q).wf = true) : keyOf Tryz.prog 117 (tick s q) = some (.string (keyBytes [.int .i64 s, .int .i64 q])) := by
 have hk : Tryz.prog.keyType 117 = true := by kernel_rfl
 have hc : Tryz.prog.cellsOf 117 = 2 := by kernel_rfl
 have hc1 : Tryz.prog.cellsOf 2 = 1 := by kernel_rfl
 have hf : (tick s q).formed Tryz.prog 117 = true := by simp [tick, Value.formed, Tryz.underlying117, hc]
 obtain ⟨m, hm⟩ : ∃ m, Tryz.prog.types.size = m + 1 := ⟨_, (Nat.succ_pred_eq_of_pos (Nat.lt_of_le_of_lt (Nat.zero_le _) iS)).symm⟩
 unfold keyOf
 simp only [Tryz.underlying117]
 rw [if_pos (by rw [hk, hf]; rfl), hm]
 unfold Program.keyLits
 simp only [Tryz.underlying117, tick, Value.cells]
 simp [hc, hc1, Program.keyLits, Tryz.underlying2, hs, hq]
theorem jJ (w : World) : (zeroValue 2).run Tryz.prog w = .ok (.int .i64 0) w := by kernel_rfl
def cf (w : World) (b n : Nat) (f : Int → Int → Nat) : Prop := ∃ D : DataW Unit, w.ownsMap Tryz.prog 117 (plainElem Tryz.prog 2) b n D ∧
 ∀ s q, (Lit.int .i64 s).wf = true → (Lit.int .i64 q).wf = true → Maps.has D (.string (keyBytes [.int .i64 s, .int .i64 q])) = decide (f s q ≠ 0) ∧ D.atKey (.string (keyBytes [.int .i64 s, .int .i64 q])) (.lit (.int .i64 0)) = .lit (.int .i64 (f s q))
theorem cf.ext {S : Nat → Prop} {w w' : World} {b n : Nat} {f : Int → Int → Nat} (h : cf w b n f) (e : Ext S w w') (hb : ¬ S b) : cf w' b n f := by
 obtain ⟨D, h, r⟩ := h
 have hlt := World.ownsMap.lt h
 obtain ⟨es, clock, hb', r'⟩ := h
 exact ⟨D, ⟨es, clock, (e.block b hlt hb).trans hb', r'⟩, r⟩
theorem cf.lt {w : World} {b n : Nat} {f : Int → Int → Nat} (h : cf w b n f) : b < w.heap.size := by
 obtain ⟨D, h, -⟩ := h
 exact World.ownsMap.lt h
theorem cf.mono {w : World} {b n n' : Nat} {f : Int → Int → Nat} (h : cf w b n f) (hn : n ≤ n') : cf w b n' f := by
 obtain ⟨D, h, r⟩ := h
 exact ⟨D, World.ownsMap.mono h hn, r⟩
theorem cf.congr {w : World} {b n : Nat} {f g : Int → Int → Nat} (h : cf w b n f) (e : ∀ s q, f s q = g s q) : cf w b n g := by
 obtain ⟨D, h, r⟩ := h
 exact ⟨D, h, fun s q hs hq => by rw [← e]; exact r s q hs hq⟩
theorem cf.look {w : World} {b n : Nat} {f : Int → Int → Nat} (h : cf w b n f) {s q : Int} (hs : (Lit.int .i64 s).wf = true) (hq : (Lit.int .i64 q).wf = true) :
  (Instr.lookup 234 (.map (some b)) (tick s q) true).run Tryz.prog w = .ok (.tuple #[.int .i64 (f s q), .bool (decide (f s q ≠ 0))]) w := by
 obtain ⟨D, h, r⟩ := h
 obtain ⟨r1, r2⟩ := r s q hs hq
 obtain ⟨v, ps, hrun, hv⟩ := World.ownsMap.look_ok h eb Tryz.underlying234 (jJ w) (plainElem_int Tryz.underlying2 (by decide)) (eM hs hq)
 rw [r2] at hv
 obtain ⟨c, rfl, hc, -⟩ := plainElem_int_inv Tryz.underlying2 hv
 rw [r1] at hrun
 simp only [Prod.mk.injEq, DataW.lit.injEq, Lit.int.injEq, true_and] at hc
 rw [hc.1]
 exact hrun
theorem cf.put {w : World} {b n : Nat} {f : Int → Int → Nat} (h : cf w b n f) (hn : n < 100000) {s q : Int} (hs : (Lit.int .i64 s).wf = true) (hq : (Lit.int .i64 q).wf = true) {m : Nat} (hm : m ≠ 0) (hw : (Lit.int .i64 (m : Int)).wf = true) :
  ∃ w', (Instr.mapUpdate 234 (.map (some b)) (tick s q) (.int .i64 m)).run Tryz.prog w = .ok () w' ∧ cf w' b (n + 1) (fun s' q' => if s' = s ∧ q' = q then m else f s' q') ∧ Ext (fun c => c = b) w w' := by
 obtain ⟨D, h, r⟩ := h
 obtain ⟨w', h1, h2, h3⟩ := World.ownsMap.store h eb Tryz.underlying234 (by unfold maxLen; omega) (eM hs hq) (plainElem_int Tryz.underlying2 hw)
 refine ⟨w', h1, ⟨_, h2, fun s' q' hs' hq' => ?_⟩, ?_⟩
 ·
  have hk : WideAt.IsKeyLit (.string (keyBytes [.int .i64 s, .int .i64 q])) := trivial
  by_cases e : s' = s ∧ q' = q
  ·
   obtain ⟨rfl, rfl⟩ := e
   rw [Maps.has_put_same (World.ownsMap.isMap h) hk, Maps.atKey_put_same (World.ownsMap.isMap h) hk]
   simp [hm]
  have hne : Lit.string (keyBytes [.int .i64 s', .int .i64 q']) ≠ Lit.string (keyBytes [.int .i64 s, .int .i64 q]) := by
   intro e2
   have k1 := eM hs' hq'
   rw [e2] at k1
   have k2 := eb.inj k1 (eM hs hq)
   simp only [tick, Value.agg.injEq, Array.mk.injEq, List.cons.injEq, Value.int.injEq, true_and, and_true] at k2
   exact e k2
  rw [Maps.has_put_other hne, Maps.atKey_put_other hne]
  simp only [if_neg e]
  exact r s' q' hs' hq'
 have g := h3.grown
 obtain ⟨es, clock, es', clock', hb, rfl⟩ := h3
 exact ⟨rfl, rfl, rfl, by simp [ChangeMaps.setBlock], fun k hk hn => g.block k hk (fun e => hn (by simpa using e))⟩
theorem jz (w : World) : cf (w.alloc (.map #[] 0)) w.heap.size 0 (fun _ _ => 0) := ⟨.map [], World.ownsMap_made w _ _ _, fun _ _ _ _ => ⟨rfl, rfl⟩⟩
end Go.Proofs.YtecagllmonckgaaGreat

namespace Go.Proofs.YtecagllmonckgaaGreat
open Go.RowKit
def cG (v : Value) (mb : Nat) (f : Int → Int) : Array Value := #[v, .map (some mb), .int .i64 (f 0), .int .i64 (f 1), .int .i64 (f 2), .int .i64 (f 3), .int .i64 (f 4), .int .i64 (f 5), .int .i64 (f 6), .int .i64 (f 7), .int .i64 (f 8), .int .i64 (f 9)]
theorem dy (v : Value) (mb : Nat) (f : Int → Int) (i : Nat) (h : i < 10) : (cG v mb f)[2 + i]? = some (.int .i64 (f i)) := by
 match i, h with
 | 0, _ => rfl
 | 1, _ => rfl
 | 2, _ => rfl
 | 3, _ => rfl
 | 4, _ => rfl
 | 5, _ => rfl
 | 6, _ => rfl
 | 7, _ => rfl
 | 8, _ => rfl
 | 9, _ => rfl
theorem iD (v : Value) (mb : Nat) (f : Int → Int) (i : Nat) (h : i < 10) (z : Int) : (cG v mb f).setIfInBounds (2 + i) (.int .i64 z) = cG v mb (fun j => if j = i then z else f j) := by
 match i, h with
 | 0, _ => rfl
 | 1, _ => rfl
 | 2, _ => rfl
 | 3, _ => rfl
 | 4, _ => rfl
 | 5, _ => rfl
 | 6, _ => rfl
 | 7, _ => rfl
 | 8, _ => rfl
 | 9, _ => rfl
theorem bp {w w' : World} {b : Nat} (h : w'.heap[b]? = w.heap[b]?) (o : Nat) : w'.frozen? ⟨b, o, none⟩ = w.frozen? ⟨b, o, none⟩ := by
 unfold World.frozen?
 simp only [h]
structure bN (w : World) (p mb N n : Nat) (ws : List ai) (f : Int → Int) (g : Int → Int → Nat) (v : Value) (rows : List (List Value)) (bls : List (List Nat)) : Prop where
 lt : mb < p
 box : aj 0 (cG v mb f) 237 w p
 grow : dA ad.ag w (p + 1) 142 v rows ws bls
 sub : ∀ b ∈ bls.flatten, p + 1 ≤ b ∧ ∀ o, w.frozen? ⟨b, o, none⟩ = false
 nd : bls.flatten.Nodup
 seen : cf w mb n g
 lZ : ∀ b ∈ bls.flatten, b < N
 jG : ∀ b, v.ownBlock = some b → b < N
 pN : p < N
namespace bN
variable {w w' : World} {p mb N n : Nat} {ws : List ai} {f : Int → Int} {g : Int → Int → Nat} {v : Value} {rows : List (List Value)} {bls : List (List Nat)}
theorem kept (h : bN w p mb N n ws f g v rows bls) {S : Nat → Prop} (e : Ext S w w') (hS : ∀ c, mb ≤ c → c < w.heap.size → ¬ S c) : bN w' p mb N n ws f g v rows bls := by
 have hs : ∀ b ∈ bls.flatten, w'.heap[b]? = w.heap[b]? := fun b hb => e.block b (h.grow.sub_lt b hb) (hS b (by have := (h.sub b hb).1; have := h.lt; omega) (h.grow.sub_lt b hb))
 refine ⟨h.lt, h.box.ext e (hS p (Nat.le_of_lt h.lt) h.box.lt), h.grow.kept ?_ hs, fun b hm => ⟨(h.sub b hm).1, fun o => (bp (hs b hm) o).trans ((h.sub b hm).2 o)⟩, h.nd, h.seen.ext e (hS mb (Nat.le_refl _) h.seen.lt), h.lZ, h.jG, h.pN⟩
 obtain ⟨h1, h2⟩ := h.grow.own
 refine ⟨h1, ?_⟩
 rcases h2 with h2 | ⟨gb, cap, cur, hv, hg, hh, r⟩
 ·
  exact Or.inl h2
 exact Or.inr ⟨gb, cap, cur, hv, hg, (e.block gb (lt_of_block hh) (hS gb (by have := h.lt; omega) (lt_of_block hh))).trans hh, r⟩
theorem af (h : bN w p mb N n ws f g v rows bls) (hb : Below w.heap.size w w') : bN w' p mb N n ws f g v rows bls := h.kept (bd hb (fun _ => False)) (fun _ _ _ e => e)
theorem raise (h : bN w p mb N n ws f g v rows bls) {N' : Nat} (hN : N ≤ N') : bN w p mb N' n ws f g v rows bls :=
 ⟨h.lt, h.box, h.grow, h.sub, h.nd, h.seen, fun b hb => Nat.lt_of_lt_of_le (h.lZ b hb) hN, fun b hb => Nat.lt_of_lt_of_le (h.jG b hb) hN, Nat.lt_of_lt_of_le h.pN hN⟩
theorem top (h : bN w p mb N n ws f g v rows bls) : bN w p mb w.heap.size n ws f g v rows bls :=
 ⟨h.lt, h.box, h.grow, h.sub, h.nd, h.seen, fun b hb => h.grow.sub_lt b hb, fun b hb => (h.grow.own.lt b hb).2, h.box.lt⟩
theorem added (h : bN w p mb N n ws f g v rows bls) {v' : Value} {rows' : List (List Value)} {ws' : List ai} {bls' : List (List Nat)} (hG : dA ad.ag w' (p + 1) 142 v' rows' ws' bls') (hE : Ext (fun q => v.ownBlock = some q) w w') (hs : ∀ b ∈ bls'.flatten, p + 1 ≤ b ∧ ∀ o, w'.frozen? ⟨b, o, none⟩ = false) (hnd : bls'.flatten.Nodup) :
  bN (w'.setCell ⟨p, 0, none⟩ v') p mb (w'.setCell ⟨p, 0, none⟩ v').heap.size n ws' f g v' rows' bls' := by
 have hb : aj 0 (cG v mb f) 237 w' p := h.box.ext hE (fun e => by have := (h.grow.own.lt p e).1; omega)
 have hb2 : aj 0 (cG v' mb f) 237 (w'.setCell ⟨p, 0, none⟩ v') p := hb.set 0 v'
 have e2 : Ext (fun c => c = p) w' (w'.setCell ⟨p, 0, none⟩ v') := (Ext.refl (fun c => c = p) w').setCell ⟨p, 0, none⟩ v' rfl
 have hk : ∀ b ∈ bls'.flatten, (w'.setCell ⟨p, 0, none⟩ v').heap[b]? = w'.heap[b]? := fun b hb => e2.block b (hG.sub_lt b hb) (by have := (hs b hb).1; omega)
 have hG2 : dA ad.ag (w'.setCell ⟨p, 0, none⟩ v') (p + 1) 142 v' rows' ws' bls' := hG.kept (dH (a := ⟨p, 0, none⟩) hG.own (by simp) v') hk
 refine ⟨h.lt, hb2, hG2, fun b hm => ⟨(hs b hm).1, fun o => (bp (hk b hm) o).trans ((hs b hm).2 o)⟩, hnd, ?_, fun b hm => hG2.sub_lt b hm, fun b hm => (hG2.own.lt b hm).2, hb2.lt⟩
 exact (h.seen.ext hE (fun e => by have := (h.grow.own.lt mb e).1; have := h.lt; omega)).ext e2 (by have := h.lt; omega)
theorem marked (h : bN w p mb N n ws f g v rows bls) {n' : Nat} {g' : Int → Int → Nat} (hE : Ext (fun c => c = mb) w w') (hT : cf w' mb n' g') : bN w' p mb N n' ws f g' v rows bls := by
 have hs : ∀ b ∈ bls.flatten, w'.heap[b]? = w.heap[b]? := fun b hb => hE.block b (h.grow.sub_lt b hb) (by have := (h.sub b hb).1; have := h.lt; omega)
 refine ⟨h.lt, h.box.ext hE (by have := h.lt; omega), h.grow.kept ?_ hs, fun b hm => ⟨(h.sub b hm).1, fun o => (bp (hs b hm) o).trans ((h.sub b hm).2 o)⟩, h.nd, hT, h.lZ, h.jG, h.pN⟩
 obtain ⟨h1, h2⟩ := h.grow.own
 refine ⟨h1, ?_⟩
 rcases h2 with h2 | ⟨gb, cap, cur, hv, hg, hh, r⟩
 ·
  exact Or.inl h2
 exact Or.inr ⟨gb, cap, cur, hv, hg, (hE.block gb (lt_of_block hh) (by have := h.lt; omega)).trans hh, r⟩
theorem kn (h : bN w p mb N n ws f g v rows bls) (i : Nat) (hi : i < 10) (z : Int) : bN (w.setCell ⟨p, 2 + i, none⟩ (.int .i64 z)) p mb N n ws (fun j => if j = i then z else f j) g v rows bls := by
 have e2 : Ext (fun c => c = p) w (w.setCell ⟨p, 2 + i, none⟩ (.int .i64 z)) := (Ext.refl (fun c => c = p) w).setCell ⟨p, 2 + i, none⟩ _ rfl
 have hs : ∀ b ∈ bls.flatten, (w.setCell ⟨p, 2 + i, none⟩ (.int .i64 z)).heap[b]? = w.heap[b]? := fun b hb => e2.block b (h.grow.sub_lt b hb) (by have := (h.sub b hb).1; omega)
 refine ⟨h.lt, ?_, h.grow.kept (dH (a := ⟨p, 2 + i, none⟩) h.grow.own (by simp) _) hs, fun b hm => ⟨(h.sub b hm).1, fun o => (bp (hs b hm) o).trans ((h.sub b hm).2 o)⟩, h.nd, h.seen.ext e2 (by have := h.lt; omega), h.lZ, h.jG, h.pN⟩
 rw [← iD v mb f i hi z]
 exact h.box.set (2 + i) _
theorem same (h : bN w p mb N n ws f g v rows bls) {n' : Nat} {f' : Int → Int} {g' : Int → Int → Nat} (hn : n ≤ n') (hf : ∀ j, f j = f' j) (hg : ∀ s q, g s q = g' s q) : bN w p mb N n' ws f' g' v rows bls := by
 rw [funext hf] at h
 exact ⟨h.lt, h.box, h.grow, h.sub, h.nd, (h.seen.mono hn).congr hg, h.lZ, h.jG, h.pN⟩
end bN
abbrev Told (w : World) (p mb N : Nat) (ws : List ai) (v : Value) (rows : List (List Value)) (bls : List (List Nat)) : Prop := bN w p mb N ws.length ws (aA ws) (fun s q => bf ws s q) v rows bls
theorem kr (w : World) : Told ((w.alloc (.map #[] 0)).alloc (.cells (cG (.slice none 0 0) w.heap.size (aA [])) 237)) (w.heap.size + 1) w.heap.size ((w.alloc (.map #[] 0)).alloc (.cells (cG (.slice none 0 0) w.heap.size (aA [])) 237)).heap.size [] (.slice none 0 0) [] [] := by
 have e : (w.alloc (.map #[] 0)).heap.size = w.heap.size + 1 := by simp
 have b : aj 0 (cG (.slice none 0 0) w.heap.size (aA [])) 237 ((w.alloc (.map #[] 0)).alloc (.cells (cG (.slice none 0 0) w.heap.size (aA [])) 237)) (w.alloc (.map #[] 0)).heap.size := aI (Nat.zero_le _)
 rw [e] at b
 refine ⟨by omega, b, dA.nil ⟨by simp, Or.inl ⟨rfl, rfl⟩⟩, by simp, by simp, ?_, by simp, by simp [Value.ownBlock], b.lt⟩
 exact (jz w).ext (bd ((Below.refl _ _).alloc (Nat.le_refl _) _) (fun _ => False)) (fun h => h)
theorem eH {w w' : World} {o : Obj} {r : Option Nat} (h : (w.alloc o).grownBy w' r) : w.grownBy w' r := gF (World.grownBy_alloc w o r) h
theorem dG : (Tryz.prog.info? 142).map (fun i => (i.zero, i.size, i.bytes)) = some (some (.agg #[.int .i64 0, .int .i64 0, .slice none 0 0, .int .i64 0, .int .i64 0]), 5, 56) := by kernel_rfl
theorem fR {w : World} {row : List Value} {x : ai} {bl : List Nat} (h : ad.ag.bo w row x bl) : (∀ u ∈ row, u.oneCell' = true) ∧ row.length = 1 * 5 := by
 obtain ⟨_, _, _, rfl, -⟩ := bM.1 h
 simp [Value.oneCell']
theorem ig {w1 : World} {base : Nat} {v : Value} {rows : List (List Value)} {xs : List ai} {bls : List (List Nat)} (hG : dA ad.ag w1 base 142 v rows xs bls) {row : List Value} {x : ai} {bl : List Nat} (hl : ad.ag.bo w1 row x bl) (hbl : ∀ b ∈ bl, v.ownBlock ≠ some b) {ops : Array Oper} {rest : List Oper} {o : Oper} {a : Act} {Q : Exit → Act → World → Prop} (hgd : o.guard = none) (s y : Operand)
  (ho : o.op = .call { callee := .builtin .append, args := #[s, y], argTypes := #[77, 77] }) (hs : a.eval s = v) (hy : a.eval y = .slice (some ⟨w1.heap.size, 0, none⟩) 1 1) (hn : xs.length + 1 ≤ 100000000) (hbase : base ≤ w1.heap.size)
  (h : ∀ g cap w', dA ad.ag w' base 142 (.slice (some ⟨g, 0, none⟩) (xs.length + 1) cap) (rows ++ [row]) (xs ++ [x]) (bls ++ [bl]) → Below base w1 w' → Ext (fun q => v.ownBlock = some q) w1 w' → g < w'.heap.size → w1.heap.size ≤ w'.heap.size → (v.ownBlock = some g ∨ w1.heap.size ≤ g) → wpList Tryz.prog ops Q rest (a.put o.dst (.slice (some ⟨g, 0, none⟩) (xs.length + 1) cap)) w') :
  wpList Tryz.prog ops Q (o :: rest) a (w1.alloc (.cells row.toArray 142)) := by
 obtain ⟨i0, hi0, hz0, hz1, hz2⟩ := info_parts dG
 obtain ⟨h1, hlen⟩ := fR hl
 refine wpList_append_lies _ hgd s y 77 ho base 142 i0 _ 5 56 Tryz.underlying77 hi0 hz0 hz1 hz2 rfl (by omega) v xs.length rows.flatten hs (hG.own.alloc _) ⟨w1.heap.size, 0, none⟩ 1 1 row hy hlen (World.news_of_block (cs := row.toArray) (t := 142) (fr := (0, 0)) (heap_alloc_new w1 _)) h1 (by omega) (by unfold maxLen; omega) (by omega) (by simp; omega) (w1.alloc (.cells row.toArray 142)).heap.size rfl ?_
 intro g cap w' h2 h3 h4 h5
 have hg := eH h3
 have hbw : Below base w1 w' := (Below.refl _ _).grown hg hbase (fun j hj => (hG.own.lt j hj).1)
 have hor : v.ownBlock = some g ∨ w1.heap.size ≤ g := by
  rcases h4 with h4 | h4
  ·
   exact Or.inl h4
  exact Or.inr (by rw [h4]; simp)
 exact h g cap w' (hG.snoc hl hbl h2 hg hor) hbw ⟨hbw.os, hbw.tape, hbw.output, hbw.size, fun k hk hn => hg.block k hk (fun e => hn e.symm)⟩ h5 hbw.size hor
theorem dO {w1 : World} {base : Nat} {v : Value} {rows : List (List Value)} {xs : List ai} {bls : List (List Nat)} (hG : dA ad.ag w1 base 142 v rows xs bls) {row : List Value} {x : ai} {bl : List Nat} (hl : ad.ag.bo w1 row x bl) (hbl : ∀ b ∈ bl, v.ownBlock ≠ some b) {ops : Array Oper} {o : Oper} {a : Act} {K : Act → World → Prop} {Q : Exit → Act → World → Prop} {E : Prop} (hgd : o.guard = none) (s y : Operand)
  (ho : o.op = .call { callee := .builtin .append, args := #[s, y], argTypes := #[77, 77] }) (hs : a.eval s = v) (hy : a.eval y = .slice (some ⟨w1.heap.size, 0, none⟩) 1 1) (hn : xs.length + 1 ≤ 100000000) (hbase : base ≤ w1.heap.size)
  (h : ∀ g cap w', dA ad.ag w' base 142 (.slice (some ⟨g, 0, none⟩) (xs.length + 1) cap) (rows ++ [row]) (xs ++ [x]) (bls ++ [bl]) → Below base w1 w' → Ext (fun q => v.ownBlock = some q) w1 w' → g < w'.heap.size → w1.heap.size ≤ w'.heap.size → (v.ownBlock = some g ∨ w1.heap.size ≤ g) → K (a.put o.dst (.slice (some ⟨g, 0, none⟩) (xs.length + 1) cap)) w') :
  if Region.wanted o (yielded ops a.tmps) = true then Oper.wp Tryz.prog o a (w1.alloc (.cells row.toArray 142)) K Q else E := by
 obtain ⟨i0, hi0, hz0, hz1, hz2⟩ := info_parts dG
 obtain ⟨h1, hlen⟩ := fR hl
 refine step_append_lies _ hgd s y 77 ho base 142 i0 _ 5 56 Tryz.underlying77 hi0 hz0 hz1 hz2 rfl (by omega) v xs.length rows.flatten hs (hG.own.alloc _) ⟨w1.heap.size, 0, none⟩ 1 1 row hy hlen (World.news_of_block (cs := row.toArray) (t := 142) (fr := (0, 0)) (heap_alloc_new w1 _)) h1 (by omega) (by unfold maxLen; omega) (by omega) (by simp; omega) (w1.alloc (.cells row.toArray 142)).heap.size rfl ?_
 intro g cap w' h2 h3 h4 h5
 have hg := eH h3
 have hbw : Below base w1 w' := (Below.refl _ _).grown hg hbase (fun j hj => (hG.own.lt j hj).1)
 have hor : v.ownBlock = some g ∨ w1.heap.size ≤ g := by
  rcases h4 with h4 | h4
  ·
   exact Or.inl h4
  exact Or.inr (by rw [h4]; simp)
 exact h g cap w' (hG.snoc hl hbl h2 hg hor) hbw ⟨hbw.os, hbw.tape, hbw.output, hbw.size, fun k hk hn => hg.block k hk (fun e => hn e.symm)⟩ h5 hbw.size hor
theorem Ext.fN {S : Nat → Prop} {a b : World} (h : Ext S a b) : Ext S a b.drew := ⟨h.os, h.tape, h.output, h.size, h.block⟩
theorem Ext.iq {S : Nat → Prop} {a b : World} (h : Ext S a b) (o : Obj) : Ext S a (b.alloc o) := h.trans (bd ((Below.refl _ _).alloc (Nat.le_refl _) o) S)
theorem kY (k i : Int) (u1 : Option Addr) (u2 u3 : Nat) (s q : Int) (w : World) :
  Calls Tryz.prog 275 #[.agg #[.int .i64 k, .int .i64 i, .slice u1 u2 u3, .int .i64 s, .int .i64 q]] w fun e w' => e = .returned (tick s q) ∧ Below w.heap.size w w' := by
 have HB : Hid (∀ o o', Below w.heap.size w ((w.alloc o).alloc o')) := fun o o' => ((Below.refl _ _).alloc (Nat.le_refl _) _).alloc (by simp) _
 go_enter Tryz.func275, Tryz.ntmps275
 go_wp2_with fail
 refine bodyPost_ret (v := .agg #[.int .i64 s, .int .i64 q]) (by simp [results, Tryz.results275, go_sem]) rfl ?_
 exact ⟨rfl, uh HB _ _⟩
theorem l8 {w : World} {p mb N : Nat} {ws : List ai} {v : Value} {rows : List (List Value)} {bls : List (List Nat)} (h : Told w p mb N ws v rows bls) {cs : List Value} {x : ai} {bl : List Nat} (hl : ad.ag.bo w cs x bl) (hX : ∀ b ∈ bl, N ≤ b ∧ ∀ o, w.frozen? ⟨b, o, none⟩ = false) (hnd : bl.Nodup) (hNw : N ≤ w.heap.size) (hf : wF x = 0) (hn : ws.length < 1000) :
  Calls Tryz.prog 253 #[.pointer (some ⟨p, 0, none⟩), .agg cs.toArray] w fun e w' => e = .returned (.tuple #[]) ∧ (∃ v' rows' bls', Told w' p mb w'.heap.size (ws ++ [x]) v' rows' bls') ∧ Below mb w w' := by
 obtain ⟨a2, d2, b2, rfl, rfl, -, -, -, k3, k4⟩ := bM.1 hl
 have nb : Below w.heap.size w (w.alloc (.cells #[.int .i64 x.kind, .int .i64 x.id, .slice a2 x.vec.length d2, .int .i64 x.aa, .int .i64 x.seq] 142)) := (Below.refl _ _).alloc (Nat.le_refl _) _
 have hQ0 : aj 0 #[.int .i64 x.kind, .int .i64 x.id, .slice a2 x.vec.length d2, .int .i64 x.aa, .int .i64 x.seq] 142 (w.alloc (.cells #[.int .i64 x.kind, .int .i64 x.id, .slice a2 x.vec.length d2, .int .i64 x.aa, .int .i64 x.seq] 142)) w.heap.size := aI (Nat.zero_le _)
 have hT0 := h.af nb
 have hL0 : ad.ag.bo (w.alloc (.cells #[.int .i64 x.kind, .int .i64 x.id, .slice a2 x.vec.length d2, .int .i64 x.aa, .int .i64 x.seq] 142)) [.int .i64 x.kind, .int .i64 x.id, .slice a2 x.vec.length d2, .int .i64 x.aa, .int .i64 x.seq] x bl := ad.ag.ar hl fun b hb => nb.block b (ad.ag.lt hl b hb)
 have hpw := h.box.lt
 have hmp := h.lt
 have HNW := yh hNw
 have hF0 : ∀ b ∈ bl, ∀ o, (w.alloc (.cells #[.int .i64 x.kind, .int .i64 x.id, .slice a2 x.vec.length d2, .int .i64 x.aa, .int .i64 x.seq] 142)).frozen? ⟨b, o, none⟩ = false := fun b hb o => (bp (nb.block b (ad.ag.lt hl b hb)) o).trans ((hX b hb).2 o)
 have hBw : Below mb w (w.alloc (.cells #[.int .i64 x.kind, .int .i64 x.id, .slice a2 x.vec.length d2, .int .i64 x.aa, .int .i64 x.seq] 142)) := nb.mono (by omega)
 go_enter Tryz.func253, Tryz.ntmps253
 go_wp2_with fail
 generalize hW0 : w.alloc (.cells #[.int .i64 x.kind, .int .i64 x.id, .slice a2 x.vec.length d2, .int .i64 x.aa, .int .i64 x.seq] 142) = W0 at *
 clear hW0
 have hHD : Ext (fun c => c = p ∨ v.ownBlock = some c) W0 W0.drew := (Ext.refl _ _).fN
 have hTD : Told W0.drew p mb N ws v rows bls := hT0.af (bL (Below.refl _ _) 1)
 have hLD : ad.ag.bo W0.drew [.int .i64 x.kind, .int .i64 x.id, .slice a2 x.vec.length d2, .int .i64 x.aa, .int .i64 x.seq] x bl := hL0
 have hFD : ∀ b ∈ bl, ∀ o, W0.drew.frozen? ⟨b, o, none⟩ = false := hF0
 refine wZz (fun w' => Ext (fun c => c = p ∨ v.ownBlock = some c) W0 w') (Ext.refl _ _).fN (fun zq => ?_)
 generalize W0.drew = wD at zq hTD hLD hHD hFD ⊢
 refine tkH 0 zq ?_
 refine tkH 1 zq ?_
 refine tkH 2 zq ?_
 refine tkH 3 zq ?_
 refine tkJ 5 (v := ?va5) ?ha5 zq ?ra5
 case ha5 =>
  intro wS hSw
  have y0 : wS.cell? ⟨w.heap.size, 0, none⟩ = some (.int .i64 x.kind) := (hQ0.ext hSw (by first | (rintro (e | e); omega; have := h.jG _ e; have := uh HNW; omega) | (intro e; omega) | exact fun e => e)).at 0 _ rfl
  have y1 : wS.cell? ⟨w.heap.size, 1, none⟩ = some (.int .i64 x.id) := (hQ0.ext hSw (by first | (rintro (e | e); omega; have := h.jG _ e; have := uh HNW; omega) | (intro e; omega) | exact fun e => e)).at 1 _ rfl
  have y2 : wS.cell? ⟨w.heap.size, 2, none⟩ = some (.slice a2 x.vec.length d2) := (hQ0.ext hSw (by first | (rintro (e | e); omega; have := h.jG _ e; have := uh HNW; omega) | (intro e; omega) | exact fun e => e)).at 2 _ rfl
  have y3 : wS.cell? ⟨w.heap.size, 3, none⟩ = some (.int .i64 x.aa) := (hQ0.ext hSw (by first | (rintro (e | e); omega; have := h.jG _ e; have := uh HNW; omega) | (intro e; omega) | exact fun e => e)).at 3 _ rfl
  have y4 : wS.cell? ⟨w.heap.size, 4, none⟩ = some (.int .i64 x.seq) := (hQ0.ext hSw (by first | (rintro (e | e); omega; have := h.jG _ e; have := uh HNW; omega) | (intro e; omega) | exact fun e => e)).at 4 _ rfl
  clear hSw
  exact fZ
 refine (fun (REST : ?T) => ?main) ?rest
 case main =>
  refine wpAnyH_ready (rs := [4, 6]) (by kernel_rfl) (by simp) ?_
  refine AllReadyH.cons (o := ⟨some 11, .load 77 (.tmp 10), 77, "l05_session.go:65", #[⟨3, .data⟩], none⟩) rfl (fun K hK => ?first) (AllReadyH.cons (o := ⟨some 13, .buildSlice 77 1 #[(0, .tmp 12)], 77, "l05_session.go:65", #[⟨5, .data⟩], none⟩) rfl (fun K hK => ?second) AllReadyH.nil)
  case first =>
   have y0 : wD.cell? ⟨p, 0, none⟩ = some v := hTD.box.at 0 _ rfl
   have hp : p < wD.heap.size := hTD.box.lt
   have y1 : ∀ o, (wD.alloc o).cell? ⟨p, 0, none⟩ = some v := fun o => (World.cell?_alloc_lt _ _ _ hp).trans y0
   go_simp
   refine hK.out _ _ zq (fun zq => ?_)
   clear hK K
   try simp only [Act.put, pz, py, px]
   refine rdH 6 (fun K hK => ?_)
   go_simp
   refine hK.out _ _ (zq.iq _) (fun zq => ?_)
   clear hK K
   try simp only [Act.put, pz, py, px]
   exact REST
  case second =>
   go_simp
   refine hK.out _ _ (zq.iq _) (fun zq => ?_)
   clear hK K
   try simp only [Act.put, pz, py, px]
   refine rdH 4 (fun K hK => ?_)
   have y0 : wD.cell? ⟨p, 0, none⟩ = some v := hTD.box.at 0 _ rfl
   have hp : p < wD.heap.size := hTD.box.lt
   have y1 : ∀ o, (wD.alloc o).cell? ⟨p, 0, none⟩ = some v := fun o => (World.cell?_alloc_lt _ _ _ hp).trans y0
   go_simp
   refine hK.out _ _ zq (fun zq => ?_)
   clear hK K
   try simp only [Act.put, pz, py, px]
   exact REST
 case rest =>
 replace zq := zq.iq (.cells #[.int .i64 x.kind, .int .i64 x.id, .slice a2 x.vec.length d2, .int .i64 x.aa, .int .i64 x.seq] 142)
 refine rdH 7 (fun K hK => ?_)
 refine dO hTD.grow (row := [.int .i64 x.kind, .int .i64 x.id, .slice a2 x.vec.length d2, .int .i64 x.aa, .int .i64 x.seq]) (x := x) (bl := bl) hLD (fun c hc e => by have h1 := (hX c hc).1; have h2 := hTD.jG c e; omega) rfl _ _ rfl rfl rfl (by omega) (by have := hTD.box.lt; omega) ?_
 rintro g5 cp5 w5 hG5 hb5 hE5 hl5 hz5 hor5
 refine hK.out _ _ ((hHD.trans (hE5.mono (fun k _ h => Or.inr h)))) (fun zq => ?_)
 clear hK K
 try simp only [Act.put, pz, py, px]
 refine tkH 8 zq ?_
 refine tkH 9 zq ?_
 refine rdH 10 (fun K hK => ?_)
 have hb6 : aj 0 (cG v mb (aA ws)) 237 w5 p := hTD.box.ext hE5 (fun e => by have := (hTD.grow.own.lt p e).1; omega)
 have c6 : w5.cell? ⟨p, 0, none⟩ = some v := hb6.at 0 _ rfl
 have f6 := hb6.soft 0
 have l6 := hb6.lt
 go_simp
 refine hK.out _ _ ((hHD.trans (hE5.mono (fun k _ h => Or.inr h))).setCell ⟨p, 0, none⟩ _ (Or.inl rfl)) (fun zq => ?_)
 clear hK K
 try simp only [Act.put, pz, py, px]
 refine dZ ?_
 have hnf : (bls ++ [bl]).flatten = bls.flatten ++ bl := by simp
 have hT6 := hTD.added hG5 hE5 (by
  intro b hb
  rw [hnf] at hb
  rcases List.mem_append.1 hb with hb | hb
  ·
   exact ⟨(hTD.sub b hb).1, fun o => (bp (hE5.block b (hTD.grow.sub_lt b hb) (fun e => hTD.grow.off b hb e)) o).trans ((hTD.sub b hb).2 o)⟩
  ·
   refine ⟨by have := (hX b hb).1; have := hTD.pN; omega, fun o => (bp (hE5.block b (ad.ag.lt hLD b hb) (fun e => by have := hTD.jG b e; have := (hX b hb).1; omega)) o).trans (hFD b hb o)⟩) (by
  rw [hnf, List.nodup_append]
  exact ⟨hTD.nd, hnd, fun b hb c hc e => by have := hTD.lZ b hb; have := (hX c hc).1; omega⟩)
 have hQ6 : aj 0 #[.int .i64 x.kind, .int .i64 x.id, .slice a2 x.vec.length d2, .int .i64 x.aa, .int .i64 x.seq] 142 (w5.setCell ⟨p, 0, none⟩ (.slice (some ⟨g5, 0, none⟩) (ws.length + 1) cp5)) w.heap.size := hQ0.ext zq (by rintro (e | e); omega; have := h.jG _ e; omega)
 have hB6 : Below mb w (w5.setCell ⟨p, 0, none⟩ (.slice (some ⟨g5, 0, none⟩) (ws.length + 1) cp5)) := hBw.trans (zq.below (by have := hBw.size; omega) (by rintro c hc (e | e); omega; have := (h.grow.own.lt c e).1; omega))
 clear zq hTD hLD hHD hFD hG5 hE5 hb5 hl5 hz5 hor5 hT0 hL0 hF0 hQ0 hBw h hl hX hnd nb hnf
 generalize w5.setCell ⟨p, 0, none⟩ (.slice (some ⟨g5, 0, none⟩) (ws.length + 1) cp5) = w6 at hT6 hQ6 hB6 ⊢
 have y0 : w6.cell? ⟨w.heap.size, 0, none⟩ = some (.int .i64 x.kind) := hQ6.at 0 _ rfl
 have y1 : w6.cell? ⟨w.heap.size, 1, none⟩ = some (.int .i64 x.id) := hQ6.at 1 _ rfl
 have y2 : w6.cell? ⟨w.heap.size, 2, none⟩ = some (.slice a2 x.vec.length d2) := hQ6.at 2 _ rfl
 have y3 : w6.cell? ⟨w.heap.size, 3, none⟩ = some (.int .i64 x.aa) := hQ6.at 3 _ rfl
 have y4 : w6.cell? ⟨w.heap.size, 4, none⟩ = some (.int .i64 x.seq) := hQ6.at 4 _ rfl
 go_wp2_with fail
 clear y0 y1 y2 y3 y4
 refine (kY _ _ _ _ _ _ _ w6).mono ?_
 rintro e w7 ⟨rfl, hb7⟩
 have nb8 : Below w6.heap.size w6 (w7.alloc (.cells #[.int .i64 x.aa, .int .i64 x.seq] 117)) := hb7.alloc hb7.size _
 have hT8 := hT6.af nb8
 have hQ8 := hQ6.ar nb8
 have hB8 := hB6.trans (nb8.mono (by have := hT6.lt; have := hT6.box.lt; omega))
 have hR8 : aj 0 #[.int .i64 x.aa, .int .i64 x.seq] 117 (w7.alloc (.cells #[.int .i64 x.aa, .int .i64 x.seq] 117)) w7.heap.size := aI (Nat.zero_le _)
 have hrp : mb < w7.heap.size := by have := hT6.lt; have := hT6.box.lt; have := hb7.size; omega
 simp only [tick]
 go_wp2_with fail
 clear hT6 hQ6 hB6 hb7 nb8
 generalize w7.alloc (.cells #[.int .i64 x.aa, .int .i64 x.seq] 117) = w8 at *
 generalize w7.heap.size = r at *
 have hT9 : bN w8.drew p mb _ ws.length (ws ++ [x]) (aA ws) (fun s q => bf ws s q) (.slice (some ⟨g5, 0, none⟩) (ws.length + 1) cp5) (rows ++ [[.int .i64 x.kind, .int .i64 x.id, .slice a2 x.vec.length d2, .int .i64 x.aa, .int .i64 x.seq]]) (bls ++ [bl]) := hT8.af (bL (Below.refl _ _) 1)
 have hQ9 : aj 0 #[.int .i64 x.kind, .int .i64 x.id, .slice a2 x.vec.length d2, .int .i64 x.aa, .int .i64 x.seq] 142 w8.drew w.heap.size := hQ8
 have hR9 : aj 0 #[.int .i64 x.aa, .int .i64 x.seq] 117 w8.drew r := hR8
 have hB9 : Below mb w w8.drew := hB8.drew
 obtain ⟨bs, hbs⟩ : ∃ bs, bs = decide (bf ws x.aa x.seq ≠ 0) := ⟨_, rfl⟩
 have HBS := yh hbs
 clear hbs
 refine wZz (fun w' => Ext (fun _ => False) w8 w') (Ext.refl _ _).fN (fun zq => ?_)
 generalize w8.drew = w9 at zq hT9 hQ9 hR9 hB9 ⊢
 refine tkH 0 zq ?_
 refine tkH 1 zq ?_
 refine tkH 2 zq ?_
 refine tkJ 3 (v := ?vc3) ?hc3 zq ?rc3
 case hc3 =>
  intro wS hSw
  have z1 : wS.cell? ⟨p, 1, none⟩ = some (.map (some mb)) := (hT8.box.ext hSw (fun e => e)).at 1 _ rfl
  have k0 : wS.cell? ⟨r, 0, none⟩ = some (.int .i64 x.aa) := (hR8.ext hSw (fun e => e)).at 0 _ rfl
  have k1 : wS.cell? ⟨r, 1, none⟩ = some (.int .i64 x.seq) := (hR8.ext hSw (fun e => e)).at 1 _ rfl
  clear hSw
  exact fZ
 refine tkJ 4 (v := ?vc4) ?hc4 zq ?rc4
 case hc4 =>
  intro wS hSw
  have z1 : wS.cell? ⟨p, 1, none⟩ = some (.map (some mb)) := (hT8.box.ext hSw (fun e => e)).at 1 _ rfl
  have k0 : wS.cell? ⟨r, 0, none⟩ = some (.int .i64 x.aa) := (hR8.ext hSw (fun e => e)).at 0 _ rfl
  have k1 : wS.cell? ⟨r, 1, none⟩ = some (.int .i64 x.seq) := (hR8.ext hSw (fun e => e)).at 1 _ rfl
  clear hSw
  exact fZ
 refine tkJ 5 (v := ?vc5) ?hc5 zq ?rc5
 case hc5 =>
  intro wS hSw
  have hlk := (hT8.seen.ext hSw (fun e => e)).look k3 k4
  simp only [tick] at hlk
  rw [← uh HBS] at hlk
  clear hSw
  exact fZ
 refine tkH 6 zq ?_
 refine tkH 7 zq ?_
 refine tkH 8 zq ?_
 refine tkH 9 zq ?_
 refine tkH 10 zq ?_
 refine dZ ?_
 clear zq hT8 hQ8 hR8 hB8
 obtain ⟨b1, b9, q1, q9⟩ := iJ hf
 have hs9 : x.aa.toNat < 10 := by omega
 have hsi : (x.aa.toNat : Int) = x.aa := by omega
 have i1 : (0 : Int) ≤ x.aa := by omega
 have i2 : x.aa < 10 := by omega
 have hlast : ∀ j : Int, (if j = (x.aa.toNat : Int) then (if aA ws x.aa < x.seq then x.seq else aA ws x.aa) else aA ws j) = aA (ws ++ [x]) j := by
  intro j
  rw [fj, hsi, show (if aA ws x.aa < x.seq then x.seq else aA ws x.aa) = max (aA ws x.aa) x.seq by split <;> omega]
  by_cases e : j = x.aa
  ·
   rw [if_pos e, if_pos e.symm, e]
  rw [if_neg e, if_neg (fun h => e h.symm)]
 have hlen : Hid ((ws ++ [x]).length = ws.length + 1) := by show (ws ++ [x]).length = ws.length + 1; simp
 have HLAST := yh hlast
 clear hlast
 by_cases hsn : bf ws x.aa x.seq = 0
 ·
  obtain rfl : bs = false := by rw [uh HBS]; simpa using hsn
  have hseen : ∀ s q : Int, (if s = x.aa ∧ q = x.seq then ws.length + 1 else bf ws s q) = bf (ws ++ [x]) s q := by
   intro s q
   rw [fa]
   by_cases e : s = x.aa ∧ q = x.seq
   ·
    rw [if_pos e, e.1, e.2, hsn, if_pos rfl, if_pos ⟨rfl, rfl⟩]
   rw [if_neg e]
   by_cases h0 : bf ws s q = 0
   ·
    rw [if_pos h0, if_neg (fun h => e ⟨h.1.symm, h.2.symm⟩), h0]
   rw [if_neg h0]
  have HSEEN := yh hseen
  clear HBS hseen hsn
  go_wp2_with fail
  have hT10 : bN w9.drew p mb _ ws.length (ws ++ [x]) (aA ws) (fun s q => bf ws s q) (.slice (some ⟨g5, 0, none⟩) (ws.length + 1) cp5) (rows ++ [[.int .i64 x.kind, .int .i64 x.id, .slice a2 x.vec.length d2, .int .i64 x.aa, .int .i64 x.seq]]) (bls ++ [bl]) := hT9.af (bL (Below.refl _ _) 1)
  have hQ10 : aj 0 #[.int .i64 x.kind, .int .i64 x.id, .slice a2 x.vec.length d2, .int .i64 x.aa, .int .i64 x.seq] 142 w9.drew w.heap.size := hQ9
  have hB10 : Below mb w w9.drew := hB9.drew
  refine wZz (fun w' => Ext (fun c => c = mb) w9 w') (Ext.refl _ _).fN (fun zq => ?_)
  generalize w9.drew = wE at zq hT10 hQ10 hB10 ⊢
  refine tkH 0 zq ?_
  refine tkH 1 zq ?_
  refine tkH 2 zq ?_
  refine tkJ 3 (v := ?ve3) ?he3 zq ?re3
  case he3 =>
   intro wS hSw
   have z1 : wS.cell? ⟨p, 1, none⟩ = some (.map (some mb)) := (hT9.box.ext hSw (by have := hT9.lt; have := hrp; omega)).at 1 _ rfl
   have k0 : wS.cell? ⟨r, 0, none⟩ = some (.int .i64 x.aa) := (hR9.ext hSw (by have := hT9.lt; have := hrp; omega)).at 0 _ rfl
   have k1 : wS.cell? ⟨r, 1, none⟩ = some (.int .i64 x.seq) := (hR9.ext hSw (by have := hT9.lt; have := hrp; omega)).at 1 _ rfl
   have z0 : wS.cell? ⟨p, 0, none⟩ = some (.slice (some ⟨g5, 0, none⟩) (ws.length + 1) cp5) := (hT9.box.ext hSw (by have := hT9.lt; omega)).at 0 _ rfl
   clear hSw
   exact fZ
  refine tkJ 4 (v := ?ve4) ?he4 zq ?re4
  case he4 =>
   intro wS hSw
   have z1 : wS.cell? ⟨p, 1, none⟩ = some (.map (some mb)) := (hT9.box.ext hSw (by have := hT9.lt; have := hrp; omega)).at 1 _ rfl
   have k0 : wS.cell? ⟨r, 0, none⟩ = some (.int .i64 x.aa) := (hR9.ext hSw (by have := hT9.lt; have := hrp; omega)).at 0 _ rfl
   have k1 : wS.cell? ⟨r, 1, none⟩ = some (.int .i64 x.seq) := (hR9.ext hSw (by have := hT9.lt; have := hrp; omega)).at 1 _ rfl
   have z0 : wS.cell? ⟨p, 0, none⟩ = some (.slice (some ⟨g5, 0, none⟩) (ws.length + 1) cp5) := (hT9.box.ext hSw (by have := hT9.lt; omega)).at 0 _ rfl
   clear hSw
   exact fZ
  refine tkH 5 zq ?_
  refine tkH 6 zq ?_
  refine tkH 7 zq ?_
  refine tkJ 8 (v := ?ve8) ?he8 zq ?re8
  case he8 =>
   intro wS hSw
   have z1 : wS.cell? ⟨p, 1, none⟩ = some (.map (some mb)) := (hT9.box.ext hSw (by have := hT9.lt; have := hrp; omega)).at 1 _ rfl
   have k0 : wS.cell? ⟨r, 0, none⟩ = some (.int .i64 x.aa) := (hR9.ext hSw (by have := hT9.lt; have := hrp; omega)).at 0 _ rfl
   have k1 : wS.cell? ⟨r, 1, none⟩ = some (.int .i64 x.seq) := (hR9.ext hSw (by have := hT9.lt; have := hrp; omega)).at 1 _ rfl
   have z0 : wS.cell? ⟨p, 0, none⟩ = some (.slice (some ⟨g5, 0, none⟩) (ws.length + 1) cp5) := (hT9.box.ext hSw (by have := hT9.lt; omega)).at 0 _ rfl
   clear hSw
   exact fZ
  refine tkH 9 zq ?_
  refine rdH 10 (fun K hK => ?_)
  obtain ⟨w12, hrun, hTk, hE12⟩ := hT10.seen.put (by omega) k3 k4 (m := ws.length + 1) (by omega) (cj (by omega))
  simp only [tick] at hrun
  have hrun2 : (Instr.mapUpdate 234 (.map (some mb)) (.agg #[.int .i64 x.aa, .int .i64 x.seq]) (.int .i64 ((ws.length : Int) + 1))).run Tryz.prog wE = .ok () w12 := by simpa using hrun
  clear hrun
  go_simp
  refine hK.out _ _ (zq.trans hE12) (fun zq => ?_)
  clear hK K
  try simp only [Act.put, pz, py, px]
  refine dZ ?_
  have hT12 := (hT10.marked hE12 hTk)
  have hQ12 := hQ10.ext hE12 (by omega)
  have hB12 := hB10.trans (hE12.below (by have := hT10.lt; have := hT10.box.lt; omega) (by intro c hc e; omega))
  clear zq hT9 hQ9 hR9 hB9 hT10 hQ10 hB10 hE12 hTk
  go_wp2_with fail
  have hTG : bN w12.drew p mb _ (ws.length + 1) (ws ++ [x]) (aA ws) _ (.slice (some ⟨g5, 0, none⟩) (ws.length + 1) cp5) (rows ++ [[.int .i64 x.kind, .int .i64 x.id, .slice a2 x.vec.length d2, .int .i64 x.aa, .int .i64 x.seq]]) (bls ++ [bl]) := hT12.af (bL (Below.refl _ _) 1)
  have hBG : Below mb w w12.drew := hB12.drew
  refine wZz (fun w' => Ext (fun c => c = p) w12 w') (Ext.refl _ _).fN (fun zq => ?_)
  generalize w12.drew = wG at zq hTG hBG ⊢
  refine tkH 0 zq ?_
  refine tkH 1 zq ?_
  refine tkJ 2 (v := ?vf2) ?hf2 zq ?rf2
  case hf2 =>
   intro wS hSw
   have y3 : wS.cell? ⟨w.heap.size, 3, none⟩ = some (.int .i64 x.aa) := (hQ12.ext hSw (by omega)).at 3 _ rfl
   have y4 : wS.cell? ⟨w.heap.size, 4, none⟩ = some (.int .i64 x.seq) := (hQ12.ext hSw (by omega)).at 4 _ rfl
   clear hSw
   exact fZ
  refine tkH 3 zq ?_
  refine tkH 4 zq ?_
  refine tkJ 5 (v := ?vf5) ?hf5 zq ?rf5
  case hf5 =>
   intro wS hSw
   have y3 : wS.cell? ⟨w.heap.size, 3, none⟩ = some (.int .i64 x.aa) := (hQ12.ext hSw (by omega)).at 3 _ rfl
   have y4 : wS.cell? ⟨w.heap.size, 4, none⟩ = some (.int .i64 x.seq) := (hQ12.ext hSw (by omega)).at 4 _ rfl
   clear hSw
   exact fZ
  refine tkH 6 zq ?_
  refine tkH 7 zq ?_
  refine tkH 8 zq ?_
  refine tkH 10 zq ?_
  refine tkJ 11 (v := ?vf11) ?hf11 zq ?rf11
  case hf11 =>
   intro wS hSw
   have y3 : wS.cell? ⟨w.heap.size, 3, none⟩ = some (.int .i64 x.aa) := (hQ12.ext hSw (by omega)).at 3 _ rfl
   have y4 : wS.cell? ⟨w.heap.size, 4, none⟩ = some (.int .i64 x.seq) := (hQ12.ext hSw (by omega)).at 4 _ rfl
   clear hSw
   exact fZ
  refine tkH 13 zq ?_
  refine tkH 14 zq ?_
  refine rdH 9 (fun K hK => ?_)
  have zl : wG.cell? ⟨p, 2 + x.aa.toNat, none⟩ = some (.int .i64 (aA ws x.aa)) := by
   have := hTG.box.at _ _ (dy (.slice (some ⟨g5, 0, none⟩) (ws.length + 1) cp5) mb (aA ws) x.aa.toNat hs9)
   rwa [hsi] at this
  go_simp
  refine hK.out _ _ zq (fun zq => ?_)
  clear hK K
  try simp only [Act.put, pz, py, px]
  refine tkH 12 zq ?_
  refine tkH 15 zq ?_
  refine rdH 16 (fun K hK => ?_)
  have zl : wG.cell? ⟨p, 2 + x.aa.toNat, none⟩ = some (.int .i64 (aA ws x.aa)) := by
   have := hTG.box.at _ _ (dy (.slice (some ⟨g5, 0, none⟩) (ws.length + 1) cp5) mb (aA ws) x.aa.toNat hs9)
   rwa [hsi] at this
  have f6 := hTG.box.soft (2 + x.aa.toNat)
  have l6 := hTG.box.lt
  go_simp
  refine hK.out _ _ (zq.setCell ⟨p, 2 + x.aa.toNat, none⟩ _ rfl) (fun zq => ?_)
  clear hK K
  try simp only [Act.put, pz, py, px]
  refine dZ ?_
  have hTZ := ((hTG.kn x.aa.toNat hs9 ((if aA ws x.aa < x.seq then x.seq else aA ws x.aa))).same (Nat.le_of_eq (uh hlen).symm) (uh HLAST) (uh HSEEN)).top
  have hBZ : Below mb w (wG.setCell ⟨p, 2 + x.aa.toNat, none⟩ (.int .i64 ((if aA ws x.aa < x.seq then x.seq else aA ws x.aa)))) := hBG.setCell (by simp; omega) _
  clear zq hTG hBG
  generalize wG.setCell ⟨p, 2 + x.aa.toNat, none⟩ (.int .i64 (if aA ws x.aa < x.seq then x.seq else aA ws x.aa)) = wZ at hTZ hBZ ⊢
  go_wp2_with fail
  all_goals
   refine bodyPost_end (v := .tuple #[]) (by simp [results, Tryz.results253, go_sem]) rfl ?_
   exact ⟨rfl, ⟨_, _, _, hTZ⟩, hBZ⟩
 obtain rfl : bs = true := by rw [uh HBS]; simpa using hsn
 have hseen : ∀ s q : Int, bf ws s q = bf (ws ++ [x]) s q := by
  intro s q
  rw [fa]
  split
  ·
   rename_i e
   rw [if_neg]
   ·
    exact e
   rintro ⟨rfl, rfl⟩
   exact hsn e
  rfl
 have HSEEN := yh hseen
 clear HBS hseen hsn
 go_wp2_with fail
 have hTG : bN w9.drew p mb _ ws.length (ws ++ [x]) (aA ws) (fun s q => bf ws s q) (.slice (some ⟨g5, 0, none⟩) (ws.length + 1) cp5) (rows ++ [[.int .i64 x.kind, .int .i64 x.id, .slice a2 x.vec.length d2, .int .i64 x.aa, .int .i64 x.seq]]) (bls ++ [bl]) := hT9.af (bL (Below.refl _ _) 1)
 have hBG : Below mb w w9.drew := hB9.drew
 refine wZz (fun w' => Ext (fun c => c = p) w9 w') (Ext.refl _ _).fN (fun zq => ?_)
 generalize w9.drew = wG at zq hTG hBG ⊢
 refine tkH 0 zq ?_
 refine tkH 1 zq ?_
 refine tkJ 2 (v := ?vg2) ?hg2 zq ?rg2
 case hg2 =>
  intro wS hSw
  have y3 : wS.cell? ⟨w.heap.size, 3, none⟩ = some (.int .i64 x.aa) := (hQ9.ext hSw (by omega)).at 3 _ rfl
  have y4 : wS.cell? ⟨w.heap.size, 4, none⟩ = some (.int .i64 x.seq) := (hQ9.ext hSw (by omega)).at 4 _ rfl
  clear hSw
  exact fZ
 refine tkH 3 zq ?_
 refine tkH 4 zq ?_
 refine tkJ 5 (v := ?vg5) ?hg5 zq ?rg5
 case hg5 =>
  intro wS hSw
  have y3 : wS.cell? ⟨w.heap.size, 3, none⟩ = some (.int .i64 x.aa) := (hQ9.ext hSw (by omega)).at 3 _ rfl
  have y4 : wS.cell? ⟨w.heap.size, 4, none⟩ = some (.int .i64 x.seq) := (hQ9.ext hSw (by omega)).at 4 _ rfl
  clear hSw
  exact fZ
 refine tkH 6 zq ?_
 refine tkH 7 zq ?_
 refine tkH 8 zq ?_
 refine tkH 10 zq ?_
 refine tkJ 11 (v := ?vg11) ?hg11 zq ?rg11
 case hg11 =>
  intro wS hSw
  have y3 : wS.cell? ⟨w.heap.size, 3, none⟩ = some (.int .i64 x.aa) := (hQ9.ext hSw (by omega)).at 3 _ rfl
  have y4 : wS.cell? ⟨w.heap.size, 4, none⟩ = some (.int .i64 x.seq) := (hQ9.ext hSw (by omega)).at 4 _ rfl
  clear hSw
  exact fZ
 refine tkH 13 zq ?_
 refine tkH 14 zq ?_
 refine rdH 9 (fun K hK => ?_)
 have zl : wG.cell? ⟨p, 2 + x.aa.toNat, none⟩ = some (.int .i64 (aA ws x.aa)) := by
  have := hTG.box.at _ _ (dy (.slice (some ⟨g5, 0, none⟩) (ws.length + 1) cp5) mb (aA ws) x.aa.toNat hs9)
  rwa [hsi] at this
 go_simp
 refine hK.out _ _ zq (fun zq => ?_)
 clear hK K
 try simp only [Act.put, pz, py, px]
 refine tkH 12 zq ?_
 refine tkH 15 zq ?_
 refine rdH 16 (fun K hK => ?_)
 have zl : wG.cell? ⟨p, 2 + x.aa.toNat, none⟩ = some (.int .i64 (aA ws x.aa)) := by
  have := hTG.box.at _ _ (dy (.slice (some ⟨g5, 0, none⟩) (ws.length + 1) cp5) mb (aA ws) x.aa.toNat hs9)
  rwa [hsi] at this
 have f6 := hTG.box.soft (2 + x.aa.toNat)
 have l6 := hTG.box.lt
 go_simp
 refine hK.out _ _ (zq.setCell ⟨p, 2 + x.aa.toNat, none⟩ _ rfl) (fun zq => ?_)
 clear hK K
 try simp only [Act.put, pz, py, px]
 refine dZ ?_
 have hTZ := ((hTG.kn x.aa.toNat hs9 ((if aA ws x.aa < x.seq then x.seq else aA ws x.aa))).same (n' := (ws ++ [x]).length) (by rw [uh hlen]; omega) (uh HLAST) (uh HSEEN)).top
 have hBZ : Below mb w (wG.setCell ⟨p, 2 + x.aa.toNat, none⟩ (.int .i64 ((if aA ws x.aa < x.seq then x.seq else aA ws x.aa)))) := hBG.setCell (by simp; omega) _
 clear zq hTG hBG
 generalize wG.setCell ⟨p, 2 + x.aa.toNat, none⟩ (.int .i64 (if aA ws x.aa < x.seq then x.seq else aA ws x.aa)) = wZ at hTZ hBZ ⊢
 go_wp2_with fail
 all_goals
  refine bodyPost_end (v := .tuple #[]) (by simp [results, Tryz.results253, go_sem]) rfl ?_
  exact ⟨rfl, ⟨_, _, _, hTZ⟩, hBZ⟩
def ei (x y z : Int) : Value := .agg #[.int .i64 x, .int .i64 y, .int .i64 z]
theorem bj.three {w : World} {v : Value} {zs : List Int} (h : bj w v zs) (h3 : zs.length = 3) :
  ∃ b off cap x y z, zs = [x, y, z] ∧ v = .slice (some ⟨b, off, none⟩) 3 cap ∧ b < w.heap.size ∧ w.cell? ⟨b, off, none⟩ = some (.int .i64 x) ∧ w.cell? ⟨b, off + 1, none⟩ = some (.int .i64 y) ∧ w.cell? ⟨b, off + 2, none⟩ = some (.int .i64 z) := by
 obtain ⟨ao, cap, rfl, hwf, hc⟩ := h
 match zs, h3 with
 | [x, y, z], _ =>
  obtain ⟨b, off, rfl, hc1⟩ := hc (by simp)
  have c0 := hc1 0 (by simp)
  have c1 := hc1 1 (by simp)
  have c2 := hc1 2 (by simp)
  exact ⟨b, off, cap, x, y, z, rfl, rfl, World.block_lt_of_cell? _ _ c0, c0, c1, c2⟩
theorem fW (v : Value) (zs : List Int) (w : World) (h : bj w v zs) (hf : aJ zs ≠ 0) :
  Calls Tryz.prog 263 #[v] w fun e w' => e = .returned (.tuple #[ei 0 0 0, .int .i64 (aJ zs)]) ∧ Below w.heap.size w w' := by
 go_enter Tryz.func263, Tryz.ntmps263
 go_wp2_with fail
 refine (fO v zs _ (h.af (((Below.refl _ _).alloc (Nat.le_refl _) _).alloc (by simp) _))).mono ?_
 rintro e w' ⟨rfl, rfl⟩
 have hne : (aJ zs != 0) = true := by rw [bne_iff_ne]; exact hf
 go_wp2_with fail
 refine bodyPost_ret (v := .tuple #[ei 0 0 0, .int .i64 (aJ zs)]) (by simp [results, Tryz.results263, go_sem, ei]) rfl ⟨rfl, ?_⟩
 exact ((Below.refl _ _).alloc (Nat.le_refl _) _).alloc (by simp) _
theorem eS (b off cap : Nat) (x y z : Int) (w : World) (hbl : b < w.heap.size) (c0 : w.cell? ⟨b, off, none⟩ = some (.int .i64 x)) (c1 : w.cell? ⟨b, off + 1, none⟩ = some (.int .i64 y)) (c2 : w.cell? ⟨b, off + 2, none⟩ = some (.int .i64 z))
  (h : bj w (.slice (some ⟨b, off, none⟩) 3 cap) [x, y, z]) (hf : aJ [x, y, z] = 0) :
  Calls Tryz.prog 263 #[.slice (some ⟨b, off, none⟩) 3 cap] w fun e w' => e = .returned (.tuple #[ei x y z, .int .i64 0]) ∧ Below w.heap.size w w' := by
 go_enter Tryz.func263, Tryz.ntmps263
 go_wp2_with fail
 refine (fO _ [x, y, z] _ (h.af (((Below.refl _ _).alloc (Nat.le_refl _) _).alloc (by simp) _))).mono ?_
 rintro e w' ⟨rfl, rfl⟩
 rw [hf]
 clear h hf
 go_wp2_with fail
 refine wp_loop_rounds 4 ?_
 rw [rounds_succ]
 go_wp2
 rw [rounds_succ]
 go_wp2
 rw [rounds_succ]
 go_wp2
 rw [rounds_succ]
 go_wp2
 refine bodyPost_ret (v := .tuple #[ei x y z, .int .i64 0]) (by simp [results, Tryz.results263, go_sem, ei]) rfl ⟨rfl, ?_⟩
 exact ((Below.refl _ _).alloc (Nat.le_refl _) _).alloc (by simp) _
theorem gB (v : Value) (x y z : Int) (w : World) (h : bj w v [x, y, z]) (hf : aJ [x, y, z] = 0) :
  Calls Tryz.prog 263 #[v] w fun e w' => e = .returned (.tuple #[ei x y z, .int .i64 0]) ∧ Below w.heap.size w w' := by
 obtain ⟨b, off, cap, x', y', z', he, rfl, hbl, c0, c1, c2⟩ := h.three rfl
 simp only [List.cons.injEq, and_true] at he
 obtain ⟨rfl, rfl, rfl⟩ := he
 exact eS b off cap x y z w hbl c0 c1 c2 h hf
def lX (x y z : Int) : Value := .iface 298 (.agg #[.int .i64 x, .int .i64 y, .int .i64 z])
def j6 : Value := .iface 294 (.agg #[])
def fH (k : Int) (zs : List Int) : Value := if k = 1 then lX (zs.getD 0 0) (zs.getD 1 0) (zs.getD 2 0) else j6
def dN (k i : Int) (zs : List Int) (s q : Int) : Value := if al k i zs s q = 0 then fH k zs else .nilIface
def kv (i s q : Int) : Prop := (1 ≤ i ∧ i ≤ 999) ∧ (1 ≤ s ∧ s ≤ 9) ∧ 1 ≤ q ∧ q ≤ 999
theorem fL {i s q : Int} (h : kv i s q) : bO i s q = true := by
 obtain ⟨⟨a, b⟩, ⟨c, d⟩, e, f⟩ := h
 simp [bO, a, b, c, d, e, f]
theorem fh {i s q : Int} (h : ¬ kv i s q) : bO i s q = false := by
 rw [Bool.eq_false_iff]
 intro hb
 simp only [bO, Bool.and_eq_true, decide_eq_true_eq] at hb
 exact h ⟨hb.1, hb.2.1, hb.2.2⟩
theorem fK {k i s q : Int} {zs : List Int} (hk : ck k zs.length = true) (h : ¬ kv i s q) : al k i zs s q = 3 := by
 rw [al, hk, if_pos rfl, fh h]; rfl
theorem ik {i s q : Int} (h : kv i s q) : al 2 i [] s q = 0 := by
 rw [al, show ck 2 ([] : List Int).length = true from rfl, if_pos rfl, fL h]; rfl
theorem j7 {k i s q : Int} {zs : List Int} (hk : ck k zs.length = true) (h : kv i s q) : al k i zs s q = if k = 1 then aJ zs else 0 := by
 rw [al, hk, if_pos rfl, fL h, if_pos rfl]
def bU (w w' : World) (e : Ending) (k i : Int) (zs : List Int) (s q : Int) : Prop := e = .returned (.tuple #[dN k i zs s q, .int .i64 (al k i zs s q)]) ∧ Below w.heap.size w w'
theorem bx {w w' : World} {k i s q c : Int} {zs : List Int} (hc : al k i zs s q = c) (h0 : c ≠ 0) (hb : Below w.heap.size w w') : bU w w' (.returned (.tuple #[.nilIface, .int .i64 c])) k i zs s q := by
 refine ⟨?_, hb⟩
 rw [dN, hc, if_neg h0]
theorem er {w w' : World} {k i s q : Int} {zs : List Int} {v : Value} (hc : al k i zs s q = 0) (hv : v = fH k zs) (hb : Below w.heap.size w w') : bU w w' (.returned (.tuple #[v, .int .i64 0])) k i zs s q := by
 refine ⟨?_, hb⟩
 rw [dN, hc, if_pos rfl, hv]
theorem en (n : Int) (w : World) : Calls Tryz.prog 123 #[.int .i64 n] w fun e w' => e = .returned (.bool (decide (1 ≤ n) && decide (n ≤ 999))) ∧ w' = w := by
 by_cases h1 : 1 ≤ n
 ·
  have d1 : decide (1 ≤ n) = true := by simpa using h1
  rw [d1]
  cases d2 : decide (n ≤ 999) <;>
  ·
   go_enter Tryz.func123, Tryz.ntmps123
   go_wp2
   go_ret
   exact ⟨rfl, rfl⟩
 have d1 : decide (1 ≤ n) = false := by simpa using h1
 rw [d1]
 go_enter Tryz.func123, Tryz.ntmps123
 go_wp2
 go_ret
 exact ⟨rfl, rfl⟩
theorem ca (n : Int) (w : World) : Calls Tryz.prog 216 #[.int .i64 n] w fun e w' => e = .returned (.bool (decide (1 ≤ n) && decide (n ≤ 9))) ∧ w' = w := by
 by_cases h1 : 1 ≤ n
 ·
  have d1 : decide (1 ≤ n) = true := by simpa using h1
  rw [d1]
  cases d2 : decide (n ≤ 9) <;>
  ·
   go_enter Tryz.func216, Tryz.ntmps216
   go_wp2
   go_ret
   exact ⟨rfl, rfl⟩
 have d1 : decide (1 ≤ n) = false := by simpa using h1
 rw [d1]
 go_enter Tryz.func216, Tryz.ntmps216
 go_wp2
 go_ret
 exact ⟨rfl, rfl⟩
theorem fb (n : Int) (w : World) : Calls Tryz.prog 217 #[.int .i64 n] w fun e w' => e = .returned (.bool (decide (1 ≤ n) && decide (n ≤ 999))) ∧ w' = w := by
 by_cases h1 : 1 ≤ n
 ·
  have d1 : decide (1 ≤ n) = true := by simpa using h1
  rw [d1]
  cases d2 : decide (n ≤ 999) <;>
  ·
   go_enter Tryz.func217, Tryz.ntmps217
   go_wp2
   go_ret
   exact ⟨rfl, rfl⟩
 have d1 : decide (1 ≤ n) = false := by simpa using h1
 rw [d1]
 go_enter Tryz.func217, Tryz.ntmps217
 go_wp2
 go_ret
 exact ⟨rfl, rfl⟩
theorem fm (i : Int) (ao : Option Addr) (cap : Nat) (s q : Int) (zs : List Int) (w : World) (hb : ¬ kv i s q) :
  Calls Tryz.prog 236 #[.agg #[.int .i64 1, .int .i64 i, .slice ao zs.length cap, .int .i64 s, .int .i64 q]] w fun e w' => bU w w' e 1 i zs s q := by
 have HB : Hid (∀ o, Below w.heap.size w (w.alloc o)) := fun o => (Below.refl _ _).alloc (Nat.le_refl _) o
 have HF : Hid (al 1 i zs s q = 3) := fK rfl hb
 have hbb := fh hb
 unfold bO at hbb
 clear hb
 cases dI : (decide (1 ≤ i) && decide (i ≤ 999)) with
 | false =>
  clear hbb
  go_enter Tryz.func236, Tryz.ntmps236
  go_wp2_with fail
  refine (en i _).mono ?_
  rintro e w1 ⟨rfl, rfl⟩
  rw [dI]
  go_wp2_with fail
  go_ret2
  exact bx (uh HF) (by omega) (uh HB _)
 | true =>
  cases dS : (decide (1 ≤ s) && decide (s ≤ 9)) with
  | false =>
   clear hbb
   go_enter Tryz.func236, Tryz.ntmps236
   go_wp2_with fail
   refine (en i _).mono ?_
   rintro e w1 ⟨rfl, rfl⟩
   rw [dI]
   go_wp2_with fail
   refine (ca s _).mono ?_
   rintro e w1 ⟨rfl, rfl⟩
   rw [dS]
   go_wp2_with fail
   go_ret2
   exact bx (uh HF) (by omega) (uh HB _)
  | true =>
   have dQ : (decide (1 ≤ q) && decide (q ≤ 999)) = false := by rw [dI, dS] at hbb; simpa using hbb
   clear hbb
   go_enter Tryz.func236, Tryz.ntmps236
   go_wp2_with fail
   refine (en i _).mono ?_
   rintro e w1 ⟨rfl, rfl⟩
   rw [dI]
   go_wp2_with fail
   refine (ca s _).mono ?_
   rintro e w1 ⟨rfl, rfl⟩
   rw [dS]
   go_wp2_with fail
   refine (fb q _).mono ?_
   rintro e w1 ⟨rfl, rfl⟩
   rw [dQ]
   go_wp2_with fail
   go_ret2
   exact bx (uh HF) (by omega) (uh HB _)
theorem eJ (i : Int) (ao : Option Addr) (cap : Nat) (s q : Int) (w : World) (hb : ¬ kv i s q) :
  Calls Tryz.prog 236 #[.agg #[.int .i64 2, .int .i64 i, .slice ao 0 cap, .int .i64 s, .int .i64 q]] w fun e w' => bU w w' e 2 i [] s q := by
 have HB : Hid (∀ o, Below w.heap.size w (w.alloc o)) := fun o => (Below.refl _ _).alloc (Nat.le_refl _) o
 have HF : Hid (al 2 i [] s q = 3) := fK rfl hb
 have hbb := fh hb
 unfold bO at hbb
 clear hb
 cases dI : (decide (1 ≤ i) && decide (i ≤ 999)) with
 | false =>
  clear hbb
  go_enter Tryz.func236, Tryz.ntmps236
  go_wp2_with fail
  refine (en i _).mono ?_
  rintro e w1 ⟨rfl, rfl⟩
  rw [dI]
  go_wp2_with fail
  go_ret2
  exact bx (uh HF) (by omega) (uh HB _)
 | true =>
  cases dS : (decide (1 ≤ s) && decide (s ≤ 9)) with
  | false =>
   clear hbb
   go_enter Tryz.func236, Tryz.ntmps236
   go_wp2_with fail
   refine (en i _).mono ?_
   rintro e w1 ⟨rfl, rfl⟩
   rw [dI]
   go_wp2_with fail
   refine (ca s _).mono ?_
   rintro e w1 ⟨rfl, rfl⟩
   rw [dS]
   go_wp2_with fail
   go_ret2
   exact bx (uh HF) (by omega) (uh HB _)
  | true =>
   have dQ : (decide (1 ≤ q) && decide (q ≤ 999)) = false := by rw [dI, dS] at hbb; simpa using hbb
   clear hbb
   go_enter Tryz.func236, Tryz.ntmps236
   go_wp2_with fail
   refine (en i _).mono ?_
   rintro e w1 ⟨rfl, rfl⟩
   rw [dI]
   go_wp2_with fail
   refine (ca s _).mono ?_
   rintro e w1 ⟨rfl, rfl⟩
   rw [dS]
   go_wp2_with fail
   refine (fb q _).mono ?_
   rintro e w1 ⟨rfl, rfl⟩
   rw [dQ]
   go_wp2_with fail
   go_ret2
   exact bx (uh HF) (by omega) (uh HB _)
theorem hL (i : Int) (ao : Option Addr) (cap : Nat) (s q : Int) (w : World) (hb : kv i s q) :
  Calls Tryz.prog 236 #[.agg #[.int .i64 2, .int .i64 i, .slice ao 0 cap, .int .i64 s, .int .i64 q]] w fun e w' => bU w w' e 2 i [] s q := by
 have HB : Hid (∀ o, Below w.heap.size w (w.alloc o)) := fun o => (Below.refl _ _).alloc (Nat.le_refl _) o
 have HF : Hid (al 2 i [] s q = 0) := ik hb
 obtain ⟨⟨i1, i2⟩, ⟨s1, s2⟩, q1, q2⟩ := hb
 have dI : (decide (1 ≤ i) && decide (i ≤ 999)) = true := by simp [i1, i2]
 have dS : (decide (1 ≤ s) && decide (s ≤ 9)) = true := by simp [s1, s2]
 have dQ : (decide (1 ≤ q) && decide (q ≤ 999)) = true := by simp [q1, q2]
 go_enter Tryz.func236, Tryz.ntmps236
 go_wp2_with fail
 refine (en i _).mono ?_
 rintro e w1 ⟨rfl, rfl⟩
 rw [dI]
 go_wp2_with fail
 refine (ca s _).mono ?_
 rintro e w1 ⟨rfl, rfl⟩
 rw [dS]
 go_wp2_with fail
 refine (fb q _).mono ?_
 rintro e w1 ⟨rfl, rfl⟩
 rw [dQ]
 go_wp2_with fail
 go_ret2
 exact er (uh HF) rfl (uh HB _)
theorem gE (i : Int) (ao : Option Addr) (cap n : Nat) (s q : Int) (zs : List Int) (w : World) (hn : zs.length = n + 1) :
  Calls Tryz.prog 236 #[.agg #[.int .i64 2, .int .i64 i, .slice ao (n + 1) cap, .int .i64 s, .int .i64 q]] w fun e w' => bU w w' e 2 i zs s q := by
 have B0 : ∀ o, Below w.heap.size w (w.alloc o) := fun o => (Below.refl _ _).alloc (Nat.le_refl _) o
 have HB := yh B0
 have hF : al 2 i zs s q = 1 := by
  have : ck 2 zs.length = false := by simp [ck]; omega
  rw [al, this]; rfl
 have HF := yh hF
 clear B0 hF hn
 go_enter Tryz.func236, Tryz.ntmps236
 go_wp2
 go_ret2
 exact bx (uh HF) (by omega) (uh HB _)
theorem gD (k i : Int) (ao : Option Addr) (cap : Nat) (s q : Int) (zs : List Int) (w : World) (h1 : k ≠ 1) (h2 : k ≠ 2) :
  Calls Tryz.prog 236 #[.agg #[.int .i64 k, .int .i64 i, .slice ao zs.length cap, .int .i64 s, .int .i64 q]] w fun e w' => bU w w' e k i zs s q := by
 have B0 : ∀ o, Below w.heap.size w (w.alloc o) := fun o => (Below.refl _ _).alloc (Nat.le_refl _) o
 have HB := yh B0
 have hF : al k i zs s q = 1 := by
  have : ck k zs.length = false := by simp [ck]; omega
  rw [al, this]; rfl
 have HF := yh hF
 clear B0 hF
 go_enter Tryz.func236, Tryz.ntmps236
 go_wp2
 go_ret2
 exact bx (uh HF) (by omega) (uh HB _)
theorem gm (v : Value) (zs : List Int) (w : World) (h : bj w v zs) :
  Calls Tryz.prog 263 #[v] w fun e w' => e = .returned (.tuple #[if aJ zs = 0 then ei (zs.getD 0 0) (zs.getD 1 0) (zs.getD 2 0) else ei 0 0 0, .int .i64 (aJ zs)]) ∧ Below w.heap.size w w' := by
 by_cases hf : aJ zs = 0
 ·
  obtain ⟨hl, -⟩ := dC hf
  match zs, hl with
  | [x, y, z], _ =>
   rw [if_pos hf]
   refine (gB v x y z w h hf).mono ?_
   rintro e w' ⟨rfl, hb⟩
   exact ⟨by rw [hf]; rfl, hb⟩
 rw [if_neg hf]
 exact fW v zs w h hf
theorem ix (i : Int) (ao : Option Addr) (cap : Nat) (s q : Int) (zs : List Int) (w : World) (h : bj w (.slice ao zs.length cap) zs) (hb : kv i s q) :
  Calls Tryz.prog 236 #[.agg #[.int .i64 1, .int .i64 i, .slice ao zs.length cap, .int .i64 s, .int .i64 q]] w fun e w' => bU w w' e 1 i zs s q := by
 have B0 : Below w.heap.size w (w.alloc (.cells #[.int .i64 1, .int .i64 i, .slice ao zs.length cap, .int .i64 s, .int .i64 q] 142)) := (Below.refl _ _).alloc (Nat.le_refl _) _
 have HB := yh B0
 have H := yh (h.af B0)
 clear h B0
 have HF : Hid (al 1 i zs s q = aJ zs) := j7 rfl hb
 obtain ⟨⟨i1, i2⟩, ⟨s1, s2⟩, q1, q2⟩ := hb
 have dI : (decide (1 ≤ i) && decide (i ≤ 999)) = true := by simp [i1, i2]
 have dS : (decide (1 ≤ s) && decide (s ≤ 9)) = true := by simp [s1, s2]
 have dQ : (decide (1 ≤ q) && decide (q ≤ 999)) = true := by simp [q1, q2]
 go_enter Tryz.func236, Tryz.ntmps236
 go_wp2_with fail
 refine (en i _).mono ?_
 rintro e w1 ⟨rfl, rfl⟩
 rw [dI]
 go_wp2_with fail
 refine (ca s _).mono ?_
 rintro e w1 ⟨rfl, rfl⟩
 rw [dS]
 go_wp2_with fail
 refine (fb q _).mono ?_
 rintro e w1 ⟨rfl, rfl⟩
 rw [dQ]
 go_wp2_with fail
 refine (gm _ zs _ (uh H)).mono ?_
 rintro e w1 ⟨rfl, hb1⟩
 have HB1 := yh ((uh HB).trans (hb1.mono (uh HB).size))
 have hz : w.heap.size ≤ w1.heap.size := (uh HB1).size
 clear HB hb1 H
 generalize hV : aJ zs = F at *
 by_cases hf : F = 0
 ·
  subst hf
  rw [if_pos rfl]
  simp only [ei]
  go_wp2_with fail
  go_ret2
  refine er (uh HF) ?_ ?_
  ·
   rw [fH, if_pos rfl]; rfl
  exact (uh HB1).alloc hz _
 rw [if_neg hf]
 have hd : (F != 0) = true := by rw [bne_iff_ne]; exact hf
 have HN := yh hf
 clear hf
 simp only [ei]
 go_wp2_with fail
 go_ret2
 exact bx (uh HF) (uh HN) ((uh HB1).alloc hz _)
theorem gY (k i : Int) (v : Value) (s q : Int) (zs : List Int) (w : World) (h : bj w v zs) :
  Calls Tryz.prog 236 #[.agg #[.int .i64 k, .int .i64 i, v, .int .i64 s, .int .i64 q]] w fun e w' => bU w w' e k i zs s q := by
 have h' := h
 obtain ⟨ao, cap, rfl, -⟩ := h'
 by_cases h1 : k = 1
 ·
  subst h1
  by_cases hb : kv i s q
  ·
   exact ix i ao cap s q zs w h hb
  exact fm i ao cap s q zs w hb
 by_cases h2 : k = 2
 ·
  subst h2
  rcases Nat.eq_zero_or_pos zs.length with h0 | h0
  ·
   obtain rfl : zs = [] := List.eq_nil_of_length_eq_zero h0
   by_cases hb : kv i s q
   ·
    exact hL i ao cap s q w hb
   exact eJ i ao cap s q w hb
  obtain ⟨n, hn⟩ : ∃ n, zs.length = n + 1 := ⟨zs.length - 1, by omega⟩
  rw [hn]
  exact gE i ao cap n s q zs w hn
 exact gD k i ao cap s q zs w h1 h2
end Go.Proofs.YtecagllmonckgaaGreat
