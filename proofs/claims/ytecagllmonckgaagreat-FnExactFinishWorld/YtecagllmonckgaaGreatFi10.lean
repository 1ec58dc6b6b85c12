/-
  Texts of this proof in one: ImplWH, ImplMust, ImplInts, ImplSameW, ImplMsgF, ImplFaced, ImplNetF, ImplWF, ImplClone, CloneC, ImplCopied, CopyNs, LayPart, CloneH.
  Their conditions stand in their theorems.
-/
import Derived.Test.YtecagllmonckgaaGreatFi09
import Derived.Deep.CutRange
import Derived.Test.YtecagllmonckgaaGreatFi00
import Derived.Test.YtecagllmonckgaaGreatChecked
import Derived.Test.YtecagllmonckgaaGreatFi01
import Derived.WalkKit
import Derived.WalkLawsBesides
import Derived.Test.YtecagllmonckgaaGreatFi05
import Derived.BigQuiet
import Derived.Deep.QuietTactic
import Derived.WalkSmall
import Derived.Test.YtecagllmonckgaaGreatFi08
import Derived.Test.YtecagllmonckgaaGreatFi06
import Derived.Defers
import Derived.Recover
import Derived.Laws.Pointers
import Derived.Test.YtecagllmonckgaaGreatFi03
set_option maxRecDepth 100000
set_option maxHeartbeats 4000000
namespace Go.Proofs.YtecagllmonckgaaGreat
open Go.RowKit
def eC (ev : Int) (e : aZ) : Bool := ((decide (1 ≤ e.kind) && decide (e.kind ≤ 3)) && ((decide (1 ≤ e.start) && decide (e.start ≤ ev)) && ((e.fin == 0 || (decide (e.start ≤ e.fin) && decide (e.fin ≤ ev))) && (decide (0 ≤ e.place) && decide (e.place ≤ 40)))))
theorem qu (cs : List Value) (x : aZ) (ev : Int) (w : World) (h : ab.ar.Reads w cs x) :
  Calls Tryz.prog 187 #[.agg cs.toArray, .int .i64 ev] w fun e w' => e = .returned (.bool (eC ev x)) ∧ Below w.heap.size w w' := by
 have HP : Hid (eC ev x = ((decide (1 ≤ x.kind) && decide (x.kind ≤ 3)) && ((decide (1 ≤ x.start) && decide (x.start ≤ ev)) && ((x.fin == 0 || (decide (x.start ≤ x.fin) && decide (x.fin ≤ ev))) && (decide (0 ≤ x.place) && decide (x.place ≤ 40)))))) := rfl
 generalize eC ev x = r at *
 obtain ⟨aq, dq, av, dv, ah, dh, rfl, -, -, -⟩ := bB h
 have nb : Below w.heap.size w (w.alloc (.cells #[.int .i64 x.kind, .int .i64 x.aa, .int .i64 x.seq, .int .i64 x.id, .slice aq x.query.length dq, .int .i64 x.k, .int .i64 x.start, .int .i64 x.fin, .int .i64 x.place, .slice av x.vec.length dv, .slice ah x.aN.length dh] 85)) := (Below.refl _ _).alloc (Nat.le_refl _) _
 have bX : aj 0 #[.int .i64 x.kind, .int .i64 x.aa, .int .i64 x.seq, .int .i64 x.id, .slice aq x.query.length dq, .int .i64 x.k, .int .i64 x.start, .int .i64 x.fin, .int .i64 x.place, .slice av x.vec.length dv, .slice ah x.aN.length dh] 85 (w.alloc (.cells #[.int .i64 x.kind, .int .i64 x.aa, .int .i64 x.seq, .int .i64 x.id, .slice aq x.query.length dq, .int .i64 x.k, .int .i64 x.start, .int .i64 x.fin, .int .i64 x.place, .slice av x.vec.length dv, .slice ah x.aN.length dh] 85)) w.heap.size := aH (Nat.zero_le _)
 have z0 := aj.at bX 0 _ rfl
 have z6 := aj.at bX 6 _ rfl
 have z7 := aj.at bX 7 _ rfl
 have z8 := aj.at bX 8 _ rfl
 simp only [ga, gb, gc] at z0 z6 z7 z8
 have HB := yh nb
 clear nb bX h
 go_enter Tryz.func187, Tryz.ntmps187
 go_upto_region 1 with fail
 generalize w.alloc (.cells #[.int .i64 x.kind, .int .i64 x.aa, .int .i64 x.seq, .int .i64 x.id, .slice aq x.query.length dq, .int .i64 x.k, .int .i64 x.start, .int .i64 x.fin, .int .i64 x.place, .slice av x.vec.length dv, .slice ah x.aN.length dh] 85) = w1 at *
 generalize x.kind = kd at *
 generalize x.start = st at *
 generalize x.fin = fi at *
 generalize x.place = pl at *
 go_cut [5] from 8 to 15 (fun s5 wx => s5 = .bool (decide (1 ≤ kd) && decide (kd ≤ 3)) ∧ wx = w1)
 case first =>
  cases k1 : decide (1 ≤ kd)
  ·
   go_wp2_with fail
   go_meet
   exact ⟨by rw [k1]; rfl, rfl⟩
  go_wp2_with fail
  go_meet
  exact ⟨by rw [k1, Bool.true_and], rfl⟩
 case rest =>
  obtain ⟨rfl, rfl⟩ := hcut
  generalize (decide (1 ≤ kd) && decide (kd ≤ 3)) = A at *
  go_upto_region 2 with fail
  go_cut [6] from 16 to 24 (fun s wx => s = .bool (decide (1 ≤ st) && decide (st ≤ ev)) ∧ wx = wc)
  case first =>
   cases k3 : decide (1 ≤ st)
   ·
    go_wp2_with fail
    go_meet
    exact ⟨by rw [k3]; rfl, rfl⟩
   go_wp2_with fail
   go_meet
   exact ⟨by rw [k3, Bool.true_and], rfl⟩
  case rest =>
   obtain ⟨rfl, rfl⟩ := hcut
   generalize (decide (1 ≤ st) && decide (st ≤ ev)) = B at *
   go_upto_region 3 with fail
   go_cut [7] from 25 to 35 (fun s wx => s = .bool (decide (st ≤ fi) && decide (fi ≤ ev)) ∧ wx = wc)
   case first =>
    cases k5 : decide (st ≤ fi)
    ·
     go_wp2_with fail
     go_meet
     exact ⟨by rw [k5]; rfl, rfl⟩
    go_wp2_with fail
    go_meet
    exact ⟨by rw [k5, Bool.true_and], rfl⟩
   case rest =>
    obtain ⟨rfl, rfl⟩ := hcut
    generalize (decide (st ≤ fi) && decide (fi ≤ ev)) = C at *
    cases A
    ·
     go_wp2_with fail
     go_ret
     exact ⟨by rw [uh HP]; rfl, uh HB⟩
    cases B
    ·
     go_wp2_with fail
     go_ret
     exact ⟨by rw [uh HP]; rfl, uh HB⟩
    cases C
    ·
     generalize k7 : (fi == 0) = Z at *
     cases Z
     ·
      go_wp2_with fail
      go_ret
      exact ⟨by rw [uh HP]; simp, uh HB⟩
     skip
     go_wp2_with fail
     refine (ea pl 40 wc).mono ?_
     rintro e w2 ⟨rfl, h2⟩
     subst w2
     generalize (decide (0 ≤ pl) && decide (pl ≤ 40)) = D at *
     go_wp2_with fail
     go_ret
     exact ⟨by rw [uh HP]; simp, uh HB⟩
    skip
    go_wp2_with fail
    refine (ea pl 40 wc).mono ?_
    rintro e w2 ⟨rfl, h2⟩
    subst w2
    generalize (decide (0 ≤ pl) && decide (pl ≤ 40)) = D at *
    go_wp2_with fail
    go_ret
    exact ⟨by rw [uh HP]; simp, uh HB⟩
theorem oC (ev : Int) {xs : List aZ} {k : Nat} (hk : k < xs.length) : (xs.drop k).all (eC ev) = (eC ev xs[k] && (xs.drop (k + 1)).all (eC ev)) := by
 rw [List.drop_eq_getElem_cons hk, List.all_cons]
def nQ (ev : Int) (xs : List aZ) : Int := if 60 < xs.length then 2 else if (xs.drop 0).all (eC ev) then 0 else 3
theorem jG (v : Value) (xs : List aZ) (ev : Int) (w : World) (h : (ab.sl ab.ar).Reads w [v] xs) :
  Calls Tryz.prog 120 #[v, .int .i64 ev] w fun e w' => e = .returned (.int .i64 (nQ ev xs)) ∧ Below w.heap.size w w' := by
 have hbig := h.dK
 obtain ⟨ao, cap, rfl⟩ := aE h
 have H := yh h
 have HP : Hid (nQ ev xs = if 60 < xs.length then 2 else if (xs.drop 0).all (eC ev) then 0 else 3) := rfl
 clear h
 generalize nQ ev xs = r at *
 go_enter Tryz.func120, Tryz.ntmps120
 cases d1 : decide ((60 : Int) < (xs.length : Int))
 ·
  replace HP := yh ((uh HP).trans (if_neg (by simp at d1; omega)))
  go_wp2_with fail
  clear d1
  go_loopw [12] (fun i wr => ∃ k : Nat, k ≤ xs.length ∧ i = .int .i64 k ∧ r = (if (xs.drop k).all (eC ev) = true then 0 else 3) ∧ Below w.heap.size w wr) (fun i _ => xs.length - (intOf i).toNat)
  case atStart => exact ⟨0, Nat.zero_le _, rfl, uh HP, Below.refl _ _⟩
  case round =>
   obtain ⟨k, hk, rfl, hF, hB⟩ := hrel
   clear HP
   by_cases hlt : k < xs.length
   ·
    obtain ⟨b, off, rfl, hbl⟩ := ab.aI (uh H) (by omega)
    obtain ⟨row, hcl, hr⟩ := ab.bm (uh H) hlt
    replace hr := hr.ag hB
    rw [oC ev hlt] at hF
    have hdl : decide ((k : Int) < (xs.length : Int)) = true := by simp; omega
    obtain ⟨aq, dq, av, dv, ah, dh, rfl, -⟩ := bB hr
    have c0 : wr.cell? ⟨b, off + k * 11, none⟩ = some (.int .i64 (xs[k]).kind) := (hB.cell (p := ⟨b, off + k * 11, none⟩) hbl).trans (hcl 0 (by decide))
    have c1 : wr.cell? ⟨b, off + k * 11 + 1, none⟩ = some (.int .i64 (xs[k]).aa) := (hB.cell (p := ⟨b, off + k * 11 + 1, none⟩) hbl).trans (hcl 1 (by decide))
    have c2 : wr.cell? ⟨b, off + k * 11 + 2, none⟩ = some (.int .i64 (xs[k]).seq) := (hB.cell (p := ⟨b, off + k * 11 + 2, none⟩) hbl).trans (hcl 2 (by decide))
    have c3 : wr.cell? ⟨b, off + k * 11 + 3, none⟩ = some (.int .i64 (xs[k]).id) := (hB.cell (p := ⟨b, off + k * 11 + 3, none⟩) hbl).trans (hcl 3 (by decide))
    have c4 : wr.cell? ⟨b, off + k * 11 + 4, none⟩ = some (.slice aq (xs[k]).query.length dq) := (hB.cell (p := ⟨b, off + k * 11 + 4, none⟩) hbl).trans (hcl 4 (by decide))
    have c5 : wr.cell? ⟨b, off + k * 11 + 5, none⟩ = some (.int .i64 (xs[k]).k) := (hB.cell (p := ⟨b, off + k * 11 + 5, none⟩) hbl).trans (hcl 5 (by decide))
    have c6 : wr.cell? ⟨b, off + k * 11 + 6, none⟩ = some (.int .i64 (xs[k]).start) := (hB.cell (p := ⟨b, off + k * 11 + 6, none⟩) hbl).trans (hcl 6 (by decide))
    have c7 : wr.cell? ⟨b, off + k * 11 + 7, none⟩ = some (.int .i64 (xs[k]).fin) := (hB.cell (p := ⟨b, off + k * 11 + 7, none⟩) hbl).trans (hcl 7 (by decide))
    have c8 : wr.cell? ⟨b, off + k * 11 + 8, none⟩ = some (.int .i64 (xs[k]).place) := (hB.cell (p := ⟨b, off + k * 11 + 8, none⟩) hbl).trans (hcl 8 (by decide))
    have c9 : wr.cell? ⟨b, off + k * 11 + 9, none⟩ = some (.slice av (xs[k]).vec.length dv) := (hB.cell (p := ⟨b, off + k * 11 + 9, none⟩) hbl).trans (hcl 9 (by decide))
    have c10 : wr.cell? ⟨b, off + k * 11 + 10, none⟩ = some (.slice ah (xs[k]).aN.length dh) := (hB.cell (p := ⟨b, off + k * 11 + 10, none⟩) hbl).trans (hcl 10 (by decide))
    have HF := yh hF
    have HR := yh hr
    have HB := yh hB
    clear hF hr hB hcl
    generalize hx : xs[k] = x at *
    clear hx
    have nb : Below wr.heap.size wr (wr.alloc (.cells #[.int .i64 x.kind, .int .i64 x.aa, .int .i64 x.seq, .int .i64 x.id, .slice aq x.query.length dq, .int .i64 x.k, .int .i64 x.start, .int .i64 x.fin, .int .i64 x.place, .slice av x.vec.length dv, .slice ah x.aN.length dh] 85)) := (Below.refl _ _).alloc (Nat.le_refl _) _
    have HL := yh (qu _ x ev _ ((uh HR).ag nb))
    replace HB := bZ HB nb
    clear nb
    go_wp2_with fail
    refine (uh HL).mono ?_
    generalize wr.alloc (.cells #[.int .i64 x.kind, .int .i64 x.aa, .int .i64 x.seq, .int .i64 x.id, .slice aq x.query.length dq, .int .i64 x.k, .int .i64 x.start, .int .i64 x.fin, .int .i64 x.place, .slice av x.vec.length dv, .slice ah x.aN.length dh] 85) = W1 at *
    rintro e W2 ⟨rfl, hb⟩
    replace HB := bZ HB hb
    clear hb HL c0 c1 c2 c3 c4 c5 c6 c7 c8 c9 c10
    cases hf : eC ev x
    ·
     replace HF := yh ((uh HF).trans (if_neg (by rw [hf]; simp)))
     clear hf
     go_wp2_with fail
     go_ret
     exact ⟨by rw [uh HF]; rfl, uh HB⟩
    rw [hf, Bool.true_and] at HF
    clear hf
    go_wp2_with fail
    go_roundw
    case rel => exact ⟨k + 1, by omega, by go_num, uh HF, uh HB⟩
    case measure => simp [intOf]; omega
   obtain rfl : k = xs.length := by omega
   rw [List.drop_length, List.all_nil, if_pos rfl] at hF
   have hdl : decide ((xs.length : Int) < (xs.length : Int)) = false := by simp
   have HF := yh hF
   have HB := yh hB
   clear hF hB
   go_wp2_with fail
   go_ret
   exact ⟨by rw [uh HF]; rfl, uh HB⟩
 replace HP := yh ((uh HP).trans (if_pos (by simp at d1; omega)))
 go_wp2_with fail
 go_ret
 exact ⟨by rw [uh HP]; rfl, Below.refl _ _⟩
def fc (c : Int) : List PanicEntry := [{ v := .iface 285 (.agg #[.int .i64 c]), recovered := false }]
def gG (c : Int) : Ending := if c = 0 then .returned (.tuple #[]) else .panicked (fc c)
theorem kp {c : Int} (h : c = 0) : gG c = .returned (.tuple #[]) := by rw [gG, if_pos h]
theorem eT {c : Int} (h : c ≠ 0) : gG c = .panicked (fc c) := by rw [gG, if_neg h]
def lS (v : Value) (c : Int) : Ending := if c = 0 then .returned v else .panicked (fc c)
theorem lZ {v : Value} {c : Int} (h : c = 0) : lS v c = .returned v := by rw [lS, if_pos h]
theorem jU {v : Value} {c : Int} (h : c ≠ 0) : lS v c = .panicked (fc c) := by rw [lS, if_neg h]
theorem ey (c : Int) (w : World) :
  Calls Tryz.prog 232 #[.bool true, .int .i64 c] w fun e w' => e = .returned (.tuple #[]) ∧ w' = w := by
 go_enter Tryz.func232, Tryz.ntmps232
 go_wp2_with fail
 go_end0
 exact ⟨rfl, rfl⟩
theorem eB (c : Int) (w : World) :
  Calls Tryz.prog 232 #[.bool false, .int .i64 c] w fun e w' => e = .panicked (fc c) ∧ w' = w := by
 go_enter Tryz.func232, Tryz.ntmps232
 go_wp2_with fail
 exact ⟨rfl, rfl, rfl⟩
theorem jw {ps qs : List Int} {k : Nat} (h : ps.getD k 0 ≠ qs.getD k 0) : decide (ps = qs) = false := by
 simp only [decide_eq_false_iff_not]
 rintro rfl
 exact h rfl
theorem iI {ps qs : List Int} (hl : ps.length = qs.length) (h : ∀ j, j < ps.length → ps.getD j 0 = qs.getD j 0) : decide (ps = qs) = true := by
 simp only [decide_eq_true_eq]
 refine List.ext_getElem hl fun j h1 h2 => ?_
 have := h j h1
 simpa [List.getD, h1, h2] using this
theorem lV (b off cap b2 off2 cap2 : Nat) (ps qs : List Int) (w : World) (hl : ps.length = qs.length) (hn : ps.length ≤ 9223372036854775807) (hc : ∀ j, j < ps.length → w.cell? ⟨b, off + j, none⟩ = some (.int .i64 (ps.getD j 0)))
  (hc2 : ∀ j, j < ps.length → w.cell? ⟨b2, off2 + j, none⟩ = some (.int .i64 (qs.getD j 0))) :
  Calls Tryz.prog 214 #[.slice (some ⟨b, off, none⟩) ps.length cap, .slice (some ⟨b2, off2, none⟩) ps.length cap2] w fun e w' => e = .returned (.bool (decide (ps = qs))) ∧ Below w.heap.size w w' := by
 have HL := yh hl
 clear hl
 go_enter Tryz.func214, Tryz.ntmps214
 go_wp2
 go_loopw [13] (fun i wr => ∃ k : Nat, k ≤ ps.length ∧ i = .int .i64 k ∧ Below w.heap.size w wr ∧ ∀ j, j < k → ps.getD j 0 = qs.getD j 0) (fun i _ => ps.length - (intOf i).toNat)
 case atStart => exact ⟨0, Nat.zero_le _, rfl, Below.refl _ _, fun j hj => by omega⟩
 case round =>
  obtain ⟨k, hk, rfl, hB, hq⟩ := hrel
  by_cases hlt : k < ps.length
  ·
   have hcx : wr.cell? ⟨b, off + k, none⟩ = some (.int .i64 (ps.getD k 0)) := (hB.cell (World.block_lt_of_cell? _ _ (hc k hlt))).trans (hc k hlt)
   have hcy : wr.cell? ⟨b2, off2 + k, none⟩ = some (.int .i64 (qs.getD k 0)) := (hB.cell (World.block_lt_of_cell? _ _ (hc2 k hlt))).trans (hc2 k hlt)
   have HQ := yh hq
   have HB := yh hB
   clear hc hc2 hq hB
   by_cases he : ps.getD k 0 = qs.getD k 0
   ·
    have HE := yh he
    rw [← he] at hcy
    clear he
    generalize ps.getD k 0 = x at hcx hcy
    have hxx : (x != x) = false := by simp
    go_wp2
    go_quiet (fail)
    go_wp2
    go_roundw
    case rel =>
     refine ⟨k + 1, by omega, by go_num, below_drewN (uh HB) _, fun j hj => ?_⟩
     by_cases hjk : j < k
     ·
      exact uh HQ j hjk
     obtain rfl : j = k := by omega
     exact uh HE
    case measure => simp [intOf]; omega
   have HN := yh (jw he)
   have hxy : (ps.getD k 0 != qs.getD k 0) = true := by rw [bne_iff_ne]; exact he
   clear he
   generalize ps.getD k 0 = x at hcx hxy
   generalize qs.getD k 0 = y at hcy hxy
   go_wp2
   go_quiet (fail)
   go_wp2
   go_ret
   exact ⟨by rw [uh HN]; rfl, below_drewN (uh HB) _⟩
  obtain rfl : k = ps.length := by omega
  have HN := yh (iI (uh HL) hq)
  have HB := yh hB
  clear hc hc2 hq hB
  go_wp2
  go_ret
  exact ⟨by rw [uh HN]; rfl, uh HB⟩
theorem lj (ao ao2 : Option Addr) (n m cap cap2 : Nat) (w : World) (h : n ≠ m) :
  Calls Tryz.prog 214 #[.slice ao n cap, .slice ao2 m cap2] w fun e w' => e = .returned (.bool false) ∧ Below w.heap.size w w' := by
 have hd : ((n : Int) != (m : Int)) = true := by rw [bne_iff_ne]; omega
 go_enter Tryz.func214, Tryz.ntmps214
 go_wp2
 go_ret
 exact ⟨rfl, Below.refl _ _⟩
theorem kA (ao ao2 : Option Addr) (cap cap2 : Nat) (w : World) :
  Calls Tryz.prog 214 #[.slice ao 0 cap, .slice ao2 0 cap2] w fun e w' => e = .returned (.bool true) ∧ Below w.heap.size w w' := by
 go_enter Tryz.func214, Tryz.ntmps214
 go_wp2
 refine wp_loop_rounds 1 ?_
 rw [rounds_succ]
 go_wp2
 go_ret
 exact ⟨rfl, Below.refl _ _⟩
theorem qP (v v2 : Value) (ps qs : List Int) (w : World) (h : bU w v ps) (h2 : bU w v2 qs) (hn : ps.length ≤ 9223372036854775807) :
  Calls Tryz.prog 214 #[v, v2] w fun e w' => e = .returned (.bool (decide (ps = qs))) ∧ Below w.heap.size w w' := by
 obtain ⟨ao, cap, rfl, hwf, hc⟩ := h
 obtain ⟨ao2, cap2, rfl, _, hc2⟩ := h2
 by_cases hl : ps.length = qs.length
 ·
  by_cases hp : 0 < ps.length
  ·
   obtain ⟨b, off, rfl, hc1⟩ := hc hp
   obtain ⟨b2, off2, rfl, hc3⟩ := hc2 (by omega)
   rw [← hl] at hc3 ⊢
   exact lV b off cap b2 off2 cap2 ps qs w hl hn hc1 hc3
  obtain rfl : ps = [] := List.eq_nil_of_length_eq_zero (by omega)
  obtain rfl : qs = [] := List.eq_nil_of_length_eq_zero (by simpa using hl.symm)
  exact kA ao ao2 cap cap2 w
 rw [show decide (ps = qs) = false by simp only [decide_eq_false_iff_not]; rintro rfl; exact hl rfl]
 exact lj ao ao2 _ _ cap cap2 w hl
theorem nZ (cs cs2 : List Value) (x y : aA) (w : World) (h : ab.ai.Reads w cs x) (h2 : ab.ai.Reads w cs2 y) :
  Calls Tryz.prog 252 #[.agg cs.toArray, .agg cs2.toArray] w fun e w' => e = .returned (.bool (dg x y)) ∧ Below w.heap.size w w' := by
 obtain ⟨a2, d2, rfl, R2⟩ := bk h
 obtain ⟨a2z, d2z, rfl, R2z⟩ := bk h2
 clear h h2
 have HB : Hid (Below w.heap.size w ((w.alloc (.cells #[.int .i64 x.kind, .int .i64 x.id, .slice a2 x.vec.length d2, .int .i64 x.aa, .int .i64 x.seq] 142)).alloc (.cells #[.int .i64 y.kind, .int .i64 y.id, .slice a2z y.vec.length d2z, .int .i64 y.aa, .int .i64 y.seq] 142))) := ((Below.refl _ _).alloc (Nat.le_refl _) _).alloc (by simp) _
 cases e0 : (x.kind == y.kind) with
 | false =>
  have HS : Hid (dg x y = false) := by
   show dg x y = false
   simp [dg, e0]
  go_enter Tryz.func252, Tryz.ntmps252
  go_wp2_with fail
  go_ret
  exact ⟨by rw [uh HS]; rfl, uh HB⟩
 | true =>
  cases e1 : (x.id == y.id) with
  | false =>
   have HS : Hid (dg x y = false) := by
    show dg x y = false
    simp [dg, e0, e1]
   go_enter Tryz.func252, Tryz.ntmps252
   go_wp2_with fail
   go_ret
   exact ⟨by rw [uh HS]; rfl, uh HB⟩
  | true =>
   cases e2 : (x.aa == y.aa) with
   | false =>
    have HS : Hid (dg x y = false) := by
     show dg x y = false
     simp [dg, e0, e1, e2]
    go_enter Tryz.func252, Tryz.ntmps252
    go_wp2_with fail
    go_ret
    exact ⟨by rw [uh HS]; rfl, uh HB⟩
   | true =>
    cases e3 : (x.seq == y.seq) with
    | false =>
     have HS : Hid (dg x y = false) := by
      show dg x y = false
      simp [dg, e0, e1, e2, e3]
     go_enter Tryz.func252, Tryz.ntmps252
     go_wp2_with fail
     go_ret
     exact ⟨by rw [uh HS]; rfl, uh HB⟩
    | true =>
     have HS : Hid (dg x y = decide (x.vec = y.vec)) := by
      show dg x y = decide (x.vec = y.vec)
      simp [dg, e0, e1, e2, e3]
     have L := yh (qP _ _ x.vec y.vec _ ((ab.bn R2).ag (uh HB)) ((ab.bn R2z).ag (uh HB)) R2.dK)
     clear R2 R2z
     go_enter Tryz.func252, Tryz.ntmps252
     go_wp2_with fail
     refine (uh L).mono ?_
     rintro e w1 ⟨rfl, hb⟩
     have HB1 := yh ((uh HB).trans (hb.mono (uh HB).size))
     clear hb L HB
     go_wp2_with fail
     go_ret
     exact ⟨by rw [uh HS]; rfl, uh HB1⟩
def fG (x : bJ) : Bool := (decide (0 ≤ x.index) && decide (x.index ≤ 40)) && (x.kind == 2 || decide (0 < x.index))
theorem ie (a : Option Addr) (d : Nat) (x : bJ) (w : World) :
  Calls Tryz.prog 259 #[.agg #[.int .i64 x.kind, .int .i64 x.af, .int .i64 x.src, .int .i64 x.dst, .int .i64 x.index, .int .i64 x.write.kind, .int .i64 x.write.id, .slice a x.write.vec.length d, .int .i64 x.write.aa, .int .i64 x.write.seq]] w fun e w' => e = .returned (.bool (fG x)) ∧ Below w.heap.size w w' := by
 have HB : Hid (Below w.heap.size w (w.alloc (.cells #[.int .i64 x.kind, .int .i64 x.af, .int .i64 x.src, .int .i64 x.dst, .int .i64 x.index, .int .i64 x.write.kind, .int .i64 x.write.id, .slice a x.write.vec.length d, .int .i64 x.write.aa, .int .i64 x.write.seq] 145))) := (Below.refl _ _).alloc (Nat.le_refl _) _
 have L := yh (ea x.index 40 (w.alloc (.cells #[.int .i64 x.kind, .int .i64 x.af, .int .i64 x.src, .int .i64 x.dst, .int .i64 x.index, .int .i64 x.write.kind, .int .i64 x.write.id, .slice a x.write.vec.length d, .int .i64 x.write.aa, .int .i64 x.write.seq] 145)))
 cases d1 : (decide (0 ≤ x.index) && decide (x.index ≤ 40))
 ·
  have HI : Hid (fG x = false) := by show fG x = false; rw [fG, d1]; rfl
  rw [d1] at L
  clear d1
  go_enter Tryz.func259, Tryz.ntmps259
  go_wp2_with fail
  refine (uh L).mono ?_
  rintro e w1 ⟨rfl, h1⟩
  subst w1
  clear L
  go_wp2_with fail
  go_ret
  exact ⟨by rw [uh HI]; rfl, uh HB⟩
 rw [d1] at L
 cases d2 : (x.kind == 2)
 ·
  have HI : Hid (fG x = decide (0 < x.index)) := by show fG x = _; rw [fG, d1, d2]; rfl
  clear d1
  go_enter Tryz.func259, Tryz.ntmps259
  go_wp2_with fail
  refine (uh L).mono ?_
  rintro e w1 ⟨rfl, h1⟩
  subst w1
  clear L
  go_wp2_with fail
  go_ret
  exact ⟨by rw [uh HI]; rfl, uh HB⟩
 have HI : Hid (fG x = true) := by show fG x = _; rw [fG, d1, d2]; rfl
 clear d1
 go_enter Tryz.func259, Tryz.ntmps259
 go_wp2_with fail
 refine (uh L).mono ?_
 rintro e w1 ⟨rfl, h1⟩
 subst w1
 clear L
 go_wp2_with fail
 go_ret
 exact ⟨by rw [uh HI]; rfl, uh HB⟩
def fQ : aA := ⟨0, 0, [], 0, 0⟩
theorem iZ (y : aA) : dg y fQ = true ↔ kW y := by
 constructor
 ·
  intro h
  simp only [dg, fQ, Bool.and_eq_true, beq_iff_eq] at h
  exact ⟨h.1, h.2.1, h.2.2.1, h.2.2.2.1, by rw [of_decide_eq_true h.2.2.2.2]; rfl⟩
 rintro ⟨h1, h2, h3, h4, h5⟩
 have h6 : y.vec = [] := List.eq_nil_of_length_eq_zero h5
 simp only [dg, fQ, Bool.and_eq_true, beq_iff_eq]
 exact ⟨h1, h2, h3, h4, decide_eq_true h6⟩
theorem mB (w : World) : ab.ai.Reads w [.int .i64 0, .int .i64 0, .slice none 0 0, .int .i64 0, .int .i64 0] fQ :=
 ⟨[], cg.2 ⟨none, 0, [], rfl, rfl, by decide, by decide, ⟨none, 0, rfl, ⟨by simp [fQ], by simp [fQ]⟩, Or.inl ⟨rfl, rfl⟩⟩, by decide, by decide⟩⟩
theorem pT {x : bJ} (h : (x.kind == 1) = false) (h2 : (x.kind == 2) = false) : aF x = 1 := by
 have h1 : ¬ x.kind = 1 := by simpa using h
 have h3 : ¬ x.kind = 2 := by simpa using h2
 rw [aF, if_pos (Or.inl (by omega))]
theorem mz {x : bJ} (h : (x.src != x.dst) = false) : aF x = 1 := by
 rw [aF, if_pos (Or.inr (Or.inl (by simpa using h)))]
theorem qQ {x : bJ} (h : (x.kind == 2) = true) (h2 : dg x.write fQ = false) : aF x = 1 := by
 rw [aF, if_pos (Or.inr (Or.inr ⟨by simpa using h, fun q => by rw [(iZ _).2 q] at h2; simp at h2⟩))]
def gU (x : bJ) : Prop := (1 ≤ x.kind ∧ x.kind ≤ 2) ∧ x.src ≠ x.dst ∧ (x.kind = 2 → kW x.write)
theorem fq {x : bJ} (h : gU x) : aF x = if ¬ (1 ≤ x.af ∧ x.af ≤ 999) ∨ ¬ (1 ≤ x.src ∧ x.src ≤ 5) ∨ ¬ (1 ≤ x.dst ∧ x.dst ≤ 5) ∨ ¬ (0 ≤ x.index ∧ x.index ≤ 40) ∨ (x.kind ≠ 2 ∧ x.index = 0) then 3
 else if x.kind = 2 then 0 else wF x.write := by
 rw [aF, if_neg]
 rintro (h1 | h1 | h1)
 ·
  exact h1 h.1
 ·
  exact h.2.1 h1
 exact h1.2 (h.2.2 h1.1)
theorem j0 {x : bJ} (h : gU x) (h2 : (decide (1 ≤ x.af) && decide (x.af ≤ 999)) = false) : aF x = 3 := by
 rw [fq h, if_pos (Or.inl fun q => by simp at h2; omega)]
theorem nF {x : bJ} (h : gU x) (h2 : (decide (1 ≤ x.src) && decide (x.src ≤ 5)) = false) : aF x = 3 := by
 rw [fq h, if_pos (Or.inr (Or.inl fun q => by simp at h2; omega))]
theorem nN {x : bJ} (h : gU x) (h2 : (decide (1 ≤ x.dst) && decide (x.dst ≤ 5)) = false) : aF x = 3 := by
 rw [fq h, if_pos (Or.inr (Or.inr (Or.inl fun q => by simp at h2; omega)))]
theorem nG {x : bJ} (h : gU x) (h2 : fG x = false) : aF x = 3 := by
 rw [fq h, if_pos]
 have : ¬ (0 ≤ x.index ∧ x.index ≤ 40) ∨ (x.kind ≠ 2 ∧ x.index = 0) := by
  refine Decidable.byContradiction fun q => ?_
  rw [fG] at h2
  have q1 : 0 ≤ x.index ∧ x.index ≤ 40 := Decidable.byContradiction fun z => q (Or.inl z)
  rw [decide_eq_true q1.1, decide_eq_true q1.2] at h2
  simp at h2
  exact q (Or.inr ⟨h2.1, by omega⟩)
 exact Or.inr (Or.inr (Or.inr this))
theorem lQ {x : bJ} (h : gU x) (h1 : (decide (1 ≤ x.af) && decide (x.af ≤ 999)) = true) (h2 : (decide (1 ≤ x.src) && decide (x.src ≤ 5)) = true) (h3 : (decide (1 ≤ x.dst) && decide (x.dst ≤ 5)) = true) (h4 : fG x = true) : aF x = if x.kind = 2 then 0 else wF x.write := by
 simp only [Bool.and_eq_true, decide_eq_true_eq] at h1 h2 h3
 simp only [fG, Bool.and_eq_true, Bool.or_eq_true, decide_eq_true_eq, beq_iff_eq] at h4
 rw [fq h, if_neg]
 rintro (q | q | q | q | q)
 ·
  exact q h1
 ·
  exact q h2
 ·
  exact q h3
 ·
  exact q h4.1
 rcases h4.2 with z | z
 ·
  exact q.1 z
 omega
theorem sk {w : World} {x : aA} {a : Option Addr} {d : Nat} (h : ab.ai.Reads w [.int .i64 x.kind, .int .i64 x.id, .slice a x.vec.length d, .int .i64 x.aa, .int .i64 x.seq] x) : (ab.sl ab.int).Reads w [.slice a x.vec.length d] x.vec := by
 obtain ⟨a2, d2, e, R⟩ := bk h
 simp only [List.cons.injEq, Value.slice.injEq, and_true, true_and] at e
 obtain ⟨rfl, rfl⟩ := e
 exact R
theorem ny (cs : List Value) (x : bJ) (w : World) (h : ab.aJ.Reads w cs x) :
  Calls Tryz.prog 233 #[.agg cs.toArray] w fun e w' => e = gG (aF x) ∧ Below w.heap.size w w' := by
 obtain ⟨a, d, rfl, R⟩ := cx h
 have nb : Below w.heap.size w (w.alloc (.cells #[.int .i64 x.kind, .int .i64 x.af, .int .i64 x.src, .int .i64 x.dst, .int .i64 x.index, .int .i64 x.write.kind, .int .i64 x.write.id, .slice a x.write.vec.length d, .int .i64 x.write.aa, .int .i64 x.write.seq] 145)) := (Below.refl _ _).alloc (Nat.le_refl _) _
 have HR := yh (R.ag nb)
 have HB := yh nb
 have HX : Hid (aj 0 #[.int .i64 x.kind, .int .i64 x.af, .int .i64 x.src, .int .i64 x.dst, .int .i64 x.index, .int .i64 x.write.kind, .int .i64 x.write.id, .slice a x.write.vec.length d, .int .i64 x.write.aa, .int .i64 x.write.seq] 145 (w.alloc (.cells #[.int .i64 x.kind, .int .i64 x.af, .int .i64 x.src, .int .i64 x.dst, .int .i64 x.index, .int .i64 x.write.kind, .int .i64 x.write.id, .slice a x.write.vec.length d, .int .i64 x.write.aa, .int .i64 x.write.seq] 145)) w.heap.size) := aH (Nat.zero_le _)
 clear R h nb
 go_enter Tryz.func233, Tryz.ntmps233
 go_upto_region 1 with fail
 generalize (w.alloc (.cells #[.int .i64 x.kind, .int .i64 x.af, .int .i64 x.src, .int .i64 x.dst, .int .i64 x.index, .int .i64 x.write.kind, .int .i64 x.write.id, .slice a x.write.vec.length d, .int .i64 x.write.aa, .int .i64 x.write.seq] 145)) = W1 at *
 have z0 : W1.cell? ⟨w.heap.size, 0, none⟩ = some (.int .i64 x.kind) := (uh HX).at 0 _ rfl
 have z1 : W1.cell? ⟨w.heap.size, 1, none⟩ = some (.int .i64 x.af) := (uh HX).at 1 _ rfl
 have z2 : W1.cell? ⟨w.heap.size, 2, none⟩ = some (.int .i64 x.src) := (uh HX).at 2 _ rfl
 have z3 : W1.cell? ⟨w.heap.size, 3, none⟩ = some (.int .i64 x.dst) := (uh HX).at 3 _ rfl
 have z4 : W1.cell? ⟨w.heap.size, 4, none⟩ = some (.int .i64 x.index) := (uh HX).at 4 _ rfl
 have z5 : W1.cell? ⟨w.heap.size, 5, none⟩ = some (.int .i64 x.write.kind) := (uh HX).at 5 _ rfl
 have z6 : W1.cell? ⟨w.heap.size, 6, none⟩ = some (.int .i64 x.write.id) := (uh HX).at 6 _ rfl
 have z7 : W1.cell? ⟨w.heap.size, 7, none⟩ = some (.slice a x.write.vec.length d) := (uh HX).at 7 _ rfl
 have z8 : W1.cell? ⟨w.heap.size, 8, none⟩ = some (.int .i64 x.write.aa) := (uh HX).at 8 _ rfl
 have z9 : W1.cell? ⟨w.heap.size, 9, none⟩ = some (.int .i64 x.write.seq) := (uh HX).at 9 _ rfl
 cases e1 : (x.kind == 1)
 ·
  cases e2 : (x.kind == 2)
  ·
   have HF := yh (pT e1 e2)
   go_wp2_with fail
   refine (eB 1 _).mono ?_
   rintro e w9 ⟨rfl, h9⟩
   subst w9
   go_wp2_with fail
   exact ⟨rfl, by rw [uh HF]; rfl, uh HB⟩
  go_wp2_with fail
  refine (ey 1 _).mono ?_
  rintro e w9 ⟨rfl, h9⟩
  subst w9
  cases e3 : (x.src != x.dst)
  ·
   have HF := yh (mz e3)
   go_wp2_with fail
   refine (eB 1 _).mono ?_
   rintro e w9 ⟨rfl, h9⟩
   subst w9
   go_wp2_with fail
   exact ⟨rfl, by rw [uh HF]; rfl, uh HB⟩
  go_wp2_with fail
  refine (ey 1 _).mono ?_
  rintro e w9 ⟨rfl, h9⟩
  subst w9
  have HL := yh (nZ _ _ x.write fQ W1 (uh HR) (mB W1))
  go_wp2_with fail
  refine (uh HL).mono ?_
  rintro e Wa ⟨rfl, hb⟩
  replace HX := yh ((uh HX).au hb)
  replace HR := yh ((uh HR).ag hb)
  replace HB := bZ HB hb
  clear hb z0 z1 z2 z3 z4 z5 z6 z7 z8 z9
  have z0 : Wa.cell? ⟨w.heap.size, 0, none⟩ = some (.int .i64 x.kind) := (uh HX).at 0 _ rfl
  have z1 : Wa.cell? ⟨w.heap.size, 1, none⟩ = some (.int .i64 x.af) := (uh HX).at 1 _ rfl
  have z2 : Wa.cell? ⟨w.heap.size, 2, none⟩ = some (.int .i64 x.src) := (uh HX).at 2 _ rfl
  have z3 : Wa.cell? ⟨w.heap.size, 3, none⟩ = some (.int .i64 x.dst) := (uh HX).at 3 _ rfl
  have z4 : Wa.cell? ⟨w.heap.size, 4, none⟩ = some (.int .i64 x.index) := (uh HX).at 4 _ rfl
  have z5 : Wa.cell? ⟨w.heap.size, 5, none⟩ = some (.int .i64 x.write.kind) := (uh HX).at 5 _ rfl
  have z6 : Wa.cell? ⟨w.heap.size, 6, none⟩ = some (.int .i64 x.write.id) := (uh HX).at 6 _ rfl
  have z7 : Wa.cell? ⟨w.heap.size, 7, none⟩ = some (.slice a x.write.vec.length d) := (uh HX).at 7 _ rfl
  have z8 : Wa.cell? ⟨w.heap.size, 8, none⟩ = some (.int .i64 x.write.aa) := (uh HX).at 8 _ rfl
  have z9 : Wa.cell? ⟨w.heap.size, 9, none⟩ = some (.int .i64 x.write.seq) := (uh HX).at 9 _ rfl
  clear HL
  cases e9 : dg x.write fQ
  ·
   have HF := yh (qQ e2 e9)
   clear e9
   go_wp2_with fail
   refine (eB 1 _).mono ?_
   rintro e w9 ⟨rfl, h9⟩
   subst w9
   go_wp2_with fail
   exact ⟨rfl, by rw [uh HF]; rfl, uh HB⟩
  have HFM : Hid (gU x) := ⟨by simp at e2; omega, by simpa using e3, fun _ => (iZ _).1 e9⟩
  clear e9
  go_wp2_with fail
  refine (ey 1 _).mono ?_
  rintro e w9 ⟨rfl, h9⟩
  subst w9
  cases e4 : (decide (1 ≤ x.af) && decide (x.af ≤ 999))
  ·
   have HL := yh (cT x.af Wa)
   rw [e4] at HL
   have HF := yh (j0 (uh HFM) e4)
   clear e4
   go_wp2_with fail
   refine (uh HL).mono ?_
   rintro e w9 ⟨rfl, h9⟩
   subst w9
   clear HL
   go_wp2_with fail
   refine (eB 3 _).mono ?_
   rintro e w9 ⟨rfl, h9⟩
   subst w9
   go_wp2_with fail
   exact ⟨rfl, by rw [uh HF]; rfl, uh HB⟩
  have HL := yh (cT x.af Wa)
  rw [e4] at HL
  have HE := yh e4
  clear e4
  go_wp2_with fail
  refine (uh HL).mono ?_
  rintro e w9 ⟨rfl, h9⟩
  subst w9
  clear HL
  go_wp2_with fail
  refine (ey 3 _).mono ?_
  rintro e w9 ⟨rfl, h9⟩
  subst w9
  cases e5 : (decide (1 ≤ x.src) && decide (x.src ≤ 5))
  ·
   have HL := yh (cS x.src Wa)
   rw [e5] at HL
   have HF := yh (nF (uh HFM) e5)
   clear e5
   go_wp2_with fail
   refine (uh HL).mono ?_
   rintro e w9 ⟨rfl, h9⟩
   subst w9
   clear HL
   go_wp2_with fail
   refine (eB 3 _).mono ?_
   rintro e w9 ⟨rfl, h9⟩
   subst w9
   go_wp2_with fail
   exact ⟨rfl, by rw [uh HF]; rfl, uh HB⟩
  have HL := yh (cS x.src Wa)
  rw [e5] at HL
  have HS := yh e5
  clear e5
  go_wp2_with fail
  refine (uh HL).mono ?_
  rintro e w9 ⟨rfl, h9⟩
  subst w9
  clear HL
  cases e6 : (decide (1 ≤ x.dst) && decide (x.dst ≤ 5))
  ·
   have HL := yh (cS x.dst Wa)
   rw [e6] at HL
   have HF := yh (nN (uh HFM) e6)
   clear e6
   go_wp2_with fail
   refine (uh HL).mono ?_
   rintro e w9 ⟨rfl, h9⟩
   subst w9
   clear HL
   go_wp2_with fail
   refine (eB 3 _).mono ?_
   rintro e w9 ⟨rfl, h9⟩
   subst w9
   go_wp2_with fail
   exact ⟨rfl, by rw [uh HF]; rfl, uh HB⟩
  have HL := yh (cS x.dst Wa)
  rw [e6] at HL
  have HD := yh e6
  clear e6
  go_wp2_with fail
  refine (uh HL).mono ?_
  rintro e w9 ⟨rfl, h9⟩
  subst w9
  clear HL
  go_wp2_with fail
  refine (ey 3 _).mono ?_
  rintro e w9 ⟨rfl, h9⟩
  subst w9
  have HL := yh (ie a d x Wa)
  go_wp2_with fail
  refine (uh HL).mono ?_
  rintro e W2 ⟨rfl, hb⟩
  replace HX := yh ((uh HX).au hb)
  replace HR := yh ((uh HR).ag hb)
  replace HB := bZ HB hb
  clear hb z0 z1 z2 z3 z4 z5 z6 z7 z8 z9
  have z0 : W2.cell? ⟨w.heap.size, 0, none⟩ = some (.int .i64 x.kind) := (uh HX).at 0 _ rfl
  have z1 : W2.cell? ⟨w.heap.size, 1, none⟩ = some (.int .i64 x.af) := (uh HX).at 1 _ rfl
  have z2 : W2.cell? ⟨w.heap.size, 2, none⟩ = some (.int .i64 x.src) := (uh HX).at 2 _ rfl
  have z3 : W2.cell? ⟨w.heap.size, 3, none⟩ = some (.int .i64 x.dst) := (uh HX).at 3 _ rfl
  have z4 : W2.cell? ⟨w.heap.size, 4, none⟩ = some (.int .i64 x.index) := (uh HX).at 4 _ rfl
  have z5 : W2.cell? ⟨w.heap.size, 5, none⟩ = some (.int .i64 x.write.kind) := (uh HX).at 5 _ rfl
  have z6 : W2.cell? ⟨w.heap.size, 6, none⟩ = some (.int .i64 x.write.id) := (uh HX).at 6 _ rfl
  have z7 : W2.cell? ⟨w.heap.size, 7, none⟩ = some (.slice a x.write.vec.length d) := (uh HX).at 7 _ rfl
  have z8 : W2.cell? ⟨w.heap.size, 8, none⟩ = some (.int .i64 x.write.aa) := (uh HX).at 8 _ rfl
  have z9 : W2.cell? ⟨w.heap.size, 9, none⟩ = some (.int .i64 x.write.seq) := (uh HX).at 9 _ rfl
  clear HL
  cases e7 : fG x
  ·
   have HF := yh (nG (uh HFM) e7)
   clear e7
   go_wp2_with fail
   refine (eB 3 _).mono ?_
   rintro e w9 ⟨rfl, h9⟩
   subst w9
   go_wp2_with fail
   exact ⟨rfl, by rw [uh HF]; rfl, uh HB⟩
  have HF := yh (lQ (uh HFM) (uh HE) (uh HS) (uh HD) e7)
  clear e7
  go_wp2_with fail
  refine (ey 3 _).mono ?_
  rintro e w9 ⟨rfl, h9⟩
  subst w9
  replace HF := yh ((uh HF).trans (if_pos (by simpa using e2)))
  go_wp2_with fail
  go_end0
  exact ⟨by rw [uh HF]; rfl, uh HB⟩
 go_wp2_with fail
 refine (ey 1 _).mono ?_
 rintro e w9 ⟨rfl, h9⟩
 subst w9
 cases e3 : (x.src != x.dst)
 ·
  have HF := yh (mz e3)
  go_wp2_with fail
  refine (eB 1 _).mono ?_
  rintro e w9 ⟨rfl, h9⟩
  subst w9
  go_wp2_with fail
  exact ⟨rfl, by rw [uh HF]; rfl, uh HB⟩
 have HFM : Hid (gU x) := ⟨by simp at e1; omega, by simpa using e3, fun q => by simp at e1; omega⟩
 go_wp2_with fail
 refine (ey 1 _).mono ?_
 rintro e w9 ⟨rfl, h9⟩
 subst w9
 go_wp2_with fail
 refine (ey 1 _).mono ?_
 rintro e w9 ⟨rfl, h9⟩
 subst w9
 cases e4 : (decide (1 ≤ x.af) && decide (x.af ≤ 999))
 ·
  have HL := yh (cT x.af W1)
  rw [e4] at HL
  have HF := yh (j0 (uh HFM) e4)
  clear e4
  go_wp2_with fail
  refine (uh HL).mono ?_
  rintro e w9 ⟨rfl, h9⟩
  subst w9
  clear HL
  go_wp2_with fail
  refine (eB 3 _).mono ?_
  rintro e w9 ⟨rfl, h9⟩
  subst w9
  go_wp2_with fail
  exact ⟨rfl, by rw [uh HF]; rfl, uh HB⟩
 have HL := yh (cT x.af W1)
 rw [e4] at HL
 have HE := yh e4
 clear e4
 go_wp2_with fail
 refine (uh HL).mono ?_
 rintro e w9 ⟨rfl, h9⟩
 subst w9
 clear HL
 go_wp2_with fail
 refine (ey 3 _).mono ?_
 rintro e w9 ⟨rfl, h9⟩
 subst w9
 cases e5 : (decide (1 ≤ x.src) && decide (x.src ≤ 5))
 ·
  have HL := yh (cS x.src W1)
  rw [e5] at HL
  have HF := yh (nF (uh HFM) e5)
  clear e5
  go_wp2_with fail
  refine (uh HL).mono ?_
  rintro e w9 ⟨rfl, h9⟩
  subst w9
  clear HL
  go_wp2_with fail
  refine (eB 3 _).mono ?_
  rintro e w9 ⟨rfl, h9⟩
  subst w9
  go_wp2_with fail
  exact ⟨rfl, by rw [uh HF]; rfl, uh HB⟩
 have HL := yh (cS x.src W1)
 rw [e5] at HL
 have HS := yh e5
 clear e5
 go_wp2_with fail
 refine (uh HL).mono ?_
 rintro e w9 ⟨rfl, h9⟩
 subst w9
 clear HL
 cases e6 : (decide (1 ≤ x.dst) && decide (x.dst ≤ 5))
 ·
  have HL := yh (cS x.dst W1)
  rw [e6] at HL
  have HF := yh (nN (uh HFM) e6)
  clear e6
  go_wp2_with fail
  refine (uh HL).mono ?_
  rintro e w9 ⟨rfl, h9⟩
  subst w9
  clear HL
  go_wp2_with fail
  refine (eB 3 _).mono ?_
  rintro e w9 ⟨rfl, h9⟩
  subst w9
  go_wp2_with fail
  exact ⟨rfl, by rw [uh HF]; rfl, uh HB⟩
 have HL := yh (cS x.dst W1)
 rw [e6] at HL
 have HD := yh e6
 clear e6
 go_wp2_with fail
 refine (uh HL).mono ?_
 rintro e w9 ⟨rfl, h9⟩
 subst w9
 clear HL
 go_wp2_with fail
 refine (ey 3 _).mono ?_
 rintro e w9 ⟨rfl, h9⟩
 subst w9
 have HL := yh (ie a d x W1)
 go_wp2_with fail
 refine (uh HL).mono ?_
 rintro e W2 ⟨rfl, hb⟩
 replace HX := yh ((uh HX).au hb)
 replace HR := yh ((uh HR).ag hb)
 replace HB := bZ HB hb
 clear hb z0 z1 z2 z3 z4 z5 z6 z7 z8 z9
 have z0 : W2.cell? ⟨w.heap.size, 0, none⟩ = some (.int .i64 x.kind) := (uh HX).at 0 _ rfl
 have z1 : W2.cell? ⟨w.heap.size, 1, none⟩ = some (.int .i64 x.af) := (uh HX).at 1 _ rfl
 have z2 : W2.cell? ⟨w.heap.size, 2, none⟩ = some (.int .i64 x.src) := (uh HX).at 2 _ rfl
 have z3 : W2.cell? ⟨w.heap.size, 3, none⟩ = some (.int .i64 x.dst) := (uh HX).at 3 _ rfl
 have z4 : W2.cell? ⟨w.heap.size, 4, none⟩ = some (.int .i64 x.index) := (uh HX).at 4 _ rfl
 have z5 : W2.cell? ⟨w.heap.size, 5, none⟩ = some (.int .i64 x.write.kind) := (uh HX).at 5 _ rfl
 have z6 : W2.cell? ⟨w.heap.size, 6, none⟩ = some (.int .i64 x.write.id) := (uh HX).at 6 _ rfl
 have z7 : W2.cell? ⟨w.heap.size, 7, none⟩ = some (.slice a x.write.vec.length d) := (uh HX).at 7 _ rfl
 have z8 : W2.cell? ⟨w.heap.size, 8, none⟩ = some (.int .i64 x.write.aa) := (uh HX).at 8 _ rfl
 have z9 : W2.cell? ⟨w.heap.size, 9, none⟩ = some (.int .i64 x.write.seq) := (uh HX).at 9 _ rfl
 clear HL
 cases e7 : fG x
 ·
  have HF := yh (nG (uh HFM) e7)
  clear e7
  go_wp2_with fail
  refine (eB 3 _).mono ?_
  rintro e w9 ⟨rfl, h9⟩
  subst w9
  go_wp2_with fail
  exact ⟨rfl, by rw [uh HF]; rfl, uh HB⟩
 have HF := yh (lQ (uh HFM) (uh HE) (uh HS) (uh HD) e7)
 clear e7
 go_wp2_with fail
 refine (ey 3 _).mono ?_
 rintro e w9 ⟨rfl, h9⟩
 subst w9
 replace HF := yh ((uh HF).trans (if_neg (by simp at e1; omega)))
 have HL := yh (fu x.write.kind x.write.id _ x.write.aa x.write.seq x.write.vec W2 (ab.bn (sk (uh HR))))
 go_wp2_with fail
 refine (uh HL).mono ?_
 rintro e W3 ⟨rfl, hb⟩
 replace HX := yh ((uh HX).au hb)
 replace HR := yh ((uh HR).ag hb)
 replace HB := bZ HB hb
 clear hb z0 z1 z2 z3 z4 z5 z6 z7 z8 z9
 have z0 : W3.cell? ⟨w.heap.size, 0, none⟩ = some (.int .i64 x.kind) := (uh HX).at 0 _ rfl
 have z1 : W3.cell? ⟨w.heap.size, 1, none⟩ = some (.int .i64 x.af) := (uh HX).at 1 _ rfl
 have z2 : W3.cell? ⟨w.heap.size, 2, none⟩ = some (.int .i64 x.src) := (uh HX).at 2 _ rfl
 have z3 : W3.cell? ⟨w.heap.size, 3, none⟩ = some (.int .i64 x.dst) := (uh HX).at 3 _ rfl
 have z4 : W3.cell? ⟨w.heap.size, 4, none⟩ = some (.int .i64 x.index) := (uh HX).at 4 _ rfl
 have z5 : W3.cell? ⟨w.heap.size, 5, none⟩ = some (.int .i64 x.write.kind) := (uh HX).at 5 _ rfl
 have z6 : W3.cell? ⟨w.heap.size, 6, none⟩ = some (.int .i64 x.write.id) := (uh HX).at 6 _ rfl
 have z7 : W3.cell? ⟨w.heap.size, 7, none⟩ = some (.slice a x.write.vec.length d) := (uh HX).at 7 _ rfl
 have z8 : W3.cell? ⟨w.heap.size, 8, none⟩ = some (.int .i64 x.write.aa) := (uh HX).at 8 _ rfl
 have z9 : W3.cell? ⟨w.heap.size, 9, none⟩ = some (.int .i64 x.write.seq) := (uh HX).at 9 _ rfl
 clear HL
 replace HF : Hid (aF x = aK x.write.kind x.write.id x.write.vec x.write.aa x.write.seq) := uh HF
 generalize aK x.write.kind x.write.id x.write.vec x.write.aa x.write.seq = f at *
 cases e8 : (f == 0)
 ·
  have hf : f ≠ 0 := by simpa using e8
  have HG := yh hf
  clear hf
  go_wp2_with fail
  refine (eB f _).mono ?_
  rintro e w9 ⟨rfl, h9⟩
  subst w9
  go_wp2_with fail
  exact ⟨rfl, by rw [uh HF]; exact (eT (uh HG)).symm, uh HB⟩
 have hf : f = 0 := by simpa using e8
 subst hf
 clear e8
 go_wp2_with fail
 refine (ey 0 _).mono ?_
 rintro e w9 ⟨rfl, h9⟩
 subst w9
 go_wp2_with fail
 go_end0
 exact ⟨by rw [uh HF]; rfl, uh HB⟩
theorem rI (v : Value) (w : World) : (Instr.typeAssert (.iface 285 v) 20 285 true).run Tryz.prog w = .ok (.tuple #[v, .bool true]) w := by kernel_rfl
theorem nq (c : Int) (w : World) :
  Calls Tryz.prog 231 #[.iface 285 (.agg #[.int .i64 c])] w fun e w' => e = .returned (.int .i64 c) ∧ Below w.heap.size w w' := by
 have HB : Hid (Below w.heap.size w (w.alloc (.cells #[.int .i64 c] 285))) := yh ((Below.refl _ _).alloc (Nat.le_refl _) _)
 have q := rI
 go_enter Tryz.func231, Tryz.ntmps231
 go_wp2_with fail
 go_ret
 exact ⟨rfl, uh HB⟩
theorem ja (p : Addr) (x c : Int) (w : World) (hc : w.cell? p = some (.int .i64 x)) (hz : w.frozen? p = false) (hp : p.block < w.heap.size) :
  CallsD Tryz.prog 230 #[.pointer (some p)] (.panicking (fc c)) w fun e u' w' =>
   e = .returned (.tuple #[]) ∧ u' = .panicking [{ v := .iface 285 (.agg #[.int .i64 c]), recovered := true }] ∧ ∃ w1, w' = w1.setCell p (.int .i64 c) ∧ Below w.heap.size w w1 := by
 refine callsD_of_wpS Tryz.func230 rfl fun c₀ cs hu => ?_
 apply wpS_seq
 apply wpS_region
 simp [wpOpsS, go_sem, recoverD, hu, Tryz.ntmps230, Exit.thenS, fc]
 refine wpS_of_wp ?_
 have HL := yh (nq c w)
 go_wp2_with fail
 refine (uh HL).mono ?_
 rintro e w1 ⟨rfl, hb⟩
 have hc1 : w1.cell? p = some (.int .i64 x) := (hb.cell (p := p) hp).trans hc
 have hz1 : w1.frozen? p = false := (World.frozen?_of_block (hb.block _ hp)).trans hz
 have hp1 : p.block < w1.heap.size := Nat.lt_of_lt_of_le hp hb.size
 have HB := yh hb
 clear hb HL hc hz
 go_wp2_with fail
 refine ⟨rfl, _, rfl, .tuple #[], ?_, rfl, rfl, w1, rfl, uh HB⟩
 simp [results, Tryz.results230, go_sem]
theorem jJ (p : Addr) (w : World) :
  CallsD Tryz.prog 230 #[.pointer (some p)] .returning w fun e u' w' => e = .returned (.tuple #[]) ∧ u' = .returning ∧ w' = w := by
 refine callsD_of_wpS Tryz.func230 rfl fun c₀ cs hu => ?_
 apply wpS_seq
 apply wpS_region
 simp [wpOpsS, go_sem, recoverD, hu, Tryz.ntmps230, Exit.thenS]
 refine wpS_of_wp ?_
 go_wp2_with fail
 cases c₀
 simp_all [bodyPostS, results, Tryz.results230, go_sem]
theorem iL (N : Nat) (cap : Array Value) (c : Int) (w : World) (hf : ∀ W : World, (callFunc N cap).run Tryz.prog W = .ok (.enter N cap) W)
  (h : Calls Tryz.prog N cap (w.alloc (.cells #[.int .i64 0] 2)) fun e w' => e = .panicked (fc c) ∧ Below (w.heap.size + 1) (w.alloc (.cells #[.int .i64 0] 2)) w') :
  Calls Tryz.prog 184 #[.func (.func N) #[] cap] w fun e w' => e = .returned (.tuple #[.bool false, .int .i64 c]) ∧ Below w.heap.size w w' := by
 have hmf : ∀ (fn : Fn) (first cap : Array Value) (w : World), (Instr.makeFunc fn first cap).run Tryz.prog w = .ok (.func fn first cap) w := fun _ _ _ _ => rfl
 have HL := yh h
 have nb : Below w.heap.size w (w.alloc (.cells #[.int .i64 0] 2)) := (Below.refl _ _).alloc (Nat.le_refl _) _
 have HX : Hid (aj 0 #[.int .i64 0] 2 (w.alloc (.cells #[.int .i64 0] 2)) w.heap.size) := aH (Nat.zero_le _)
 have HN := yh nb
 clear h nb
 go_enter_defers Tryz.func184, Tryz.ntmps184
 go_wp2_with fail
 refine (uh HL).mono ?_
 rintro e w1 ⟨rfl, hb⟩
 replace HN := yh ((uh HN).trans (hb.mono (by omega)))
 have hX := (uh HX).au (hb.mono (by simp))
 have z0 : w1.cell? ⟨w.heap.size, 0, none⟩ = some (.int .i64 0) := hX.at 0 _ rfl
 have zf : w1.frozen? ⟨w.heap.size, 0, none⟩ = false := hX.soft 0
 have zl := hX.lt
 clear HL HX hX hb
 go_wp2_with fail
 refine leaves_cons (f := 230) (args := #[.pointer (some ⟨w.heap.size, 0, none⟩)]) (by simp) (by simp [go_sem]) ?_
 refine (ja ⟨w.heap.size, 0, none⟩ 0 c w1 z0 zf zl).mono ?_
 rintro e u' w2 ⟨rfl, rfl, w3, rfl, hb⟩
 have hN : Below w.heap.size w (w3.setCell ⟨w.heap.size, 0, none⟩ (.int .i64 c)) := ((uh HN).trans (hb.mono (uh HN).size)).setCell (by simp) _
 have z1 : (w3.setCell ⟨w.heap.size, 0, none⟩ (.int .i64 c)).cell? ⟨w.heap.size, 0, none⟩ = some (.int .i64 c) := World.cell?_setCell_same _ _ _ ((hb.cell (p := ⟨w.heap.size, 0, none⟩) zl).trans z0)
 simp [Leaves, settle, results, Tryz.results184, go_sem, z1]
 exact hN
theorem jx (N : Nat) (cap : Array Value) (w : World) (Q : Value → World → Prop) (hf : ∀ W : World, (callFunc N cap).run Tryz.prog W = .ok (.enter N cap) W)
  (h : Calls Tryz.prog N cap (w.alloc (.cells #[.int .i64 0] 2)) fun e w' => ∃ v, e = .returned v ∧ Q v w' ∧ Below (w.heap.size + 1) (w.alloc (.cells #[.int .i64 0] 2)) w') :
  Calls Tryz.prog 184 #[.func (.func N) #[] cap] w fun e w' => ∃ v w1, e = .returned (.tuple #[v, .int .i64 0]) ∧ Q v w1 ∧ w' = w1.setCell ⟨w.heap.size, 0, none⟩ (.int .i64 0) ∧ Below w.heap.size w w' ∧ w.heap.size < w1.heap.size := by
 have hmf : ∀ (fn : Fn) (first cap : Array Value) (w : World), (Instr.makeFunc fn first cap).run Tryz.prog w = .ok (.func fn first cap) w := fun _ _ _ _ => rfl
 have HL := yh h
 have nb : Below w.heap.size w (w.alloc (.cells #[.int .i64 0] 2)) := (Below.refl _ _).alloc (Nat.le_refl _) _
 have HX : Hid (aj 0 #[.int .i64 0] 2 (w.alloc (.cells #[.int .i64 0] 2)) w.heap.size) := aH (Nat.zero_le _)
 have HN := yh nb
 clear h nb
 go_enter_defers Tryz.func184, Tryz.ntmps184
 go_wp2_with fail
 refine (uh HL).mono ?_
 rintro e w1 ⟨v, rfl, hq, hb⟩
 have HQ := yh hq
 replace HN := yh ((uh HN).trans (hb.mono (by omega)))
 have hX := (uh HX).au (hb.mono (by simp))
 have z0 : w1.cell? ⟨w.heap.size, 0, none⟩ = some (.int .i64 0) := hX.at 0 _ rfl
 have zf : w1.frozen? ⟨w.heap.size, 0, none⟩ = false := hX.soft 0
 have zl := hX.lt
 clear HL HX hX hb hq
 go_wp2_with fail
 refine leaves_cons (f := 230) (args := #[.pointer (some ⟨w.heap.size, 0, none⟩)]) (by simp) (by simp [go_sem]) ?_
 refine (jJ ⟨w.heap.size, 0, none⟩ _).mono ?_
 rintro e u' w2 ⟨rfl, rfl, rfl⟩
 have hN : Below w.heap.size w (w1.setCell ⟨w.heap.size, 0, none⟩ (.int .i64 0)) := (uh HN).setCell (by simp) _
 have z1 : (w1.setCell ⟨w.heap.size, 0, none⟩ (.int .i64 0)).cell? ⟨w.heap.size, 0, none⟩ = some (.int .i64 0) := World.cell?_setCell_same _ _ _ z0
 refine ⟨.tuple #[v, .int .i64 0], by simp [results, Tryz.results184, go_sem, z1], v, w1, rfl, uh HQ, rfl, hN, zl⟩
theorem jv {xs : List bJ} {k : Nat} (hk : k < xs.length) : cb (xs.drop k) = if aF xs[k] = 0 then cb (xs.drop (k + 1)) else aF xs[k] := by
 rw [List.drop_eq_getElem_cons hk, cb]
theorem mS (v : Value) (xs : List bJ) (w : World) (h : (ab.sl ab.aJ).Reads w [v] xs) :
  Calls Tryz.prog 186 #[v] w fun e w' => e = gG (aX xs) ∧ Below w.heap.size w w' := by
 have hbig := h.dK
 obtain ⟨ao, cap, rfl⟩ := aE h
 have H := yh h
 clear h
 go_enter Tryz.func186, Tryz.ntmps186
 cases e1 : decide ((xs.length : Int) ≤ 40)
 ·
  have HF : Hid (aX xs = 2) := by show aX xs = 2; rw [aX, if_pos (by simp at e1; omega)]
  go_wp2_with fail
  refine (eB 2 _).mono ?_
  rintro e w9 ⟨rfl, h9⟩
  subst w9
  go_wp2_with fail
  exact ⟨rfl, by rw [uh HF]; rfl, Below.refl _ _⟩
 have HF : Hid (aX xs = cb (xs.drop 0)) := by show aX xs = _; rw [aX, if_neg (by simp at e1; omega)]; rfl
 go_wp2_with fail
 refine (ey 2 _).mono ?_
 rintro e w9 ⟨rfl, h9⟩
 subst w9
 clear e1
 go_wp2_with fail
 go_loopw [10] (fun i wr => ∃ k : Nat, k ≤ xs.length ∧ i = .int .i64 k ∧ aX xs = cb (xs.drop k) ∧ Below w.heap.size w wr) (fun i _ => xs.length - (intOf i).toNat)
 case atStart => exact ⟨0, Nat.zero_le _, rfl, uh HF, Below.refl _ _⟩
 case round =>
  obtain ⟨k, hk, rfl, hF, hB⟩ := hrel
  clear HF
  by_cases hlt : k < xs.length
  ·
   obtain ⟨b, off, rfl, hbl⟩ := ab.aI (uh H) (by omega)
   obtain ⟨row, hc, hr⟩ := ab.bm (uh H) hlt
   replace hr := hr.ag hB
   rw [jv hlt] at hF
   have hdl : decide ((k : Int) < (xs.length : Int)) = true := by simp; omega
   obtain ⟨a, d, rfl, -⟩ := cx hr
   have c0 : wr.cell? ⟨b, off + k * 10, none⟩ = some (.int .i64 (xs[k]).kind) := (hB.cell (p := ⟨b, off + k * 10, none⟩) hbl).trans (hc 0 (by decide))
   have c1 : wr.cell? ⟨b, off + k * 10 + 1, none⟩ = some (.int .i64 (xs[k]).af) := (hB.cell (p := ⟨b, off + k * 10 + 1, none⟩) hbl).trans (hc 1 (by decide))
   have c2 : wr.cell? ⟨b, off + k * 10 + 2, none⟩ = some (.int .i64 (xs[k]).src) := (hB.cell (p := ⟨b, off + k * 10 + 2, none⟩) hbl).trans (hc 2 (by decide))
   have c3 : wr.cell? ⟨b, off + k * 10 + 3, none⟩ = some (.int .i64 (xs[k]).dst) := (hB.cell (p := ⟨b, off + k * 10 + 3, none⟩) hbl).trans (hc 3 (by decide))
   have c4 : wr.cell? ⟨b, off + k * 10 + 4, none⟩ = some (.int .i64 (xs[k]).index) := (hB.cell (p := ⟨b, off + k * 10 + 4, none⟩) hbl).trans (hc 4 (by decide))
   have c5 : wr.cell? ⟨b, off + k * 10 + 5, none⟩ = some (.int .i64 (xs[k]).write.kind) := (hB.cell (p := ⟨b, off + k * 10 + 5, none⟩) hbl).trans (hc 5 (by decide))
   have c6 : wr.cell? ⟨b, off + k * 10 + 6, none⟩ = some (.int .i64 (xs[k]).write.id) := (hB.cell (p := ⟨b, off + k * 10 + 6, none⟩) hbl).trans (hc 6 (by decide))
   have c7 : wr.cell? ⟨b, off + k * 10 + 7, none⟩ = some (.slice a (xs[k]).write.vec.length d) := (hB.cell (p := ⟨b, off + k * 10 + 7, none⟩) hbl).trans (hc 7 (by decide))
   have c8 : wr.cell? ⟨b, off + k * 10 + 8, none⟩ = some (.int .i64 (xs[k]).write.aa) := (hB.cell (p := ⟨b, off + k * 10 + 8, none⟩) hbl).trans (hc 8 (by decide))
   have c9 : wr.cell? ⟨b, off + k * 10 + 9, none⟩ = some (.int .i64 (xs[k]).write.seq) := (hB.cell (p := ⟨b, off + k * 10 + 9, none⟩) hbl).trans (hc 9 (by decide))
   have HF := yh hF
   have HR := yh hr
   have HB := yh hB
   clear hF hr hB hc
   generalize hx : xs[k] = x at *
   clear hx
   have nb : Below wr.heap.size wr (wr.alloc (.cells #[.int .i64 x.kind, .int .i64 x.af, .int .i64 x.src, .int .i64 x.dst, .int .i64 x.index, .int .i64 x.write.kind, .int .i64 x.write.id, .slice a x.write.vec.length d, .int .i64 x.write.aa, .int .i64 x.write.seq] 145)) := (Below.refl _ _).alloc (Nat.le_refl _) _
   have HL := yh (ny _ x _ ((uh HR).ag nb))
   replace HB := bZ HB nb
   clear nb
   go_wp2_with fail
   refine (uh HL).mono ?_
   generalize wr.alloc (.cells #[.int .i64 x.kind, .int .i64 x.af, .int .i64 x.src, .int .i64 x.dst, .int .i64 x.index, .int .i64 x.write.kind, .int .i64 x.write.id, .slice a x.write.vec.length d, .int .i64 x.write.aa, .int .i64 x.write.seq] 145) = W1 at *
   rintro e W2 ⟨he, hb⟩
   replace HB := bZ HB hb
   clear hb HL c0 c1 c2 c3 c4 c5 c6 c7 c8 c9
   by_cases hf : aF x = 0
   ·
    rw [kp hf] at he
    subst he
    replace HF := yh ((uh HF).trans (if_pos hf))
    clear hf
    go_wp2_with fail
    go_roundw
    case rel => exact ⟨k + 1, by omega, by go_num, uh HF, uh HB⟩
    case measure => simp [intOf]; omega
   rw [eT hf] at he
   subst he
   replace HF := yh ((uh HF).trans (if_neg hf))
   have HG := yh hf
   clear hf
   go_wp2_with fail
   exact ⟨rfl, by rw [uh HF]; exact (eT (uh HG)).symm, uh HB⟩
  obtain rfl : k = xs.length := by omega
  rw [List.drop_length] at hF
  have hdl : decide ((xs.length : Int) < (xs.length : Int)) = false := by simp
  have HF := yh hF
  have HB := yh hB
  clear hF hB
  go_wp2_with fail
  go_end0
  exact ⟨by rw [uh HF]; rfl, uh HB⟩
theorem kS (v : Value) (xs : List bJ) (g : Nat) (w : World) (h : (ab.sl ab.aJ).Reads w [v] xs) (hx : aj 0 #[v] 34 w g) :
  Calls Tryz.prog 185 #[.pointer (some ⟨g, 0, none⟩)] w fun e w' => e = lS (.bool true) (aX xs) ∧ Below w.heap.size w w' := by
 have HL := yh (mS v xs w h)
 obtain ⟨ao, cap, rfl⟩ := aE h
 have HX := yh hx
 clear hx h
 have z0 : w.cell? ⟨g, 0, none⟩ = some (.slice ao xs.length cap) := (uh HX).at 0 _ rfl
 go_enter Tryz.func185, Tryz.ntmps185
 go_wp2_with fail
 refine (uh HL).mono ?_
 rintro e W2 ⟨he, hb⟩
 have HB := yh hb
 clear hb HL z0
 by_cases hf : aX xs = 0
 ·
  rw [kp hf] at he
  subst he
  have HF := yh hf
  clear hf
  go_wp2_with fail
  go_ret
  exact ⟨(lZ (uh HF)).symm, uh HB⟩
 rw [eT hf] at he
 subst he
 have HF := yh hf
 clear hf
 go_wp2_with fail
 exact ⟨rfl, (jU (uh HF)).symm, uh HB⟩
theorem kN (v : Value) (xs : List bJ) (w : World) (h : (ab.sl ab.aJ).Reads w [v] xs) :
  Calls Tryz.prog 119 #[v] w fun e w' => e = .returned (.int .i64 (aX xs)) ∧ Below w.heap.size w w' := by
 have hmf : ∀ (fn : Fn) (first cap : Array Value) (w : World), (Instr.makeFunc fn first cap).run Tryz.prog w = .ok (.func fn first cap) w := fun _ _ _ _ => rfl
 obtain ⟨ao, cap, rfl⟩ := aE h
 have nb : Below w.heap.size w (w.alloc (.cells #[.slice ao xs.length cap] 34)) := (Below.refl _ _).alloc (Nat.le_refl _) _
 have HR := yh (h.ag nb)
 have HB := yh nb
 have HX : Hid (aj 0 #[.slice ao xs.length cap] 34 (w.alloc (.cells #[.slice ao xs.length cap] 34)) w.heap.size) := aH (Nat.zero_le _)
 clear h nb
 go_enter Tryz.func119, Tryz.ntmps119
 go_upto_region 1 with fail
 generalize w.alloc (.cells #[.slice ao xs.length cap] 34) = W1 at *
 have nb : Below W1.heap.size W1 (W1.alloc (.cells #[.int .i64 0] 2)) := (Below.refl _ _).alloc (Nat.le_refl _) _
 have HW := yh (kS _ xs w.heap.size _ ((uh HR).ag nb) ((uh HX).au nb))
 have hz : (W1.alloc (.cells #[.int .i64 0] 2)).heap.size = W1.heap.size + 1 := by simp
 have HZ := yh hz
 clear nb hz
 by_cases hf : aX xs = 0
 ·
  have HL := yh (jx 185 #[.pointer (some ⟨w.heap.size, 0, none⟩)] W1 (fun v _ => v = .bool true) (fun _ => by rfl) ((uh HW).mono (by
   rintro e w' ⟨he, hb⟩
   rw [lZ hf] at he
   rw [uh HZ] at hb
   exact ⟨_, he, rfl, hb⟩)))
  have HF := yh hf
  clear hf HW HZ
  go_wp2_with fail
  refine (uh HL).mono ?_
  rintro e W2 ⟨v, W3, rfl, rfl, hW, hb, -⟩
  replace HB := bZ HB hb
  clear hW hb HL
  go_wp2_with fail
  go_ret
  exact ⟨by rw [uh HF]; rfl, uh HB⟩
 have HL := yh (iL 185 #[.pointer (some ⟨w.heap.size, 0, none⟩)] (aX xs) W1 (fun _ => by rfl) ((uh HW).mono (by
  rintro e w' ⟨he, hb⟩
  rw [jU hf] at he
  rw [uh HZ] at hb
  exact ⟨he, hb⟩)))
 clear hf HW HZ
 go_wp2_with fail
 refine (uh HL).mono ?_
 rintro e W2 ⟨rfl, hb⟩
 replace HB := bZ HB hb
 clear hb HL
 go_wp2_with fail
 go_ret
 exact ⟨rfl, uh HB⟩
theorem oR (a3 : Option Addr) (d3 : Nat) (a4 : Option Addr) (d4 : Nat) (a5 : Option Addr) (d5 : Nat) (a6 : Option Addr) (d6 : Nat) (x : ay) (id : Int) (g : Nat) (w : World) (h : ab.aC.Reads w [.int .i64 x.now, .int .i64 x.events, .int .i64 x.chain.af, .slice a3 x.chain.ids.length d3, .slice a4 x.nodes.length d4, .slice a5 x.msgs.length d5, .slice a6 x.ae.length d6] x) (hx : aj 0 #[.int .i64 x.now, .int .i64 x.events, .int .i64 x.chain.af, .slice a3 x.chain.ids.length d3, .slice a4 x.nodes.length d4, .slice a5 x.msgs.length d5, .slice a6 x.ae.length d6] 37 w g) :
  Calls Tryz.prog 116 #[.int .i64 id, .pointer (some ⟨g, 0, none⟩)] w fun e w' => e = .returned (.bool (!cj x id)) ∧ Below w.heap.size w w' := by
 have HL := yh (pn _ x id w h)
 have z0 := aj.at hx 0 _ rfl
 have z1 := aj.at hx 1 _ rfl
 have z2 := aj.at hx 2 _ rfl
 have z3 := aj.at hx 3 _ rfl
 have z4 := aj.at hx 4 _ rfl
 have z5 := aj.at hx 5 _ rfl
 have z6 := aj.at hx 6 _ rfl
 simp only [ga, gb, gc] at z0 z1 z2 z3 z4 z5 z6
 clear h
 go_enter Tryz.func116, Tryz.ntmps116
 go_wp2_with fail
 refine (uh HL).mono ?_
 rintro e w1 ⟨rfl, hb⟩
 have HB := yh hb
 clear hb HL z0 z1 z2 z3 z4 z5 z6
 go_wp2_with fail
 go_ret
 exact ⟨rfl, uh HB⟩
theorem lM (a3 : Option Addr) (d3 : Nat) (a4 : Option Addr) (d4 : Nat) (a5 : Option Addr) (d5 : Nat) (a6 : Option Addr) (d6 : Nat) (x : ay) (v : Value) (ids : List Int) (g : Nat) (w : World) (h : ab.aC.Reads w [.int .i64 x.now, .int .i64 x.events, .int .i64 x.chain.af, .slice a3 x.chain.ids.length d3, .slice a4 x.nodes.length d4, .slice a5 x.msgs.length d5, .slice a6 x.ae.length d6] x) (hx : aj 0 #[.int .i64 x.now, .int .i64 x.events, .int .i64 x.chain.af, .slice a3 x.chain.ids.length d3, .slice a4 x.nodes.length d4, .slice a5 x.msgs.length d5, .slice a6 x.ae.length d6] 37 w g) (R : (ab.sl ab.int).Reads w [v] ids) :
  Calls Tryz.prog 183 #[v, .func (.func 116) #[] #[.pointer (some ⟨g, 0, none⟩)]] w fun e w' => ∃ i : Int, e = .returned (.int .i64 i) ∧ decide (0 ≤ i) = !(ids.all (cj x)) ∧ Below w.heap.size w w' := by
 have hbig := R.dK
 obtain ⟨ao, cap, rfl⟩ := aE R
 have H := yh R
 have HX := yh h
 have HBX := yh hx
 clear h hx R
 go_enter Tryz.func183, Tryz.ntmps183
 go_wp2_with fail
 go_loopw [8] (fun i wr => ∃ k : Nat, k ≤ ids.length ∧ i = .int .i64 k ∧ (∀ j (hj : j < ids.length), j < k → cj x ids[j] = true) ∧ Below w.heap.size w wr) (fun i _ => ids.length - (intOf i).toNat)
 case atStart => exact ⟨0, Nat.zero_le _, rfl, fun j _ hj => by omega, Below.refl _ _⟩
 case round =>
  obtain ⟨k, hk, rfl, hz, hB⟩ := hrel
  by_cases hlt : k < ids.length
  ·
   obtain ⟨b, off, rfl, hbl⟩ := ab.aI (uh H) (by omega)
   have c1 := (hB.cell (p := ⟨b, off + k, none⟩) hbl).trans (dO (uh H) hlt)
   have hdl : decide ((k : Int) < (ids.length : Int)) = true := by simp; omega
   have HL := yh (oR a3 d3 a4 d4 a5 d5 a6 d6 x ids[k] g wr ((uh HX).ag hB) ((uh HBX).au hB))
   have HA : Hid (cj x ids[k] = false → (!(ids.all (cj x))) = true) := fun q => by
    have : ids.all (cj x) = false := by rw [List.all_eq_false]; exact ⟨ids[k], List.getElem_mem _, by rw [q]; simp⟩
    rw [this]; rfl
   have HN : Hid (cj x ids[k] = true → ∀ j (hj : j < ids.length), j < k + 1 → cj x ids[j] = true) := fun q j hj hjk => by
    by_cases h2 : j < k
    ·
     exact hz j hj h2
    obtain rfl : j = k := by omega
    exact q
   have HB := yh hB
   clear hz hB
   generalize hy : ids[k] = y at *
   clear hy
   go_wp2_with fail
   refine (uh HL).mono ?_
   rintro e w2 ⟨rfl, hb⟩
   replace HB := bZ HB hb
   clear hb HL c1
   cases hq : cj x y
   ·
    have HAA := yh (uh HA hq)
    clear HN HA hq
    go_wp2_with fail
    go_ret
    exact ⟨(k : Int), rfl, by rw [uh HAA]; simp, uh HB⟩
   have HNN := yh (uh HN hq)
   clear HN HA hq
   go_wp2_with fail
   go_roundw
   case rel => exact ⟨k + 1, by omega, by go_num, uh HNN, uh HB⟩
   case measure => simp [intOf]; omega
  obtain rfl : k = ids.length := by omega
  have hdl : decide ((ids.length : Int) < (ids.length : Int)) = false := by simp
  have HB := yh hB
  have HZ : Hid (ids.all (cj x) = true) := List.all_eq_true.2 fun y hy => by
   obtain ⟨j, hj, rfl⟩ := List.getElem_of_mem hy
   exact hz j hj hj
  clear hz hB
  go_wp2_with fail
  go_ret
  exact ⟨-1, rfl, by rw [uh HZ]; simp, uh HB⟩
theorem js (a3 : Option Addr) (d3 : Nat) (a4 : Option Addr) (d4 : Nat) (a5 : Option Addr) (d5 : Nat) (a6 : Option Addr) (d6 : Nat) (x : ay) (v : Value) (ids : List Int) (g : Nat) (w : World) (h : ab.aC.Reads w [.int .i64 x.now, .int .i64 x.events, .int .i64 x.chain.af, .slice a3 x.chain.ids.length d3, .slice a4 x.nodes.length d4, .slice a5 x.msgs.length d5, .slice a6 x.ae.length d6] x) (hx : aj 0 #[.int .i64 x.now, .int .i64 x.events, .int .i64 x.chain.af, .slice a3 x.chain.ids.length d3, .slice a4 x.nodes.length d4, .slice a5 x.msgs.length d5, .slice a6 x.ae.length d6] 37 w g) (R : (ab.sl ab.int).Reads w [v] ids) :
  Calls Tryz.prog 118 #[v, .func (.func 116) #[] #[.pointer (some ⟨g, 0, none⟩)]] w fun e w' => e = .returned (.bool (!(ids.all (cj x)))) ∧ Below w.heap.size w w' := by
 have HL := yh (lM a3 d3 a4 d4 a5 d5 a6 d6 x v ids g w h hx R)
 obtain ⟨ao, cap, rfl⟩ := aE R
 clear h hx R
 go_enter Tryz.func118, Tryz.ntmps118
 go_wp2_with fail
 refine (uh HL).mono ?_
 rintro e w1 ⟨i, rfl, hi, hb⟩
 have HI := yh hi
 have HB := yh hb
 clear hb HL hi
 go_wp2_with fail
 go_ret
 exact ⟨by rw [← uh HI]; rfl, uh HB⟩
theorem sH (x : ay) : aW x = if (decide (0 ≤ x.now) && decide (x.now ≤ 9000)) = false ∨ (decide (0 ≤ x.events) && decide (x.events ≤ 9999)) = false then 3
  else if aM x.chain ≠ 0 then aM x.chain else if eh x.chain x.nodes ≠ 0 then eh x.chain x.nodes else if (!(x.chain.ids.all (cj x))) = true then 4
  else if aX x.msgs ≠ 0 then aX x.msgs else nQ x.events x.ae := by
 have e1 : (¬ (0 ≤ x.now ∧ x.now ≤ 9000) ∨ ¬ (0 ≤ x.events ∧ x.events ≤ 9999)) ↔ ((decide (0 ≤ x.now) && decide (x.now ≤ 9000)) = false ∨ (decide (0 ≤ x.events) && decide (x.events ≤ 9999)) = false) := by
  simp only [Bool.and_eq_false_iff, decide_eq_false_iff_not]
  omega
 unfold aW
 by_cases h1 : (decide (0 ≤ x.now) && decide (x.now ≤ 9000)) = false ∨ (decide (0 ≤ x.events) && decide (x.events ≤ 9999)) = false
 ·
  rw [if_pos (e1.2 h1), if_pos h1]
 rw [if_neg (fun q => h1 (e1.1 q)), if_neg h1]
 by_cases h2 : aM x.chain ≠ 0
 ·
  rw [if_pos h2, if_pos h2]
 rw [if_neg h2, if_neg h2]
 by_cases h3 : x.nodes.length < 1 ∨ 5 < x.nodes.length
 ·
  have hP : eh x.chain x.nodes = 2 := if_neg (by omega)
  rw [if_pos h3, hP, if_pos (show ((2 : Int) ≠ 0) by omega)]
 have hP : eh x.chain x.nodes = ch x.chain 0 x.nodes := if_pos (by omega)
 rw [if_neg h3, hP]
 unfold bE
 by_cases h4 : ch x.chain 0 x.nodes ≠ 0
 ·
  rw [if_pos h4, if_pos h4, if_pos h4]
 rw [if_neg h4, if_neg h4]
 cases h5 : x.chain.ids.all (cj x)
 ·
  simp
 simp only [if_true, Bool.not_true, ne_eq, not_true_eq_false, if_false]
 by_cases h6 : aX x.msgs ≠ 0
 ·
  rw [if_pos h6, if_pos h6]; simp
 rw [if_neg h6, if_neg h6]
 rfl
theorem nR (x : ay) : 0 ≤ aW x ∧ aW x ≤ 10 := iq x (iv _)
theorem jl (cs : List Value) (x : ay) (w : World) (h : ab.aC.Reads w cs x) :
  Calls Tryz.prog 59 #[.agg cs.toArray] w fun e w' => e = .returned (.int .i64 (aW x)) ∧ Below w.heap.size w w' := by
 obtain ⟨a3, d3, a4, d4, a5, d5, a6, d6, rfl, RC, RN, RM, RE⟩ := aG h
 have nb : Below w.heap.size w (w.alloc (.cells #[.int .i64 x.now, .int .i64 x.events, .int .i64 x.chain.af, .slice a3 x.chain.ids.length d3, .slice a4 x.nodes.length d4, .slice a5 x.msgs.length d5, .slice a6 x.ae.length d6] 37)) := (Below.refl _ _).alloc (Nat.le_refl _) _
 have HX : Hid (aj 0 #[.int .i64 x.now, .int .i64 x.events, .int .i64 x.chain.af, .slice a3 x.chain.ids.length d3, .slice a4 x.nodes.length d4, .slice a5 x.msgs.length d5, .slice a6 x.ae.length d6] 37 (w.alloc (.cells #[.int .i64 x.now, .int .i64 x.events, .int .i64 x.chain.af, .slice a3 x.chain.ids.length d3, .slice a4 x.nodes.length d4, .slice a5 x.msgs.length d5, .slice a6 x.ae.length d6] 37)) w.heap.size) := aH (Nat.zero_le _)
 have HR := yh (h.ag nb)
 have HP := yh (sH x)
 have HB := yh nb
 have hmf : ∀ (fn : Fn) (first cap : Array Value) (w : World), (Instr.makeFunc fn first cap).run Tryz.prog w = .ok (.func fn first cap) w := fun _ _ _ _ => rfl
 clear nb h RC RN RM RE
 generalize aW x = r at *
 go_enter Tryz.func59, Tryz.ntmps59
 go_upto_region 1 with fail
 generalize w.alloc (.cells #[.int .i64 x.now, .int .i64 x.events, .int .i64 x.chain.af, .slice a3 x.chain.ids.length d3, .slice a4 x.nodes.length d4, .slice a5 x.msgs.length d5, .slice a6 x.ae.length d6] 37) = w1 at *
 have z0 := aj.at (uh HX) 0 _ rfl
 have z1 := aj.at (uh HX) 1 _ rfl
 have z2 := aj.at (uh HX) 2 _ rfl
 have z3 := aj.at (uh HX) 3 _ rfl
 have z4 := aj.at (uh HX) 4 _ rfl
 have z5 := aj.at (uh HX) 5 _ rfl
 have z6 := aj.at (uh HX) 6 _ rfl
 simp only [ga, gb, gc] at z0 z1 z2 z3 z4 z5 z6
 go_wp2_with fail
 refine (ea x.now 9000 w1).mono ?_
 rintro e w2 ⟨rfl, h2⟩
 subst w2
 cases d1 : (decide (0 ≤ x.now) && decide (x.now ≤ 9000))
 ·
  replace HP := yh ((uh HP).trans (if_pos (Or.inl d1)))
  clear d1
  go_wp2_with fail
  go_ret
  exact ⟨by rw [uh HP]; rfl, uh HB⟩
 go_wp2_with fail
 refine (ea x.events 9999 w1).mono ?_
 rintro e w2 ⟨rfl, h2⟩
 subst w2
 cases d2 : (decide (0 ≤ x.events) && decide (x.events ≤ 9999))
 ·
  replace HP := yh ((uh HP).trans (if_pos (Or.inr d2)))
  clear d1 d2
  go_wp2_with fail
  go_ret
  exact ⟨by rw [uh HP]; rfl, uh HB⟩
 replace HP := yh ((uh HP).trans (if_neg (by rw [d1, d2]; simp)))
 clear d1 d2
 go_wp2_with fail
 obtain ⟨_, _, _, _, _, _, _, _, hq, RC, -, -, -⟩ := aG (uh HR)
 simp only [List.cons.injEq, Value.slice.injEq, and_true, true_and] at hq
 obtain ⟨⟨rfl, rfl⟩, ⟨rfl, rfl⟩, ⟨rfl, rfl⟩, rfl, rfl⟩ := hq
 refine (iV _ x.chain w1 RC).mono ?_
 rintro e w2 ⟨rfl, hb⟩
 clear RC z0 z1 z2 z3 z4 z5 z6
 replace HX := yh ((uh HX).au hb)
 replace HR := yh ((uh HR).ag hb)
 replace HB := bZ HB hb
 clear hb
 have z0 := aj.at (uh HX) 0 _ rfl
 have z1 := aj.at (uh HX) 1 _ rfl
 have z2 := aj.at (uh HX) 2 _ rfl
 have z3 := aj.at (uh HX) 3 _ rfl
 have z4 := aj.at (uh HX) 4 _ rfl
 have z5 := aj.at (uh HX) 5 _ rfl
 have z6 := aj.at (uh HX) 6 _ rfl
 simp only [ga, gb, gc] at z0 z1 z2 z3 z4 z5 z6
 by_cases d3 : aM x.chain ≠ 0
 ·
  have hd : (aM x.chain != 0) = true := by simpa using d3
  replace HP := yh ((uh HP).trans (if_pos d3))
  clear d3
  generalize aM x.chain = c at *
  go_wp2_with fail
  go_ret
  exact ⟨by rw [uh HP]; rfl, uh HB⟩
 replace HP := yh ((uh HP).trans (if_neg d3))
 have hd : aM x.chain = 0 := by simpa using d3
 clear d3
 rw [hd]
 clear hd
 go_wp2_with fail
 obtain ⟨_, _, _, _, _, _, _, _, hq, RC, RN, -, -⟩ := aG (uh HR)
 simp only [List.cons.injEq, Value.slice.injEq, and_true, true_and] at hq
 obtain ⟨⟨rfl, rfl⟩, ⟨rfl, rfl⟩, ⟨rfl, rfl⟩, rfl, rfl⟩ := hq
 refine (mg _ x.chain _ x.nodes w2 RC RN).mono ?_
 rintro e w3 ⟨rfl, hb⟩
 clear RC RN z0 z1 z2 z3 z4 z5 z6
 replace HX := yh ((uh HX).au hb)
 replace HR := yh ((uh HR).ag hb)
 replace HB := bZ HB hb
 clear hb
 have z0 := aj.at (uh HX) 0 _ rfl
 have z1 := aj.at (uh HX) 1 _ rfl
 have z2 := aj.at (uh HX) 2 _ rfl
 have z3 := aj.at (uh HX) 3 _ rfl
 have z4 := aj.at (uh HX) 4 _ rfl
 have z5 := aj.at (uh HX) 5 _ rfl
 have z6 := aj.at (uh HX) 6 _ rfl
 simp only [ga, gb, gc] at z0 z1 z2 z3 z4 z5 z6
 by_cases d3 : eh x.chain x.nodes ≠ 0
 ·
  have hd : (eh x.chain x.nodes != 0) = true := by simpa using d3
  replace HP := yh ((uh HP).trans (if_pos d3))
  clear d3
  generalize eh x.chain x.nodes = c at *
  go_wp2_with fail
  go_ret
  exact ⟨by rw [uh HP]; rfl, uh HB⟩
 replace HP := yh ((uh HP).trans (if_neg d3))
 have hd : eh x.chain x.nodes = 0 := by simpa using d3
 clear d3
 rw [hd]
 clear hd
 go_wp2_with fail
 obtain ⟨_, _, _, _, _, _, _, _, hq, RC, -, -, -⟩ := aG (uh HR)
 simp only [List.cons.injEq, Value.slice.injEq, and_true, true_and] at hq
 obtain ⟨⟨rfl, rfl⟩, ⟨rfl, rfl⟩, ⟨rfl, rfl⟩, rfl, rfl⟩ := hq
 obtain ⟨_, _, hq, RI⟩ := bP RC
 simp only [List.cons.injEq, Value.slice.injEq, and_true, true_and] at hq
 obtain ⟨rfl, rfl⟩ := hq
 refine (js a3 d3 a4 d4 a5 d5 a6 d6 x _ x.chain.ids w.heap.size w3 (uh HR) (uh HX) RI).mono ?_
 rintro e w4 ⟨rfl, hb⟩
 clear RC RI z0 z1 z2 z3 z4 z5 z6
 replace HX := yh ((uh HX).au hb)
 replace HR := yh ((uh HR).ag hb)
 replace HB := bZ HB hb
 clear hb
 have z0 := aj.at (uh HX) 0 _ rfl
 have z1 := aj.at (uh HX) 1 _ rfl
 have z2 := aj.at (uh HX) 2 _ rfl
 have z3 := aj.at (uh HX) 3 _ rfl
 have z4 := aj.at (uh HX) 4 _ rfl
 have z5 := aj.at (uh HX) 5 _ rfl
 have z6 := aj.at (uh HX) 6 _ rfl
 simp only [ga, gb, gc] at z0 z1 z2 z3 z4 z5 z6
 cases d3 : x.chain.ids.all (cj x)
 ·
  replace HP := yh ((uh HP).trans (if_pos (by rw [d3]; rfl)))
  clear d3
  go_wp2_with fail
  go_ret
  exact ⟨by rw [uh HP]; rfl, uh HB⟩
 replace HP := yh ((uh HP).trans (if_neg (by rw [d3]; simp)))
 clear d3
 go_wp2_with fail
 obtain ⟨_, _, _, _, _, _, _, _, hq, -, -, RM, -⟩ := aG (uh HR)
 simp only [List.cons.injEq, Value.slice.injEq, and_true, true_and] at hq
 obtain ⟨⟨rfl, rfl⟩, ⟨rfl, rfl⟩, ⟨rfl, rfl⟩, rfl, rfl⟩ := hq
 refine (kN _ x.msgs w4 RM).mono ?_
 rintro e w5 ⟨rfl, hb⟩
 clear RM z0 z1 z2 z3 z4 z5 z6
 replace HX := yh ((uh HX).au hb)
 replace HR := yh ((uh HR).ag hb)
 replace HB := bZ HB hb
 clear hb
 have z0 := aj.at (uh HX) 0 _ rfl
 have z1 := aj.at (uh HX) 1 _ rfl
 have z2 := aj.at (uh HX) 2 _ rfl
 have z3 := aj.at (uh HX) 3 _ rfl
 have z4 := aj.at (uh HX) 4 _ rfl
 have z5 := aj.at (uh HX) 5 _ rfl
 have z6 := aj.at (uh HX) 6 _ rfl
 simp only [ga, gb, gc] at z0 z1 z2 z3 z4 z5 z6
 by_cases d3 : aX x.msgs ≠ 0
 ·
  have hd : (aX x.msgs != 0) = true := by simpa using d3
  replace HP := yh ((uh HP).trans (if_pos d3))
  clear d3
  generalize aX x.msgs = c at *
  go_wp2_with fail
  go_ret
  exact ⟨by rw [uh HP]; rfl, uh HB⟩
 replace HP := yh ((uh HP).trans (if_neg d3))
 have hd : aX x.msgs = 0 := by simpa using d3
 clear d3
 rw [hd]
 clear hd
 go_wp2_with fail
 obtain ⟨_, _, _, _, _, _, _, _, hq, -, -, -, RE⟩ := aG (uh HR)
 simp only [List.cons.injEq, Value.slice.injEq, and_true, true_and] at hq
 obtain ⟨⟨rfl, rfl⟩, ⟨rfl, rfl⟩, ⟨rfl, rfl⟩, rfl, rfl⟩ := hq
 refine (jG _ x.ae x.events w5 RE).mono ?_
 rintro e w6 ⟨rfl, hb⟩
 replace HB := bZ HB hb
 clear RE hb z0 z1 z2 z3 z4 z5 z6
 go_wp2_with fail
 go_ret
 exact ⟨by rw [uh HP]; rfl, uh HB⟩
theorem qW (ad : Addr) (cap : Nat) (zs : List Int) (w : World) (h : bU w (.slice (some ad) zs.length cap) zs) (hn : zs.length ≤ 100000000) :
  Calls Tryz.prog 109 #[.slice (some ad) zs.length cap] w fun e w' => ∃ v', e = .returned v' ∧ w'.ownsRow w.heap.size 2 1 v' zs.length (zs.map (Value.int .i64)) ∧ Below w.heap.size w w' := by
 have nb : Below w.heap.size w (w.alloc (.cells #[] 2)) := (Below.refl _ _).alloc (Nat.le_refl _) _
 have O : (w.alloc (.cells #[] 2)).ownsRow w.heap.size 2 1 (.slice (some ⟨w.heap.size, 0, none⟩) 0 0) 0 [] := World.ownsRow_lit w _ 0 (Nat.le_refl _) (by unfold maxLen; omega) rfl
 have h1 := h.ag nb
 have HB := yh nb
 have hnil : ∀ w : World, (binOp .eql 22 (.slice (some ad) zs.length cap) (.slice none 0 0)).run Tryz.prog w = .ok (.bool false) w := fun _ => by kernel_rfl
 clear nb h
 go_enter Tryz.func109, Tryz.ntmps109
 go_wp2_with (at_builtin; refine ed O h1 rfl _ _ rfl rfl rfl (by omega) (by simp) ?_)
 rintro v' w' O2 - hb
 have HB2 := yh ((uh HB).trans hb)
 clear O h1 hb HB
 go_wp2_with fail
 go_ret
 exact ⟨v', rfl, by simpa using O2, uh HB2⟩
theorem nU (d : Nat) (w : World) : Calls Tryz.prog 109 #[.slice none 0 d] w fun e w' => e = .returned (.slice none 0 0) ∧ Below w.heap.size w w' := by
 have hnil : ∀ w : World, (binOp .eql 22 (.slice none 0 d) (.slice none 0 0)).run Tryz.prog w = .ok (.bool true) w := fun _ => by kernel_rfl
 have HB : Hid (∀ o, Below w.heap.size w (w.alloc o)) := fun o => (Below.refl _ _).alloc (Nat.le_refl _) o
 go_enter Tryz.func109, Tryz.ntmps109
 go_wp2_with fail
 go_ret
 exact ⟨rfl, Below.refl _ _⟩
theorem jj (v : Value) (zs : List Int) (w : World) (h : (ab.sl ab.int).Reads w [v] zs) (hn : zs.length ≤ 10000000) :
  Calls Tryz.prog 109 #[v] w fun e w' => ∃ a n c, e = .returned (.slice a n c) ∧ ((ab.sl ab.int).aQ w' [.slice a n c] zs w.heap.size w'.heap.size ∧ n = zs.length) ∧ Below w.heap.size w w' := by
 obtain ⟨ao, cap, rfl⟩ := aE h
 cases ao with
 | none =>
  have h0 : zs = [] := by
   by_cases hp : 0 < zs.length
   ·
    obtain ⟨b, off, e, -⟩ := ab.aI h hp
    cases e
   exact List.eq_nil_of_length_eq_zero (by omega)
  subst h0
  refine (nU cap w).mono ?_
  rintro e w' ⟨rfl, hb⟩
  exact ⟨none, 0, 0, rfl, ⟨fD, rfl⟩, hb⟩
 | some ad =>
  refine (qW ad cap zs w (ab.bn h) (by omega)).mono ?_
  rintro e w' ⟨v', rfl, O, hb⟩
  have hO := ab.ez (ab.bn h).wf (by omega) O
  obtain ⟨a3, c3, rfl⟩ := aE hO.reads
  exact ⟨a3, _, c3, rfl, ⟨hO, rfl⟩, hb⟩
theorem mI : (Tryz.prog.info? 142).map (fun i => (i.zero, i.size, decide (i.bytes ≤ 1000))) = some (some (.agg #[.int .i64 0, .int .i64 0, .slice none 0 0, .int .i64 0, .int .i64 0]), 5, true) := by kernel_rfl
theorem mN {w : World} {x : aA} {v : Value} {lo hi : Nat} (h : (ab.sl ab.int).aQ w [v] x.vec lo hi) (v0 : (Lit.int .i64 x.kind).wf = true) (v1 : (Lit.int .i64 x.id).wf = true) (v3 : (Lit.int .i64 x.aa).wf = true) (v4 : (Lit.int .i64 x.seq).wf = true) : ab.ai.aQ w [.int .i64 x.kind, .int .i64 x.id, v, .int .i64 x.aa, .int .i64 x.seq] x lo hi := by
 obtain ⟨bl, O, i⟩ := h
 exact ⟨bl, dz O v0 v1 v3 v4 O.2.1, i⟩
theorem rb (v : Value) (xs : List aA) (w : World) (h : (ab.sl ab.ai).Reads w [v] xs) (hlen : xs.length ≤ 1000000) (hv : ∀ x ∈ xs, x.vec.length ≤ 10000000) :
  Calls Tryz.prog 239 #[v] w fun e w' => ∃ (g : Nat), e = .returned (.slice (some ⟨g, 0, none⟩) xs.length xs.length) ∧ (ab.sl ab.ai).aQ w' [.slice (some ⟨g, 0, none⟩) xs.length xs.length] xs w.heap.size w'.heap.size ∧ Below w.heap.size w w' := by
 have hbig := h.dK
 obtain ⟨ao, cap, rfl⟩ := aE h
 obtain ⟨i0, hi, hz0, hz1, hz2⟩ : ∃ i, Tryz.prog.info? 142 = some i ∧ i.zero = some (.agg #[.int .i64 0, .int .i64 0, .slice none 0 0, .int .i64 0, .int .i64 0]) ∧ i.size = 5 ∧ i.bytes ≤ 1000 := by
  have := mI
  cases hq : Tryz.prog.info? 142 with
  | none => rw [hq] at this; simp at this
  | some i =>
   rw [hq] at this
   simp only [Option.map_some, Option.some.injEq, Prod.mk.injEq, decide_eq_true_eq] at this
   exact ⟨i, rfl, this.1, this.2.1, this.2.2⟩
 have H := yh h
 have HN := yh hv
 clear h hv
 go_enter Tryz.func239, Tryz.ntmps239
 go_wp2_with (at_make; refine wpList_make_full _ rfl _ _ 77 rfl w.heap.size 142 i0 _ 5 Tryz.underlying77 hi hz0 hz1 _ _ _ _ xs.length rfl rfl rfl rfl ?c1 ?c2 ?c3 ?_)
 case c1 => have := Nat.mul_le_mul hz2 hlen; omega
 case c2 => unfold maxLen; omega
 case c3 => exact Nat.le_refl _
 intro w1 hown1 hgrow1
 have hB1 : Below w.heap.size w w1 := (Below.refl _ _).grown hgrow1 (Nat.le_refl _) (by simp)
 clear hgrow1 hi hz0 hz1 hz2
 have HO1 := yh hown1
 have HB1 := yh hB1
 clear hown1 hB1
 go_wp2_with fail
 go_loopw [11] (fun i wr => ∃ (k : Nat) (rows : List (List Value)) (Q : List Value) (hi : Nat), k ≤ xs.length ∧ i = .int .i64 k ∧ wr.ownsRow w.heap.size 142 5 (.slice (some ⟨w.heap.size, 0, none⟩) xs.length xs.length) xs.length (rows.flatten ++ Q) ∧ Q.length = (xs.length - k) * 5 ∧ ab.fo ab.ai wr rows (xs.take k) (w.heap.size + 1) hi ∧ hi ≤ wr.heap.size ∧ w.heap.size < hi ∧ Below w.heap.size w wr) (fun i _ => xs.length - (intOf i).toNat)
 case atStart =>
  have hl := ((uh HO1).lt w.heap.size rfl).2
  exact ⟨0, [], _, w1.heap.size, Nat.zero_le _, rfl, by simpa using uh HO1, by have := (uh HO1).1; simpa using this, ab.dC, Nat.le_refl _, hl, uh HB1⟩
 case round =>
  obtain ⟨k, rows, Q, hi, hk, rfl, hown, hQ, hsub, hhi, hlo, hB⟩ := hrel
  clear HO1 HB1
  by_cases hlt : k < xs.length
  ·
   obtain ⟨b, off, rfl, hbl⟩ := ab.aI (uh H) (by omega)
   obtain ⟨row, hc, hr⟩ := ab.bm (uh H) hlt
   replace hr := hr.ag hB
   have hr2 := hr
   obtain ⟨a2, d2, rfl, R2⟩ := bk hr2
   obtain ⟨v0, v1, v3, v4⟩ : (Lit.int .i64 (xs[k]).kind).wf = true ∧ (Lit.int .i64 (xs[k]).id).wf = true ∧ (Lit.int .i64 (xs[k]).aa).wf = true ∧ (Lit.int .i64 (xs[k]).seq).wf = true := by
    obtain ⟨bl9, hl9⟩ := hr
    obtain ⟨a9, d9, b9, -, -, f0, f1, -, f3, f4⟩ := cg.1 hl9
    exact ⟨f0, f1, f3, f4⟩
   have c0 : wr.cell? ⟨b, off + k * 5, none⟩ = some (.int .i64 (xs[k]).kind) := (hB.cell (p := ⟨b, off + k * 5, none⟩) hbl).trans (hc 0 (by decide))
   have c1 : wr.cell? ⟨b, off + k * 5 + 1, none⟩ = some (.int .i64 (xs[k]).id) := (hB.cell (p := ⟨b, off + k * 5 + 1, none⟩) hbl).trans (hc 1 (by decide))
   have c2 : wr.cell? ⟨b, off + k * 5 + 2, none⟩ = some (.slice a2 (xs[k]).vec.length d2) := (hB.cell (p := ⟨b, off + k * 5 + 2, none⟩) hbl).trans (hc 2 (by decide))
   have c3' : wr.cell? ⟨b, off + k * 5 + 3, none⟩ = some (.int .i64 (xs[k]).aa) := (hB.cell (p := ⟨b, off + k * 5 + 3, none⟩) hbl).trans (hc 3 (by decide))
   have c4 : wr.cell? ⟨b, off + k * 5 + 4, none⟩ = some (.int .i64 (xs[k]).seq) := (hB.cell (p := ⟨b, off + k * 5 + 4, none⟩) hbl).trans (hc 4 (by decide))
   have hrl : rows.flatten.length = k * 5 := by have := (ab.dB hsub).1; rw [List.length_take, Nat.min_eq_left hk] at this; exact this
   have hvl := uh HN xs[k] (List.getElem_mem hlt)
   have HT : Hid (xs.take (k + 1) = xs.take k ++ [xs[k]]) := List.take_succ_eq_append_getElem hlt
   have HB := yh hB
   have HO := yh hown
   have HS := yh hsub
   have HQ := yh hQ
   have HV := yh (And.intro v0 (And.intro v1 (And.intro v3 v4)))
   clear hB hr hc hown hsub hQ v0 v1 v3 v4
   generalize hxk : xs[k] = x at *
   clear hxk
   have hbr : b < wr.heap.size := Nat.lt_of_lt_of_le hbl (uh HB).size
   have nb : Below wr.heap.size wr (wr.alloc (.cells #[.int .i64 x.kind, .int .i64 x.id, .slice a2 x.vec.length d2, .int .i64 x.aa, .int .i64 x.seq] 142)) := (Below.refl _ _).alloc (Nat.le_refl _) _
   have bT : aj wr.heap.size #[.int .i64 x.kind, .int .i64 x.id, .slice a2 x.vec.length d2, .int .i64 x.aa, .int .i64 x.seq] 142 (wr.alloc (.cells #[.int .i64 x.kind, .int .i64 x.id, .slice a2 x.vec.length d2, .int .i64 x.aa, .int .i64 x.seq] 142)) wr.heap.size := aH (Nat.le_refl _)
   have HL := yh (jj _ x.vec _ (R2.ag nb) hvl)
   have HNB := yh nb
   have HBT := yh bT
   clear R2 nb bT
   go_wp2_with fail
   clear c0 c1 c2 c3' c4
   refine (uh HL).mono ?_
   generalize hW0 : wr.alloc (.cells #[.int .i64 x.kind, .int .i64 x.id, .slice a2 x.vec.length d2, .int .i64 x.aa, .int .i64 x.seq] 142) = W0 at *
   have hz0 : W0.heap.size = wr.heap.size + 1 := by rw [← hW0]; simp
   clear hW0
   rintro e w2 ⟨a3, n3, c3, rfl, ⟨O, hn3⟩, hb⟩
   subst hn3
   have hbt := (uh HBT).au hb
   have y0 := hbt.at 0 _ rfl
   have y1 := hbt.at 1 _ rfl
   have y2 := hbt.at 2 _ rfl
   have y3 := hbt.at 3 _ rfl
   have y4 := hbt.at 4 _ rfl
   have yf := hbt.soft
   have yl := hbt.lt
   simp only [ga, gb, gc] at y0 y1 y2 y3 y4
   have hnb2 := (uh HNB).trans (hb.mono (uh HNB).size)
   have hz2 : W0.heap.size ≤ w2.heap.size := hb.size
   have e3 : Ext (fun q => q = wr.heap.size) w2 (w2.setCell ⟨wr.heap.size, 2, none⟩ (.slice a3 x.vec.length c3)) := (Ext.refl (fun q => q = wr.heap.size) _).setCell ⟨wr.heap.size, 2, none⟩ _ rfl
   have hb3 : Below wr.heap.size wr (w2.setCell ⟨wr.heap.size, 2, none⟩ (.slice a3 x.vec.length c3)) := hnb2.setCell (by simp) _
   have o2 := cJ (uh HO) hb3
   have o1 := cJ (uh HO) hnb2
   have ow : ab.ai.aQ (w2.setCell ⟨wr.heap.size, 2, none⟩ (.slice a3 x.vec.length c3)) [.int .i64 x.kind, .int .i64 x.id, .slice a3 x.vec.length c3, .int .i64 x.aa, .int .i64 x.seq] x W0.heap.size w2.heap.size := mN (O.ext e3 (fun q h1 h2 h3 => by omega)) (uh HV).1 (uh HV).2.1 (uh HV).2.2.1 (uh HV).2.2.2
   replace HS := yh (ab.da (ab.cf (uh HS) (aL hb3 cU) (fun _ _ _ h => h)) ow (by omega) (by omega) (by omega))
   have hb2 := (uh HB).trans (hb3.mono (uh HB).size)
   have hz3 : (w2.setCell ⟨wr.heap.size, 2, none⟩ (.slice a3 x.vec.length c3)).heap.size = w2.heap.size := by simp
   have hxw : w.heap.size < wr.heap.size := by omega
   clear hb HB HO O HV HNB HBT HL hnb2 e3 hb3 ow hbt
   have hQ := uh HQ
   have hl5 : (rows.flatten ++ Q).length = xs.length * 5 := o2.1
   obtain ⟨u0, g0⟩ : ∃ u, w2.cell? ⟨w.heap.size, k * 5, none⟩ = some u := by
    rw [o1.cellAt (k * 5) (by omega)]
    exact gZ (by omega)
   have t0 := o1.frozenAt (k * 5)
   obtain ⟨u1, g1⟩ : ∃ u, w2.cell? ⟨w.heap.size, k * 5 + 1, none⟩ = some u := by
    rw [o1.cellAt (k * 5 + 1) (by omega)]
    exact gZ (by omega)
   have t1 := o1.frozenAt (k * 5 + 1)
   obtain ⟨u2, g2⟩ : ∃ u, w2.cell? ⟨w.heap.size, k * 5 + 2, none⟩ = some u := by
    rw [o1.cellAt (k * 5 + 2) (by omega)]
    exact gZ (by omega)
   have t2 := o1.frozenAt (k * 5 + 2)
   obtain ⟨u3, g3⟩ : ∃ u, w2.cell? ⟨w.heap.size, k * 5 + 3, none⟩ = some u := by
    rw [o1.cellAt (k * 5 + 3) (by omega)]
    exact gZ (by omega)
   have t3 := o1.frozenAt (k * 5 + 3)
   obtain ⟨u4, g4⟩ : ∃ u, w2.cell? ⟨w.heap.size, k * 5 + 4, none⟩ = some u := by
    rw [o1.cellAt (k * 5 + 4) (by omega)]
    exact gZ (by omega)
   have t4 := o1.frozenAt (k * 5 + 4)
   have o3 := cN o2 (k * 5) [.int .i64 x.kind, .int .i64 x.id, .slice a3 x.vec.length c3, .int .i64 x.aa, .int .i64 x.seq]
   rw [show k * 5 = rows.flatten.length from hrl.symm, cF _ _ _ (by rw [hQ]; simp; have : 1 * 5 ≤ (xs.length - k) * 5 := Nat.mul_le_mul_right _ (by omega); omega), hrl] at o3
   have E : Ext (fun q => q = w.heap.size) (w2.setCell ⟨wr.heap.size, 2, none⟩ (.slice a3 x.vec.length c3)) (aO (w2.setCell ⟨wr.heap.size, 2, none⟩ (.slice a3 x.vec.length c3)) w.heap.size (k * 5) [.int .i64 x.kind, .int .i64 x.id, .slice a3 x.vec.length c3, .int .i64 x.aa, .int .i64 x.seq]) := bD _ (Ext.refl _ _) _ _ _ rfl
   replace HS := yh (ab.cf (uh HS) E (fun q h1 h2 h3 => by omega))
   have HB := yh (aP hb2 w.heap.size (k * 5) [.int .i64 x.kind, .int .i64 x.id, .slice a3 x.vec.length c3, .int .i64 x.aa, .int .i64 x.seq] (Nat.le_refl _))
   have HZ : Hid ((aO (w2.setCell ⟨wr.heap.size, 2, none⟩ (.slice a3 x.vec.length c3)) w.heap.size (k * 5) [.int .i64 x.kind, .int .i64 x.id, .slice a3 x.vec.length c3, .int .i64 x.aa, .int .i64 x.seq]).heap.size = w2.heap.size) := (bF _ _ _ _).trans hz3
   have HO : Hid ((aO (w2.setCell ⟨wr.heap.size, 2, none⟩ (.slice a3 x.vec.length c3)) w.heap.size (k * 5) [.int .i64 x.kind, .int .i64 x.id, .slice a3 x.vec.length c3, .int .i64 x.aa, .int .i64 x.seq]).ownsRow w.heap.size 142 5 (.slice (some ⟨w.heap.size, 0, none⟩) xs.length xs.length) xs.length ((rows ++ [([.int .i64 x.kind, .int .i64 x.id, .slice a3 x.vec.length c3, .int .i64 x.aa, .int .i64 x.seq] : List Value)]).flatten ++ Q.drop 5)) := by
    show (aO (w2.setCell ⟨wr.heap.size, 2, none⟩ (.slice a3 x.vec.length c3)) w.heap.size (k * 5) [.int .i64 x.kind, .int .i64 x.id, .slice a3 x.vec.length c3, .int .i64 x.aa, .int .i64 x.seq]).ownsRow w.heap.size 142 5 (.slice (some ⟨w.heap.size, 0, none⟩) xs.length xs.length) xs.length ((rows ++ [([.int .i64 x.kind, .int .i64 x.id, .slice a3 x.vec.length c3, .int .i64 x.aa, .int .i64 x.seq] : List Value)]).flatten ++ Q.drop 5)
    rw [List.flatten_append]
    simpa using o3
   have hl2 := (o1.lt w.heap.size rfl).2
   clear o3 o2 o1 E hb2 hl5
   have hQ2 : Hid ((Q.drop 5).length = (xs.length - (k + 1)) * 5) := by
    show (Q.drop 5).length = (xs.length - (k + 1)) * 5
    rw [List.length_drop, hQ, show xs.length - k = xs.length - (k + 1) + 1 by omega, Nat.add_mul]
    omega
   have HW2 : Hid (w.heap.size < w2.heap.size) := hl2
   clear hQ HQ hz3 hz2 hz0
   go_wp2_with fail
   go_roundw
   case rel => exact ⟨k + 1, rows ++ [([.int .i64 x.kind, .int .i64 x.id, .slice a3 x.vec.length c3, .int .i64 x.aa, .int .i64 x.seq] : List Value)], Q.drop 5, w2.heap.size, by omega, by go_num, uh HO, uh hQ2, (by rw [uh HT]; exact uh HS), Nat.le_of_eq (uh HZ).symm, uh HW2, uh HB⟩
   case measure => simp [intOf]; omega
  obtain rfl : k = xs.length := by omega
  have e0 : Q = [] := List.eq_nil_of_length_eq_zero (by rw [hQ]; simp)
  subst e0
  rw [List.append_nil] at hown
  rw [List.take_length] at hsub
  have HO := yh (ab.dc (A := ab.ai) hown hsub (by omega) hhi hbig)
  have HB := yh hB
  clear hown hsub hB
  go_wp2_with fail
  go_ret
  exact ⟨_, rfl, uh HO, uh HB⟩
theorem rn {w : World} {cs : List Value} {x : bz} (h : ab.ax.Reads w cs x) : (Lit.int .i64 x.id).wf = true ∧ (Lit.int .i64 x.af).wf = true ∧ (Lit.int .i64 x.az).wf = true ∧ (Lit.int .i64 x.sure).wf = true ∧ (Lit.int .i64 x.clean).wf = true := by
 obtain ⟨bl, h⟩ := h
 obtain ⟨_, _, _, -, -, w0, w2, w3, -, w5, w6⟩ := dd.1 h
 exact ⟨w0, w2, w3, w5, w6⟩
theorem ot {w : World} {x : bz} {v : Value} {lo hi : Nat} (h : (ab.sl ab.ai).aQ w [v] x.writes lo hi) (hw : (Lit.int .i64 x.id).wf = true ∧ (Lit.int .i64 x.af).wf = true ∧ (Lit.int .i64 x.az).wf = true ∧ (Lit.int .i64 x.sure).wf = true ∧ (Lit.int .i64 x.clean).wf = true) :
  ab.ax.aQ w [.int .i64 x.id, .bool x.up, .int .i64 x.af, .int .i64 x.az, v, .int .i64 x.sure, .int .i64 x.clean] x lo hi := by
 obtain ⟨bl, O, i⟩ := h
 obtain ⟨w0, w2, w3, w5, w6⟩ := hw
 exact ⟨bl, iA O w0 w2 w3 w5 w6 O.2.1, i⟩
theorem nS : (Tryz.prog.info? 79).map (fun i => (i.zero, i.size, decide (i.bytes ≤ 1000))) = some (some (.agg #[.int .i64 0, .bool false, .int .i64 0, .int .i64 0, .slice none 0 0, .int .i64 0, .int .i64 0]), 7, true) := by kernel_rfl
theorem kG (v : Value) (xs : List bz) (w : World) (h : (ab.sl ab.ax).Reads w [v] xs) (hlen : xs.length ≤ 1000000) (hv : ∀ x ∈ xs, x.writes.length ≤ 1000000 ∧ ∀ y ∈ x.writes, y.vec.length ≤ 10000000) :
  Calls Tryz.prog 222 #[v] w fun e w' => ∃ (g : Nat), e = .returned (.slice (some ⟨g, 0, none⟩) xs.length xs.length) ∧ (ab.sl ab.ax).aQ w' [.slice (some ⟨g, 0, none⟩) xs.length xs.length] xs w.heap.size w'.heap.size ∧ Below w.heap.size w w' := by
 have hbig := h.dK
 obtain ⟨ao, cap, rfl⟩ := aE h
 obtain ⟨i0, hi, hz0, hz1, hz2⟩ : ∃ i, Tryz.prog.info? 79 = some i ∧ i.zero = some (.agg #[.int .i64 0, .bool false, .int .i64 0, .int .i64 0, .slice none 0 0, .int .i64 0, .int .i64 0]) ∧ i.size = 7 ∧ i.bytes ≤ 1000 := by
  have := nS
  cases hq : Tryz.prog.info? 79 with
  | none => rw [hq] at this; simp at this
  | some i =>
   rw [hq] at this
   simp only [Option.map_some, Option.some.injEq, Prod.mk.injEq, decide_eq_true_eq] at this
   exact ⟨i, rfl, this.1, this.2.1, this.2.2⟩
 have H := yh h
 have HN := yh hv
 clear h hv
 go_enter Tryz.func222, Tryz.ntmps222
 go_wp2_with (at_make; refine wpList_make_full _ rfl _ _ 33 rfl w.heap.size 79 i0 _ 7 Tryz.underlying33 hi hz0 hz1 _ _ _ _ xs.length rfl rfl rfl rfl ?c1 ?c2 ?c3 ?_)
 case c1 => have := Nat.mul_le_mul hz2 hlen; omega
 case c2 => unfold maxLen; omega
 case c3 => exact Nat.le_refl _
 intro w1 hown1 hgrow1
 have hB1 : Below w.heap.size w w1 := (Below.refl _ _).grown hgrow1 (Nat.le_refl _) (by simp)
 clear hgrow1 hi hz0 hz1 hz2
 have HO1 := yh hown1
 have HB1 := yh hB1
 clear hown1 hB1
 go_wp2_with fail
 go_loopw [11] (fun i wr => ∃ (k : Nat) (rows : List (List Value)) (Q : List Value) (hi : Nat), k ≤ xs.length ∧ i = .int .i64 k ∧ wr.ownsRow w.heap.size 79 7 (.slice (some ⟨w.heap.size, 0, none⟩) xs.length xs.length) xs.length (rows.flatten ++ Q) ∧ Q.length = (xs.length - k) * 7 ∧ ab.fo ab.ax wr rows (xs.take k) (w.heap.size + 1) hi ∧ hi ≤ wr.heap.size ∧ w.heap.size < hi ∧ Below w.heap.size w wr) (fun i _ => xs.length - (intOf i).toNat)
 case atStart =>
  have hl := ((uh HO1).lt w.heap.size rfl).2
  exact ⟨0, [], _, w1.heap.size, Nat.zero_le _, rfl, by simpa using uh HO1, by have := (uh HO1).1; simpa using this, ab.dC, Nat.le_refl _, hl, uh HB1⟩
 case round =>
  obtain ⟨k, rows, Q, hi, hk, rfl, hown, hQ, hsub, hhi, hlo, hB⟩ := hrel
  clear HO1 HB1
  by_cases hlt : k < xs.length
  ·
   obtain ⟨b, off, rfl, hbl⟩ := ab.aI (uh H) (by omega)
   obtain ⟨row, hc, hr⟩ := ab.bm (uh H) hlt
   replace hr := hr.ag hB
   have hr2 := hr
   obtain ⟨a4, d4, rfl, R0⟩ := bK hr2
   have c0 : wr.cell? ⟨b, off + k * 7, none⟩ = some (.int .i64 (xs[k]).id) := (hB.cell (p := ⟨b, off + k * 7, none⟩) hbl).trans (hc 0 (by decide))
   have c1 : wr.cell? ⟨b, off + k * 7 + 1, none⟩ = some (.bool (xs[k]).up) := (hB.cell (p := ⟨b, off + k * 7 + 1, none⟩) hbl).trans (hc 1 (by decide))
   have c2 : wr.cell? ⟨b, off + k * 7 + 2, none⟩ = some (.int .i64 (xs[k]).af) := (hB.cell (p := ⟨b, off + k * 7 + 2, none⟩) hbl).trans (hc 2 (by decide))
   have c3 : wr.cell? ⟨b, off + k * 7 + 3, none⟩ = some (.int .i64 (xs[k]).az) := (hB.cell (p := ⟨b, off + k * 7 + 3, none⟩) hbl).trans (hc 3 (by decide))
   have c4 : wr.cell? ⟨b, off + k * 7 + 4, none⟩ = some (.slice a4 (xs[k]).writes.length d4) := (hB.cell (p := ⟨b, off + k * 7 + 4, none⟩) hbl).trans (hc 4 (by decide))
   have c5 : wr.cell? ⟨b, off + k * 7 + 5, none⟩ = some (.int .i64 (xs[k]).sure) := (hB.cell (p := ⟨b, off + k * 7 + 5, none⟩) hbl).trans (hc 5 (by decide))
   have c6 : wr.cell? ⟨b, off + k * 7 + 6, none⟩ = some (.int .i64 (xs[k]).clean) := (hB.cell (p := ⟨b, off + k * 7 + 6, none⟩) hbl).trans (hc 6 (by decide))
   have hrl : rows.flatten.length = k * 7 := by have := (ab.dB hsub).1; rw [List.length_take, Nat.min_eq_left hk] at this; exact this
   have hvl := uh HN xs[k] (List.getElem_mem hlt)
   have HT : Hid (xs.take (k + 1) = xs.take k ++ [xs[k]]) := List.take_succ_eq_append_getElem hlt
   have HB := yh hB
   have HO := yh hown
   have HS := yh hsub
   have HQ := yh hQ
   have HWF := yh (rn hr)
   have HVL := yh hvl
   have HR0 := yh R0
   clear hB hr hc hown hsub hQ hr2 hvl R0
   generalize hxk : xs[k] = x at *
   clear hxk
   have hbr : b < wr.heap.size := Nat.lt_of_lt_of_le hbl (uh HB).size
   have nb : Below wr.heap.size wr (wr.alloc (.cells #[.int .i64 x.id, .bool x.up, .int .i64 x.af, .int .i64 x.az, .slice a4 x.writes.length d4, .int .i64 x.sure, .int .i64 x.clean] 79)) := (Below.refl _ _).alloc (Nat.le_refl _) _
   have HX : Hid (aj 0 #[.int .i64 x.id, .bool x.up, .int .i64 x.af, .int .i64 x.az, .slice a4 x.writes.length d4, .int .i64 x.sure, .int .i64 x.clean] 79 (wr.alloc (.cells #[.int .i64 x.id, .bool x.up, .int .i64 x.af, .int .i64 x.az, .slice a4 x.writes.length d4, .int .i64 x.sure, .int .i64 x.clean] 79)) wr.heap.size) := aH (Nat.zero_le _)
   have hz0 : (wr.alloc (.cells #[.int .i64 x.id, .bool x.up, .int .i64 x.af, .int .i64 x.az, .slice a4 x.writes.length d4, .int .i64 x.sure, .int .i64 x.clean] 79)).heap.size = wr.heap.size + 1 := by simp
   have HV := yh nb
   clear nb
   go_upto_region 5 with fail
   generalize wr.alloc (.cells #[.int .i64 x.id, .bool x.up, .int .i64 x.af, .int .i64 x.az, .slice a4 x.writes.length d4, .int .i64 x.sure, .int .i64 x.clean] 79) = W0 at *
   clear c0 c1 c2 c3 c4 c5 c6
   have hx := uh HX
   have y4 := aj.at hx 4 _ rfl
   have yf := aj.soft hx
   have yl := hx.lt
   simp only [ga, gb, gc] at y4
   have HC := yh (rb _ x.writes W0 ((uh HR0).ag (uh HV)) (uh HVL).1 (uh HVL).2)
   clear hx
   go_wp2_with fail
   refine (uh HC).mono ?_
   rintro e v1 ⟨gw, rfl, O, hb⟩
   have hz1 : W0.heap.size ≤ v1.heap.size := hb.size
   have hx := (uh HX).au hb
   clear y4 yf yl
   have y4 := aj.at hx 4 _ rfl
   have yf := aj.soft hx
   have yl := hx.lt
   simp only [ga, gb, gc] at y4
   have hv := (uh HV).trans (hb.mono (uh HV).size)
   replace HV := yh (hv.setCell (p := ⟨wr.heap.size, 4, none⟩) (Nat.le_refl _) (.slice (some ⟨gw, 0, none⟩) x.writes.length x.writes.length))
   have hx2 := aj.set hx 4 (.slice (some ⟨gw, 0, none⟩) x.writes.length x.writes.length)
   simp only [List.setIfInBounds_toArray, List.set_cons_zero, List.set_cons_succ] at hx2
   replace HX := yh hx2
   have e1 : Ext (fun q => q = wr.heap.size) v1 (v1.setCell ⟨wr.heap.size, 4, none⟩ (.slice (some ⟨gw, 0, none⟩) x.writes.length x.writes.length)) := (Ext.refl _ _).setCell _ _ rfl
   have P0 := yh (O.ext e1 (fun q h1 h2 h3 => by omega))
   have hz1' : (v1.setCell ⟨wr.heap.size, 4, none⟩ (.slice (some ⟨gw, 0, none⟩) x.writes.length x.writes.length)).heap.size = v1.heap.size := by simp
   clear hx hx2 e1 hv O hb HC
   go_upto_region 6 with fail
   generalize hW : v1.setCell ⟨wr.heap.size, 4, none⟩ (.slice (some ⟨gw, 0, none⟩) x.writes.length x.writes.length) = W1 at *
   clear hW y4 yf yl
   have hx := uh HX
   have y0 := aj.at hx 0 _ rfl
   have y1 := aj.at hx 1 _ rfl
   have y2 := aj.at hx 2 _ rfl
   have y3 := aj.at hx 3 _ rfl
   have y4 := aj.at hx 4 _ rfl
   have y5 := aj.at hx 5 _ rfl
   have y6 := aj.at hx 6 _ rfl
   simp only [ga, gb, gc] at y0 y1 y2 y3 y4 y5 y6
   have yl := hx.lt
   clear hx
   have hb3 : Below wr.heap.size wr W1 := uh HV
   have o2 := cJ (uh HO) hb3
   have O := ot (uh P0) (uh HWF)
   replace HS := yh (ab.da (ab.cf (uh HS) (aL hb3 cU) (fun _ _ _ h => h)) O (by omega) (by omega) (by omega))
   have hb2 := (uh HB).trans (hb3.mono (uh HB).size)
   have hxw : w.heap.size < wr.heap.size := by omega
   have hwz := hb3.size
   clear HB HO O HV hb3 P0
   have hQ := uh HQ
   have hl5 : (rows.flatten ++ Q).length = xs.length * 7 := o2.1
   obtain ⟨u0, g0⟩ : ∃ u, W1.cell? ⟨w.heap.size, k * 7, none⟩ = some u := by
    rw [o2.cellAt (k * 7) (by omega)]
    exact gZ (by omega)
   have t0 := o2.frozenAt (k * 7)
   obtain ⟨u1, g1⟩ : ∃ u, W1.cell? ⟨w.heap.size, k * 7 + 1, none⟩ = some u := by
    rw [o2.cellAt (k * 7 + 1) (by omega)]
    exact gZ (by omega)
   have t1 := o2.frozenAt (k * 7 + 1)
   obtain ⟨u2, g2⟩ : ∃ u, W1.cell? ⟨w.heap.size, k * 7 + 2, none⟩ = some u := by
    rw [o2.cellAt (k * 7 + 2) (by omega)]
    exact gZ (by omega)
   have t2 := o2.frozenAt (k * 7 + 2)
   obtain ⟨u3, g3⟩ : ∃ u, W1.cell? ⟨w.heap.size, k * 7 + 3, none⟩ = some u := by
    rw [o2.cellAt (k * 7 + 3) (by omega)]
    exact gZ (by omega)
   have t3 := o2.frozenAt (k * 7 + 3)
   obtain ⟨u4, g4⟩ : ∃ u, W1.cell? ⟨w.heap.size, k * 7 + 4, none⟩ = some u := by
    rw [o2.cellAt (k * 7 + 4) (by omega)]
    exact gZ (by omega)
   have t4 := o2.frozenAt (k * 7 + 4)
   obtain ⟨u5, g5⟩ : ∃ u, W1.cell? ⟨w.heap.size, k * 7 + 5, none⟩ = some u := by
    rw [o2.cellAt (k * 7 + 5) (by omega)]
    exact gZ (by omega)
   have t5 := o2.frozenAt (k * 7 + 5)
   obtain ⟨u6, g6⟩ : ∃ u, W1.cell? ⟨w.heap.size, k * 7 + 6, none⟩ = some u := by
    rw [o2.cellAt (k * 7 + 6) (by omega)]
    exact gZ (by omega)
   have t6 := o2.frozenAt (k * 7 + 6)
   have o3 := cN o2 (k * 7) [.int .i64 x.id, .bool x.up, .int .i64 x.af, .int .i64 x.az, .slice (some ⟨gw, 0, none⟩) x.writes.length x.writes.length, .int .i64 x.sure, .int .i64 x.clean]
   rw [show k * 7 = rows.flatten.length from hrl.symm, cF _ _ _ (by rw [hQ]; simp; have : 1 * 7 ≤ (xs.length - k) * 7 := Nat.mul_le_mul_right _ (by omega); omega), hrl] at o3
   have E : Ext (fun q => q = w.heap.size) W1 (aO W1 w.heap.size (k * 7) [.int .i64 x.id, .bool x.up, .int .i64 x.af, .int .i64 x.az, .slice (some ⟨gw, 0, none⟩) x.writes.length x.writes.length, .int .i64 x.sure, .int .i64 x.clean]) := bD _ (Ext.refl _ _) _ _ _ rfl
   replace HS := yh (ab.cf (uh HS) E (fun q h1 h2 h3 => by omega))
   have HB := yh (aP hb2 w.heap.size (k * 7) [.int .i64 x.id, .bool x.up, .int .i64 x.af, .int .i64 x.az, .slice (some ⟨gw, 0, none⟩) x.writes.length x.writes.length, .int .i64 x.sure, .int .i64 x.clean] (Nat.le_refl _))
   have HZ : Hid ((aO W1 w.heap.size (k * 7) [.int .i64 x.id, .bool x.up, .int .i64 x.af, .int .i64 x.az, .slice (some ⟨gw, 0, none⟩) x.writes.length x.writes.length, .int .i64 x.sure, .int .i64 x.clean]).heap.size = v1.heap.size) := (bF _ _ _ _).trans hz1'
   have HO : Hid ((aO W1 w.heap.size (k * 7) [.int .i64 x.id, .bool x.up, .int .i64 x.af, .int .i64 x.az, .slice (some ⟨gw, 0, none⟩) x.writes.length x.writes.length, .int .i64 x.sure, .int .i64 x.clean]).ownsRow w.heap.size 79 7 (.slice (some ⟨w.heap.size, 0, none⟩) xs.length xs.length) xs.length ((rows ++ [([.int .i64 x.id, .bool x.up, .int .i64 x.af, .int .i64 x.az, .slice (some ⟨gw, 0, none⟩) x.writes.length x.writes.length, .int .i64 x.sure, .int .i64 x.clean] : List Value)]).flatten ++ Q.drop 7)) := by
    show (aO W1 w.heap.size (k * 7) [.int .i64 x.id, .bool x.up, .int .i64 x.af, .int .i64 x.az, .slice (some ⟨gw, 0, none⟩) x.writes.length x.writes.length, .int .i64 x.sure, .int .i64 x.clean]).ownsRow w.heap.size 79 7 (.slice (some ⟨w.heap.size, 0, none⟩) xs.length xs.length) xs.length ((rows ++ [([.int .i64 x.id, .bool x.up, .int .i64 x.af, .int .i64 x.az, .slice (some ⟨gw, 0, none⟩) x.writes.length x.writes.length, .int .i64 x.sure, .int .i64 x.clean] : List Value)]).flatten ++ Q.drop 7)
    rw [List.flatten_append]
    simpa using o3
   have hl2 := (o2.lt w.heap.size rfl).2
   clear o3 o2 E hb2 hl5
   have hQ2 : Hid ((Q.drop 7).length = (xs.length - (k + 1)) * 7) := by
    show (Q.drop 7).length = (xs.length - (k + 1)) * 7
    rw [List.length_drop, hQ, show xs.length - k = xs.length - (k + 1) + 1 by omega, Nat.add_mul]
    omega
   have HW2 : Hid (w.heap.size < v1.heap.size) := by show w.heap.size < v1.heap.size; omega
   clear hQ HQ hz0 HX hz1 hz1'
   go_wp2_with fail
   go_roundw
   case rel => exact ⟨k + 1, rows ++ [([.int .i64 x.id, .bool x.up, .int .i64 x.af, .int .i64 x.az, .slice (some ⟨gw, 0, none⟩) x.writes.length x.writes.length, .int .i64 x.sure, .int .i64 x.clean] : List Value)], Q.drop 7, v1.heap.size, by omega, by go_num, uh HO, uh hQ2, (by rw [uh HT]; exact uh HS), Nat.le_of_eq (uh HZ).symm, uh HW2, uh HB⟩
   case measure => simp [intOf]; omega
  obtain rfl : k = xs.length := by omega
  have e0 : Q = [] := List.eq_nil_of_length_eq_zero (by rw [hQ]; simp)
  subst e0
  rw [List.append_nil] at hown
  rw [List.take_length] at hsub
  have HO := yh (ab.dc (A := ab.ax) hown hsub (by omega) hhi hbig)
  have HB := yh hB
  clear hown hsub hB
  go_wp2_with fail
  go_ret
  exact ⟨_, rfl, uh HO, uh HB⟩
theorem sj {w : World} {row : List Value} {x : dR} {bl : List Nat} (h : ab.bb.bp w row x bl) : bl = [] := by
 obtain ⟨rfl, -⟩ := (cB.1 h).2
 rfl
theorem oI {w : World} {base T : Nat} {v : Value} {rows : List (List Value)} {xs : List dR} {bls : List (List Nat)} (h : bN ab.bb w base T v rows xs bls) : bls.flatten = [] := by
 rw [List.flatten_eq_nil_iff]
 intro l hl
 obtain ⟨j, hj, rfl⟩ := List.getElem_of_mem hl
 have n1 := h.fh
 have n2 := h.dT
 exact sj (h.bp j (by omega) (by omega) hj)
theorem mT (d : Nat) (w : World) : Calls Tryz.prog 110 #[.slice none 0 d] w fun e w' => e = .returned (.slice none 0 0) ∧ Below w.heap.size w w' := by
 have hnil : ∀ w : World, (binOp .eql 31 (.slice none 0 d) (.slice none 0 0)).run Tryz.prog w = .ok (.bool true) w := fun _ => by kernel_rfl
 go_enter Tryz.func110, Tryz.ntmps110
 go_wp2_with fail
 go_ret
 exact ⟨rfl, Below.refl _ _⟩
theorem rZ (v : Value) (zs : List dR) (w : World) (h : (ab.sl ab.bb).Reads w [v] zs) (hn : zs.length ≤ 10000000) :
  Calls Tryz.prog 110 #[v] w fun e w' => ∃ a c, e = .returned (.slice a zs.length c) ∧ (ab.sl ab.bb).aQ w' [.slice a zs.length c] zs w.heap.size w'.heap.size ∧ Below w.heap.size w w' := by
 obtain ⟨ao, cap, rfl⟩ := aE h
 cases ao with
 | none =>
  have h0 : zs = [] := by
   by_cases hp : 0 < zs.length
   ·
    obtain ⟨b, off, e, -⟩ := ab.aI h hp
    cases e
   exact List.eq_nil_of_length_eq_zero (by omega)
  subst h0
  refine (mT cap w).mono ?_
  rintro e w' ⟨rfl, hb⟩
  exact ⟨none, 0, rfl, fD, hb⟩
 | some ad =>
  have nb : Below w.heap.size w (w.alloc (.cells #[] 150)) := (Below.refl _ _).alloc (Nat.le_refl _) _
  have O : (w.alloc (.cells #[] 150)).ownsRow w.heap.size 150 2 (.slice (some ⟨w.heap.size, 0, none⟩) 0 0) 0 [] := World.ownsRow_lit w _ 0 (Nat.le_refl _) (by unfold maxLen; omega) rfl
  have G : bN ab.bb (w.alloc (.cells #[] 150)) w.heap.size 150 (.slice (some ⟨w.heap.size, 0, none⟩) 0 0) [] [] [] := bN.nil O
  have h1 := h.cX.ag nb
  have HB := yh nb
  have HN := yh hn
  have hnil : ∀ w : World, (binOp .eql 31 (.slice (some ad) zs.length cap) (.slice none 0 0)).run Tryz.prog w = .ok (.bool false) w := fun _ => by kernel_rfl
  clear nb h O
  go_enter Tryz.func110, Tryz.ntmps110
  go_wp2_with (at_builtin; refine dY G h1 rfl _ _ rfl rfl rfl ?hn1 ?hn2 ?_)
  case hn1 => have := uh HN; simp; omega
  case hn2 => simp
  rintro a' m' cap' w' rows' bls' G2 hb hm -
  obtain rfl : m' = zs.length := by simpa using hm
  have hfl := oI G2
  have HO : Hid ((ab.sl ab.bb).aQ w' [.slice a' zs.length cap'] zs w.heap.size w'.heap.size) := G2.sJ (by have := uh HN; omega) (by rw [hfl]; simp) (by rw [hfl]; simp)
  have HB2 := yh ((uh HB).trans (hb.mono (Nat.le_refl _)))
  clear G h1 hb HB G2 hfl hm
  go_wp2_with fail
  go_ret
  exact ⟨a', cap', rfl, uh HO, uh HB2⟩
end Go.Proofs.YtecagllmonckgaaGreat
