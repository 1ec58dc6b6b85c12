/-
  Texts of this proof in one: SpecWCopy, NodeEqs, RowIn, SpecNodeF, SpecNCopy, SpecNCopyG, SpecWC.
  Their conditions stand in their theorems.
-/
import Derived.Test.YtecagllmonckgaaGreatChecked
import Derived.Test.YtecagllmonckgaaGreatFi06
import Derived.Test.YtecagllmonckgaaGreatFi05
import Derived.Deep.CutRange
import Derived.Test.YtecagllmonckgaaGreatFi00
import Derived.Test.YtecagllmonckgaaGreatFi01
import Derived.Deep.RegionHeld3
set_option maxRecDepth 100000
set_option maxHeartbeats 4000000
namespace Go.Proofs.YtecagllmonckgaaGreat
open Go.RowKit
theorem od (b off cap : Nat) (ws : List aA) (w : World) (h : (ab.sl ab.ai).Reads w [.slice (some ⟨b, off, none⟩) ws.length cap] ws) (hbl : b < w.heap.size) (hn : ws.length ≤ 10000000) (hv : ∀ x ∈ ws, x.vec.length ≤ 100000000) :
  Calls Tryz.prog 220 #[.slice (some ⟨b, off, none⟩) ws.length cap] w fun e w' => ∃ v', e = .returned v' ∧ (∃ rows bls, bN ab.ai w' w.heap.size 142 v' rows ws bls ∧ ∀ c ∈ bls.flatten, w.heap.size ≤ c) ∧ Below w.heap.size w w' := by
 have H := yh h
 have HV := yh hv
 clear h hv
 have HG0 : Hid (bN ab.ai (w.alloc (.cells #[] 142)) w.heap.size 142 (.slice (some ⟨w.heap.size, 0, none⟩) 0 0) [] [] []) := bN.nil (World.ownsRow_lit w #[] 0 (Nat.le_refl _) (Nat.zero_le _) rfl)
 have HB0 := yh ((Below.refl w.heap.size w).alloc (Nat.le_refl _) (.cells #[] 142))
 go_enter Tryz.func220, Tryz.ntmps220
 go_wp2_with fail
 go_loopw [3, 4] (fun v i wr => ∃ (k : Nat) (rows : List (List Value)) (bls : List (List Nat)), k ≤ ws.length ∧ i = .int .i64 k ∧ bN ab.ai wr w.heap.size 142 v rows (ws.take k) bls ∧ (∀ c ∈ bls.flatten, w.heap.size ≤ c) ∧ Below w.heap.size w wr) (fun _ i _ => ws.length - (intOf i).toNat)
 case atStart => exact ⟨0, [], [], Nat.zero_le _, rfl, uh HG0, by simp, uh HB0⟩
 case round =>
  obtain ⟨k, rows, bls, hk, rfl, hG, hSB, hB⟩ := hrel
  have HSB := yh hSB
  clear HG0 HB0 hSB
  by_cases hlt : k < ws.length
  ·
   obtain ⟨row, hc, hr⟩ := ab.bm ((uh H).ag hB) hlt
   have hr2 := hr
   obtain ⟨a2, d2, rfl, R2⟩ := bk hr
   have c0 : wr.cell? ⟨b, off + k * 5, none⟩ = some (.int .i64 (ws[k]).kind) := hc 0 (by decide)
   have c1 : wr.cell? ⟨b, off + k * 5 + 1, none⟩ = some (.int .i64 (ws[k]).id) := hc 1 (by decide)
   have c2 : wr.cell? ⟨b, off + k * 5 + 2, none⟩ = some (.slice a2 (ws[k]).vec.length d2) := hc 2 (by decide)
   have c3 : wr.cell? ⟨b, off + k * 5 + 3, none⟩ = some (.int .i64 (ws[k]).aa) := hc 3 (by decide)
   have c4 : wr.cell? ⟨b, off + k * 5 + 4, none⟩ = some (.int .i64 (ws[k]).seq) := hc 4 (by decide)
   have HWF : Hid ((Lit.int .i64 (ws[k]).kind).wf = true ∧ (Lit.int .i64 (ws[k]).id).wf = true ∧ (Lit.int .i64 (ws[k]).aa).wf = true ∧ (Lit.int .i64 (ws[k]).seq).wf = true) := by
    obtain ⟨_, hq⟩ := hr2
    obtain ⟨_, _, _, _, _, q0, q1, _, q3, q4⟩ := cg.1 hq
    exact ⟨q0, q1, q3, q4⟩
   have HT : Hid (ws.take (k + 1) = ws.take k ++ [ws[k]]) := List.take_succ_eq_append_getElem hlt
   have HLn : Hid ((ws.take k).length = k) := by show (ws.take k).length = k; rw [List.length_take]; omega
   have HN := yh (uh HV ws[k] (List.getElem_mem hlt))
   clear hc hr hr2
   generalize hx : ws[k] = x at *
   clear hx
   have hbr : b < wr.heap.size := Nat.lt_of_lt_of_le hbl hB.size
   have nb : Below wr.heap.size wr (wr.alloc (.cells #[.int .i64 x.kind, .int .i64 x.id, .slice a2 x.vec.length d2, .int .i64 x.aa, .int .i64 x.seq] 142)) := (Below.refl _ _).alloc (Nat.le_refl _) _
   have bI : aj 0 #[.int .i64 x.kind, .int .i64 x.id, .slice a2 x.vec.length d2, .int .i64 x.aa, .int .i64 x.seq] 142 (wr.alloc (.cells #[.int .i64 x.kind, .int .i64 x.id, .slice a2 x.vec.length d2, .int .i64 x.aa, .int .i64 x.seq] 142)) wr.heap.size := aH (Nat.zero_le _)
   have HRW := yh (ab.bn R2).wf
   have HL := yh (jr _ x.vec _ ((ab.bn R2).ag nb) (uh HN))
   have HG := yh (hG.ag nb)
   have HB := yh (hB.trans (nb.mono hB.size))
   have HBI := yh bI
   have HZW : Hid (w.heap.size ≤ wr.heap.size) := hB.size
   have HOW : Hid (∀ c, u3.ownBlock = some c → c < wr.heap.size) := fun c hc => (hG.own.lt c hc).2
   have HSL : Hid (∀ c ∈ bls.flatten, c < wr.heap.size) := fun c hc => hG.sub_lt c hc
   clear R2 hG hB nb bI
   go_wp2_with fail
   clear c0 c1 c2 c3 c4
   refine (uh HL).mono ?_
   generalize hW0 : wr.alloc (.cells #[.int .i64 x.kind, .int .i64 x.id, .slice a2 x.vec.length d2, .int .i64 x.aa, .int .i64 x.seq] 142) = W0 at *
   clear hW0
   rintro e w2 ⟨v2, rfl, hO, hb⟩
   have hO2 := ab.ez (uh HRW) (by have := uh HN; omega) hO
   obtain ⟨ao2, cp2, rfl⟩ := aE hO2.reads
   obtain ⟨bl2, ⟨hl2, -, -⟩, hr2⟩ := hO2
   have bI2 := (uh HBI).au hb
   have hZ0 : wr.heap.size < W0.heap.size := (uh HBI).lt
   have z0 : w2.cell? ⟨wr.heap.size, 0, none⟩ = some (.int .i64 x.kind) := bI2.at 0 _ rfl
   have z1 : w2.cell? ⟨wr.heap.size, 1, none⟩ = some (.int .i64 x.id) := bI2.at 1 _ rfl
   have z2 : w2.cell? ⟨wr.heap.size, 2, none⟩ = some (.slice a2 x.vec.length d2) := bI2.at 2 _ rfl
   have z3 : w2.cell? ⟨wr.heap.size, 3, none⟩ = some (.int .i64 x.aa) := bI2.at 3 _ rfl
   have z4 : w2.cell? ⟨wr.heap.size, 4, none⟩ = some (.int .i64 x.seq) := bI2.at 4 _ rfl
   have f2 := bI2.soft 2
   have l2 := bI2.lt
   have hE : Ext (fun c => c = wr.heap.size) w2 (w2.setCell ⟨wr.heap.size, 2, none⟩ (.slice ao2 x.vec.length cp2)) := (Ext.refl (fun c => c = wr.heap.size) w2).setCell ⟨wr.heap.size, 2, none⟩ _ rfl
   have hl3 : ab.ai.bp (w2.setCell ⟨wr.heap.size, 2, none⟩ (.slice ao2 x.vec.length cp2)) [.int .i64 x.kind, .int .i64 x.id, .slice ao2 x.vec.length cp2, .int .i64 x.aa, .int .i64 x.seq] x bl2 := cg.2 ⟨ao2, cp2, bl2, rfl, rfl, (uh HWF).1, (uh HWF).2.1, (ab.sl ab.int).au hl2 (fun c hc => hE.block c ((ab.sl ab.int).lt hl2 c hc) (by have := (hr2 c hc).1; omega)), (uh HWF).2.2.1, (uh HWF).2.2.2⟩
   have hG2 := (uh HG).ag hb
   have hoff : ∀ c ∈ bl2, u3.ownBlock ≠ some c := fun c hc e => by have h1 := (hr2 c hc).1; have h2 := uh HOW c e; omega
   have HB3 : Hid (Below w.heap.size w (w2.setCell ⟨wr.heap.size, 2, none⟩ (.slice ao2 x.vec.length cp2))) := ((uh HB).trans (hb.mono (uh HB).size)).setCell (by simpa using uh HZW) _
   have hG3 : bN ab.ai (w2.setCell ⟨wr.heap.size, 2, none⟩ (.slice ao2 x.vec.length cp2)) w.heap.size 142 u3 rows (ws.take k) bls := hG2.kept (by
    obtain ⟨h1, h2⟩ := hG2.own
    refine ⟨h1, ?_⟩
    rcases h2 with h2 | ⟨gb, cap', cur, hv, hg, hh, r⟩
    ·
     exact Or.inl h2
    ·
     exact Or.inr ⟨gb, cap', cur, hv, hg, (hE.block gb (lt_of_block hh) (by have := uh HOW gb (by rw [hv]; rfl); omega)).trans hh, r⟩) (fun c hc => hE.block c (hG2.sub_lt c hc) (fun e => by
    have := uh HSL c hc
    omega))
   have hZ3 : w.heap.size ≤ (w2.setCell ⟨wr.heap.size, 2, none⟩ (.slice ao2 x.vec.length cp2)).heap.size := (uh HB3).size
   have hK : (ws.take k).length + 1 ≤ 100000000 := by rw [uh HLn]; omega
   have y0 : (w2.setCell ⟨wr.heap.size, 2, none⟩ (.slice ao2 x.vec.length cp2)).cell? ⟨wr.heap.size, 0, none⟩ = some (.int .i64 x.kind) := (bI2.set 2 _).at 0 _ rfl
   have y1 : (w2.setCell ⟨wr.heap.size, 2, none⟩ (.slice ao2 x.vec.length cp2)).cell? ⟨wr.heap.size, 1, none⟩ = some (.int .i64 x.id) := (bI2.set 2 _).at 1 _ rfl
   have y2 : (w2.setCell ⟨wr.heap.size, 2, none⟩ (.slice ao2 x.vec.length cp2)).cell? ⟨wr.heap.size, 2, none⟩ = some (.slice ao2 x.vec.length cp2) := (bI2.set 2 _).at 2 _ rfl
   have y3 : (w2.setCell ⟨wr.heap.size, 2, none⟩ (.slice ao2 x.vec.length cp2)).cell? ⟨wr.heap.size, 3, none⟩ = some (.int .i64 x.aa) := (bI2.set 2 _).at 3 _ rfl
   have y4 : (w2.setCell ⟨wr.heap.size, 2, none⟩ (.slice ao2 x.vec.length cp2)).cell? ⟨wr.heap.size, 4, none⟩ = some (.int .i64 x.seq) := (bI2.set 2 _).at 4 _ rfl
   have HSB5 : Hid (∀ c ∈ (bls ++ [bl2]).flatten, w.heap.size ≤ c) := by
    intro c hc
    rw [List.flatten_append] at hc
    rcases List.mem_append.1 hc with hc | hc
    ·
     exact uh HSB c hc
    have h1 := (hr2 c (by simpa using hc)).1
    have h2 := uh HZW
    omega
   clear z0 z1 z3 z4 bI2 hE hG2 hl2 hO HG HL HB HBI HRW HN HWF hb hr2 hZ0
   go_upto_region 7 with fail
   generalize w2.setCell ⟨wr.heap.size, 2, none⟩ (.slice ao2 x.vec.length cp2) = W3 at *
   go_wp2_with (at_builtin; refine fH hG3 hl3 hoff rfl _ _ rfl rfl rfl hK hZ3 ?_)
   intro g5 cap5 w5 hG5 hb5 hE5 hg5 hz5 hor5
   have HG5 := yh hG5
   have HB5 := yh ((uh HB3).trans hb5)
   clear hG3 hl3 hoff hZ3 hK hG5 hb5 hE5 hg5 hz5 hor5 HB3 y0 y1 y2 y3 y4 z2 f2 l2
   go_wp2_with fail
   go_roundw
   case rel =>
    have hg := uh HG5
    rw [← uh HT] at hg
    try rw [uh HLn] at hg
    exact ⟨k + 1, _, _, by omega, by go_num, hg, uh HSB5, uh HB5⟩
   case measure => simp [intOf]; omega
  obtain rfl : k = ws.length := by omega
  rw [List.take_length] at hG
  have HG := yh hG
  have HB := yh hB
  clear hG hB H
  go_wp2_with fail
  go_ret
  exact ⟨_, rfl, ⟨_, _, uh HG, uh HSB⟩, uh HB⟩
theorem rX (v : Value) (ws : List aA) (w : World) (h : (ab.sl ab.ai).Reads w [v] ws) (hn : ws.length ≤ 10000000) (hv : ∀ x ∈ ws, x.vec.length ≤ 100000000) :
  Calls Tryz.prog 220 #[v] w fun e w' => ∃ v', e = .returned v' ∧ (∃ rows bls, bN ab.ai w' w.heap.size 142 v' rows ws bls ∧ ∀ c ∈ bls.flatten, w.heap.size ≤ c) ∧ Below w.heap.size w w' := by
 obtain ⟨ao, cap, rfl⟩ := aE h
 by_cases hp : 0 < ws.length
 ·
  obtain ⟨b, off, rfl, hbl⟩ := ab.aI h hp
  exact od b off cap ws w h hbl hn hv
 obtain rfl : ws = [] := List.eq_nil_of_length_eq_zero (by omega)
 clear h hp hn hv
 have HB := yh ((Below.refl w.heap.size w).alloc (Nat.le_refl _) (.cells #[] 142))
 have HG : Hid (bN ab.ai (w.alloc (.cells #[] 142)) w.heap.size 142 (.slice (some ⟨w.heap.size, 0, none⟩) 0 0) [] [] []) := bN.nil (World.ownsRow_lit w #[] 0 (Nat.le_refl _) (Nat.zero_le _) rfl)
 go_enter Tryz.func220, Tryz.ntmps220
 go_wp2_with fail
 refine wp_loop_rounds 1 ?_
 rw [rounds_succ]
 go_wp2_with fail
 go_ret
 exact ⟨_, rfl, ⟨_, _, uh HG, by simp⟩, uh HB⟩
def cm (ws : List aA) : Int := if 40 < ws.length then 2 else if cc ws ≠ 0 then cc ws else if cP [] ws = false then 6 else 0
def dk (x : bz) : Bool := (x.sure == (x.writes.length : Int)) && (x.clean == 0 && x.az == 0)
theorem rR {x : bz} (h : (decide (1 ≤ x.id) && decide (x.id ≤ 5)) = false) : aS x = 3 := by
 simp only [Bool.and_eq_false_iff, decide_eq_false_iff_not] at h
 rw [aS, if_neg (by omega)]
theorem ly {x : bz} (h : (decide (0 ≤ x.af) && decide (x.af ≤ 999)) = false) : aS x = 3 := by
 simp only [Bool.and_eq_false_iff, decide_eq_false_iff_not] at h
 rw [aS, if_neg (by omega)]
theorem lz {x : bz} (h : (decide (0 ≤ x.az) && decide (x.az ≤ 9999)) = false) : aS x = 3 := by
 simp only [Bool.and_eq_false_iff, decide_eq_false_iff_not] at h
 rw [aS, if_neg (by omega)]
theorem nE {x : bz} (h1 : (decide (1 ≤ x.id) && decide (x.id ≤ 5)) = true) (h2 : (decide (0 ≤ x.af) && decide (x.af ≤ 999)) = true) (h3 : (decide (0 ≤ x.az) && decide (x.az ≤ 9999)) = true) :
  aS x = if cm x.writes ≠ 0 then cm x.writes else if (decide (0 ≤ x.sure) && decide (x.sure ≤ (x.writes.length : Int))) = true ∧ (decide (0 ≤ x.clean) && decide (x.clean ≤ x.sure)) = true then (if x.up = false ∧ dk x = false then 1 else 0) else 3 := by
 simp only [Bool.and_eq_true, decide_eq_true_eq] at *
 rw [aS, if_pos (by omega), cm]
 by_cases q1 : 40 < x.writes.length
 ·
  simp only [if_pos q1]; rfl
 simp only [if_neg q1]
 by_cases q2 : cc x.writes ≠ 0
 ·
  simp only [if_pos q2]
 simp only [if_neg q2]
 by_cases q3 : cP [] x.writes = false
 ·
  simp only [if_pos q3]; rfl
 simp only [if_neg q3]
 rw [if_neg (by simp : ¬ ((0 : Int) ≠ 0))]
 have e1 : (0 ≤ x.sure ∧ x.sure ≤ (x.writes.length : Int) ∧ 0 ≤ x.clean ∧ x.clean ≤ x.sure) ↔ ((0 ≤ x.sure ∧ x.sure ≤ (x.writes.length : Int)) ∧ 0 ≤ x.clean ∧ x.clean ≤ x.sure) := by constructor <;> (intro h; omega)
 have e2 : ¬ (x.sure = (x.writes.length : Int) ∧ x.clean = 0 ∧ x.az = 0) ↔ dk x = false := by
  unfold dk
  rw [← Bool.not_eq_true]
  simp
 simp only [e1, e2]
structure dU (cs : Array Value) (w : World) (b o : Nat) : Prop where
 lt : b < w.heap.size
 cells : ∀ (i : Nat) (v : Value), cs[i]? = some v → w.cell? ⟨b, o + i, none⟩ = some v
variable {cs : Array Value} {w w' : World} {b o : Nat}
theorem dU.at (h : dU cs w b o) (i : Nat) (v : Value) (hi : cs[i]? = some v) : w.cell? ⟨b, o + i, none⟩ = some v := h.cells i v hi
theorem dU.au (h : dU cs w b o) (hb : Below w.heap.size w w') : dU cs w' b o := ⟨Nat.lt_of_lt_of_le h.lt hb.size, fun i v hi => (hb.cell (p := ⟨b, o + i, none⟩) h.lt).trans (h.cells i v hi)⟩
theorem dU.drew (h : dU cs w b o) : dU cs w.drew b o := ⟨h.lt, h.cells⟩
theorem dU.ofRow {α : Type} {A : ab α} {off k : Nat} {row : List Value} (hc : ∀ m, m < A.n → w.cell? ⟨b, off + k * A.n + m, none⟩ = row[m]?) (hl : row.length = A.n) (hb : b < w.heap.size) : dU row.toArray w b (off + k * A.n) := ⟨hb, fun i v hi => by
 have h1 : row[i]? = some v := by simpa using hi
 have h2 : i < A.n := by
  rw [← hl]
  rcases Nat.lt_or_ge i row.length with q | q
  ·
   exact q
  rw [List.getElem?_eq_none q] at h1; simp at h1
 rw [hc i h2, h1]⟩
theorem sS (x : Int) (w : World) : Calls Tryz.prog 208 #[.int .i64 x] w fun e w' => e = .returned (.bool (decide (1 ≤ x) && decide (x ≤ 5))) ∧ w' = w := by
 go_enter Tryz.func208, Tryz.ntmps208
 go_wp2_with fail
 refine (eE x 1 5 _).mono ?_
 rintro e w1 ⟨rfl, rfl⟩
 go_wp2_with fail
 go_ret
 exact ⟨rfl, rfl⟩
theorem pX (b o : Nat) (a4 : Option Addr) (d4 : Nat) (x : bz) (w : World) (hX : dU #[.int .i64 x.id, .bool x.up, .int .i64 x.af, .int .i64 x.az, .slice a4 x.writes.length d4, .int .i64 x.sure, .int .i64 x.clean] w b o) (R4 : (ab.sl ab.ai).Reads w [.slice a4 x.writes.length d4] x.writes) :
  Calls Tryz.prog 209 #[.pointer (some ⟨b, o, none⟩)] w fun e w' => e = .returned (.int .i64 (aS x)) ∧ Below w.heap.size w w' := by
 have hbig := R4.dK
 have x0 := hX.at 0 _ rfl
 have x2 := hX.at 2 _ rfl
 have x3 := hX.at 3 _ rfl
 have x4 := hX.at 4 _ rfl
 simp only [List.getElem_toArray, List.getElem_cons_zero, List.getElem_cons_succ, Nat.add_zero] at x0 x2 x3 x4
 have xl := hX.lt
 have HX := yh hX
 have H4 := yh R4
 clear hX R4
 go_enter Tryz.func209, Tryz.ntmps209
 go_wp2_with fail
 refine (sS x.id w).mono ?_
 rintro e w1 ⟨rfl, h1⟩
 subst w1
 cases d1 : (decide (1 ≤ x.id) && decide (x.id ≤ 5))
 ·
  have HF := yh (rR d1)
  clear d1
  go_wp2_with fail
  go_ret
  exact ⟨by rw [uh HF]; rfl, Below.refl _ _⟩
 go_wp2_with fail
 refine (eE x.af 0 999 w).mono ?_
 rintro e w1 ⟨rfl, h1⟩
 subst w1
 cases d2 : (decide (0 ≤ x.af) && decide (x.af ≤ 999))
 ·
  have HF := yh (ly d2)
  clear d1 d2
  go_wp2_with fail
  go_ret
  exact ⟨by rw [uh HF]; rfl, Below.refl _ _⟩
 go_wp2_with fail
 refine (eE x.az 0 9999 w).mono ?_
 rintro e w1 ⟨rfl, h1⟩
 subst w1
 cases d3 : (decide (0 ≤ x.az) && decide (x.az ≤ 9999))
 ·
  have HF := yh (lz d3)
  clear d1 d2 d3
  go_wp2_with fail
  go_ret
  exact ⟨by rw [uh HF]; rfl, Below.refl _ _⟩
 have HF := yh (nE d1 d2 d3)
 clear d1 d2 d3
 by_cases hn : 40 < x.writes.length
 ·
  have ht : cm x.writes = 2 := by rw [cm, if_pos hn]
  have HF1 := yh ((uh HF).trans (if_pos (by rw [ht]; decide)))
  rw [ht] at HF1
  have hd : decide ((40 : Int) < (x.writes.length : Int)) = true := by simp; omega
  clear HF ht
  go_wp2_with fail
  go_ret
  exact ⟨by rw [uh HF1]; rfl, Below.refl _ _⟩
 have hn2 : x.writes.length ≤ 40 := by omega
 have HW := yh (m4 _ x.writes w (uh H4))
 have hwf : aY x.writes = cc x.writes := by rw [aY, if_neg (by omega)]
 rw [hwf] at HW
 clear hwf
 go_wp2_with fail
 refine (uh HW).mono ?_
 rintro e w1 ⟨rfl, hb1⟩
 subst w1
 by_cases hs : cc x.writes = 0
 ·
  rw [hs]
  have HO := yh (rK _ x.writes w (uh H4) (by omega))
  have HT : Hid (cm x.writes = if cP [] x.writes = false then 6 else 0) := by show cm x.writes = _; rw [cm, if_neg hn, if_neg (by simpa using hs)]
  clear HW hs hn
  cases ho : cP [] x.writes
  ·
   rw [ho] at HO HT
   have HT6 : Hid (cm x.writes = 6) := uh HT
   have HF1 := yh ((uh HF).trans (if_pos (by rw [uh HT6]; decide)))
   rw [uh HT6] at HF1
   clear ho HT HF HT6
   go_wp2_with fail
   refine (uh HO).mono ?_
   rintro e w2 ⟨rfl, hb⟩
   have HB := yh hb
   clear hb HO
   go_wp2_with fail
   go_ret
   exact ⟨by rw [uh HF1]; rfl, uh HB⟩
  rw [ho] at HO HT
  have HT0 : Hid (cm x.writes = 0) := uh HT
  have HF1 := yh ((uh HF).trans (if_neg (by rw [uh HT0]; decide)))
  clear ho HT HF HT0
  go_wp2_with fail
  refine (uh HO).mono ?_
  rintro e w2 ⟨rfl, hb⟩
  have HB := yh hb
  have hX2 := (uh HX).au hb
  have hl2 := hX2.lt
  clear hb HO x0 x2 x3 x4 xl HX H4
  go_wp2_with fail
  cases q4 : (decide (0 ≤ x.sure) && decide (x.sure ≤ (x.writes.length : Int)))
  ·
   have HF2 := yh ((uh HF1).trans (if_neg (by rw [q4]; simp)))
   clear HF1
   refine wZz (fun w' => w' = w2.drew) rfl (fun zq => ?_)
   refine tkH 0 zq ?_
   refine tkH 1 zq ?_
   refine tkH 2 zq ?_
   refine tkJ 3 (v := ?va3) ?ha3 zq ?ra3
   case ha3 =>
    intro wS hSw
    have y5 : wS.cell? ⟨b, o + 5, none⟩ = some (.int .i64 x.sure) := by rw [hSw]; exact hX2.at 5 _ rfl
    clear hSw
    exact fZ
   refine tkH 4 zq ?_
   refine tkH 5 zq ?_
   refine tkH 6 zq ?_
   refine tkJ 7 (v := ?va7) ?ha7 zq ?ra7
   case ha7 =>
    intro wS hSw
    have y4 : wS.cell? ⟨b, o + 4, none⟩ = some (.slice a4 x.writes.length d4) := by rw [hSw]; exact hX2.at 4 _ rfl
    clear hSw
    exact fZ
   refine tkH 8 zq ?_
   refine rdH 9 (fun K hK => ?_)
   go_simp
   go_at_call 102
   refine (eE x.sure 0 (x.writes.length : Int) _).mono ?_
   rintro e w3 ⟨rfl, rfl⟩
   rw [q4]
   try go_wp2_with fail
   refine hK.out _ _ rfl (fun zq => ?_)
   clear hK K
   try simp only [Act.put, pz, py, px]
   refine tkH 10 zq ?_
   refine tkH 11 zq ?_
   refine skH 12 zq ?_
   refine skH 13 zq ?_
   refine skH 14 zq ?_
   refine skH 15 zq ?_
   refine skH 16 zq ?_
   refine skH 17 zq ?_
   refine skH 18 zq ?_
   refine skH 19 zq ?_
   refine skH 20 zq ?_
   refine skH 21 zq ?_
   refine tkH 22 zq ?_
   refine dZ ?_
   clear zq
   go_wp2_with fail
   go_ret
   exact ⟨by rw [uh HF2]; rfl, (uh HB).drew⟩
  cases q5 : (decide (0 ≤ x.clean) && decide (x.clean ≤ x.sure))
  ·
   have HF2 := yh ((uh HF1).trans (if_neg (by rw [q5]; simp)))
   clear HF1
   refine wZz (fun w' => w' = w2.drew) rfl (fun zq => ?_)
   refine tkH 0 zq ?_
   refine tkH 1 zq ?_
   refine tkH 2 zq ?_
   refine tkJ 3 (v := ?vb3) ?hb3 zq ?rb3
   case hb3 =>
    intro wS hSw
    have y5 : wS.cell? ⟨b, o + 5, none⟩ = some (.int .i64 x.sure) := by rw [hSw]; exact hX2.at 5 _ rfl
    clear hSw
    exact fZ
   refine tkH 4 zq ?_
   refine tkH 5 zq ?_
   refine tkH 6 zq ?_
   refine tkJ 7 (v := ?vb7) ?hb7 zq ?rb7
   case hb7 =>
    intro wS hSw
    have y4 : wS.cell? ⟨b, o + 4, none⟩ = some (.slice a4 x.writes.length d4) := by rw [hSw]; exact hX2.at 4 _ rfl
    clear hSw
    exact fZ
   refine tkH 8 zq ?_
   refine rdH 9 (fun K hK => ?_)
   go_simp
   go_at_call 102
   refine (eE x.sure 0 (x.writes.length : Int) _).mono ?_
   rintro e w3 ⟨rfl, rfl⟩
   rw [q4]
   try go_wp2_with fail
   refine hK.out _ _ rfl (fun zq => ?_)
   clear hK K
   try simp only [Act.put, pz, py, px]
   refine tkH 10 zq ?_
   refine tkH 11 zq ?_
   refine tkH 12 zq ?_
   refine tkH 13 zq ?_
   refine tkH 14 zq ?_
   refine tkJ 15 (v := ?vb15) ?hb15 zq ?rb15
   case hb15 =>
    intro wS hSw
    have y6 : wS.cell? ⟨b, o + 6, none⟩ = some (.int .i64 x.clean) := by rw [hSw]; exact hX2.at 6 _ rfl
    clear hSw
    exact fZ
   refine tkH 16 zq ?_
   refine tkH 17 zq ?_
   refine tkH 18 zq ?_
   refine tkJ 19 (v := ?vb19) ?hb19 zq ?rb19
   case hb19 =>
    intro wS hSw
    have y5 : wS.cell? ⟨b, o + 5, none⟩ = some (.int .i64 x.sure) := by rw [hSw]; exact hX2.at 5 _ rfl
    clear hSw
    exact fZ
   refine rdH 20 (fun K hK => ?_)
   go_simp
   go_at_call 102
   refine (eE x.clean 0 x.sure _).mono ?_
   rintro e w3 ⟨rfl, rfl⟩
   rw [q5]
   try go_wp2_with fail
   refine hK.out _ _ rfl (fun zq => ?_)
   clear hK K
   try simp only [Act.put, pz, py, px]
   refine tkH 21 zq ?_
   refine tkH 22 zq ?_
   refine dZ ?_
   clear zq
   go_wp2_with fail
   go_ret
   exact ⟨by rw [uh HF2]; rfl, (uh HB).drew⟩
  have HF2 := yh ((uh HF1).trans (if_pos ⟨q4, q5⟩))
  clear HF1
  refine wZz (fun w' => w' = w2.drew) rfl (fun zq => ?_)
  refine tkH 0 zq ?_
  refine tkH 1 zq ?_
  refine tkH 2 zq ?_
  refine tkJ 3 (v := ?vc3) ?hc3 zq ?rc3
  case hc3 =>
   intro wS hSw
   have y5 : wS.cell? ⟨b, o + 5, none⟩ = some (.int .i64 x.sure) := by rw [hSw]; exact hX2.at 5 _ rfl
   clear hSw
   exact fZ
  refine tkH 4 zq ?_
  refine tkH 5 zq ?_
  refine tkH 6 zq ?_
  refine tkJ 7 (v := ?vc7) ?hc7 zq ?rc7
  case hc7 =>
   intro wS hSw
   have y4 : wS.cell? ⟨b, o + 4, none⟩ = some (.slice a4 x.writes.length d4) := by rw [hSw]; exact hX2.at 4 _ rfl
   clear hSw
   exact fZ
  refine tkH 8 zq ?_
  refine rdH 9 (fun K hK => ?_)
  go_simp
  go_at_call 102
  refine (eE x.sure 0 (x.writes.length : Int) _).mono ?_
  rintro e w3 ⟨rfl, rfl⟩
  rw [q4]
  try go_wp2_with fail
  refine hK.out _ _ rfl (fun zq => ?_)
  clear hK K
  try simp only [Act.put, pz, py, px]
  refine tkH 10 zq ?_
  refine tkH 11 zq ?_
  refine tkH 12 zq ?_
  refine tkH 13 zq ?_
  refine tkH 14 zq ?_
  refine tkJ 15 (v := ?vc15) ?hc15 zq ?rc15
  case hc15 =>
   intro wS hSw
   have y6 : wS.cell? ⟨b, o + 6, none⟩ = some (.int .i64 x.clean) := by rw [hSw]; exact hX2.at 6 _ rfl
   clear hSw
   exact fZ
  refine tkH 16 zq ?_
  refine tkH 17 zq ?_
  refine tkH 18 zq ?_
  refine tkJ 19 (v := ?vc19) ?hc19 zq ?rc19
  case hc19 =>
   intro wS hSw
   have y5 : wS.cell? ⟨b, o + 5, none⟩ = some (.int .i64 x.sure) := by rw [hSw]; exact hX2.at 5 _ rfl
   clear hSw
   exact fZ
  refine rdH 20 (fun K hK => ?_)
  go_simp
  go_at_call 102
  refine (eE x.clean 0 x.sure _).mono ?_
  rintro e w3 ⟨rfl, rfl⟩
  rw [q5]
  try go_wp2_with fail
  refine hK.out _ _ rfl (fun zq => ?_)
  clear hK K
  try simp only [Act.put, pz, py, px]
  refine tkH 21 zq ?_
  refine tkH 22 zq ?_
  refine dZ ?_
  clear zq q4 q5
  go_wp2_with fail
  cases hu : x.up
  ·
   rw [hu] at HF2
   cases e1 : (x.sure != (x.writes.length : Int))
   ·
    cases e2 : (x.clean != 0)
    ·
     cases e3 : (x.az != 0)
     ·
      have HF3 : Hid (aS x = 0) := (uh HF2).trans (if_neg (by simp at e1 e2 e3; simp [dk, ← e1, e2, e3]))
      clear HF2
      refine wZz (fun w' => w' = w2.drew.drew) rfl (fun zq => ?_)
      refine tkH 0 zq ?_
      refine tkH 1 zq ?_
      refine tkH 2 zq ?_
      refine tkJ 3 (v := ?vd3) ?hd3 zq ?rd3
      case hd3 =>
       intro wS hSw
       have y1 : wS.cell? ⟨b, o + 1, none⟩ = some (.bool x.up) := by rw [hSw]; exact hX2.at 1 _ rfl
       clear hSw
       exact fZ
      refine tkH 4 zq ?_
      refine tkH 5 zq ?_
      refine tkH 6 zq ?_
      refine tkH 7 zq ?_
      refine tkH 8 zq ?_
      refine tkJ 9 (v := ?vd9) ?hd9 zq ?rd9
      case hd9 =>
       intro wS hSw
       have y5 : wS.cell? ⟨b, o + 5, none⟩ = some (.int .i64 x.sure) := by rw [hSw]; exact hX2.at 5 _ rfl
       clear hSw
       exact fZ
      refine tkH 10 zq ?_
      refine tkH 11 zq ?_
      refine tkH 12 zq ?_
      refine tkJ 13 (v := ?vd13) ?hd13 zq ?rd13
      case hd13 =>
       intro wS hSw
       have y4 : wS.cell? ⟨b, o + 4, none⟩ = some (.slice a4 x.writes.length d4) := by rw [hSw]; exact hX2.at 4 _ rfl
       clear hSw
       exact fZ
      refine tkH 14 zq ?_
      refine tkH 15 zq ?_
      refine tkH 16 zq ?_
      refine tkH 17 zq ?_
      refine tkH 18 zq ?_
      refine tkH 19 zq ?_
      refine tkJ 20 (v := ?vd20) ?hd20 zq ?rd20
      case hd20 =>
       intro wS hSw
       have y6 : wS.cell? ⟨b, o + 6, none⟩ = some (.int .i64 x.clean) := by rw [hSw]; exact hX2.at 6 _ rfl
       clear hSw
       exact fZ
      refine tkH 21 zq ?_
      refine tkH 22 zq ?_
      refine tkH 23 zq ?_
      refine tkH 24 zq ?_
      refine tkH 25 zq ?_
      refine tkH 26 zq ?_
      refine tkJ 27 (v := ?vd27) ?hd27 zq ?rd27
      case hd27 =>
       intro wS hSw
       have y3 : wS.cell? ⟨b, o + 3, none⟩ = some (.int .i64 x.az) := by rw [hSw]; exact hX2.at 3 _ rfl
       clear hSw
       exact fZ
      refine tkH 28 zq ?_
      refine tkH 29 zq ?_
      refine tkH 30 zq ?_
      refine dZ ?_
      clear zq
      go_wp2_with fail
      go_ret
      exact ⟨by rw [uh HF3]; rfl, (uh HB).drew.drew⟩
     have HF3 : Hid (aS x = 1) := (uh HF2).trans (if_pos ⟨rfl, by simp at e3; simp [dk, e3]⟩)
     clear HF2
     refine wZz (fun w' => w' = w2.drew.drew) rfl (fun zq => ?_)
     refine tkH 0 zq ?_
     refine tkH 1 zq ?_
     refine tkH 2 zq ?_
     refine tkJ 3 (v := ?ve3) ?he3 zq ?re3
     case he3 =>
      intro wS hSw
      have y1 : wS.cell? ⟨b, o + 1, none⟩ = some (.bool x.up) := by rw [hSw]; exact hX2.at 1 _ rfl
      clear hSw
      exact fZ
     refine tkH 4 zq ?_
     refine tkH 5 zq ?_
     refine tkH 6 zq ?_
     refine tkH 7 zq ?_
     refine tkH 8 zq ?_
     refine tkJ 9 (v := ?ve9) ?he9 zq ?re9
     case he9 =>
      intro wS hSw
      have y5 : wS.cell? ⟨b, o + 5, none⟩ = some (.int .i64 x.sure) := by rw [hSw]; exact hX2.at 5 _ rfl
      clear hSw
      exact fZ
     refine tkH 10 zq ?_
     refine tkH 11 zq ?_
     refine tkH 12 zq ?_
     refine tkJ 13 (v := ?ve13) ?he13 zq ?re13
     case he13 =>
      intro wS hSw
      have y4 : wS.cell? ⟨b, o + 4, none⟩ = some (.slice a4 x.writes.length d4) := by rw [hSw]; exact hX2.at 4 _ rfl
      clear hSw
      exact fZ
     refine tkH 14 zq ?_
     refine tkH 15 zq ?_
     refine tkH 16 zq ?_
     refine tkH 17 zq ?_
     refine tkH 18 zq ?_
     refine tkH 19 zq ?_
     refine tkJ 20 (v := ?ve20) ?he20 zq ?re20
     case he20 =>
      intro wS hSw
      have y6 : wS.cell? ⟨b, o + 6, none⟩ = some (.int .i64 x.clean) := by rw [hSw]; exact hX2.at 6 _ rfl
      clear hSw
      exact fZ
     refine tkH 21 zq ?_
     refine tkH 22 zq ?_
     refine tkH 23 zq ?_
     refine tkH 24 zq ?_
     refine tkH 25 zq ?_
     refine tkH 26 zq ?_
     refine tkJ 27 (v := ?ve27) ?he27 zq ?re27
     case he27 =>
      intro wS hSw
      have y3 : wS.cell? ⟨b, o + 3, none⟩ = some (.int .i64 x.az) := by rw [hSw]; exact hX2.at 3 _ rfl
      clear hSw
      exact fZ
     refine tkH 28 zq ?_
     refine tkH 29 zq ?_
     refine tkH 30 zq ?_
     refine dZ ?_
     clear zq
     go_wp2_with fail
     go_ret
     exact ⟨by rw [uh HF3]; rfl, (uh HB).drew.drew⟩
    have HF3 : Hid (aS x = 1) := (uh HF2).trans (if_pos ⟨rfl, by simp at e2; simp [dk, e2]⟩)
    clear HF2
    refine wZz (fun w' => w' = w2.drew.drew) rfl (fun zq => ?_)
    refine tkH 0 zq ?_
    refine tkH 1 zq ?_
    refine tkH 2 zq ?_
    refine tkJ 3 (v := ?vf3) ?hf3 zq ?rf3
    case hf3 =>
     intro wS hSw
     have y1 : wS.cell? ⟨b, o + 1, none⟩ = some (.bool x.up) := by rw [hSw]; exact hX2.at 1 _ rfl
     clear hSw
     exact fZ
    refine tkH 4 zq ?_
    refine tkH 5 zq ?_
    refine tkH 6 zq ?_
    refine tkH 7 zq ?_
    refine tkH 8 zq ?_
    refine tkJ 9 (v := ?vf9) ?hf9 zq ?rf9
    case hf9 =>
     intro wS hSw
     have y5 : wS.cell? ⟨b, o + 5, none⟩ = some (.int .i64 x.sure) := by rw [hSw]; exact hX2.at 5 _ rfl
     clear hSw
     exact fZ
    refine tkH 10 zq ?_
    refine tkH 11 zq ?_
    refine tkH 12 zq ?_
    refine tkJ 13 (v := ?vf13) ?hf13 zq ?rf13
    case hf13 =>
     intro wS hSw
     have y4 : wS.cell? ⟨b, o + 4, none⟩ = some (.slice a4 x.writes.length d4) := by rw [hSw]; exact hX2.at 4 _ rfl
     clear hSw
     exact fZ
    refine tkH 14 zq ?_
    refine tkH 15 zq ?_
    refine tkH 16 zq ?_
    refine tkH 17 zq ?_
    refine tkH 18 zq ?_
    refine tkH 19 zq ?_
    refine tkJ 20 (v := ?vf20) ?hf20 zq ?rf20
    case hf20 =>
     intro wS hSw
     have y6 : wS.cell? ⟨b, o + 6, none⟩ = some (.int .i64 x.clean) := by rw [hSw]; exact hX2.at 6 _ rfl
     clear hSw
     exact fZ
    refine tkH 21 zq ?_
    refine tkH 22 zq ?_
    refine tkH 23 zq ?_
    refine skH 24 zq ?_
    refine skH 25 zq ?_
    refine skH 26 zq ?_
    refine skH 27 zq ?_
    refine skH 28 zq ?_
    refine tkH 29 zq ?_
    refine tkH 30 zq ?_
    refine dZ ?_
    clear zq
    go_wp2_with fail
    go_ret
    exact ⟨by rw [uh HF3]; rfl, (uh HB).drew.drew⟩
   have HF3 : Hid (aS x = 1) := (uh HF2).trans (if_pos ⟨rfl, by simp at e1; simp [dk, e1]⟩)
   clear HF2
   refine wZz (fun w' => w' = w2.drew.drew) rfl (fun zq => ?_)
   refine tkH 0 zq ?_
   refine tkH 1 zq ?_
   refine tkH 2 zq ?_
   refine tkJ 3 (v := ?vg3) ?hg3 zq ?rg3
   case hg3 =>
    intro wS hSw
    have y1 : wS.cell? ⟨b, o + 1, none⟩ = some (.bool x.up) := by rw [hSw]; exact hX2.at 1 _ rfl
    clear hSw
    exact fZ
   refine tkH 4 zq ?_
   refine tkH 5 zq ?_
   refine tkH 6 zq ?_
   refine tkH 7 zq ?_
   refine tkH 8 zq ?_
   refine tkJ 9 (v := ?vg9) ?hg9 zq ?rg9
   case hg9 =>
    intro wS hSw
    have y5 : wS.cell? ⟨b, o + 5, none⟩ = some (.int .i64 x.sure) := by rw [hSw]; exact hX2.at 5 _ rfl
    clear hSw
    exact fZ
   refine tkH 10 zq ?_
   refine tkH 11 zq ?_
   refine tkH 12 zq ?_
   refine tkJ 13 (v := ?vg13) ?hg13 zq ?rg13
   case hg13 =>
    intro wS hSw
    have y4 : wS.cell? ⟨b, o + 4, none⟩ = some (.slice a4 x.writes.length d4) := by rw [hSw]; exact hX2.at 4 _ rfl
    clear hSw
    exact fZ
   refine tkH 14 zq ?_
   refine tkH 15 zq ?_
   refine tkH 16 zq ?_
   refine skH 17 zq ?_
   refine skH 18 zq ?_
   refine skH 19 zq ?_
   refine skH 20 zq ?_
   refine skH 21 zq ?_
   refine tkH 22 zq ?_
   refine tkH 23 zq ?_
   refine skH 24 zq ?_
   refine skH 25 zq ?_
   refine skH 26 zq ?_
   refine skH 27 zq ?_
   refine skH 28 zq ?_
   refine tkH 29 zq ?_
   refine tkH 30 zq ?_
   refine dZ ?_
   clear zq
   go_wp2_with fail
   go_ret
   exact ⟨by rw [uh HF3]; rfl, (uh HB).drew.drew⟩
  have HF3 : Hid (aS x = 0) := (uh HF2).trans (if_neg (by rw [hu]; simp))
  clear HF2
  refine wZz (fun w' => w' = w2.drew.drew) rfl (fun zq => ?_)
  refine tkH 0 zq ?_
  refine tkH 1 zq ?_
  refine tkH 2 zq ?_
  refine tkJ 3 (v := ?vh3) ?hh3 zq ?rh3
  case hh3 =>
   intro wS hSw
   have y1 : wS.cell? ⟨b, o + 1, none⟩ = some (.bool x.up) := by rw [hSw]; exact hX2.at 1 _ rfl
   clear hSw
   exact fZ
  refine tkH 4 zq ?_
  refine tkH 5 zq ?_
  refine skH 6 zq ?_
  refine skH 7 zq ?_
  refine skH 8 zq ?_
  refine skH 9 zq ?_
  refine skH 10 zq ?_
  refine skH 11 zq ?_
  refine skH 12 zq ?_
  refine skH 13 zq ?_
  refine skH 14 zq ?_
  refine skH 15 zq ?_
  refine skH 16 zq ?_
  refine skH 17 zq ?_
  refine skH 18 zq ?_
  refine skH 19 zq ?_
  refine skH 20 zq ?_
  refine skH 21 zq ?_
  refine skH 22 zq ?_
  refine skH 23 zq ?_
  refine skH 24 zq ?_
  refine skH 25 zq ?_
  refine skH 26 zq ?_
  refine skH 27 zq ?_
  refine skH 28 zq ?_
  refine skH 29 zq ?_
  refine tkH 30 zq ?_
  refine dZ ?_
  clear zq
  go_wp2_with fail
  go_ret
  exact ⟨by rw [uh HF3]; rfl, (uh HB).drew.drew⟩
 have hd : (cc x.writes != 0) = true := by simpa using hs
 have HT : Hid (cm x.writes = cc x.writes) := by show cm x.writes = _; rw [cm, if_neg hn, if_pos hs]
 have HF1 := yh ((uh HF).trans (if_pos (by rw [uh HT]; exact hs)))
 rw [uh HT] at HF1
 clear HF HT hs HW
 generalize cc x.writes = c at *
 go_wp2_with fail
 go_ret
 exact ⟨by rw [uh HF1]; rfl, Below.refl _ _⟩
theorem ni {x : bz} (h : pQ x) : ∀ y ∈ x.writes, y.vec.length ≤ 100000000 := fun y hy => by
 obtain ⟨-, -, -, hk⟩ := ca (h.ws y hy)
 rcases hk with ⟨-, hv⟩ | ⟨-, hv⟩
 ·
  have := (cA hv).1; omega
 rw [hv]; simp
theorem jg (w : World) (b o : Nat) (u : Value) : w.grownBy (w.setCell ⟨b, o, none⟩ u) (some b) :=
 ⟨rfl, rfl, rfl, by simp, fun k _ hk => heap_setCell_other w ⟨b, o, none⟩ k u (fun e => hk (by rw [e]))⟩
theorem mu {α : Type} {A : ab α} {w : World} {base T : Nat} {v : Value} {rows : List (List Value)} {xs : List α} {bls : List (List Nat)} (h : bN A w base T v rows xs bls) (s i : Nat) (vs : List Value) (hs : s < base) (hb : ∀ c ∈ bls.flatten, base ≤ c) : bN A (aO w s i vs) base T v rows xs bls := by
 induction vs generalizing w i with
 | nil => exact h
 | cons u us ih => exact ih (h.grown (jg w s i u) hs hb) (i + 1)
theorem se (cs : List Value) (x : bz) (w : World) (h : ab.ax.Reads w cs x) (hn : x.writes.length ≤ 1000000) (hv : ∀ y ∈ x.writes, y.vec.length ≤ 100000000) :
  Calls Tryz.prog 172 #[.agg cs.toArray] w fun e w' => ∃ a6 d6 rows bls, e = .returned (.agg #[.int .i64 x.id, .bool x.up, .int .i64 x.af, .int .i64 x.az, .slice a6 x.writes.length d6, .int .i64 x.sure, .int .i64 x.clean]) ∧ bN ab.ai w' w.heap.size 142 (.slice a6 x.writes.length d6) rows x.writes bls ∧ (∀ c ∈ bls.flatten, w.heap.size ≤ c) ∧ Below w.heap.size w w' := by
 obtain ⟨a4, d4, rfl, R4⟩ := bK h
 have nb : Below w.heap.size w ((w.alloc (.cells #[.int .i64 x.id, .bool x.up, .int .i64 x.af, .int .i64 x.az, .slice a4 x.writes.length d4, .int .i64 x.sure, .int .i64 x.clean] 79)).alloc (.cells #[.int .i64 0, .bool false, .int .i64 0, .int .i64 0, .slice none 0 0, .int .i64 0, .int .i64 0] 79)) := ((Below.refl _ _).alloc (Nat.le_refl _) _).alloc (by simp) _
 have bX : aj 0 #[.int .i64 x.id, .bool x.up, .int .i64 x.af, .int .i64 x.az, .slice a4 x.writes.length d4, .int .i64 x.sure, .int .i64 x.clean] 79 ((w.alloc (.cells #[.int .i64 x.id, .bool x.up, .int .i64 x.af, .int .i64 x.az, .slice a4 x.writes.length d4, .int .i64 x.sure, .int .i64 x.clean] 79)).alloc (.cells #[.int .i64 0, .bool false, .int .i64 0, .int .i64 0, .slice none 0 0, .int .i64 0, .int .i64 0] 79)) w.heap.size := (aH (Nat.zero_le _)).grow _
 have bR : aj 0 #[.int .i64 0, .bool false, .int .i64 0, .int .i64 0, .slice none 0 0, .int .i64 0, .int .i64 0] 79 ((w.alloc (.cells #[.int .i64 x.id, .bool x.up, .int .i64 x.af, .int .i64 x.az, .slice a4 x.writes.length d4, .int .i64 x.sure, .int .i64 x.clean] 79)).alloc (.cells #[.int .i64 0, .bool false, .int .i64 0, .int .i64 0, .slice none 0 0, .int .i64 0, .int .i64 0] 79)) (w.heap.size + 1) := bg (Nat.zero_le _) (by simp)
 have HL := yh (rX _ x.writes _ (R4.ag nb) (by omega) hv)
 have HX := yh bX
 have HR := yh bR
 have HB := yh nb
 clear h nb bX bR R4 hv
 go_enter Tryz.func172, Tryz.ntmps172
 go_wp2_with fail
 generalize (w.alloc (.cells #[.int .i64 x.id, .bool x.up, .int .i64 x.af, .int .i64 x.az, .slice a4 x.writes.length d4, .int .i64 x.sure, .int .i64 x.clean] 79)).alloc (.cells #[.int .i64 0, .bool false, .int .i64 0, .int .i64 0, .slice none 0 0, .int .i64 0, .int .i64 0] 79) = W0 at *
 refine (uh HL).mono ?_
 rintro e w1 ⟨v6, rfl, ⟨rows, bls, hG, hS⟩, hb⟩
 have hl := hG.ft (by omega) hS
 obtain ⟨a6, d6, rfl⟩ := aE hl.reads
 have bX1 := (uh HX).au hb
 have bR1 := (uh HR).au hb
 have hlo := (uh HR).lt
 have y0 := aj.at bX1 0 _ rfl
 have y1 := aj.at bX1 1 _ rfl
 have y2 := aj.at bX1 2 _ rfl
 have y3 := aj.at bX1 3 _ rfl
 have y4 := aj.at bX1 4 _ rfl
 have y5 := aj.at bX1 5 _ rfl
 have y6 := aj.at bX1 6 _ rfl
 simp only [ga, gb, gc] at y0 y1 y2 y3 y4 y5 y6
 have z0 := aj.at bR1 0 _ rfl
 have z1 := aj.at bR1 1 _ rfl
 have z2 := aj.at bR1 2 _ rfl
 have z3 := aj.at bR1 3 _ rfl
 have z4 := aj.at bR1 4 _ rfl
 have z5 := aj.at bR1 5 _ rfl
 have z6 := aj.at bR1 6 _ rfl
 simp only [ga, gb, gc] at z0 z1 z2 z3 z4 z5 z6
 have yf := aj.soft bX1
 have yl := aj.lt bX1
 have ff := aj.soft bR1
 have l0 := aj.lt bR1
 have HB1 := yh ((uh HB).trans (hb.mono (uh HB).size))
 have HO1 := yh hG
 have HS1 := yh hS
 have HZ0 := yh hb.size
 clear hb hG hS hl bX1 bR1 HL HX HR HB
 go_wp2_with fail
 refine bodyPost_ret (v := .agg #[.int .i64 x.id, .bool x.up, .int .i64 x.af, .int .i64 x.az, .slice a6 x.writes.length d6, .int .i64 x.sure, .int .i64 x.clean]) (by simp [results, Tryz.results172, go_sem, z0, z1, z2, z3, z4, z5, z6]) rfl ?_
 have hB8 : Below w.heap.size w (w1.setCell ⟨w.heap.size, 4, none⟩ (.slice a6 x.writes.length d6)) := (uh HB1).setCell (by simp) _
 have hB9 := aP hB8 (w.heap.size + 1) 0 [.int .i64 x.id, .bool x.up, .int .i64 x.af, .int .i64 x.az, .slice a6 x.writes.length d6, .int .i64 x.sure, .int .i64 x.clean] (by omega)
 have g1 := (uh HO1).grown (jg w1 w.heap.size 4 (.slice a6 x.writes.length d6)) (by omega) (uh HS1)
 have g2 := mu g1 (w.heap.size + 1) 0 [.int .i64 x.id, .bool x.up, .int .i64 x.af, .int .i64 x.az, .slice a6 x.writes.length d6, .int .i64 x.sure, .int .i64 x.clean] (by omega) (uh HS1)
 exact ⟨a6, d6, rows, bls, rfl, g2.lower (by omega), fun c hc => by have := uh HS1 c hc; omega, hB9⟩
abbrev pP : Oper := ⟨some 3, .alloc 37, 0, "l12_world.go:81", #[], none⟩
abbrev qw : Oper := ⟨some 26, .load 33 (.tmp 25), 33, "l12_world.go:83", #[⟨0, .data⟩], none⟩
theorem kq {lo : Nat} {T : TypeId} {W : World} {s : Nat} {c0 c1 c2 c3 c4 c5 c6 : Value} (h : aj lo #[c0, c1, c2, c3, c4, c5, c6] T W s) (v0 v1 v2 v3 v4 v5 v6 : Value) : aj lo #[v0, v1, v2, v3, v4, v5, v6] T (aO W s 0 [v0, v1, v2, v3, v4, v5, v6]) s := by
 have q := (aj.set (aj.set (aj.set (aj.set (aj.set (aj.set (aj.set h 0 v0) 1 v1) 2 v2) 3 v3) 4 v4) 5 v5) 6 v6)
 simp only [List.setIfInBounds_toArray, List.set_cons_zero, List.set_cons_succ] at q
 exact q
theorem eM {lo : Nat} {cs : Array Value} {T : TypeId} {W w' : World} {s B : Nat} (h : aj lo cs T W s) (hb : Below B W w') (hs : s < B) : aj lo cs T w' s := ⟨h.1, (hb.block s hs).trans h.2⟩
theorem eu {α : Type} {A : ab α} {S : Nat → Prop} {w w' : World} {base T : Nat} {v : Value} {rows : List (List Value)} {xs : List α} {bls : List (List Nat)} (h : bN A w base T v rows xs bls) (e : Ext S w w') (h1 : ∀ c ∈ bls.flatten, ¬ S c) (h2 : ∀ g, v.ownBlock = some g → ¬ S g) : bN A w' base T v rows xs bls := by
 refine h.kept ?_ (fun c hc => e.block c (h.sub_lt c hc) (h1 c hc))
 obtain ⟨q1, q2⟩ := h.own
 refine ⟨q1, ?_⟩
 rcases q2 with q2 | ⟨g, cap, cu, hv, hg, hh, r⟩
 ·
  exact Or.inl q2
 exact Or.inr ⟨g, cap, cu, hv, hg, (e.block g (lt_of_block hh) (h2 g (by rw [hv]; rfl))).trans hh, r⟩
theorem gg {α : Type} {A : ab α} {w w' : World} {cs : List Value} {x : α} {lo hi B : Nat} (h : A.cd w cs x lo hi) (hb : Below B w w') (hh : hi ≤ B) : A.cd w' cs x lo hi := by
 obtain ⟨bl, l, hl⟩ := h
 exact ⟨bl, A.au l fun b hm => hb.block b (by have := hl b hm; omega), hl⟩
def wfE (e : aZ) : Prop := (Lit.int .i64 e.kind).wf = true ∧ (Lit.int .i64 e.aa).wf = true ∧ (Lit.int .i64 e.seq).wf = true ∧ (Lit.int .i64 e.id).wf = true ∧ (Lit.int .i64 e.k).wf = true ∧ (Lit.int .i64 e.start).wf = true ∧ (Lit.int .i64 e.fin).wf = true ∧ (Lit.int .i64 e.place).wf = true
def dA (W : World) (lo hi : Nat) (cells : List Value) (x : ay) : Prop := ∃ (q : po) (H : Nat) (rows : List (List Value)) (bls : List (List Nat)), cells = q.cells x ∧ kx W q x ∧ (lo ≤ q.b ∧ q.b < H) ∧ (∀ c ∈ q.l3, lo ≤ c ∧ c < H) ∧ (∀ c ∈ q.r, lo ≤ c ∧ c < H) ∧ (∀ c ∈ q.l5, lo ≤ c ∧ c < H) ∧ (∀ c ∈ q.l6, H ≤ c ∧ c < hi) ∧ (lo ≤ H ∧ H ≤ hi) ∧ bN ab.ar W H 85 (.slice q.a6 x.ae.length q.d6) rows x.ae bls ∧ (∀ c ∈ bls.flatten, H ≤ c ∧ c < hi) ∧ (∀ g, (Value.slice q.a6 x.ae.length q.d6).ownBlock = some g → H ≤ g ∧ g < hi)
theorem dA.sI {W : World} {lo hi : Nat} {cells : List Value} {x : ay} (h : dA W lo hi cells x) : ob W lo hi cells x := by
 obtain ⟨q, H, rows, bls, e, hl, hb, h3, hr, h5, h6, hH, -, -, -⟩ := h
 exact ⟨q, e, hl, by omega, fun c hc => by have := h3 c hc; omega, fun c hc => by have := hr c hc; omega, fun c hc => by have := h5 c hc; omega, fun c hc => by have := h6 c hc; omega⟩
theorem dA.ext {S : Nat → Prop} {W W' : World} {lo hi : Nat} {cells : List Value} {x : ay} (h : dA W lo hi cells x) (e : Ext S W W') (hs : ∀ k, lo ≤ k → k < hi → ¬ S k) : dA W' lo hi cells x := by
 obtain ⟨q, H, rows, bls, rfl, hl, hb, h3, hr, h5, h6, hH, hG, hB, hO⟩ := h
 refine ⟨q, H, rows, bls, rfl, hl.ext e (fun c hc hm => ?_), hb, h3, hr, h5, h6, hH, eu hG e (fun c hc => hs c (by have := hB c hc; omega) (hB c hc).2) (fun g hg => hs g (by have := hO g hg; omega) (hO g hg).2), hB, hO⟩
 rcases hm with rfl | hm | hm | hm | hm
 ·
  exact hs _ hb.1 (by omega)
 ·
  exact hs c (h3 c hm).1 (by have := h3 c hm; omega)
 ·
  exact hs c (hr c hm).1 (by have := hr c hm; omega)
 ·
  exact hs c (h5 c hm).1 (by have := h5 c hm; omega)
 exact hs c (by have := h6 c hm; omega) (h6 c hm).2
theorem dA.ag {W W' : World} {lo hi : Nat} {cells : List Value} {x : ay} (h : dA W lo hi cells x) (hb : Below W.heap.size W W') : dA W' lo hi cells x := h.ext (aL hb cU) fun _ _ _ q => q
theorem dA.mono {W : World} {lo hi lo' hi' : Nat} {cells : List Value} {x : ay} (h : dA W lo hi cells x) (h1 : lo' ≤ lo) (h2 : hi ≤ hi') : dA W lo' hi' cells x := by
 obtain ⟨q, H, rows, bls, rfl, hl, hb, h3, hr, h5, h6, hH, hG, hB, hO⟩ := h
 exact ⟨q, H, rows, bls, rfl, hl, by omega, fun c hc => by have := h3 c hc; omega, fun c hc => by have := hr c hc; omega, fun c hc => by have := h5 c hc; omega, fun c hc => by have := h6 c hc; omega, by omega, hG, fun c hc => by have := hB c hc; omega, fun g hg => by have := hO g hg; omega⟩
theorem dA.reads {W : World} {lo hi : Nat} {cells : List Value} {x : ay} (h : dA W lo hi cells x) : ab.aC.Reads W cells x := h.sI.reads
theorem dA.count {W : World} {lo hi : Nat} {v3 v4 v5 v6 : Value} {x : ay} (h : dA W lo hi [.int .i64 x.now, .int .i64 x.events, .int .i64 x.chain.af, v3, v4, v5, v6] x) (n e : Int) (hn : (Lit.int .i64 n).wf = true) (he : (Lit.int .i64 e).wf = true) : dA W lo hi [.int .i64 n, .int .i64 e, .int .i64 x.chain.af, v3, v4, v5, v6] { x with now := n, events := e } := by
 obtain ⟨q, H, rows, bls, hq, hl, r⟩ := h
 simp only [po.cells, List.cons.injEq, and_true, true_and] at hq
 obtain ⟨rfl, rfl, rfl, rfl⟩ := hq
 exact ⟨q, H, rows, bls, rfl, ⟨hn, he, hl.w2, hl.i3, hl.i4, hl.i5, hl.i6, hl.n3, hl.n5, hl.n6⟩, r⟩
theorem pC (cs : List Value) (x : ay) (w : World) (h : ab.aC.Reads w cs x) (hok : db x) (hf : Fits x) :
  Calls Tryz.prog 105 #[.agg cs.toArray] w fun e w' => ∃ cs', e = .returned (.agg cs'.toArray) ∧ dA w' w.heap.size w'.heap.size cs' x ∧ Below w.heap.size w w' := by
 obtain ⟨a3, d3, a4, d4, a5, d5, a6, d6, rfl, RC, RN, RM, RE⟩ := aG h
 have nb : Below w.heap.size w ((w.alloc (.cells #[.int .i64 x.now, .int .i64 x.events, .int .i64 x.chain.af, .slice a3 x.chain.ids.length d3, .slice a4 x.nodes.length d4, .slice a5 x.msgs.length d5, .slice a6 x.ae.length d6] 37)).alloc (.cells #[.int .i64 0, .int .i64 0, .int .i64 0, .slice none 0 0, .slice none 0 0, .slice none 0 0, .slice none 0 0] 37)) := ((Below.refl _ _).alloc (Nat.le_refl _) _).alloc (by simp) _
 have hz0 : ((w.alloc (.cells #[.int .i64 x.now, .int .i64 x.events, .int .i64 x.chain.af, .slice a3 x.chain.ids.length d3, .slice a4 x.nodes.length d4, .slice a5 x.msgs.length d5, .slice a6 x.ae.length d6] 37)).alloc (.cells #[.int .i64 0, .int .i64 0, .int .i64 0, .slice none 0 0, .slice none 0 0, .slice none 0 0, .slice none 0 0] 37)).heap.size = w.heap.size + 2 := by simp
 obtain ⟨b, off, rfl, hbl⟩ := ab.aI RN (by have := hok.some; omega)
 have HX : Hid (aj 0 #[.int .i64 x.now, .int .i64 x.events, .int .i64 x.chain.af, .slice a3 x.chain.ids.length d3, .slice (some ⟨b, off, none⟩) x.nodes.length d4, .slice a5 x.msgs.length d5, .slice a6 x.ae.length d6] 37 ((w.alloc (.cells #[.int .i64 x.now, .int .i64 x.events, .int .i64 x.chain.af, .slice a3 x.chain.ids.length d3, .slice (some ⟨b, off, none⟩) x.nodes.length d4, .slice a5 x.msgs.length d5, .slice a6 x.ae.length d6] 37)).alloc (.cells #[.int .i64 0, .int .i64 0, .int .i64 0, .slice none 0 0, .slice none 0 0, .slice none 0 0, .slice none 0 0] 37)) w.heap.size) := (aH (Nat.zero_le _)).grow _
 have HY : Hid (aj 0 #[.int .i64 0, .int .i64 0, .int .i64 0, .slice none 0 0, .slice none 0 0, .slice none 0 0, .slice none 0 0] 37 ((w.alloc (.cells #[.int .i64 x.now, .int .i64 x.events, .int .i64 x.chain.af, .slice a3 x.chain.ids.length d3, .slice (some ⟨b, off, none⟩) x.nodes.length d4, .slice a5 x.msgs.length d5, .slice a6 x.ae.length d6] 37)).alloc (.cells #[.int .i64 0, .int .i64 0, .int .i64 0, .slice none 0 0, .slice none 0 0, .slice none 0 0, .slice none 0 0] 37)) (w.heap.size + 1)) := bg (Nat.zero_le _) (by simp)
 have HRC := yh (RC.ag nb)
 have HRM := yh (RM.ag nb)
 have HRN := yh (RN.ag nb)
 have HRE := yh (RE.ag nb)
 have HWF := yh (iC h)
 have HOK := yh hok
 have HN3 : Hid (x.chain.ids.length ≤ 100000000) := by have := (cE hok.chain).len; show x.chain.ids.length ≤ 100000000; omega
 have HN5 : Hid (x.msgs.length ≤ 10000000 ∧ ∀ m ∈ x.msgs, m.write.vec.length ≤ 100000000) := ⟨by have := (cR hok.sG).1; omega, qD hok.sG⟩
 have HF := yh hf
 have HB := yh nb
 have hbl0 : b < ((w.alloc (.cells #[.int .i64 x.now, .int .i64 x.events, .int .i64 x.chain.af, .slice a3 x.chain.ids.length d3, .slice (some ⟨b, off, none⟩) x.nodes.length d4, .slice a5 x.msgs.length d5, .slice a6 x.ae.length d6] 37)).alloc (.cells #[.int .i64 0, .int .i64 0, .int .i64 0, .slice none 0 0, .slice none 0 0, .slice none 0 0, .slice none 0 0] 37)).heap.size := Nat.lt_of_lt_of_le hbl nb.size
 clear nb h RC RN RM RE hok hf hbl
 go_enter Tryz.func105, Tryz.ntmps105
 go_upto_region 1 with fail
 generalize (w.alloc (.cells #[.int .i64 x.now, .int .i64 x.events, .int .i64 x.chain.af, .slice a3 x.chain.ids.length d3, .slice (some ⟨b, off, none⟩) x.nodes.length d4, .slice a5 x.msgs.length d5, .slice a6 x.ae.length d6] 37)).alloc (.cells #[.int .i64 0, .int .i64 0, .int .i64 0, .slice none 0 0, .slice none 0 0, .slice none 0 0, .slice none 0 0] 37) = W0 at *
 go_cut [3] from 7 to 17 (fun s3 wx => ∃ (wz : World) (g : Nat) (v3 v5 : Value), wz = wx ∧ s3 = .pointer (some ⟨g, 0, none⟩) ∧ aj 0 #[.int .i64 x.now, .int .i64 x.events, .int .i64 x.chain.af, v3, .slice none 0 0, v5, .slice none 0 0] 37 wz g ∧ Clear ab.int wz v3 x.chain.ids W0.heap.size wz.heap.size g ∧ Clear ab.aJ wz v5 x.msgs W0.heap.size wz.heap.size g ∧ W0.heap.size ≤ g ∧ Below W0.heap.size W0 wz)
 case first =>
  have z0 := aj.at (uh HX) 0 _ rfl
  have z1 := aj.at (uh HX) 1 _ rfl
  have z2 := aj.at (uh HX) 2 _ rfl
  have z3 := aj.at (uh HX) 3 _ rfl
  have z5 := aj.at (uh HX) 5 _ rfl
  simp only [ga, gb, gc] at z0 z1 z2 z3 z5
  have hxl := (uh HX).lt
  have HDS : W0.heap.size ≤ W0.drew.heap.size := Nat.le_refl _
  clear HX HY HRN HRE HOK HF HB
  refine wZz (fun w' => Below W0.heap.size W0 w') ((Below.refl _ _).drew) (fun zq => ?_)
  generalize W0.drew = wD at zq HDS ⊢
  refine tkH 0 zq ?_
  refine tkJ 1 (v := ?ve1_2) ?he1_2 zq ?re1_2
  case he1_2 =>
   intro wS hSw
   have q0 := cZ hSw hxl z0
   clear hSw
   exact fZ
  refine tkH 2 zq ?_
  refine tkJ 3 (v := ?ve3_4) ?he3_4 zq ?re3_4
  case he3_4 =>
   intro wS hSw
   have q1 := cZ hSw hxl z1
   clear hSw
   exact fZ
  refine tkH 4 zq ?_
  refine tkJ 5 (v := ?ve5_6) ?he5_6 zq ?re5_6
  case he5_6 =>
   intro wS hSw
   have q2 := cZ hSw hxl z2
   have q3 := cZ hSw hxl z3
   clear hSw
   exact fZ
  refine tkH 7 zq ?_
  refine tkJ 8 (v := ?ve8_8) ?he8_8 zq ?re8_8
  case he8_8 =>
   intro wS hSw
   have q5 := cZ hSw hxl z5
   clear hSw
   exact fZ
  refine wpAnyH_ready (rs := [6, 11]) (by kernel_rfl) (by simp) ?_
  refine AllReadyH.cons (o := ⟨some 13, .call { callee := .value (.func 170), args := #[.tmp 12], argTypes := #[32] }, 32, "l12_world.go:81", #[⟨5, .data⟩], none⟩) rfl (fun K hK => ?oe6_9) (AllReadyH.cons (o := pP) rfl (fun K hK => ?oe11_9) (AllReadyH.nil))
  case oe6_9 =>
   go_simp
   go_at_call 170
   refine (lr _ x.chain _ ((uh HRC).ag zq) (uh HN3)).mono ?_
   rintro e u6 ⟨a3q, c3q, rfl, O3, hb6⟩
   have hz6 : wD.heap.size ≤ u6.heap.size := hb6.size
   try go_wp2_with fail
   refine hK.out _ _ (zq.trans (hb6.mono zq.size)) (fun zq => ?_)
   clear hK K
   try simp only [Act.put, pz, py, px]
   refine wpAnyH_ready (rs := [9, 11]) (by kernel_rfl) (by simp) ?_
   refine AllReadyH.cons (o := ⟨some 16, .call { callee := .value (.func 171), args := #[.tmp 15], argTypes := #[34] }, 34, "l12_world.go:81", #[⟨8, .data⟩, ⟨6, .chain⟩], none⟩) rfl (fun K hK => ?oe9_10) (AllReadyH.cons (o := pP) rfl (fun K hK => ?oe11_10) (AllReadyH.nil))
   case oe9_10 =>
    go_simp
    go_at_call 171
    refine (m1 _ x.msgs _ ((uh HRM).ag zq) (uh HN5).1 (uh HN5).2).mono ?_
    rintro e u9 ⟨v5, rfl, ⟨rows, bls, G9, hs9⟩, hb9⟩
    have hz9 : u6.heap.size ≤ u9.heap.size := hb9.size
    obtain ⟨a5q, c5q, rfl⟩ := ec G9.own
    have O5 := G9.ft (by have := (uh HN5).1; omega) hs9
    replace O3 := O3.ag hb9
    try go_wp2_with fail
    refine hK.out _ _ (zq.trans (hb9.mono zq.size)) (fun zq => ?_)
    clear hK K
    try simp only [Act.put, pz, py, px]
    refine tkH 10 zq ?_
    refine rdH 11 (fun K hK => ?_)
    have HG : Hid (aj 0 #[.int .i64 0, .int .i64 0, .int .i64 0, .slice none 0 0, .slice none 0 0, .slice none 0 0, .slice none 0 0] 37 (u9.alloc (.cells #[.int .i64 0, .int .i64 0, .int .i64 0, .slice none 0 0, .slice none 0 0, .slice none 0 0, .slice none 0 0] 37)) u9.heap.size) := aH (Nat.zero_le _)
    have hH11 := zq
    go_simp
    refine hK.out _ _ (zq.alloc zq.size _) (fun zq => ?_)
    clear hK K
    try simp only [Act.put, pz, py, px]
    refine rdH 12 (fun K hK => ?_)
    have hzD := hH11.size
    go_simp
    refine hK.out _ _ (hH11.alloc hH11.size _) (fun zq => ?_)
    clear hK K
    try simp only [Act.put, pz, py, px]
    refine dZ ?_
    go_wp2_with fail
    go_meet
    have nb2 : Below u9.heap.size u9 (u9.alloc (.cells #[.int .i64 x.now, .int .i64 x.events, .int .i64 x.chain.af, .slice a3q x.chain.ids.length c3q, .slice none 0 0, .slice a5q x.msgs.length c5q, .slice none 0 0] 37)) := (Below.refl _ _).alloc (Nat.le_refl _) _
    have hss : (u9.alloc (.cells #[.int .i64 x.now, .int .i64 x.events, .int .i64 x.chain.af, .slice a3q x.chain.ids.length c3q, .slice none 0 0, .slice a5q x.msgs.length c5q, .slice none 0 0] 37)).heap.size = u9.heap.size + 1 := by simp
    have C3 := (eP (g := u9.heap.size) (O3.bp.ag nb2) (by omega)).wide (lo' := W0.heap.size) (hi' := (u9.alloc (.cells #[.int .i64 x.now, .int .i64 x.events, .int .i64 x.chain.af, .slice a3q x.chain.ids.length c3q, .slice none 0 0, .slice a5q x.msgs.length c5q, .slice none 0 0] 37)).heap.size) (by omega) (by omega)
    have C5 := (eP (g := u9.heap.size) (O5.ag nb2) (by omega)).wide (lo' := W0.heap.size) (hi' := (u9.alloc (.cells #[.int .i64 x.now, .int .i64 x.events, .int .i64 x.chain.af, .slice a3q x.chain.ids.length c3q, .slice none 0 0, .slice a5q x.msgs.length c5q, .slice none 0 0] 37)).heap.size) (by omega) (by omega)
    exact ⟨_, u9.heap.size, _, _, rfl, rfl, aH (Nat.zero_le _), C3, C5, by omega, zq⟩
   case oe11_10 =>
    have HG : Hid (aj 0 #[.int .i64 0, .int .i64 0, .int .i64 0, .slice none 0 0, .slice none 0 0, .slice none 0 0, .slice none 0 0] 37 (u6.alloc (.cells #[.int .i64 0, .int .i64 0, .int .i64 0, .slice none 0 0, .slice none 0 0, .slice none 0 0, .slice none 0 0] 37)) u6.heap.size) := aH (Nat.zero_le _)
    have hza : u6.heap.size < (u6.alloc (.cells #[.int .i64 0, .int .i64 0, .int .i64 0, .slice none 0 0, .slice none 0 0, .slice none 0 0, .slice none 0 0] 37)).heap.size := by simp
    have nba : Below u6.heap.size u6 (u6.alloc (.cells #[.int .i64 0, .int .i64 0, .int .i64 0, .slice none 0 0, .slice none 0 0, .slice none 0 0, .slice none 0 0] 37)) := (Below.refl _ _).alloc (Nat.le_refl _) _
    replace O3 := O3.ag nba
    go_simp
    refine hK.out _ _ (zq.alloc zq.size _) (fun zq => ?_)
    clear hK K
    try simp only [Act.put, pz, py, px]
    refine rdH 9 (fun K hK => ?_)
    go_simp
    go_at_call 171
    refine (m1 _ x.msgs _ ((uh HRM).ag zq) (uh HN5).1 (uh HN5).2).mono ?_
    rintro e u9 ⟨v5, rfl, ⟨rows, bls, G9, hs9⟩, hb9⟩
    have hz9 : (u6.alloc (.cells #[.int .i64 0, .int .i64 0, .int .i64 0, .slice none 0 0, .slice none 0 0, .slice none 0 0, .slice none 0 0] 37)).heap.size ≤ u9.heap.size := hb9.size
    obtain ⟨a5q, c5q, rfl⟩ := ec G9.own
    have O5 := G9.ft (by have := (uh HN5).1; omega) hs9
    have HG9 := yh ((uh HG).au hb9)
    clear HG
    have HG := HG9
    clear HG9
    replace O3 := O3.ag hb9
    try go_wp2_with fail
    refine hK.out _ _ (zq.trans (hb9.mono zq.size)) (fun zq => ?_)
    clear hK K
    try simp only [Act.put, pz, py, px]
    refine tkH 10 zq ?_
    refine rdH 12 (fun K hK => ?_)
    have hzD := zq.size
    have r0 := aj.at (uh HG) 0 _ rfl
    have r1 := aj.at (uh HG) 1 _ rfl
    have r2 := aj.at (uh HG) 2 _ rfl
    have r3 := aj.at (uh HG) 3 _ rfl
    have r4 := aj.at (uh HG) 4 _ rfl
    have r5 := aj.at (uh HG) 5 _ rfl
    have r6 := aj.at (uh HG) 6 _ rfl
    simp only [ga, gb, gc] at r0 r1 r2 r3 r4 r5 r6
    have rf := aj.soft (uh HG)
    have rl := (uh HG).lt
    go_simp
    refine hK.out _ _ (Below.setCell (Below.setCell (Below.setCell (Below.setCell (Below.setCell (Below.setCell (Below.setCell zq (p := ⟨u6.heap.size, 0, none⟩) (by simp only []; omega) (.int .i64 x.now)) (p := ⟨u6.heap.size, 1, none⟩) (by simp only []; omega) (.int .i64 x.events)) (p := ⟨u6.heap.size, 2, none⟩) (by simp only []; omega) (.int .i64 x.chain.af)) (p := ⟨u6.heap.size, 3, none⟩) (by simp only []; omega) (.slice a3q x.chain.ids.length c3q)) (p := ⟨u6.heap.size, 4, none⟩) (by simp only []; omega) (.slice none 0 0)) (p := ⟨u6.heap.size, 5, none⟩) (by simp only []; omega) (.slice a5q x.msgs.length c5q)) (p := ⟨u6.heap.size, 6, none⟩) (by simp only []; omega) (.slice none 0 0)) (fun zq => ?_)
    clear hK K
    try simp only [Act.put, pz, py, px]
    refine dZ ?_
    go_wp2_with fail
    go_meet
    have hbx := kq (uh HG) (.int .i64 x.now) (.int .i64 x.events) (.int .i64 x.chain.af) (.slice a3q x.chain.ids.length c3q) (.slice none 0 0) (.slice a5q x.msgs.length c5q) (.slice none 0 0)
    have e1 : Ext (fun q => q = u6.heap.size) u9 (aO u9 u6.heap.size 0 [.int .i64 x.now, .int .i64 x.events, .int .i64 x.chain.af, .slice a3q x.chain.ids.length c3q, .slice none 0 0, .slice a5q x.msgs.length c5q, .slice none 0 0]) := bD _ (Ext.refl _ _) _ _ _ rfl
    have hss : (aO u9 u6.heap.size 0 [.int .i64 x.now, .int .i64 x.events, .int .i64 x.chain.af, .slice a3q x.chain.ids.length c3q, .slice none 0 0, .slice a5q x.msgs.length c5q, .slice none 0 0]).heap.size = u9.heap.size := bF _ _ _ _
    have C3 := ((eP (g := u6.heap.size) O3.bp (by omega)).ext e1 (fun k h1 h2 h3 h4 => h3 h4)).wide (lo' := W0.heap.size) (hi' := (aO u9 u6.heap.size 0 [.int .i64 x.now, .int .i64 x.events, .int .i64 x.chain.af, .slice a3q x.chain.ids.length c3q, .slice none 0 0, .slice a5q x.msgs.length c5q, .slice none 0 0]).heap.size) (by omega) (by omega)
    have C5 := ((eP (g := u6.heap.size) O5 (by omega)).ext e1 (fun k h1 h2 h3 h4 => h3 h4)).wide (lo' := W0.heap.size) (hi' := (aO u9 u6.heap.size 0 [.int .i64 x.now, .int .i64 x.events, .int .i64 x.chain.af, .slice a3q x.chain.ids.length c3q, .slice none 0 0, .slice a5q x.msgs.length c5q, .slice none 0 0]).heap.size) (by omega) (by omega)
    exact ⟨_, u6.heap.size, _, _, rfl, rfl, hbx, C3, C5, by omega, zq⟩
  case oe11_9 =>
   have HG : Hid (aj 0 #[.int .i64 0, .int .i64 0, .int .i64 0, .slice none 0 0, .slice none 0 0, .slice none 0 0, .slice none 0 0] 37 (wD.alloc (.cells #[.int .i64 0, .int .i64 0, .int .i64 0, .slice none 0 0, .slice none 0 0, .slice none 0 0, .slice none 0 0] 37)) wD.heap.size) := aH (Nat.zero_le _)
   have hza : wD.heap.size < (wD.alloc (.cells #[.int .i64 0, .int .i64 0, .int .i64 0, .slice none 0 0, .slice none 0 0, .slice none 0 0, .slice none 0 0] 37)).heap.size := by simp
   have nba : Below wD.heap.size wD (wD.alloc (.cells #[.int .i64 0, .int .i64 0, .int .i64 0, .slice none 0 0, .slice none 0 0, .slice none 0 0, .slice none 0 0] 37)) := (Below.refl _ _).alloc (Nat.le_refl _) _
   go_simp
   refine hK.out _ _ (zq.alloc zq.size _) (fun zq => ?_)
   clear hK K
   try simp only [Act.put, pz, py, px]
   refine rdH 6 (fun K hK => ?_)
   go_simp
   go_at_call 170
   refine (lr _ x.chain _ ((uh HRC).ag zq) (uh HN3)).mono ?_
   rintro e u6 ⟨a3q, c3q, rfl, O3, hb6⟩
   have hz6 : (wD.alloc (.cells #[.int .i64 0, .int .i64 0, .int .i64 0, .slice none 0 0, .slice none 0 0, .slice none 0 0, .slice none 0 0] 37)).heap.size ≤ u6.heap.size := hb6.size
   have HG6 := yh ((uh HG).au hb6)
   clear HG
   have HG := HG6
   clear HG6
   try go_wp2_with fail
   refine hK.out _ _ (zq.trans (hb6.mono zq.size)) (fun zq => ?_)
   clear hK K
   try simp only [Act.put, pz, py, px]
   refine rdH 9 (fun K hK => ?_)
   go_simp
   go_at_call 171
   refine (m1 _ x.msgs _ ((uh HRM).ag zq) (uh HN5).1 (uh HN5).2).mono ?_
   rintro e u9 ⟨v5, rfl, ⟨rows, bls, G9, hs9⟩, hb9⟩
   have hz9 : u6.heap.size ≤ u9.heap.size := hb9.size
   obtain ⟨a5q, c5q, rfl⟩ := ec G9.own
   have O5 := G9.ft (by have := (uh HN5).1; omega) hs9
   have HG9 := yh ((uh HG).au hb9)
   clear HG
   have HG := HG9
   clear HG9
   replace O3 := O3.ag hb9
   try go_wp2_with fail
   refine hK.out _ _ (zq.trans (hb9.mono zq.size)) (fun zq => ?_)
   clear hK K
   try simp only [Act.put, pz, py, px]
   refine tkH 10 zq ?_
   refine rdH 12 (fun K hK => ?_)
   have hzD := zq.size
   have r0 := aj.at (uh HG) 0 _ rfl
   have r1 := aj.at (uh HG) 1 _ rfl
   have r2 := aj.at (uh HG) 2 _ rfl
   have r3 := aj.at (uh HG) 3 _ rfl
   have r4 := aj.at (uh HG) 4 _ rfl
   have r5 := aj.at (uh HG) 5 _ rfl
   have r6 := aj.at (uh HG) 6 _ rfl
   simp only [ga, gb, gc] at r0 r1 r2 r3 r4 r5 r6
   have rf := aj.soft (uh HG)
   have rl := (uh HG).lt
   go_simp
   refine hK.out _ _ (Below.setCell (Below.setCell (Below.setCell (Below.setCell (Below.setCell (Below.setCell (Below.setCell zq (p := ⟨wD.heap.size, 0, none⟩) (by simp only []; omega) (.int .i64 x.now)) (p := ⟨wD.heap.size, 1, none⟩) (by simp only []; omega) (.int .i64 x.events)) (p := ⟨wD.heap.size, 2, none⟩) (by simp only []; omega) (.int .i64 x.chain.af)) (p := ⟨wD.heap.size, 3, none⟩) (by simp only []; omega) (.slice a3q x.chain.ids.length c3q)) (p := ⟨wD.heap.size, 4, none⟩) (by simp only []; omega) (.slice none 0 0)) (p := ⟨wD.heap.size, 5, none⟩) (by simp only []; omega) (.slice a5q x.msgs.length c5q)) (p := ⟨wD.heap.size, 6, none⟩) (by simp only []; omega) (.slice none 0 0)) (fun zq => ?_)
   clear hK K
   try simp only [Act.put, pz, py, px]
   refine dZ ?_
   go_wp2_with fail
   go_meet
   have hbx := kq (uh HG) (.int .i64 x.now) (.int .i64 x.events) (.int .i64 x.chain.af) (.slice a3q x.chain.ids.length c3q) (.slice none 0 0) (.slice a5q x.msgs.length c5q) (.slice none 0 0)
   have e1 : Ext (fun q => q = wD.heap.size) u9 (aO u9 wD.heap.size 0 [.int .i64 x.now, .int .i64 x.events, .int .i64 x.chain.af, .slice a3q x.chain.ids.length c3q, .slice none 0 0, .slice a5q x.msgs.length c5q, .slice none 0 0]) := bD _ (Ext.refl _ _) _ _ _ rfl
   have hss : (aO u9 wD.heap.size 0 [.int .i64 x.now, .int .i64 x.events, .int .i64 x.chain.af, .slice a3q x.chain.ids.length c3q, .slice none 0 0, .slice a5q x.msgs.length c5q, .slice none 0 0]).heap.size = u9.heap.size := bF _ _ _ _
   have C3 := ((eP (g := wD.heap.size) O3.bp (by omega)).ext e1 (fun k h1 h2 h3 h4 => h3 h4)).wide (lo' := W0.heap.size) (hi' := (aO u9 wD.heap.size 0 [.int .i64 x.now, .int .i64 x.events, .int .i64 x.chain.af, .slice a3q x.chain.ids.length c3q, .slice none 0 0, .slice a5q x.msgs.length c5q, .slice none 0 0]).heap.size) (by omega) (by omega)
   have C5 := ((eP (g := wD.heap.size) O5 (by omega)).ext e1 (fun k h1 h2 h3 h4 => h3 h4)).wide (lo' := W0.heap.size) (hi' := (aO u9 wD.heap.size 0 [.int .i64 x.now, .int .i64 x.events, .int .i64 x.chain.af, .slice a3q x.chain.ids.length c3q, .slice none 0 0, .slice a5q x.msgs.length c5q, .slice none 0 0]).heap.size) (by omega) (by omega)
   exact ⟨_, wD.heap.size, _, _, rfl, rfl, hbx, C3, C5, by omega, zq⟩
 case rest =>
  obtain ⟨W1, g, v3, v5, hW, rfl, hg, hC3, hC5, hgl, hB1⟩ := hcut
  subst hW
  obtain ⟨a3q, c3q, rfl⟩ := aE hC3.reads
  obtain ⟨a5q, c5q, rfl⟩ := aE hC5.reads
  have HC3 := yh hC3
  have HC5 := yh hC5
  have HG1 := yh hg
  have HB1 := yh hB1
  have hgB := hg.lt
  have hz1 := hB1.size
  clear hC3 hC5 hg hB1 HRC HRM HN3 HN5
  go_wp2_with fail
  go_loopw [4] (fun i wr => ∃ (k : Nat) (an : Option Addr) (mn cn : Nat) (rows : List (List Value)) (bls : List (List Nat)), k ≤ x.nodes.length ∧ i = .int .i64 (k : Int) ∧ aj 0 #[.int .i64 x.now, .int .i64 x.events, .int .i64 x.chain.af, .slice a3q x.chain.ids.length c3q, .slice an mn cn, .slice a5q x.msgs.length c5q, .slice none 0 0] 37 wr g ∧ bN ab.ax wr W1.heap.size 79 (.slice an mn cn) rows (x.nodes.take k) bls ∧ (∀ c ∈ bls.flatten, W1.heap.size ≤ c) ∧ Ext (fun q => q = g ∨ W1.heap.size ≤ q) W1 wr) (fun i _ => x.nodes.length - (intOf i).toNat)
  case atStart => exact ⟨0, none, 0, 0, [], [], Nat.zero_le _, rfl, uh HG1, bN.nil (World.ownsRow_nil _ _ _ _), by simp, Ext.refl _ _⟩
  case round =>
   obtain ⟨k, an, mn, cn, rows, bls, hk, rfl, hN, hG, hS, hE⟩ := hrel
   have hBr : Below W0.heap.size W0 wr := (uh HB1).trans (hE.below hz1 (fun k hk q => by rcases q with q | q <;> omega))
   have hx := eM (uh HX) hBr (by omega)
   have z4 := aj.at (uh HX) 4 _ rfl
   have y4 := aj.at hx 4 _ rfl
   have y5 := aj.at hx 5 _ rfl
   simp only [ga, gb, gc] at z4 y4 y5
   have hxl := (uh HX).lt
   have hxr := hx.lt
   have hnb := (uh HRN).dK
   by_cases hlt : k < x.nodes.length
   ·
    obtain ⟨row, hcl, hr⟩ := ab.bm (uh HRN) hlt
    have hn := cD ((uh HOK).nodes k hlt).1
    have HL : Hid (∀ V, Below W0.heap.size W0 V → Calls Tryz.prog 172 #[.agg row.toArray] V fun e w' => ∃ a6 d6 rows bls, e = .returned (.agg #[.int .i64 x.nodes[k].id, .bool x.nodes[k].up, .int .i64 x.nodes[k].af, .int .i64 x.nodes[k].az, .slice a6 x.nodes[k].writes.length d6, .int .i64 x.nodes[k].sure, .int .i64 x.nodes[k].clean]) ∧ bN ab.ai w' V.heap.size 142 (.slice a6 x.nodes[k].writes.length d6) rows x.nodes[k].writes bls ∧ (∀ c ∈ bls.flatten, V.heap.size ≤ c) ∧ Below V.heap.size V w') := fun V hV => se _ x.nodes[k] V (hr.ag hV) (by have := hn.len; omega) (ni hn)
    have HW6 : Hid (x.nodes[k].writes.length ≤ 40 ∧ wfM x.nodes[k]) := by
     obtain ⟨_, hq⟩ := hr
     obtain ⟨_, _, _, -, -, q0, q1, q2, -, q3, q4⟩ := dd.1 hq
     exact ⟨hn.len, q0, q1, q2, q3, q4⟩
    obtain ⟨aw, dw, rfl, -⟩ := bK hr
    have x0 : W0.cell? ⟨b, off + k * 7, none⟩ = some (.int .i64 (x.nodes[k]).id) := hcl 0 (by decide)
    have x1 : W0.cell? ⟨b, off + k * 7 + 1, none⟩ = some (.bool (x.nodes[k]).up) := hcl 1 (by decide)
    have x2 : W0.cell? ⟨b, off + k * 7 + 2, none⟩ = some (.int .i64 (x.nodes[k]).af) := hcl 2 (by decide)
    have x3 : W0.cell? ⟨b, off + k * 7 + 3, none⟩ = some (.int .i64 (x.nodes[k]).az) := hcl 3 (by decide)
    have x4 : W0.cell? ⟨b, off + k * 7 + 4, none⟩ = some (.slice aw (x.nodes[k]).writes.length dw) := hcl 4 (by decide)
    have x5 : W0.cell? ⟨b, off + k * 7 + 5, none⟩ = some (.int .i64 (x.nodes[k]).sure) := hcl 5 (by decide)
    have x6 : W0.cell? ⟨b, off + k * 7 + 6, none⟩ = some (.int .i64 (x.nodes[k]).clean) := hcl 6 (by decide)
    have HT : Hid (x.nodes.take (k + 1) = x.nodes.take k ++ [x.nodes[k]]) := List.take_succ_eq_append_getElem hlt
    have HLn : Hid ((x.nodes.take k).length = k) := by show (x.nodes.take k).length = k; rw [List.length_take]; omega
    have hki : (k : Int) < (x.nodes.length : Int) := by omega
    have hdl : decide ((k : Int) < (x.nodes.length : Int)) = true := by simpa using hki
    have HBr := yh hBr
    have HS := yh hS
    have hND := hN.drew
    have hGD : bN ab.ax wr.drew W1.heap.size 79 (.slice an mn cn) rows (x.nodes.take k) bls := hG.ag (cL (Below.refl _ _) 1)
    have hED : Ext (fun q => q = g ∨ W1.heap.size ≤ q) W1 wr.drew := hE.drew 1
    have hzD : W1.heap.size ≤ wr.drew.heap.size := hE.size
    clear hcl hr hn hx y5 hBr hS hN hG hE HG1 HC3 HC5 HX HY HRE HF HB
    generalize hnn : x.nodes[k] = n at *
    clear hnn
    generalize hxs : x.nodes.take k = xs at *
    clear hxs
    go_upto_region 5 with fail
    clear y4
    refine wZz (fun w' => Below W0.heap.size W0 w') ((uh HBr).drew) (fun zq => ?_)
    generalize wr.drew = wD at zq hND hGD hED hzD ⊢
    refine tkH 0 zq ?_
    refine tkH 2 zq ?_
    refine tkJ 3 (v := ?vn3_3) ?hn3_3 zq ?rn3_3
    case hn3_3 =>
     intro wS hSw
     have q4 := cZ hSw hxl z4
     clear hSw
     exact fZ
    refine tkH 4 zq ?_
    refine tkH 5 zq ?_
    refine tkJ 6 (v := ?vn6_6) ?hn6_6 zq ?rn6_6
    case hn6_6 =>
     intro wS hSw
     have q0 := cZ hSw hbl0 x0
     have q1 := cZ hSw hbl0 x1
     have q2 := cZ hSw hbl0 x2
     have q3 := cZ hSw hbl0 x3
     have q4 := cZ hSw hbl0 x4
     have q5 := cZ hSw hbl0 x5
     have q6 := cZ hSw hbl0 x6
     clear hSw
     exact fZ
    refine wpAnyH_ready (rs := [1, 7]) (by kernel_rfl) (by simp) ?_
    refine AllReadyH.cons (o := qw) rfl (fun K hK => ?on1_7) (AllReadyH.cons (o := ⟨some 32, .call { callee := .value (.func 172), args := #[.tmp 31], argTypes := #[79] }, 79, "l12_world.go:83", #[⟨6, .data⟩], none⟩) rfl (fun K hK => ?on7_7) (AllReadyH.nil))
    case on1_7 =>
     have u4 := aj.at hND 4 _ rfl
     simp only [ga, gb, gc] at u4
     go_simp
     try go_wp2_with fail
     refine hK.out _ _ zq (fun zq => ?_)
     clear hK K
     try simp only [Act.put, pz, py, px]
     refine rdH 7 (fun K hK => ?_)
     go_simp
     go_at_call 172
     refine (uh HL _ zq).mono ?_
     rintro e u7 ⟨aq, dq, rws, bw, rfl, Gw, hsw, hb7⟩
     have hN7 := hND.au hb7
     have hG7 := hGD.ag hb7
     have hE7 := hED.trans (aL hb7 _)
     have hz7 := hb7.size
     have hH7 := zq.trans (hb7.mono zq.size)
     obtain ⟨blw, hlw, hbw⟩ := Gw.ft (by have := (uh HW6).1; omega) hsw
     have hoff : ∀ c ∈ blw, (Value.slice an mn cn).ownBlock ≠ some c := fun c hc e => by
      have h1 := (hbw c hc).1
      have h2 := (hGD.own.lt c e).2
      omega
     clear Gw hsw
     try go_wp2_with fail
     refine hK.out _ _ hH7 (fun zq => ?_)
     clear hK K
     try simp only [Act.put, pz, py, px]
     refine rdH 8 (fun K hK => ?_)
     have nb8 : Below u7.heap.size u7 (u7.alloc (.cells #[.int .i64 n.id, .bool n.up, .int .i64 n.af, .int .i64 n.az, .slice aq n.writes.length dq, .int .i64 n.sure, .int .i64 n.clean] 79)) := (Below.refl _ _).alloc (Nat.le_refl _) _
     have hN8 := hN7.au nb8
     go_simp
     try go_wp2_with fail
     refine hK.out _ _ (zq.alloc zq.size _) (fun zq => ?_)
     clear hK K
     try simp only [Act.put, pz, py, px]
     refine rdH 9 (fun K hK => ?_)
     refine dJ hG7 (dd.2 ⟨aq, dq, blw, rfl, rfl, (uh HW6).2.1, (uh HW6).2.2.1, (uh HW6).2.2.2.1, hlw, (uh HW6).2.2.2.2.1, (uh HW6).2.2.2.2.2⟩) hoff rfl _ _ rfl rfl rfl (by have := uh HLn; have := (uh HOK).some; omega) (by omega) ?_
     intro gq cap u9 hG9 hb9 hE9 hg9 hz9 hor9
     have hN9 := hN7.ext hE9 (fun e => by have := (hG7.own.lt g e).1; omega)
     have u9c := aj.at hN9 4 _ rfl
     simp only [ga, gb, gc] at u9c
     have uf := aj.soft hN9
     have ul := aj.lt hN9
     refine hK.out _ _ (hH7.trans (hb9.mono (by omega))) (fun zq => ?_)
     clear hK K
     try simp only [Act.put, pz, py, px]
     refine tkH 10 zq ?_
     refine rdH 11 (fun K hK => ?_)
     go_simp
     try go_wp2_with fail
     refine hK.out _ _ (Below.setCell zq (p := ⟨g, 4, none⟩) (by simp only []; omega) _) (fun zq => ?_)
     clear hK K
     try simp only [Act.put, pz, py, px]
     refine dZ ?_
     have e10 : Ext (fun q => q = g) u9 (u9.setCell ⟨g, 4, none⟩ (.slice (some ⟨gq, 0, none⟩) (xs.length + 1) cap)) := (Ext.refl (fun q => q = g) _).setCell ⟨g, 4, none⟩ _ rfl
     have hlow : ∀ c ∈ (bls ++ [blw]).flatten, W1.heap.size ≤ c := by
      intro c hc
      rw [List.flatten_append] at hc
      rcases List.mem_append.1 hc with hc | hc
      ·
       exact uh HS c hc
      have := (hbw c (by simpa using hc)).1; omega
     have hN10 := aj.set hN9 4 (.slice (some ⟨gq, 0, none⟩) (xs.length + 1) cap)
     simp only [List.setIfInBounds_toArray, List.set_cons_zero, List.set_cons_succ] at hN10
     have hown9 : ∀ q, (Value.slice (some ⟨gq, 0, none⟩) (xs.length + 1) cap).ownBlock = some q → ¬ q = g := fun q hq e => by
      have := (hG9.own.lt q hq).1
      omega
     have hG10 := eu hG9 e10 (fun c hc e => by have := hlow c hc; omega) hown9
     have hE10 := (hE7.trans (hE9.mono fun k _ h => Or.inr (by have := (hG7.own.lt k h).1; omega))).trans (e10.mono fun k _ h => Or.inl h)
     have HN10 := yh hN10
     have HG10 := yh hG10
     have HE10 := yh hE10
     have HLOW := yh hlow
     clear zq hND hGD hED hN7 hN8 hG7 hE7 hH7 hoff hlw hbw hG9 hb9 hE9 hN9 e10 hlow hN10 hown9 hG10 hE10 hor9 u4 u9c uf ul nb8 hb7
     go_wp2_with fail
     go_roundw
     case rel => exact ⟨k + 1, _, _, _, _, _, by omega, by go_num, uh HN10, by rw [uh HT]; exact uh HG10, uh HLOW, uh HE10⟩
     case measure => simp [intOf]; omega
    case on7_7 =>
     go_simp
     go_at_call 172
     refine (uh HL _ zq).mono ?_
     rintro e u7 ⟨aq, dq, rws, bw, rfl, Gw, hsw, hb7⟩
     have hN7 := hND.au hb7
     have hG7 := hGD.ag hb7
     have hE7 := hED.trans (aL hb7 _)
     have hz7 := hb7.size
     have hH7 := zq.trans (hb7.mono zq.size)
     obtain ⟨blw, hlw, hbw⟩ := Gw.ft (by have := (uh HW6).1; omega) hsw
     have hoff : ∀ c ∈ blw, (Value.slice an mn cn).ownBlock ≠ some c := fun c hc e => by
      have h1 := (hbw c hc).1
      have h2 := (hGD.own.lt c e).2
      omega
     clear Gw hsw
     try go_wp2_with fail
     refine hK.out _ _ hH7 (fun zq => ?_)
     clear hK K
     try simp only [Act.put, pz, py, px]
     refine wpAnyH_ready (rs := [1, 8]) (by kernel_rfl) (by simp) ?_
     refine AllReadyH.cons (o := qw) rfl (fun K hK => ?on1_9) (AllReadyH.cons (o := ⟨some 33, .buildSlice 33 1 #[(0, .tmp 32)], 33, "l12_world.go:83", #[⟨7, .data⟩], none⟩) rfl (fun K hK => ?on8_9) (AllReadyH.nil))
     case on1_9 =>
      have u4 := aj.at hN7 4 _ rfl
      simp only [ga, gb, gc] at u4
      go_simp
      try go_wp2_with fail
      refine hK.out _ _ zq (fun zq => ?_)
      clear hK K
      try simp only [Act.put, pz, py, px]
      refine rdH 8 (fun K hK => ?_)
      have nb8 : Below u7.heap.size u7 (u7.alloc (.cells #[.int .i64 n.id, .bool n.up, .int .i64 n.af, .int .i64 n.az, .slice aq n.writes.length dq, .int .i64 n.sure, .int .i64 n.clean] 79)) := (Below.refl _ _).alloc (Nat.le_refl _) _
      have hN8 := hN7.au nb8
      go_simp
      try go_wp2_with fail
      refine hK.out _ _ (zq.alloc zq.size _) (fun zq => ?_)
      clear hK K
      try simp only [Act.put, pz, py, px]
      refine rdH 9 (fun K hK => ?_)
      refine dJ hG7 (dd.2 ⟨aq, dq, blw, rfl, rfl, (uh HW6).2.1, (uh HW6).2.2.1, (uh HW6).2.2.2.1, hlw, (uh HW6).2.2.2.2.1, (uh HW6).2.2.2.2.2⟩) hoff rfl _ _ rfl rfl rfl (by have := uh HLn; have := (uh HOK).some; omega) (by omega) ?_
      intro gq cap u9 hG9 hb9 hE9 hg9 hz9 hor9
      have hN9 := hN7.ext hE9 (fun e => by have := (hG7.own.lt g e).1; omega)
      have u9c := aj.at hN9 4 _ rfl
      simp only [ga, gb, gc] at u9c
      have uf := aj.soft hN9
      have ul := aj.lt hN9
      refine hK.out _ _ (hH7.trans (hb9.mono (by omega))) (fun zq => ?_)
      clear hK K
      try simp only [Act.put, pz, py, px]
      refine tkH 10 zq ?_
      refine rdH 11 (fun K hK => ?_)
      go_simp
      try go_wp2_with fail
      refine hK.out _ _ (Below.setCell zq (p := ⟨g, 4, none⟩) (by simp only []; omega) _) (fun zq => ?_)
      clear hK K
      try simp only [Act.put, pz, py, px]
      refine dZ ?_
      have e10 : Ext (fun q => q = g) u9 (u9.setCell ⟨g, 4, none⟩ (.slice (some ⟨gq, 0, none⟩) (xs.length + 1) cap)) := (Ext.refl (fun q => q = g) _).setCell ⟨g, 4, none⟩ _ rfl
      have hlow : ∀ c ∈ (bls ++ [blw]).flatten, W1.heap.size ≤ c := by
       intro c hc
       rw [List.flatten_append] at hc
       rcases List.mem_append.1 hc with hc | hc
       ·
        exact uh HS c hc
       have := (hbw c (by simpa using hc)).1; omega
      have hN10 := aj.set hN9 4 (.slice (some ⟨gq, 0, none⟩) (xs.length + 1) cap)
      simp only [List.setIfInBounds_toArray, List.set_cons_zero, List.set_cons_succ] at hN10
      have hown9 : ∀ q, (Value.slice (some ⟨gq, 0, none⟩) (xs.length + 1) cap).ownBlock = some q → ¬ q = g := fun q hq e => by
       have := (hG9.own.lt q hq).1
       omega
      have hG10 := eu hG9 e10 (fun c hc e => by have := hlow c hc; omega) hown9
      have hE10 := (hE7.trans (hE9.mono fun k _ h => Or.inr (by have := (hG7.own.lt k h).1; omega))).trans (e10.mono fun k _ h => Or.inl h)
      have HN10 := yh hN10
      have HG10 := yh hG10
      have HE10 := yh hE10
      have HLOW := yh hlow
      clear zq hND hGD hED hN7 hN8 hG7 hE7 hH7 hoff hlw hbw hG9 hb9 hE9 hN9 e10 hlow hN10 hown9 hG10 hE10 hor9 u4 u9c uf ul nb8 hb7
      go_wp2_with fail
      go_roundw
      case rel => exact ⟨k + 1, _, _, _, _, _, by omega, by go_num, uh HN10, by rw [uh HT]; exact uh HG10, uh HLOW, uh HE10⟩
      case measure => simp [intOf]; omega
     case on8_9 =>
      have nb8 : Below u7.heap.size u7 (u7.alloc (.cells #[.int .i64 n.id, .bool n.up, .int .i64 n.af, .int .i64 n.az, .slice aq n.writes.length dq, .int .i64 n.sure, .int .i64 n.clean] 79)) := (Below.refl _ _).alloc (Nat.le_refl _) _
      have hN8 := hN7.au nb8
      go_simp
      try go_wp2_with fail
      refine hK.out _ _ (zq.alloc zq.size _) (fun zq => ?_)
      clear hK K
      try simp only [Act.put, pz, py, px]
      refine rdH 1 (fun K hK => ?_)
      have u4 := aj.at hN8 4 _ rfl
      simp only [ga, gb, gc] at u4
      go_simp
      try go_wp2_with fail
      refine hK.out _ _ zq (fun zq => ?_)
      clear hK K
      try simp only [Act.put, pz, py, px]
      refine rdH 9 (fun K hK => ?_)
      refine dJ hG7 (dd.2 ⟨aq, dq, blw, rfl, rfl, (uh HW6).2.1, (uh HW6).2.2.1, (uh HW6).2.2.2.1, hlw, (uh HW6).2.2.2.2.1, (uh HW6).2.2.2.2.2⟩) hoff rfl _ _ rfl rfl rfl (by have := uh HLn; have := (uh HOK).some; omega) (by omega) ?_
      intro gq cap u9 hG9 hb9 hE9 hg9 hz9 hor9
      have hN9 := hN7.ext hE9 (fun e => by have := (hG7.own.lt g e).1; omega)
      have u9c := aj.at hN9 4 _ rfl
      simp only [ga, gb, gc] at u9c
      have uf := aj.soft hN9
      have ul := aj.lt hN9
      refine hK.out _ _ (hH7.trans (hb9.mono (by omega))) (fun zq => ?_)
      clear hK K
      try simp only [Act.put, pz, py, px]
      refine tkH 10 zq ?_
      refine rdH 11 (fun K hK => ?_)
      go_simp
      try go_wp2_with fail
      refine hK.out _ _ (Below.setCell zq (p := ⟨g, 4, none⟩) (by simp only []; omega) _) (fun zq => ?_)
      clear hK K
      try simp only [Act.put, pz, py, px]
      refine dZ ?_
      have e10 : Ext (fun q => q = g) u9 (u9.setCell ⟨g, 4, none⟩ (.slice (some ⟨gq, 0, none⟩) (xs.length + 1) cap)) := (Ext.refl (fun q => q = g) _).setCell ⟨g, 4, none⟩ _ rfl
      have hlow : ∀ c ∈ (bls ++ [blw]).flatten, W1.heap.size ≤ c := by
       intro c hc
       rw [List.flatten_append] at hc
       rcases List.mem_append.1 hc with hc | hc
       ·
        exact uh HS c hc
       have := (hbw c (by simpa using hc)).1; omega
      have hN10 := aj.set hN9 4 (.slice (some ⟨gq, 0, none⟩) (xs.length + 1) cap)
      simp only [List.setIfInBounds_toArray, List.set_cons_zero, List.set_cons_succ] at hN10
      have hown9 : ∀ q, (Value.slice (some ⟨gq, 0, none⟩) (xs.length + 1) cap).ownBlock = some q → ¬ q = g := fun q hq e => by
       have := (hG9.own.lt q hq).1
       omega
      have hG10 := eu hG9 e10 (fun c hc e => by have := hlow c hc; omega) hown9
      have hE10 := (hE7.trans (hE9.mono fun k _ h => Or.inr (by have := (hG7.own.lt k h).1; omega))).trans (e10.mono fun k _ h => Or.inl h)
      have HN10 := yh hN10
      have HG10 := yh hG10
      have HE10 := yh hE10
      have HLOW := yh hlow
      clear zq hND hGD hED hN7 hN8 hG7 hE7 hH7 hoff hlw hbw hG9 hb9 hE9 hN9 e10 hlow hN10 hown9 hG10 hE10 hor9 u4 u9c uf ul nb8 hb7
      go_wp2_with fail
      go_roundw
      case rel => exact ⟨k + 1, _, _, _, _, _, by omega, by go_num, uh HN10, by rw [uh HT]; exact uh HG10, uh HLOW, uh HE10⟩
      case measure => simp [intOf]; omega
   obtain rfl : k = x.nodes.length := by omega
   have hdl : decide ((x.nodes.length : Int) < (x.nodes.length : Int)) = false := by simp
   rw [List.take_length] at hG
   have hnp := (uh HOK).some
   rcases hG.form with ⟨-, h0⟩ | ⟨g4, c4, hv, hg4, hg4l, hcap4⟩
   ·
    exact absurd h0 (by intro q; rw [q] at hnp; simp at hnp)
   simp only [Value.slice.injEq] at hv
   obtain ⟨rfl, rfl, rfl⟩ := hv
   have hA : ab.ax.eW wr (.slice (some ⟨g4, 0, none⟩) x.nodes.length cn) x.nodes g4 bls.flatten := by
    rcases hG.reads (by omega) with q | ⟨q, -⟩
    ·
     have q2 : (ab.sl ab.ax).bp wr [.slice (some ⟨g4, 0, none⟩) x.nodes.length cn] x.nodes (if x.nodes = [] then [] else g4 :: bls.flatten) := q
     rw [if_neg (by intro q; rw [q] at hnp; simp at hnp)] at q2
     exact ⟨q2, fun hm => hG.off g4 hm rfl, fun o => hG.own.frozenAt o⟩
    exact absurd q (by intro q; rw [q] at hnp; simp at hnp)
   have hlt4 := hG.sub_lt
   have HA := yh hA
   have HS4 : Hid (∀ c ∈ bls.flatten, W1.heap.size ≤ c ∧ c < wr.heap.size) := fun c hc => ⟨hS c hc, hlt4 c hc⟩
   have HE4 := yh hE
   have HN4 := yh hN
   have HBr := yh hBr
   rename World => W2
   clear hA hlt4 hG hS hE hN hBr hx z4 hcap4 HG1
   generalize hbf : bls.flatten = r4 at *
   clear hbf rows
   have hz2 := (uh HE4).size
   have hB2 := (uh HN4).lt
   go_wp2_with fail
   clear y4 y5 hdl
   go_loopw [5] (fun i wr => ∃ (k : Nat) (an : Option Addr) (mn cn6 : Nat) (rows : List (List Value)) (bls : List (List Nat)), k ≤ x.ae.length ∧ i = .int .i64 (k : Int) ∧ aj 0 #[.int .i64 x.now, .int .i64 x.events, .int .i64 x.chain.af, .slice a3q x.chain.ids.length c3q, .slice (some ⟨g4, 0, none⟩) x.nodes.length cn, .slice a5q x.msgs.length c5q, .slice an mn cn6] 37 wr g ∧ bN ab.ar wr W2.heap.size 85 (.slice an mn cn6) rows (x.ae.take k) bls ∧ (∀ c ∈ bls.flatten, W2.heap.size ≤ c) ∧ Ext (fun q => q = g ∨ W2.heap.size ≤ q) W2 wr) (fun i _ => x.ae.length - (intOf i).toNat)
   case atStart => exact ⟨0, none, 0, 0, [], [], Nat.zero_le _, rfl, uh HN4, bN.nil (World.ownsRow_nil _ _ _ _), by simp, Ext.refl _ _⟩
   case round =>
    obtain ⟨k, an, mn, cn6, rows, bls, hk, rfl, hN, hG, hS, hE⟩ := hrel
    have hBr2 : Below W0.heap.size W0 wr := (uh HBr).trans (hE.below (by omega) (fun k hk q => by rcases q with q | q <;> omega))
    have hx := eM (uh HX) hBr2 (by omega)
    have y6 := aj.at hx 6 _ rfl
    simp only [ga, gb, gc] at y6
    have hxr := hx.lt
    have hhb := (uh HRE).dK
    by_cases hlt : k < x.ae.length
    ·
     obtain ⟨be, oe, rfl, hbe⟩ := ab.aI (uh HRE) (by omega)
     obtain ⟨row, hcl, hr⟩ := ab.bm ((uh HRE).ag hBr2) hlt
     have HFE := yh (uh HF x.ae[k] (List.getElem_mem hlt))
     have HWE : Hid (wfE x.ae[k]) := by
      obtain ⟨_, hq⟩ := hr
      obtain ⟨_, _, _, _, _, _, _, _, _, -, -, q0, q1, q2, q3, -, q5, q6, q7, q8, -, -⟩ := cO.1 hq
      exact ⟨q0, q1, q2, q3, q5, q6, q7, q8⟩
     obtain ⟨aq, dq, av, dv, ah, dh, rfl, Rq, Rv, Rh⟩ := bB hr
     have x0 : wr.cell? ⟨be, oe + k * 11, none⟩ = some (.int .i64 (x.ae[k]).kind) := hcl 0 (by decide)
     have x1 : wr.cell? ⟨be, oe + k * 11 + 1, none⟩ = some (.int .i64 (x.ae[k]).aa) := hcl 1 (by decide)
     have x2 : wr.cell? ⟨be, oe + k * 11 + 2, none⟩ = some (.int .i64 (x.ae[k]).seq) := hcl 2 (by decide)
     have x3 : wr.cell? ⟨be, oe + k * 11 + 3, none⟩ = some (.int .i64 (x.ae[k]).id) := hcl 3 (by decide)
     have x4 : wr.cell? ⟨be, oe + k * 11 + 4, none⟩ = some (.slice aq (x.ae[k]).query.length dq) := hcl 4 (by decide)
     have x5 : wr.cell? ⟨be, oe + k * 11 + 5, none⟩ = some (.int .i64 (x.ae[k]).k) := hcl 5 (by decide)
     have x6 : wr.cell? ⟨be, oe + k * 11 + 6, none⟩ = some (.int .i64 (x.ae[k]).start) := hcl 6 (by decide)
     have x7 : wr.cell? ⟨be, oe + k * 11 + 7, none⟩ = some (.int .i64 (x.ae[k]).fin) := hcl 7 (by decide)
     have x8 : wr.cell? ⟨be, oe + k * 11 + 8, none⟩ = some (.int .i64 (x.ae[k]).place) := hcl 8 (by decide)
     have x9 : wr.cell? ⟨be, oe + k * 11 + 9, none⟩ = some (.slice av (x.ae[k]).vec.length dv) := hcl 9 (by decide)
     have x10 : wr.cell? ⟨be, oe + k * 11 + 10, none⟩ = some (.slice ah (x.ae[k]).aN.length dh) := hcl 10 (by decide)
     have HT : Hid (x.ae.take (k + 1) = x.ae.take k ++ [x.ae[k]]) := List.take_succ_eq_append_getElem hlt
     have HLn : Hid ((x.ae.take k).length = k) := by show (x.ae.take k).length = k; rw [List.length_take]; omega
     have hki : (k : Int) < (x.ae.length : Int) := by omega
     have hdl : decide ((k : Int) < (x.ae.length : Int)) = true := by simpa using hki
     have hbr : be < wr.heap.size := Nat.lt_of_lt_of_le hbe hBr2.size
     have HRQ := yh Rq
     have HRV := yh Rv
     have HRH := yh Rh
     have HS := yh hS
     have HN := yh hN
     have HG := yh hG
     have HE := yh hE
     have hzr := hE.size
     have HZ : Hid (W2.heap.size ≤ wr.heap.size ∧ g < W2.heap.size) := ⟨hE.size, hB2⟩
     clear hcl hr hx hBr2 hS hN hG hE HC3 HC5 HX HY HF HB HA HS4 HE4 HN4 HBr HB1 HRN Rq Rv Rh
     generalize hnn : x.ae[k] = e at *
     clear hnn
     generalize hxs : x.ae.take k = xs at *
     clear hxs
     have nb9 : Below wr.heap.size wr (wr.alloc (.cells #[.int .i64 e.kind, .int .i64 e.aa, .int .i64 e.seq, .int .i64 e.id, .slice aq e.query.length dq, .int .i64 e.k, .int .i64 e.start, .int .i64 e.fin, .int .i64 e.place, .slice av e.vec.length dv, .slice ah e.aN.length dh] 85)) := (Below.refl _ _).alloc (Nat.le_refl _) _
     have hI9 : aj 0 #[.int .i64 e.kind, .int .i64 e.aa, .int .i64 e.seq, .int .i64 e.id, .slice aq e.query.length dq, .int .i64 e.k, .int .i64 e.start, .int .i64 e.fin, .int .i64 e.place, .slice av e.vec.length dv, .slice ah e.aN.length dh] 85 (wr.alloc (.cells #[.int .i64 e.kind, .int .i64 e.aa, .int .i64 e.seq, .int .i64 e.id, .slice aq e.query.length dq, .int .i64 e.k, .int .i64 e.start, .int .i64 e.fin, .int .i64 e.place, .slice av e.vec.length dv, .slice ah e.aN.length dh] 85)) wr.heap.size := aH (Nat.zero_le _)
     have hz9 : (wr.alloc (.cells #[.int .i64 e.kind, .int .i64 e.aa, .int .i64 e.seq, .int .i64 e.id, .slice aq e.query.length dq, .int .i64 e.k, .int .i64 e.start, .int .i64 e.fin, .int .i64 e.place, .slice av e.vec.length dv, .slice ah e.aN.length dh] 85)).heap.size = wr.heap.size + 1 := by simp
     have HI9 := yh hI9
     have HB9 := yh nb9
     clear nb9 hI9
     go_upto_region 10 with fail
     generalize wr.alloc (.cells #[.int .i64 e.kind, .int .i64 e.aa, .int .i64 e.seq, .int .i64 e.id, .slice aq e.query.length dq, .int .i64 e.k, .int .i64 e.start, .int .i64 e.fin, .int .i64 e.place, .slice av e.vec.length dv, .slice ah e.aN.length dh] 85) = w9 at *
     clear x0 x1 x2 x3 x4 x5 x6 x7 x8 x9 x10 y6
     have HL := yh (jr _ e.query w9 (ab.bn ((uh HRQ).ag (uh HB9))) (by have := (uh HFE).1; omega))
     have HWQ := yh (ab.bn (uh HRQ)).wf
     have k4 := aj.at (uh HI9) 4 _ rfl
     simp only [ga, gb, gc] at k4
     have kl := (uh HI9).lt
     go_wp2_with fail
     refine (uh HL).mono ?_
     rintro ee w10 ⟨vq, rfl, Oq, hb10⟩
     obtain ⟨aq2, dq2, rfl⟩ := ec Oq
     have Iq := ab.ez (uh HWQ) (by have := (uh HFE).1; omega) Oq
     have hI10 := (uh HI9).au hb10
     clear k4
     have k4 := aj.at hI10 4 _ rfl
     have kf := aj.soft hI10
     simp only [ga, gb, gc] at k4
     have e10 : Ext (fun q => q = wr.heap.size) w10 (w10.setCell ⟨wr.heap.size, 4, none⟩ (.slice aq2 e.query.length dq2)) := (Ext.refl _ _).setCell _ _ rfl
     have hI10s := aj.set hI10 4 (.slice aq2 e.query.length dq2)
     simp only [List.setIfInBounds_toArray, List.set_cons_zero, List.set_cons_succ] at hI10s
     have hz10 := hb10.size
     have HIQ := yh ((Iq.bp.mono (show wr.heap.size + 1 ≤ w9.heap.size by omega) (Nat.le_refl _)).ext e10 (fun q h1 h2 h3 => by omega))
     have HI10 := yh hI10s
     have HB10 := yh ((Below.setCell ((uh HB9).trans (hb10.mono (uh HB9).size)) (p := ⟨wr.heap.size, 4, none⟩) (Nat.le_refl _) (.slice aq2 e.query.length dq2)))
     have hz10s : w10.heap.size = (w10.setCell ⟨wr.heap.size, 4, none⟩ (.slice aq2 e.query.length dq2)).heap.size := by simp
     have kl10 := hI10.lt
     clear hI10 hI10s e10 Oq Iq hb10 HL HI9 HB9 HWQ HRQ
     go_upto_region 11 with fail
     clear k4 kf kl
     generalize hw11 : w10.setCell ⟨wr.heap.size, 4, none⟩ (.slice aq2 e.query.length dq2) = w11 at *
     clear hw11
     have HL := yh (jr _ e.vec w11 (ab.bn ((uh HRV).ag (uh HB10))) (by have := (uh HFE).2.1; omega))
     have HWQ := yh (ab.bn (uh HRV)).wf
     have k4 := aj.at (uh HI10) 9 _ rfl
     simp only [ga, gb, gc] at k4
     have kl := (uh HI10).lt
     go_wp2_with fail
     refine (uh HL).mono ?_
     rintro ee w14 ⟨vq, rfl, Oq, hb14⟩
     obtain ⟨av2, dv2, rfl⟩ := ec Oq
     have Iq := ab.ez (uh HWQ) (by have := (uh HFE).2.1; omega) Oq
     have hI14 := (uh HI10).au hb14
     clear k4
     have k4 := aj.at hI14 9 _ rfl
     have kf := aj.soft hI14
     simp only [ga, gb, gc] at k4
     have e14 : Ext (fun q => q = wr.heap.size) w14 (w14.setCell ⟨wr.heap.size, 9, none⟩ (.slice av2 e.vec.length dv2)) := (Ext.refl _ _).setCell _ _ rfl
     have hI14s := aj.set hI14 9 (.slice av2 e.vec.length dv2)
     simp only [List.setIfInBounds_toArray, List.set_cons_zero, List.set_cons_succ] at hI14s
     have hz14 := hb14.size
     have HIV := yh ((Iq.bp.mono (show wr.heap.size + 1 ≤ w11.heap.size by omega) (Nat.le_refl _)).ext e14 (fun q h1 h2 h3 => by omega))
     have HIQ2 := yh (((uh HIQ).mono (Nat.le_refl _) (show w10.heap.size ≤ w11.heap.size by omega)).ag hb14 |>.ext e14 (fun q h1 h2 h3 => by omega))
     have HI14 := yh hI14s
     have HB14 := yh ((Below.setCell ((uh HB10).trans (hb14.mono (uh HB10).size)) (p := ⟨wr.heap.size, 9, none⟩) (Nat.le_refl _) (.slice av2 e.vec.length dv2)))
     have hz14s : w14.heap.size = (w14.setCell ⟨wr.heap.size, 9, none⟩ (.slice av2 e.vec.length dv2)).heap.size := by simp
     clear hI14 hI14s e14 Oq Iq hb14 HL HI10 HB10 HWQ HRV HIQ
     go_upto_region 12 with fail
     clear k4 kf kl
     generalize hw15 : w14.setCell ⟨wr.heap.size, 9, none⟩ (.slice av2 e.vec.length dv2) = w15 at *
     clear hw15
     have nbh : Below w15.heap.size w15 (w15.alloc (.cells #[] 150)) := (Below.refl _ _).alloc (Nat.le_refl _) _
     have hGH : bN ab.bb (w15.alloc (.cells #[] 150)) w15.heap.size 150 (.slice (some ⟨w15.heap.size, 0, none⟩) 0 0) [] [] [] := bN.nil (World.ownsRow_lit w15 #[] 0 (Nat.le_refl _) (Nat.zero_le _) rfl)
     have hXH : (ab.sl ab.bb).cd (w15.alloc (.cells #[] 150)) [.slice ah e.aN.length dh] e.aN 0 w15.heap.size := (((uh HRH).cX.mono (Nat.le_refl _) (show wr.heap.size ≤ w15.heap.size by omega)).ag (uh HB14)).ag nbh
     have hI15 := (uh HI14).au nbh
     have HI15 := yh hI15
     have k4 := aj.at hI15 10 _ rfl
     have k5 := aj.at (uh HI14) 10 _ rfl
     simp only [ga, gb, gc] at k4 k5
     have kl := hI15.lt
     have hzh : (w15.alloc (.cells #[] 150)).heap.size = w15.heap.size + 1 := by simp
     clear hI15
     go_wp2_with (at_builtin; refine dY hGH hXH rfl _ _ rfl rfl rfl ?hh1 ?hh2 ?_)
     case hh1 => have := (uh HFE).2.2; simp only [List.length_nil]; omega
     case hh2 => omega
     intro ah2 mh2 dh2 w16 rh bh hG16 hb16 hm16 hz16
     have hm16' : mh2 = e.aN.length := hm16.trans (by simp)
     subst hm16'
     clear hm16
     have hI16 := eM (uh HI15) hb16 (by omega)
     clear k4 k5 kl
     have k4 := aj.at hI16 10 _ rfl
     have kf := aj.soft hI16
     have kl := hI16.lt
     simp only [ga, gb, gc] at k4
     have e16 : Ext (fun q => q = wr.heap.size) w16 (w16.setCell ⟨wr.heap.size, 10, none⟩ (.slice ah2 e.aN.length dh2)) := (Ext.refl _ _).setCell _ _ rfl
     have hI16s := aj.set hI16 10 (.slice ah2 e.aN.length dh2)
     simp only [List.setIfInBounds_toArray, List.set_cons_zero, List.set_cons_succ] at hI16s
     have hbt : bh.flatten = [] := by
      rw [List.flatten_eq_nil_iff]
      intro l hl
      obtain ⟨j, hj, rfl⟩ := List.getElem_of_mem hl
      have q1 := hG16.fh
      have q2 := hG16.dT
      exact (cB.1 (hG16.bp j (by omega) (by omega) hj)).2.1
     have HIH := yh ((((hG16.ft (by have := (uh HFE).2.2; omega) (fun c hc => by rw [hbt] at hc; cases hc)).mono (show wr.heap.size + 1 ≤ w15.heap.size by omega) (Nat.le_refl _))).ext e16 (fun q h1 h2 h3 => by omega))
     have HIV3 := yh ((gg (((uh HIV).mono (Nat.le_refl _) (show w14.heap.size ≤ w15.heap.size by omega)).ag nbh) hb16 (Nat.le_refl _)).ext e16 (fun q h1 h2 h3 => by omega))
     have HIQ3 := yh ((gg (((uh HIQ2).mono (Nat.le_refl _) (show w11.heap.size ≤ w15.heap.size by omega)).ag nbh) hb16 (Nat.le_refl _)).ext e16 (fun q h1 h2 h3 => by omega))
     have HB16 := yh (Below.setCell (((uh HB14).trans (nbh.mono (by omega))).trans (hb16.mono (by omega))) (p := ⟨wr.heap.size, 10, none⟩) (Nat.le_refl _) (.slice ah2 e.aN.length dh2))
     have hz16s : w16.heap.size = (w16.setCell ⟨wr.heap.size, 10, none⟩ (.slice ah2 e.aN.length dh2)).heap.size := by simp
     have HI16 := yh hI16s
     clear hI16 hI16s e16 hbt hG16 hb16 hGH hXH nbh HI15 HI14 HB14 HIV HIQ2 HRH
     go_upto_region 13 with fail
     clear k4 kf kl
     generalize hw12 : w16.setCell ⟨wr.heap.size, 10, none⟩ (.slice ah2 e.aN.length dh2) = w12 at *
     clear hw12
     obtain ⟨lq, lq1, lq2⟩ := uh HIQ3
     obtain ⟨lv, lv1, lv2⟩ := uh HIV3
     obtain ⟨lh, lh1, lh2⟩ := uh HIH
     have hLE : ab.ar.bp w12 [.int .i64 e.kind, .int .i64 e.aa, .int .i64 e.seq, .int .i64 e.id, .slice aq2 e.query.length dq2, .int .i64 e.k, .int .i64 e.start, .int .i64 e.fin, .int .i64 e.place, .slice av2 e.vec.length dv2, .slice ah2 e.aN.length dh2] e (lq ++ (lv ++ lh)) := by
      obtain ⟨q0, q1, q2, q3, q5, q6, q7, q8⟩ := uh HWE
      exact cO.2 ⟨aq2, dq2, lq, av2, dv2, lv, ah2, dh2, lh, rfl, rfl, q0, q1, q2, q3, lq1, q5, q6, q7, q8, lv1, lh1⟩
     have HBL0 : Hid (∀ c ∈ lq ++ (lv ++ lh), wr.heap.size ≤ c) := fun c hc => by
      simp only [List.mem_append] at hc
      rcases hc with hc | hc | hc
      ·
       have := lq2 c hc; omega
      ·
       have := lv2 c hc; omega
      have := lh2 c hc; omega
     clear lq1 lq2 lv1 lv2 lh1 lh2 HIQ3 HIV3 HIH
     generalize lq ++ (lv ++ lh) = ble at *
     have HBL : Hid (∀ c ∈ ble, W2.heap.size ≤ c) := fun c hc => Nat.le_trans (uh HZ).1 (uh HBL0 c hc)
     have hoff : ∀ c ∈ ble, (Value.slice an mn cn6).ownBlock ≠ some c := fun c hc q => by
      have h1 := uh HBL0 c hc
      have h2 := ((uh HG).own.lt c q).2
      omega
     have HLE := yh hLE
     have hND : aj 0 #[.int .i64 x.now, .int .i64 x.events, .int .i64 x.chain.af, .slice a3q x.chain.ids.length c3q, .slice (some ⟨g4, 0, none⟩) x.nodes.length cn, .slice a5q x.msgs.length c5q, .slice an mn cn6] 37 w12 g := (uh HN).au (uh HB16)
     have hGD : bN ab.ar w12 W2.heap.size 85 (.slice an mn cn6) rows xs bls := (uh HG).ag (uh HB16)
     have hED : Ext (fun q => q = g ∨ W2.heap.size ≤ q) W2 w12 := (uh HE).trans (aL (uh HB16) _)
     have hzD : w16.heap.size ≤ w12.heap.size := by omega
     have HGE : Hid (g < wr.heap.size ∧ (∀ k, (Value.slice an mn cn6).ownBlock = some k → k < wr.heap.size) ∧ g < W2.heap.size) := ⟨by omega, fun k hk => ((uh HG).own.lt k hk).2, hB2⟩
     have y0 := aj.at (uh HI16) 0 _ rfl
     have y1 := aj.at (uh HI16) 1 _ rfl
     have y2 := aj.at (uh HI16) 2 _ rfl
     have y3 := aj.at (uh HI16) 3 _ rfl
     have y4 := aj.at (uh HI16) 4 _ rfl
     have y5 := aj.at (uh HI16) 5 _ rfl
     have y6 := aj.at (uh HI16) 6 _ rfl
     have y7 := aj.at (uh HI16) 7 _ rfl
     have y8 := aj.at (uh HI16) 8 _ rfl
     have y9 := aj.at (uh HI16) 9 _ rfl
     have y10 := aj.at (uh HI16) 10 _ rfl
     simp only [ga, gb, gc] at y0 y1 y2 y3 y4 y5 y6 y7 y8 y9 y10
     have hel : wr.heap.size < w12.heap.size := (uh HI16).lt
     clear hLE HI16 HN HG HE HB16 HFE HWE
     have u4 := aj.at hND 6 _ rfl
     simp only [ga, gb, gc] at u4
     have ul0 := aj.lt hND
     go_wp2_with (at_builtin; refine fI hGD (uh HLE) hoff rfl _ _ rfl rfl rfl ?hq3 ?hq4 ?_)
     case hq3 => have := uh HLn; have := (uh HOK).few; omega
     case hq4 => omega
     intro gq cap u9 hG9 hb9 hE9 hg9 hz9 hor9
     have hN9 := hND.ext hE9 (fun e => by have := (hGD.own.lt g e).1; omega)
     have u9c := aj.at hN9 6 _ rfl
     simp only [ga, gb, gc] at u9c
     have uf := aj.soft hN9
     have ul := aj.lt hN9
     have e10 : Ext (fun q => q = g) u9 (u9.setCell ⟨g, 6, none⟩ (.slice (some ⟨gq, 0, none⟩) (xs.length + 1) cap)) := (Ext.refl (fun q => q = g) _).setCell ⟨g, 6, none⟩ _ rfl
     have hlow : ∀ c ∈ (bls ++ [ble]).flatten, W2.heap.size ≤ c := by
      intro c hc
      rw [List.flatten_append] at hc
      rcases List.mem_append.1 hc with hc | hc
      ·
       exact uh HS c hc
      exact uh HBL c (by simpa using hc)
     have hN10 := aj.set hN9 6 (.slice (some ⟨gq, 0, none⟩) (xs.length + 1) cap)
     simp only [List.setIfInBounds_toArray, List.set_cons_zero, List.set_cons_succ] at hN10
     have hown9 : ∀ q, (Value.slice (some ⟨gq, 0, none⟩) (xs.length + 1) cap).ownBlock = some q → ¬ q = g := fun q hq e => by
      have := (hG9.own.lt q hq).1
      have := uh HGE
      omega
     have hG10 := eu hG9 e10 (fun c hc e => by have := hlow c hc; have := uh HGE; omega) hown9
     have hE10 := (hED.trans (hE9.mono fun k _ h => Or.inr (by have := (hGD.own.lt k h).1; omega))).trans (e10.mono fun k _ h => Or.inl h)
     have HN10 := yh hN10
     have HG10 := yh hG10
     have HE10 := yh hE10
     have HLOW := yh hlow
     clear hND hGD hED hoff hG9 hb9 hE9 hN9 e10 hlow hN10 hown9 hG10 hE10 hor9 u4
     go_wp2_with fail
     go_roundw
     case rel => exact ⟨k + 1, _, _, _, _, _, by omega, by go_num, uh HN10, by rw [uh HT]; exact uh HG10, uh HLOW, uh HE10⟩
     case measure => simp [intOf]; omega
    obtain rfl : k = x.ae.length := by omega
    have hdl : decide ((x.ae.length : Int) < (x.ae.length : Int)) = false := by simp
    rw [List.take_length] at hG
    have hy := ((eM ((eM ((eM (uh HY) (uh HB1) (by omega))) ((uh HE4).below (B := W0.heap.size) hz1 (fun k hk q => by rcases q with q | q <;> omega)) (by omega))) (hE.below (B := W0.heap.size) (by omega) (fun k hk q => by rcases q with q | q <;> omega)) (by omega)))
    obtain ⟨l3, i3, j3⟩ := (((uh HC3).ext (uh HE4) (fun k h1 h2 h3 q => by rcases q with q | q <;> omega)).wide (Nat.le_refl _) (show W1.heap.size ≤ W1.heap.size from Nat.le_refl _)).ext hE (fun k h1 h2 h3 q => by rcases q with q | q <;> omega)
    obtain ⟨l5, i5, j5⟩ := (((uh HC5).ext (uh HE4) (fun k h1 h2 h3 q => by rcases q with q | q <;> omega)).wide (Nat.le_refl _) (show W1.heap.size ≤ W1.heap.size from Nat.le_refl _)).ext hE (fun k h1 h2 h3 q => by rcases q with q | q <;> omega)
    obtain ⟨l6, i6, j6⟩ := hG.ft (by omega) hS
    have hm6 : mn = x.ae.length := by
     obtain ⟨_, _, q, -⟩ := i6
     simp only [List.cons.injEq, Value.slice.injEq, and_true] at q
     exact q.2.1
    subst hm6
    have hA2 := (uh HA).ext hE (fun q => by rcases q with q | q <;> omega) (fun c hc q => by have := uh HS4 c hc; rcases q with q | q <;> omega)
    have hWL : kx wr ⟨a3q, c3q, g4, 0, cn, a5q, c5q, an, cn6, l3, r4, l5, l6⟩ x := ⟨(uh HWF).1, (uh HWF).2.1, (uh HWF).2.2, i3, hA2, i5, i6, fun hc => by have := j3 g4 hc; omega, fun hc => by have := j5 g4 hc; omega, fun hc => by have := j6 g4 hc; omega⟩
    have hzr := hE.size
    have hlt6 := hG.sub_lt
    have hWN : dA wr W0.heap.size wr.heap.size [.int .i64 x.now, .int .i64 x.events, .int .i64 x.chain.af, .slice a3q x.chain.ids.length c3q, .slice (some ⟨g4, 0, none⟩) x.nodes.length cn, .slice a5q x.msgs.length c5q, .slice an x.ae.length cn6] x := ⟨_, W2.heap.size, rows, bls, rfl, hWL, by simp only []; omega, fun c hc => by have := j3 c hc; omega, fun c hc => by have := uh HS4 c hc; omega, fun c hc => by have := j5 c hc; omega, fun c hc => by have := j6 c hc; omega, by omega, hG, fun c hc => ⟨hS c hc, hlt6 c hc⟩, fun g' hg' => hG.own.lt g' hg'⟩
    have e9 : Ext (fun q => q = w.heap.size + 1) wr (aO wr (w.heap.size + 1) 0 [.int .i64 x.now, .int .i64 x.events, .int .i64 x.chain.af, .slice a3q x.chain.ids.length c3q, .slice (some ⟨g4, 0, none⟩) x.nodes.length cn, .slice a5q x.msgs.length c5q, .slice an x.ae.length cn6]) := bD _ (Ext.refl _ _) _ _ _ rfl
    have HWN := yh ((hWN.ext e9 (fun k h1 h2 h3 => by omega)).mono (show w.heap.size ≤ W0.heap.size by omega) (Nat.le_of_eq (bF wr (w.heap.size + 1) 0 [.int .i64 x.now, .int .i64 x.events, .int .i64 x.chain.af, .slice a3q x.chain.ids.length c3q, .slice (some ⟨g4, 0, none⟩) x.nodes.length cn, .slice a5q x.msgs.length c5q, .slice an x.ae.length cn6]).symm))
    have HB9 := yh (aP ((uh HB).trans (hBr2.mono (uh HB).size)) (w.heap.size + 1) 0 [.int .i64 x.now, .int .i64 x.events, .int .i64 x.chain.af, .slice a3q x.chain.ids.length c3q, .slice (some ⟨g4, 0, none⟩) x.nodes.length cn, .slice a5q x.msgs.length c5q, .slice an x.ae.length cn6] (by omega))
    have o0 := aj.at hN 0 _ rfl
    have p0 := aj.at hy 0 _ rfl
    have o1 := aj.at hN 1 _ rfl
    have p1 := aj.at hy 1 _ rfl
    have o2 := aj.at hN 2 _ rfl
    have p2 := aj.at hy 2 _ rfl
    have o3 := aj.at hN 3 _ rfl
    have p3 := aj.at hy 3 _ rfl
    have o4 := aj.at hN 4 _ rfl
    have p4 := aj.at hy 4 _ rfl
    have o5 := aj.at hN 5 _ rfl
    have p5 := aj.at hy 5 _ rfl
    have o6 := aj.at hN 6 _ rfl
    have p6 := aj.at hy 6 _ rfl
    simp only [ga, gb, gc] at o0 p0 o1 p1 o2 p2 o3 p3 o4 p4 o5 p5 o6 p6
    have hol := hN.lt
    have hyl := hy.lt
    have hyf := aj.soft hy
    clear hlt6 hWN hWL hA2 i3 i5 i6 j3 j5 j6 hG hS hE hN hx hBr2 hy e9 HC3 HC5 HA HS4 HE4 HN4 HBr HB1 HX HY HB HRN HRE HF
    go_wp2_with fail
    refine bodyPost_ret (v := .agg #[.int .i64 x.now, .int .i64 x.events, .int .i64 x.chain.af, .slice a3q x.chain.ids.length c3q, .slice (some ⟨g4, 0, none⟩) x.nodes.length cn, .slice a5q x.msgs.length c5q, .slice an x.ae.length cn6]) (by simp [results, Tryz.results105, go_sem, p0, p1, p2, p3, p4, p5, p6]) rfl ?_
    exact ⟨_, rfl, uh HWN, uh HB9⟩
end Go.Proofs.YtecagllmonckgaaGreat
