/-
  Texts of this proof in one: OpenWrite, OpenNode, OpenMsg, OpenWorld, SpecTold, CommPlain, StatePlain, FinPlain, SpecEntry, SpecComm, SpecSeen, SpecFinW, WorldEntry, ImplTold, AuditPlain, ImplOver, ImplTail, ImplTailIn, ImplSure, ImplLast, ImplSeenAt, ImplPlace, ImplFinS.
  Their conditions stand in their theorems.
-/
import Derived.Test.YtecagllmonckgaaGreatFi09
import Derived.Test.YtecagllmonckgaaGreatFi01
import Derived.Test.YtecagllmonckgaaGreatFi00
import Derived.Test.YtecagllmonckgaaGreatFi11
import Derived.Test.YtecagllmonckgaaGreatFi05
import Derived.Test.YtecagllmonckgaaGreatChecked
import Derived.Test.YtecagllmonckgaaGreatFi06
import Derived.Deep.CutRange
import Derived.Test.YtecagllmonckgaaGreatFi07
import Derived.Test.YtecagllmonckgaaGreatFi08
import Derived.Deep.RegionHeld3
import Derived.Deep.QuietTactic
import Derived.BigQuiet
import Derived.Test.YtecagllmonckgaaGreatFi04
import Derived.WalkKit
import Derived.Test.YtecagllmonckgaaGreatFi10
set_option maxRecDepth 100000
set_option maxHeartbeats 4000000
namespace Go.Proofs.YtecagllmonckgaaGreat
open Go.RowKit
theorem gT : eX ab.ai 132 := by
 intro H enc W base spare held fuel cs x h
 obtain ⟨xs, n, _, _, hlen, hl, hfi⟩ := DataW.trod_struct Tryz.underlying132 h
 rw [show Tryz.prog.cellsOf 132 = 5 by kernel_rfl] at hlen
 match cs, hlen with
 | [c0, c1, c2, c3, c4], _ =>
 match xs, hl with
 | [y0, y1, y2, y3, y4], _ =>
 have z0 : Tryz.prog.cellsOf 2 = 1 := by kernel_rfl
 have z1 : Tryz.prog.cellsOf 22 = 1 := by kernel_rfl
 have f0 : DataW.trod enc Tryz.prog W base spare held n 2 (([c0, c1, c2, c3, c4].drop 0).take (Tryz.prog.cellsOf 2)) = some y0 := hfi 0 _ rfl
 rw [z0] at f0
 obtain ⟨d0, r0⟩ := (bc Tryz.underlying2) enc W base spare held n _ _ f0
 have f1 : DataW.trod enc Tryz.prog W base spare held n 2 (([c0, c1, c2, c3, c4].drop 1).take (Tryz.prog.cellsOf 2)) = some y1 := hfi 1 _ rfl
 rw [z0] at f1
 obtain ⟨d1, r1⟩ := (bc Tryz.underlying2) enc W base spare held n _ _ f1
 have f2 : DataW.trod enc Tryz.prog W base spare held n 22 (([c0, c1, c2, c3, c4].drop 2).take (Tryz.prog.cellsOf 22)) = some y2 := hfi 2 _ rfl
 rw [z1] at f2
 obtain ⟨d2, r2⟩ := (dE Tryz.underlying22 (by kernel_rfl) (by decide) (bc Tryz.underlying2)) enc W base spare held n _ _ f2
 have f3 : DataW.trod enc Tryz.prog W base spare held n 2 (([c0, c1, c2, c3, c4].drop 3).take (Tryz.prog.cellsOf 2)) = some y3 := hfi 3 _ rfl
 rw [z0] at f3
 obtain ⟨d3, r3⟩ := (bc Tryz.underlying2) enc W base spare held n _ _ f3
 have f4 : DataW.trod enc Tryz.prog W base spare held n 2 (([c0, c1, c2, c3, c4].drop 4).take (Tryz.prog.cellsOf 2)) = some y4 := hfi 4 _ rfl
 rw [z0] at f4
 obtain ⟨d4, r4⟩ := (bc Tryz.underlying2) enc W base spare held n _ _ f4
 exact ⟨⟨d0, d1, d2, d3, d4⟩, (aU r0 (aU r1 (aU r2 (aU r3 r4))))⟩
theorem m9 : eX ab.ax 129 := by
 intro H enc W base spare held fuel cs x h
 obtain ⟨xs, n, _, _, hlen, hl, hfi⟩ := DataW.trod_struct Tryz.underlying129 h
 rw [show Tryz.prog.cellsOf 129 = 7 by kernel_rfl] at hlen
 match cs, hlen with
 | [c0, c1, c2, c3, c4, c5, c6], _ =>
 match xs, hl with
 | [y0, y1, y2, y3, y4, y5, y6], _ =>
 have z0 : Tryz.prog.cellsOf 2 = 1 := by kernel_rfl
 have z1 : Tryz.prog.cellsOf 4 = 1 := by kernel_rfl
 have z2 : Tryz.prog.cellsOf 127 = 1 := by kernel_rfl
 have f0 : DataW.trod enc Tryz.prog W base spare held n 2 (([c0, c1, c2, c3, c4, c5, c6].drop 0).take (Tryz.prog.cellsOf 2)) = some y0 := hfi 0 _ rfl
 rw [z0] at f0
 obtain ⟨d0, r0⟩ := (bc Tryz.underlying2) enc W base spare held n _ _ f0
 have f1 : DataW.trod enc Tryz.prog W base spare held n 4 (([c0, c1, c2, c3, c4, c5, c6].drop 1).take (Tryz.prog.cellsOf 4)) = some y1 := hfi 1 _ rfl
 rw [z1] at f1
 obtain ⟨d1, r1⟩ := (nm Tryz.underlying4) enc W base spare held n _ _ f1
 have f2 : DataW.trod enc Tryz.prog W base spare held n 2 (([c0, c1, c2, c3, c4, c5, c6].drop 2).take (Tryz.prog.cellsOf 2)) = some y2 := hfi 2 _ rfl
 rw [z0] at f2
 obtain ⟨d2, r2⟩ := (bc Tryz.underlying2) enc W base spare held n _ _ f2
 have f3 : DataW.trod enc Tryz.prog W base spare held n 2 (([c0, c1, c2, c3, c4, c5, c6].drop 3).take (Tryz.prog.cellsOf 2)) = some y3 := hfi 3 _ rfl
 rw [z0] at f3
 obtain ⟨d3, r3⟩ := (bc Tryz.underlying2) enc W base spare held n _ _ f3
 have f4 : DataW.trod enc Tryz.prog W base spare held n 127 (([c0, c1, c2, c3, c4, c5, c6].drop 4).take (Tryz.prog.cellsOf 127)) = some y4 := hfi 4 _ rfl
 rw [z2] at f4
 obtain ⟨d4, r4⟩ := (dE Tryz.underlying127 (by kernel_rfl) (by decide) gT) enc W base spare held n _ _ f4
 have f5 : DataW.trod enc Tryz.prog W base spare held n 2 (([c0, c1, c2, c3, c4, c5, c6].drop 5).take (Tryz.prog.cellsOf 2)) = some y5 := hfi 5 _ rfl
 rw [z0] at f5
 obtain ⟨d5, r5⟩ := (bc Tryz.underlying2) enc W base spare held n _ _ f5
 have f6 : DataW.trod enc Tryz.prog W base spare held n 2 (([c0, c1, c2, c3, c4, c5, c6].drop 6).take (Tryz.prog.cellsOf 2)) = some y6 := hfi 6 _ rfl
 rw [z0] at f6
 obtain ⟨d6, r6⟩ := (bc Tryz.underlying2) enc W base spare held n _ _ f6
 exact ⟨⟨d0, d1, d2, d3, d4, d5, d6⟩, (aU r0 (aU r1 (aU r2 (aU r3 (aU r4 (aU r5 r6))))))⟩
theorem ov : eX ab.aJ 134 := by
 intro H enc W base spare held fuel cs x h
 obtain ⟨xs, n, _, _, hlen, hl, hfi⟩ := DataW.trod_struct Tryz.underlying134 h
 rw [show Tryz.prog.cellsOf 134 = 10 by kernel_rfl] at hlen
 match cs, hlen with
 | [c0, c1, c2, c3, c4, c5, c6, c7, c8, c9], _ =>
 match xs, hl with
 | [y0, y1, y2, y3, y4, y5], _ =>
 have z0 : Tryz.prog.cellsOf 2 = 1 := by kernel_rfl
 have z1 : Tryz.prog.cellsOf 132 = 5 := by kernel_rfl
 have f0 : DataW.trod enc Tryz.prog W base spare held n 2 (([c0, c1, c2, c3, c4, c5, c6, c7, c8, c9].drop 0).take (Tryz.prog.cellsOf 2)) = some y0 := hfi 0 _ rfl
 rw [z0] at f0
 obtain ⟨d0, r0⟩ := (bc Tryz.underlying2) enc W base spare held n _ _ f0
 have f1 : DataW.trod enc Tryz.prog W base spare held n 2 (([c0, c1, c2, c3, c4, c5, c6, c7, c8, c9].drop 1).take (Tryz.prog.cellsOf 2)) = some y1 := hfi 1 _ rfl
 rw [z0] at f1
 obtain ⟨d1, r1⟩ := (bc Tryz.underlying2) enc W base spare held n _ _ f1
 have f2 : DataW.trod enc Tryz.prog W base spare held n 2 (([c0, c1, c2, c3, c4, c5, c6, c7, c8, c9].drop 2).take (Tryz.prog.cellsOf 2)) = some y2 := hfi 2 _ rfl
 rw [z0] at f2
 obtain ⟨d2, r2⟩ := (bc Tryz.underlying2) enc W base spare held n _ _ f2
 have f3 : DataW.trod enc Tryz.prog W base spare held n 2 (([c0, c1, c2, c3, c4, c5, c6, c7, c8, c9].drop 3).take (Tryz.prog.cellsOf 2)) = some y3 := hfi 3 _ rfl
 rw [z0] at f3
 obtain ⟨d3, r3⟩ := (bc Tryz.underlying2) enc W base spare held n _ _ f3
 have f4 : DataW.trod enc Tryz.prog W base spare held n 2 (([c0, c1, c2, c3, c4, c5, c6, c7, c8, c9].drop 4).take (Tryz.prog.cellsOf 2)) = some y4 := hfi 4 _ rfl
 rw [z0] at f4
 obtain ⟨d4, r4⟩ := (bc Tryz.underlying2) enc W base spare held n _ _ f4
 have f5 : DataW.trod enc Tryz.prog W base spare held n 132 (([c0, c1, c2, c3, c4, c5, c6, c7, c8, c9].drop 5).take (Tryz.prog.cellsOf 132)) = some y5 := hfi 5 _ rfl
 rw [z1] at f5
 obtain ⟨d5, r5⟩ := (gT) enc W base spare held n _ _ f5
 exact ⟨⟨d0, d1, d2, d3, d4, d5⟩, (aU r0 (aU r1 (aU r2 (aU r3 (aU r4 r5)))))⟩
theorem mx : eX ab.aC 29 := by
 intro H enc W base spare held fuel cs x h
 obtain ⟨xs, n, _, _, hlen, hl, hfi⟩ := DataW.trod_struct Tryz.underlying29 h
 rw [show Tryz.prog.cellsOf 29 = 7 by kernel_rfl] at hlen
 match cs, hlen with
 | [c0, c1, c2, c3, c4, c5, c6], _ =>
 match xs, hl with
 | [y0, y1, y2, y3, y4, y5], _ =>
 have z0 : Tryz.prog.cellsOf 2 = 1 := by kernel_rfl
 have z1 : Tryz.prog.cellsOf 24 = 2 := by kernel_rfl
 have z2 : Tryz.prog.cellsOf 25 = 1 := by kernel_rfl
 have z3 : Tryz.prog.cellsOf 26 = 1 := by kernel_rfl
 have z4 : Tryz.prog.cellsOf 27 = 1 := by kernel_rfl
 have f0 : DataW.trod enc Tryz.prog W base spare held n 2 (([c0, c1, c2, c3, c4, c5, c6].drop 0).take (Tryz.prog.cellsOf 2)) = some y0 := hfi 0 _ rfl
 rw [z0] at f0
 obtain ⟨d0, r0⟩ := (bc Tryz.underlying2) enc W base spare held n _ _ f0
 have f1 : DataW.trod enc Tryz.prog W base spare held n 2 (([c0, c1, c2, c3, c4, c5, c6].drop 1).take (Tryz.prog.cellsOf 2)) = some y1 := hfi 1 _ rfl
 rw [z0] at f1
 obtain ⟨d1, r1⟩ := (bc Tryz.underlying2) enc W base spare held n _ _ f1
 have f2 : DataW.trod enc Tryz.prog W base spare held n 24 (([c0, c1, c2, c3, c4, c5, c6].drop 2).take (Tryz.prog.cellsOf 24)) = some y2 := hfi 2 _ rfl
 rw [z1] at f2
 obtain ⟨d2, r2⟩ := (lT) enc W base spare held n _ _ f2
 have f3 : DataW.trod enc Tryz.prog W base spare held n 25 (([c0, c1, c2, c3, c4, c5, c6].drop 4).take (Tryz.prog.cellsOf 25)) = some y3 := hfi 3 _ rfl
 rw [z2] at f3
 obtain ⟨d3, r3⟩ := (dE Tryz.underlying25 (by kernel_rfl) (by decide) m9) enc W base spare held n _ _ f3
 have f4 : DataW.trod enc Tryz.prog W base spare held n 26 (([c0, c1, c2, c3, c4, c5, c6].drop 5).take (Tryz.prog.cellsOf 26)) = some y4 := hfi 4 _ rfl
 rw [z3] at f4
 obtain ⟨d4, r4⟩ := (dE Tryz.underlying26 (by kernel_rfl) (by decide) ov) enc W base spare held n _ _ f4
 have f5 : DataW.trod enc Tryz.prog W base spare held n 27 (([c0, c1, c2, c3, c4, c5, c6].drop 6).take (Tryz.prog.cellsOf 27)) = some y5 := hfi 5 _ rfl
 rw [z4] at f5
 obtain ⟨d5, r5⟩ := (dE Tryz.underlying27 (by kernel_rfl) (by decide) lg) enc W base spare held n _ _ f5
 exact ⟨⟨d0, d1, d2, d3, d4, d5⟩, (aU r0 (aU r1 (aU r2 (aU r3 (aU r4 r5)))))⟩
theorem pk (a3 : Option Addr) (d3 : Nat) (a4 : Option Addr) (d4 : Nat) (a5 : Option Addr) (d5 : Nat) (a6 : Option Addr) (d6 : Nat) (x : ay) (s q : Int) (xb : Nat) (w : World) (hX : aj 0 #[.int .i64 x.now, .int .i64 x.events, .int .i64 x.chain.af, .slice a3 x.chain.ids.length d3, .slice a4 x.nodes.length d4, .slice a5 x.msgs.length d5, .slice a6 x.ae.length d6] 37 w xb) (h : ab.aC.Reads w [.int .i64 x.now, .int .i64 x.events, .int .i64 x.chain.af, .slice a3 x.chain.ids.length d3, .slice a4 x.nodes.length d4, .slice a5 x.msgs.length d5, .slice a6 x.ae.length d6] x) (hn : x.ae.length ≤ 10000000) :
  Calls Tryz.prog 81 #[.pointer (some ⟨xb, 0, none⟩), .int .i64 s, .int .i64 q] w fun e w' => e = .returned (.int .i64 (dG x.ae s q)) ∧ w' = w := by
 obtain ⟨_, _, _, _, _, _, _, _, hq, -, -, -, RE⟩ := aG h
 simp only [List.cons.injEq, Value.slice.injEq, and_true, true_and] at hq
 obtain ⟨-, -, -, ⟨rfl, rfl⟩⟩ := hq
 have H := yh RE
 have z5 := aj.at hX 6 _ rfl
 simp only [ga, gb, gc] at z5
 have zl := hX.lt
 clear h hX RE
 generalize x.ae = es at *
 go_enter Tryz.func81, Tryz.ntmps81
 go_wp2_with fail
 go_loop [7] (fun i => ∃ k : Nat, k ≤ es.length ∧ i = .int .i64 k ∧ (∀ j (hj : j < es.length), j < k → cH s q es[j] = false)) (fun i => es.length - (intOf i).toNat)
 case atStart => exact ⟨0, Nat.zero_le _, rfl, fun j _ hj => by omega⟩
 case round =>
  obtain ⟨k, hk, rfl, hz⟩ := hrel
  by_cases hlt : k < es.length
  ·
   obtain ⟨b, off, rfl, hbl⟩ := ab.aI (uh H) (by omega)
   obtain ⟨row, hc, hr⟩ := ab.bm (uh H) hlt
   obtain ⟨aq, dq, av, dv, ah, dh, rfl, -, -, -⟩ := bB hr
   have hdl : decide ((k : Int) < (es.length : Int)) = true := by simp; omega
   have hc0 : w.cell? ⟨b, off + k * 11, none⟩ = some (.int .i64 (es[k]).kind) := hc 0 (by decide)
   have hc1 : w.cell? ⟨b, off + k * 11 + 1, none⟩ = some (.int .i64 (es[k]).aa) := hc 1 (by decide)
   have hc2 : w.cell? ⟨b, off + k * 11 + 2, none⟩ = some (.int .i64 (es[k]).seq) := hc 2 (by decide)
   have HAT : Hid (cH s q es[k] = true → dG es s q = (k : Int)) := fun c => mh hlt c (fun j hj hjk => hz j hj hjk)
   have HZ2 : Hid (cH s q es[k] = false → ∀ j (hj : j < es.length), j < k + 1 → cH s q es[j] = false) := fun c j hj hjk => by
    by_cases h2 : j < k
    ·
     exact hz j hj h2
    obtain rfl : j = k := by omega
    exact c
   clear hc hr hz
   generalize hx : es[k] = y at *
   clear hx
   have hwr : IntKind.i64.wrap ((k : Int) + 1) = (k : Int) + 1 := by rw [IntKind.wrap_i64]; omega
   cases h1 : (y.kind == 1)
   ·
    have HZ := yh (uh HZ2 (fT h1))
    clear HAT HZ2
    go_wp2_with fail
    go_round
    case rel => exact ⟨k + 1, by omega, by go_num, uh HZ⟩
    case measure => simp [intOf]; omega
   cases h2 : (y.aa == s)
   ·
    have HZ := yh (uh HZ2 (gf h2))
    clear HAT HZ2
    go_wp2_with fail
    go_round
    case rel => exact ⟨k + 1, by omega, by go_num, uh HZ⟩
    case measure => simp [intOf]; omega
   cases h3 : (y.seq == q)
   ·
    have HZ := yh (uh HZ2 (gk h3))
    clear HAT HZ2
    go_wp2_with fail
    go_round
    case rel => exact ⟨k + 1, by omega, by go_num, uh HZ⟩
    case measure => simp [intOf]; omega
   have HG := yh (uh HAT (je h1 h2 h3))
   clear HAT HZ2
   go_wp2_with fail
   go_ret
   exact ⟨by rw [uh HG]; rfl, rfl⟩
  obtain rfl : k = es.length := by omega
  have hdl : decide ((es.length : Int) < (es.length : Int)) = false := by simp
  have HG : Hid (dG es s q = -1) := iP fun j hj => hz j hj hj
  clear H hz
  go_wp2_with fail
  go_ret
  exact ⟨by rw [uh HG]; rfl, rfl⟩
def dX (x : ay) : Int := x.chain.ids.getD (x.chain.ids.length - 1) 0
structure dM (x : ay) : Prop where
 chain : aM x.chain = 0
 some : 1 ≤ x.nodes.length ∧ x.nodes.length ≤ 5
 nodes : ∀ k (h : k < x.nodes.length), aS x.nodes[k] = 0 ∧ x.nodes[k].id = (k : Int) + 1 ∧ x.nodes[k].af ≤ x.chain.af
 ids : ∀ z ∈ x.chain.ids, cj x z = true
theorem db.mid {x : ay} (h : db x) : dM x := ⟨h.chain, h.some, h.nodes, h.ids⟩
theorem dM.next {x : ay} (h : dM x) : dM (cC x) := ⟨h.chain, h.some, h.nodes, h.ids⟩
theorem tail_at {x : ay} (h : db x) : ∃ (k : Nat) (_ : k < x.nodes.length), dX x = (k : Int) + 1 := by
 have h1 := (cE h.chain).len
 have hlt : x.chain.ids.length - 1 < x.chain.ids.length := by omega
 have e : dX x = x.chain.ids[x.chain.ids.length - 1] := by
  unfold dX
  generalize x.chain.ids.length - 1 = j at *
  simp [List.getD, hlt]
 have h2 := h.ids _ (List.getElem_mem hlt)
 rw [← e] at h2
 exact nY h2
def cW (x : ay) : List aA := (kE x (dX x)).writes.take (kE x (dX x)).sure.toNat
def en (e : aZ) (f p : Int) : aZ := ⟨e.kind, e.aa, e.seq, e.id, e.query, e.k, e.start, f, p, e.vec, e.aN⟩
def lN (y : ay) (k : Nat) (e : aZ) : ay := ⟨y.now, y.events, y.chain, y.nodes, y.msgs, y.ae.set k e⟩
def noEntry : aZ := ⟨0, 0, 0, 0, [], 0, 0, 0, 0, [], []⟩
def cM (y : ay) (s q : Int) : aZ := y.ae.getD (fg y.ae s q) noEntry
def fb (y : ay) (s q : Int) : Int := if dG y.ae s q < 0 then 4 else if (cM y s q).fin ≠ 0 then 6 else if bM (cW y) s q = 0 then 8 else 0
def finished (y : ay) (s q : Int) : ay := lN y (fg y.ae s q) (en (cM y s q) y.events (bM (cW y) s q))
def fs (x : ay) (s q : Int) : a0 :=
 if cr x ≠ 0 then bO (cr x) else if dG x.ae s q < 0 then bO 4 else if (cM x s q).fin ≠ 0 then bO 6 else if bM (cW x) s q = 0 then bO 8 else ⟨0, true, finished (cC x) s q⟩
theorem rm (y : ay) (s q : Int) : -1000000000 ≤ fb y s q ∧ fb y s q ≤ 1000000000 := by
 unfold fb
 split
 ·
  omega
 split
 ·
  omega
 split <;> omega
theorem qT (x : ay) (s q : Int) : cV x (aW x) (fb (cC x) s q) true (finished (cC x) s q) = fs x s q := by
 rw [ky, fs]
 by_cases h : cr x ≠ 0
 ·
  rw [if_pos h, if_pos h]
 rw [if_neg h, if_neg h]
 have e1 : fb (cC x) s q = fb x s q := rfl
 rw [e1, fb]
 by_cases h1 : dG x.ae s q < 0
 ·
  rw [if_pos h1, if_pos h1]; exact if_neg (by decide)
 rw [if_neg h1, if_neg h1]
 by_cases h2 : (cM x s q).fin ≠ 0
 ·
  rw [if_pos h2, if_pos h2]; exact if_neg (by decide)
 rw [if_neg h2, if_neg h2]
 by_cases h3 : bM (cW x) s q = 0
 ·
  rw [if_pos h3, if_pos h3]; exact if_neg (by decide)
 rw [if_neg h3, if_neg h3]; exact if_pos rfl
theorem lL {ws : List aA} {s q : Int} (h : bM ws s q ≠ 0) : ∃ (j : Nat) (hj : j < ws.length), ws[j].aa = s ∧ ws[j].seq = q := by
 refine Classical.byContradiction fun c => h (iQ fun j hj e => c ⟨j, hj, e⟩)
theorem oc {ws : List aA} {s q : Int} (hl : ws.length ≤ 200) (hw : ∀ v ∈ ws, wF v = 0) : (bM ws s q = 0 → (cK ws s q).code ≠ 0) ∧ (bM ws s q ≠ 0 → cK ws s q = ⟨0, ((bM ws s q : Nat) : Int)⟩) := by
 have hf : aY ws = 0 := by
  rw [aY, if_neg (by omega)]
  exact eo ws fun j hj => hw _ (List.getElem_mem hj)
 constructor
 ·
  intro h
  by_cases hs : 1 ≤ s ∧ s ≤ 9
  ·
   rw [cK, if_pos (eJ hf hs)]
   by_cases hq : 1 ≤ q ∧ q ≤ 999
   ·
    rw [if_pos hq, if_pos h]; simp
   rw [if_neg hq]; simp
  rw [cK, gO hf hs, if_neg (by decide)]; simp
 intro h
 obtain ⟨j, hj, h1, h2⟩ := lL h
 obtain ⟨-, hs, hq, -⟩ := ca (hw _ (List.getElem_mem hj))
 rw [h1] at hs
 rw [h2] at hq
 rw [cK, if_pos (eJ hf hs), if_pos hq, if_neg h]
theorem nj {W : World} {lo hi k : Nat} {v3 v4 v5 v6 : Value} {x : ay} (h : dA W lo hi [.int .i64 x.now, .int .i64 x.events, .int .i64 x.chain.af, v3, v4, v5, v6] x) (hk : k < x.ae.length) (hl60 : x.ae.length ≤ 1000000) :
  ∃ (b off cap : Nat) (aq : Option Addr) (dq : Nat) (av : Option Addr) (dv : Nat) (ah : Option Addr) (dh : Nat), v6 = .slice (some ⟨b, off, none⟩) x.ae.length cap ∧ lo ≤ b ∧ b < hi ∧ b < W.heap.size ∧ cQ W W b (off + k * 11) 11 [.int .i64 x.ae[k].kind, .int .i64 x.ae[k].aa, .int .i64 x.ae[k].seq, .int .i64 x.ae[k].id, .slice aq x.ae[k].query.length dq, .int .i64 x.ae[k].k, .int .i64 x.ae[k].start, .int .i64 x.ae[k].fin, .int .i64 x.ae[k].place, .slice av x.ae[k].vec.length dv, .slice ah x.ae[k].aN.length dh] [] ∧
   ∀ (W2 : World) (f p : Int), (Lit.int .i64 f).wf = true → (Lit.int .i64 p).wf = true → cQ W W2 b (off + k * 11) 11 [.int .i64 x.ae[k].kind, .int .i64 x.ae[k].aa, .int .i64 x.ae[k].seq, .int .i64 x.ae[k].id, .slice aq x.ae[k].query.length dq, .int .i64 x.ae[k].k, .int .i64 x.ae[k].start, .int .i64 f, .int .i64 p, .slice av x.ae[k].vec.length dv, .slice ah x.ae[k].aN.length dh] [] → ob W2 lo hi [.int .i64 x.now, .int .i64 x.events, .int .i64 x.chain.af, v3, v4, v5, v6] (lN x k (en x.ae[k] f p)) := by
 obtain ⟨⟨qa3, qd3, qb, qoff, qd4, qa5, qd5, qa6, qd6, ql3, qr, ql5, ql6⟩, H, rows, bls, hq, hl, hb, h3, hr, h5, h6, hH, hG, hB, hO⟩ := h
 dsimp only at hb h3 hr h5 h6 hG hO
 simp only [po.cells, List.cons.injEq, and_true, true_and] at hq
 obtain ⟨rfl, rfl, rfl, rfl⟩ := hq
 have hne : x.ae ≠ [] := fun e => by rw [e] at hk; simp at hk
 rcases hG.form with ⟨-, e0⟩ | ⟨g, cap, ev, hg1, hg2, hg3⟩
 ·
  exact absurd e0 hne
 simp only [Value.slice.injEq, true_and] at ev
 obtain ⟨rfl, rfl⟩ := ev
 have hlie : (ab.sl ab.ar).bp W [.slice (some ⟨g, 0, none⟩) x.ae.length qd6] x.ae (g :: bls.flatten) := by
  rcases hG.reads (by omega) with h1 | ⟨h1, -⟩
  ·
   simpa only [if_neg hne] using h1
  exact absurd h1 hne
 have hgo := hO g rfl
 have hgn : g ∉ bls.flatten := fun hm => hG.off g hm rfl
 have hown := hG.own
 have hA : ab.ar.eW W (.slice (some ⟨g, 0, none⟩) x.ae.length qd6) x.ae g bls.flatten := ⟨hlie, hgn, fun o => hown.frozenAt o⟩
 obtain ⟨row0, hR0, blk0, hl0, hm0⟩ := hA.row hk
 obtain ⟨aq, dq, bq, av, dv, bv, ah, dh, bh, rfl, rfl, w0, w1, w2, w3, lq, w5, w6, w7, w8, lv, lh⟩ := cO.1 hl0
 refine ⟨g, 0, qd6, aq, dq, av, dv, ah, dh, rfl, by omega, hgo.2, hg2, hR0, fun W2 f p hf hp hR2 => ?_⟩
 have hE : Ext (fun c => c = g) W W2 := hR2.ext.mono (fun c _ e => by rcases e with e | e; exact e; cases e)
 have hni : ∀ c, c ∈ bq ++ (bv ++ bh) → c ≠ g := fun c hc e => hgn (e ▸ hm0 c hc)
 have key : ∀ {α : Type} {A : ab α} {v : Value} {xs : List α} {bl : List Nat}, (ab.sl A).bp W [v] xs bl → (∀ c ∈ bl, c ≠ g) → (ab.sl A).bp W2 [v] xs bl := fun hli hn => (ab.sl _).au hli (fun c hc => hE.block c ((ab.sl _).lt hli c hc) (hn c hc))
 have hL2 : ab.ar.bp W2 [.int .i64 x.ae[k].kind, .int .i64 x.ae[k].aa, .int .i64 x.ae[k].seq, .int .i64 x.ae[k].id, .slice aq x.ae[k].query.length dq, .int .i64 x.ae[k].k, .int .i64 x.ae[k].start, .int .i64 f, .int .i64 p, .slice av x.ae[k].vec.length dv, .slice ah x.ae[k].aN.length dh] (en x.ae[k] f p) (bq ++ (bv ++ bh)) := cO.2 ⟨aq, dq, bq, av, dv, bv, ah, dh, bh, rfl, rfl, w0, w1, w2, w3, key lq (fun c hc => hni c (by simp [hc])), w5, w6, hf, hp, key lv (fun c hc => hni c (by simp [hc])), key lh (fun c hc => hni c (by simp [hc]))⟩
 obtain ⟨r', hA', hm', -⟩ := hA.put hk (x' := en x.ae[k] f p) hR2 hL2 (fun hc => hni g hc rfl)
 have hlen : (x.ae.set k (en x.ae[k] f p)).length = x.ae.length := List.length_set
 have hrb : ∀ c ∈ r', H ≤ c ∧ c < hi := fun c hc => by
  rcases hm' c hc with e | e
  ·
   exact hB c e
  exact hB c (hm0 c e)
 refine ⟨⟨qa3, qd3, qb, qoff, qd4, qa5, qd5, some ⟨g, 0, none⟩, qd6, ql3, qr, ql5, g :: r'⟩, by simp [po.cells, lN], ⟨hl.w0, hl.w1, hl.w2, key hl.i3 (fun c hc e => by have := h3 c hc; omega), hl.i4.ext hE (show ¬ qb = g by omega) (fun c hc e => by have := hr c hc; have e2 : c = g := e; omega), key hl.i5 (fun c hc e => by have := h5 c hc; omega), by show (ab.sl ab.ar).bp W2 [.slice (some ⟨g, 0, none⟩) (x.ae.set k (en x.ae[k] f p)).length qd6] _ _; rw [hlen]; exact hA'.1, hl.n3, hl.n5, fun hc => ?_⟩, by show lo ≤ qb ∧ qb < hi; omega, fun c hc => by have := h3 c hc; omega, fun c hc => by have := hr c hc; omega, fun c hc => by have := h5 c hc; omega, fun c hc => ?_⟩
 ·
  have hc' : qb ∈ g :: r' := hc
  rcases List.mem_cons.1 hc' with e | e
  ·
   omega
  have := hrb _ e; omega
 have hc' : c ∈ g :: r' := hc
 rcases List.mem_cons.1 hc' with e | e
 ·
  omega
 have := hrb _ e; omega
theorem pI (a3 : Option Addr) (d3 : Nat) (d4 : Nat) (a5 : Option Addr) (d5 : Nat) (a6 : Option Addr) (d6 : Nat) (b off k : Nat) (x : ay) (xb : Nat) (w : World) (hX : aj 0 #[.int .i64 x.now, .int .i64 x.events, .int .i64 x.chain.af, .slice a3 x.chain.ids.length d3, .slice (some ⟨b, off, none⟩) x.nodes.length d4, .slice a5 x.msgs.length d5, .slice a6 x.ae.length d6] 37 w xb) (h : ab.aC.Reads w [.int .i64 x.now, .int .i64 x.events, .int .i64 x.chain.af, .slice a3 x.chain.ids.length d3, .slice (some ⟨b, off, none⟩) x.nodes.length d4, .slice a5 x.msgs.length d5, .slice a6 x.ae.length d6] x) (hok : db x) (hk : k < x.nodes.length) (ht : dX x = (k : Int) + 1) :
  Calls Tryz.prog 82 #[.pointer (some ⟨xb, 0, none⟩)] w fun e w' => e = .returned (.pointer (some ⟨b, off + k * 7, none⟩)) ∧ Below w.heap.size w w' := by
 obtain ⟨_, _, _, _, _, _, _, _, hq, RC, RN, -, -⟩ := aG h
 simp only [List.cons.injEq, Value.slice.injEq, and_true, true_and] at hq
 obtain ⟨⟨rfl, rfl⟩, ⟨rfl, rfl⟩, -, -, -⟩ := hq
 obtain ⟨_, _, hq, RI⟩ := bP RC
 simp only [List.cons.injEq, Value.slice.injEq, and_true, true_and] at hq
 obtain ⟨rfl, rfl⟩ := hq
 have hl := (cE hok.chain).len
 obtain ⟨n, hn⟩ : ∃ n, x.chain.ids.length = n + 1 := ⟨x.chain.ids.length - 1, by omega⟩
 obtain ⟨bi, oi, rfl, hbi⟩ := ab.aI RI (by omega)
 have hlt : n < x.chain.ids.length := by omega
 have c1 := dO RI hlt
 have hv : x.chain.ids[n] = (k : Int) + 1 := by
  rw [← ht]
  have e : x.chain.ids.length - 1 = n := by omega
  simp [dX, e, List.getD, hlt]
 rw [hv] at c1
 have z3 := aj.at hX 3 _ rfl
 have z4 := aj.at hX 4 _ rfl
 simp only [ga, gb, gc] at z3 z4
 have zl := hX.lt
 have hn5 := hok.some
 have hw1 : IntKind.i64.wrap (k : Int) = (k : Int) := by
  rw [IntKind.wrap_i64]
  omega
 have hw2 : IntKind.i64.wrap (n : Int) = (n : Int) := by
  rw [IntKind.wrap_i64]
  omega
 have hw3 : IntKind.i64.wrap ((n : Int) + 1 - 1) = (n : Int) := by
  rw [IntKind.wrap_i64]
  omega
 have hki : (k : Int) < (x.nodes.length : Int) := by omega
 have hki0 : (0 : Int) ≤ (k : Int) := by omega
 have hni : (n : Int) < ((n + 1 : Nat) : Int) := by omega
 have hni0 : (0 : Int) ≤ (n : Int) := by omega
 have hns : ((n + 1 : Nat) : Int) - 1 = (n : Int) := by omega
 have HB := yh (Below.refl w.heap.size w)
 have HBD : Hid (∀ m, Below w.heap.size w (w.drewN m)) := fun m => cL (Below.refl _ _) m
 rw [hn] at z3
 clear hX h RC RN RI hl hlt hv hok hn5 hn ht
 go_enter Tryz.func82, Tryz.ntmps82
 go_wp2_with fail
 go_quiet (fail)
 go_wp2_with fail
 go_ret
 exact ⟨rfl, uh HBD _⟩
theorem mG (b off cap : Nat) (ws : List aA) (s q : Int) (w : World) (h : (ab.sl ab.ai).Reads w [.slice (some ⟨b, off, none⟩) ws.length cap] ws)  (hn : ws.length ≤ 10000000) :
  Calls Tryz.prog 83 #[.slice (some ⟨b, off, none⟩) ws.length cap, .int .i64 s, .int .i64 q] w fun e w' => e = .returned (.int .i64 (bM ws s q)) ∧ w' = w := by
 have H := yh h
 clear h
 go_enter Tryz.func83, Tryz.ntmps83
 go_wp2_with fail
 go_loop [7] (fun i => ∃ k : Nat, k ≤ ws.length ∧ i = .int .i64 k ∧ (∀ j (hj : j < ws.length), j < k → ¬ (ws[j].aa = s ∧ ws[j].seq = q))) (fun i => ws.length - (intOf i).toNat)
 case atStart => exact ⟨0, Nat.zero_le _, rfl, fun j _ hj => by omega⟩
 case round =>
  obtain ⟨k, hk, rfl, hz⟩ := hrel
  by_cases hlt : k < ws.length
  ·
   obtain ⟨row, hc, hr⟩ := ab.bm (uh H) hlt
   obtain ⟨a2, d2, rfl, R2⟩ := bk hr
   have c3 : w.cell? ⟨b, off + k * 5 + 3, none⟩ = some (.int .i64 (ws[k]).aa) := hc 3 (by decide)
   have c4 : w.cell? ⟨b, off + k * 5 + 4, none⟩ = some (.int .i64 (ws[k]).seq) := hc 4 (by decide)
   have HAT : Hid (ws[k].aa = s ∧ ws[k].seq = q → bM ws s q = k + 1) := fun he => qy hlt hz he
   have HZ2 : Hid (¬ (ws[k].aa = s ∧ ws[k].seq = q) → ∀ j (hj : j < ws.length), j < k + 1 → ¬ (ws[j].aa = s ∧ ws[j].seq = q)) := by
    intro h0 j hj hjk
    by_cases hjk2 : j < k
    ·
     exact hz j hj hjk2
    obtain rfl : j = k := by omega
    exact h0
   clear hc hr R2 hz
   generalize hx : ws[k] = x at *
   clear hx
   have hwr : IntKind.i64.wrap ((k : Int) + 1) = (k : Int) + 1 := by rw [IntKind.wrap_i64]; omega
   by_cases hs : x.aa = s
   ·
    have ds : (x.aa == s) = true := by simpa using hs
    by_cases hq : x.seq = q
    ·
     have dq : (x.seq == q) = true := by simpa using hq
     have HG := yh (uh HAT ⟨hs, hq⟩)
     clear HAT HZ2 hs hq
     go_wp2_with fail
     go_ret
     exact ⟨by rw [uh HG]; simp, rfl⟩
    have dq : (x.seq == q) = false := by simpa using hq
    have HZ := yh (uh HZ2 fun e => hq e.2)
    clear HAT HZ2 hs hq hwr
    go_wp2_with fail
    go_round
    case rel => exact ⟨k + 1, by omega, by go_num, uh HZ⟩
    case measure => simp [intOf]; omega
   have ds : (x.aa == s) = false := by simpa using hs
   have HZ := yh (uh HZ2 fun e => hs e.1)
   clear HAT HZ2 hs hwr
   go_wp2_with fail
   go_round
   case rel => exact ⟨k + 1, by omega, by go_num, uh HZ⟩
   case measure => simp [intOf]; omega
  obtain rfl : k = ws.length := by omega
  have HG : Hid (bM ws s q = 0) := iQ fun j hj => hz j hj hj
  clear H hz
  go_wp2_with fail
  go_ret
  exact ⟨by rw [uh HG]; rfl, rfl⟩
theorem rH (v : Value) (ws : List aA) (s q : Int) (w : World) (h : (ab.sl ab.ai).Reads w [v] ws) (hn : ws.length ≤ 10000000) :
  Calls Tryz.prog 83 #[v, .int .i64 s, .int .i64 q] w fun e w' => e = .returned (.int .i64 (bM ws s q)) ∧ w' = w := by
 obtain ⟨ao, cap, rfl⟩ := aE h
 by_cases hp : 0 < ws.length
 ·
  obtain ⟨b, off, rfl, -⟩ := ab.aI h hp
  exact mG b off cap ws s q w h hn
 obtain rfl : ws = [] := List.eq_nil_of_length_eq_zero (by omega)
 clear h hn hp
 go_enter Tryz.func83, Tryz.ntmps83
 go_wp2_with fail
 refine wp_loop_rounds 1 ?_
 rw [rounds_succ]
 go_wp2_with fail
 go_ret
 exact ⟨rfl, rfl⟩
theorem il (cs : List Value) (x : ay) (s q : Int) (w : World) (h : ab.aC.Reads w cs x) (hf : Fits x) :
  Calls Tryz.prog 25 #[.agg cs.toArray, .int .i64 s, .int .i64 q] w fun e w' => ∃ cs', e = .returned (.agg cs'.toArray) ∧ ab.aB.Reads w' cs' (fs x s q) ∧ Below w.heap.size w w' := by
 have HP : Hid (fs x s q = if cr x ≠ 0 then bO (cr x) else if dG x.ae s q < 0 then bO 4 else if (cM x s q).fin ≠ 0 then bO 6 else if bM (cW x) s q = 0 then bO 8 else ⟨0, true, finished (cC x) s q⟩) := rfl
 obtain ⟨a3, d3, a4, d4, a5, d5, a6, d6, rfl, -, -, -, -⟩ := aG h
 have HBN : Hid (∀ b off, a4 = some ⟨b, off, none⟩ → 0 < x.nodes.length → b < w.heap.size) := fun b off e hp => by
  obtain ⟨_, _, _, _, _, _, _, _, hq, -, RN, -, -⟩ := aG h
  simp only [List.cons.injEq, Value.slice.injEq, and_true, true_and] at hq
  obtain ⟨-, ⟨rfl, rfl⟩, -, -, -⟩ := hq
  obtain ⟨b', off', e', hb⟩ := ab.aI RN hp
  rw [e] at e'
  simp only [Option.some.injEq, Addr.mk.injEq, and_true] at e'
  obtain ⟨rfl, -⟩ := e'
  exact hb
 have nb : Below w.heap.size w ((w.alloc (.cells #[.int .i64 x.now, .int .i64 x.events, .int .i64 x.chain.af, .slice a3 x.chain.ids.length d3, .slice a4 x.nodes.length d4, .slice a5 x.msgs.length d5, .slice a6 x.ae.length d6] 37)).alloc (.cells #[.int .i64 0, .bool false, .int .i64 0, .int .i64 0, .int .i64 0, .slice none 0 0, .slice none 0 0, .slice none 0 0, .slice none 0 0] 53)) := ((Below.refl _ _).alloc (Nat.le_refl _) _).alloc (by simp) _
 have HX : Hid (aj 0 #[.int .i64 x.now, .int .i64 x.events, .int .i64 x.chain.af, .slice a3 x.chain.ids.length d3, .slice a4 x.nodes.length d4, .slice a5 x.msgs.length d5, .slice a6 x.ae.length d6] 37 ((w.alloc (.cells #[.int .i64 x.now, .int .i64 x.events, .int .i64 x.chain.af, .slice a3 x.chain.ids.length d3, .slice a4 x.nodes.length d4, .slice a5 x.msgs.length d5, .slice a6 x.ae.length d6] 37)).alloc (.cells #[.int .i64 0, .bool false, .int .i64 0, .int .i64 0, .int .i64 0, .slice none 0 0, .slice none 0 0, .slice none 0 0, .slice none 0 0] 53)) w.heap.size) := ((aH (Nat.zero_le _)).grow _)
 have HY : Hid (aj 0 #[.int .i64 0, .bool false, .int .i64 0, .int .i64 0, .int .i64 0, .slice none 0 0, .slice none 0 0, .slice none 0 0, .slice none 0 0] 53 ((w.alloc (.cells #[.int .i64 x.now, .int .i64 x.events, .int .i64 x.chain.af, .slice a3 x.chain.ids.length d3, .slice a4 x.nodes.length d4, .slice a5 x.msgs.length d5, .slice a6 x.ae.length d6] 37)).alloc (.cells #[.int .i64 0, .bool false, .int .i64 0, .int .i64 0, .int .i64 0, .slice none 0 0, .slice none 0 0, .slice none 0 0, .slice none 0 0] 53)) (w.heap.size + 1)) := bg (Nat.zero_le _) (by simp)
 have hz0 : ((w.alloc (.cells #[.int .i64 x.now, .int .i64 x.events, .int .i64 x.chain.af, .slice a3 x.chain.ids.length d3, .slice a4 x.nodes.length d4, .slice a5 x.msgs.length d5, .slice a6 x.ae.length d6] 37)).alloc (.cells #[.int .i64 0, .bool false, .int .i64 0, .int .i64 0, .int .i64 0, .slice none 0 0, .slice none 0 0, .slice none 0 0, .slice none 0 0] 53)).heap.size = w.heap.size + 2 := by simp
 have HR := yh (h.ag nb)
 have HB := yh nb
 clear nb
 clear h
 generalize fs x s q = R at *
 go_enter Tryz.func25, Tryz.ntmps25
 go_upto_region 1 with fail
 generalize ((w.alloc (.cells #[.int .i64 x.now, .int .i64 x.events, .int .i64 x.chain.af, .slice a3 x.chain.ids.length d3, .slice a4 x.nodes.length d4, .slice a5 x.msgs.length d5, .slice a6 x.ae.length d6] 37)).alloc (.cells #[.int .i64 0, .bool false, .int .i64 0, .int .i64 0, .int .i64 0, .slice none 0 0, .slice none 0 0, .slice none 0 0, .slice none 0 0] 53)) = W0 at *
 go_wp2_with fail
 refine (oh a3 d3 a4 d4 a5 d5 a6 d6 x w.heap.size W0 (uh HX) (uh HR)).mono ?_
 rintro e wa ⟨rfl, hb⟩
 replace HX := yh ((uh HX).au hb)
 replace HR := yh ((uh HR).ag hb)
 replace HY := yh ((uh HY).au hb)
 replace HB := bZ HB hb
 have hza := hb.size
 clear hb
 by_cases d1 : cr x ≠ 0
 ·
  have hd : (cr x != 0) = true := by simpa using d1
  replace HP := yh ((uh HP).trans (if_pos d1))
  have HC := yh (m7 x)
  clear d1 hf
  generalize cr x = c at *
  go_wp2_with fail
  refine (gn (c) _).mono ?_
  rintro e wB ⟨rfl, hbB⟩
  have hyB := (uh HY).au hbB
  have z0 := aj.at hyB 0 _ rfl
  have z1 := aj.at hyB 1 _ rfl
  have z2 := aj.at hyB 2 _ rfl
  have z3 := aj.at hyB 3 _ rfl
  have z4 := aj.at hyB 4 _ rfl
  have z5 := aj.at hyB 5 _ rfl
  have z6 := aj.at hyB 6 _ rfl
  have z7 := aj.at hyB 7 _ rfl
  have z8 := aj.at hyB 8 _ rfl
  simp only [ga, gb, gc] at z0 z1 z2 z3 z4 z5 z6 z7 z8
  have zf := aj.soft hyB
  have zl := hyB.lt
  have HB9 := yh (aP ((uh HB).trans (hbB.mono (uh HB).size)) (w.heap.size + 1) 0 [.int .i64 c, .bool false, .int .i64 0, .int .i64 0, .int .i64 0, .slice none 0 0, .slice none 0 0, .slice none 0 0, .slice none 0 0] (by omega))
  clear hyB hbB HY HB
  go_wp2_with fail
  refine bodyPost_ret (v := .agg #[.int .i64 c, .bool false, .int .i64 0, .int .i64 0, .int .i64 0, .slice none 0 0, .slice none 0 0, .slice none 0 0, .slice none 0 0]) (by simp [results, Tryz.results25, go_sem, z0, z1, z2, z3, z4, z5, z6, z7, z8]) rfl ?_
  rw [uh HP]
  exact ⟨[.int .i64 c, .bool false, .int .i64 0, .int .i64 0, .int .i64 0, .slice none 0 0, .slice none 0 0, .slice none 0 0, .slice none 0 0], rfl, (ei (uh HC) (lo := 0) (hi := 0) (Nat.le_refl 0)).bp.reads, uh HB9⟩
 replace HP := yh ((uh HP).trans (if_neg d1))
 have hd0 : cr x = 0 := by simpa using d1
 have hok := dm (iT hd0)
 rw [hd0]
 clear d1 hd0
 have HOK := yh hok
 have HLT := yh (pk a3 d3 a4 d4 a5 d5 a6 d6 x s q w.heap.size wa (uh HX) (uh HR) (by have := hok.few; omega))
 obtain ⟨kt, hkt, het⟩ := tail_at hok
 have HTI := yh het
 have hsw : cW x = (x.nodes[kt].writes.take x.nodes[kt].sure.toNat) := by
  rw [cW, het, jW hkt]
 rw [hsw] at HP
 have HSW := yh hsw
 clear hok het hsw
 go_wp2_with fail
 refine (uh HLT).mono ?_
 rintro e wt ⟨rfl, hwt⟩
 subst wt
 clear HLT
 generalize htp : dG x.ae s q = tp at *
 have HTP := yh htp
 clear htp
 by_cases hneg : tp < 0
 ·
  have hd : decide (tp < 0) = true := by simpa using hneg
  replace HP := yh ((uh HP).trans (if_pos hneg))
  have HC : Hid (-1000000000 ≤ (4 : Int) ∧ (4 : Int) ≤ 1000000000) := by show (-1000000000 : Int) ≤ 4 ∧ (4 : Int) ≤ 1000000000; omega
  clear hneg HOK hf
  go_wp2_with fail
  refine (gn (4) _).mono ?_
  rintro e wB ⟨rfl, hbB⟩
  have hyB := (uh HY).au hbB
  have z0 := aj.at hyB 0 _ rfl
  have z1 := aj.at hyB 1 _ rfl
  have z2 := aj.at hyB 2 _ rfl
  have z3 := aj.at hyB 3 _ rfl
  have z4 := aj.at hyB 4 _ rfl
  have z5 := aj.at hyB 5 _ rfl
  have z6 := aj.at hyB 6 _ rfl
  have z7 := aj.at hyB 7 _ rfl
  have z8 := aj.at hyB 8 _ rfl
  simp only [ga, gb, gc] at z0 z1 z2 z3 z4 z5 z6 z7 z8
  have zf := aj.soft hyB
  have zl := hyB.lt
  have HB9 := yh (aP ((uh HB).trans (hbB.mono (uh HB).size)) (w.heap.size + 1) 0 [.int .i64 4, .bool false, .int .i64 0, .int .i64 0, .int .i64 0, .slice none 0 0, .slice none 0 0, .slice none 0 0, .slice none 0 0] (by omega))
  clear hyB hbB HY HB
  go_wp2_with fail
  refine bodyPost_ret (v := .agg #[.int .i64 4, .bool false, .int .i64 0, .int .i64 0, .int .i64 0, .slice none 0 0, .slice none 0 0, .slice none 0 0, .slice none 0 0]) (by simp [results, Tryz.results25, go_sem, z0, z1, z2, z3, z4, z5, z6, z7, z8]) rfl ?_
  rw [uh HP]
  exact ⟨[.int .i64 4, .bool false, .int .i64 0, .int .i64 0, .int .i64 0, .slice none 0 0, .slice none 0 0, .slice none 0 0, .slice none 0 0], rfl, (ei (uh HC) (lo := 0) (hi := 0) (Nat.le_refl 0)).bp.reads, uh HB9⟩
 have hd : decide (tp < 0) = false := by simpa using hneg
 replace HP := yh ((uh HP).trans (if_neg hneg))
 obtain ⟨k, hk, hk1, hk2⟩ := fN (es := x.ae) (s := s) (q := q) (by rw [uh HTP]; omega)
 rw [uh HTP] at hk1
 subst hk1
 have hea : cM x s q = x.ae[k] := by
  rw [cM, hk2]
  simp [List.getD, hk]
 rw [hea] at HP
 have HEA := yh hea
 have HK2 := yh hk2
 clear hea hk2 hneg
 obtain ⟨_, _, _, _, _, _, _, _, hq, -, RN, -, RE⟩ := aG (uh HR)
 simp only [List.cons.injEq, Value.slice.injEq, and_true, true_and] at hq
 obtain ⟨-, ⟨rfl, rfl⟩, -, ⟨rfl, rfl⟩⟩ := hq
 obtain ⟨bh, offh, rfl, hbhl⟩ := ab.aI RE (by omega)
 obtain ⟨b0, off0, rfl, hb0l⟩ := ab.aI RN (by omega)
 obtain ⟨row, hcl, hr⟩ := ab.bm RE hk
 obtain ⟨aq, dq, av, dv, ah, dh, rfl, -, -, -⟩ := bB hr
 have x7 : wa.cell? ⟨bh, offh + k * 11 + 7, none⟩ = some (.int .i64 x.ae[k].fin) := hcl 7 (by decide)
 have z6 := aj.at (uh HX) 6 _ rfl
 simp only [ga, gb, gc] at z6
 have zl := (uh HX).lt
 have hki : (k : Int) < (x.ae.length : Int) := by omega
 have hki0 : (0 : Int) ≤ (k : Int) := by omega
 clear RN RE hcl hr
 by_cases hfin : x.ae[k].fin ≠ 0
 ·
  have hdf : (x.ae[k].fin != 0) = true := by simpa using hfin
  replace HP := yh ((uh HP).trans (if_pos hfin))
  have HC : Hid (-1000000000 ≤ (6 : Int) ∧ (6 : Int) ≤ 1000000000) := by show (-1000000000 : Int) ≤ 6 ∧ (6 : Int) ≤ 1000000000; omega
  clear hfin HOK hf
  go_wp2_with fail
  refine (gn (6) _).mono ?_
  rintro e wB ⟨rfl, hbB⟩
  have hyB := (uh HY).au hbB
  have z0 := aj.at hyB 0 _ rfl
  have z1 := aj.at hyB 1 _ rfl
  have z2 := aj.at hyB 2 _ rfl
  have z3 := aj.at hyB 3 _ rfl
  have z4 := aj.at hyB 4 _ rfl
  have z5 := aj.at hyB 5 _ rfl
  have z6 := aj.at hyB 6 _ rfl
  have z7 := aj.at hyB 7 _ rfl
  have z8 := aj.at hyB 8 _ rfl
  simp only [ga, gb, gc] at z0 z1 z2 z3 z4 z5 z6 z7 z8
  have zf := aj.soft hyB
  have zl := hyB.lt
  have HB9 := yh (aP ((uh HB).trans (hbB.mono (uh HB).size)) (w.heap.size + 1) 0 [.int .i64 6, .bool false, .int .i64 0, .int .i64 0, .int .i64 0, .slice none 0 0, .slice none 0 0, .slice none 0 0, .slice none 0 0] (by omega))
  clear hyB hbB HY HB
  go_wp2_with fail
  refine bodyPost_ret (v := .agg #[.int .i64 6, .bool false, .int .i64 0, .int .i64 0, .int .i64 0, .slice none 0 0, .slice none 0 0, .slice none 0 0, .slice none 0 0]) (by simp [results, Tryz.results25, go_sem, z0, z1, z2, z3, z4, z5, z6, z7, z8]) rfl ?_
  rw [uh HP]
  exact ⟨[.int .i64 6, .bool false, .int .i64 0, .int .i64 0, .int .i64 0, .slice none 0 0, .slice none 0 0, .slice none 0 0, .slice none 0 0], rfl, (ei (uh HC) (lo := 0) (hi := 0) (Nat.le_refl 0)).bp.reads, uh HB9⟩
 have hdf : (x.ae[k].fin != 0) = false := by simpa using hfin
 replace HP := yh ((uh HP).trans (if_neg hfin))
 have HLT := yh (pI a3 d3 d4 a5 d5 (some ⟨bh, offh, none⟩) d6 b0 off0 kt x w.heap.size wa (uh HX) (uh HR) (uh HOK) hkt (uh HTI))
 clear hfin
 go_wp2_with fail
 refine (uh HLT).mono ?_
 rintro e w5 ⟨rfl, hb5⟩
 replace HX := yh ((uh HX).au hb5)
 replace HR := yh ((uh HR).ag hb5)
 replace HY := yh ((uh HY).au hb5)
 replace HB := bZ HB hb5
 have hz5 := hb5.size
 clear hb5 HLT x7 z6 zl hdf hd
 go_upto_region 10 with fail
 have nd : Below w5.heap.size w5 w5.drew := (Below.refl _ _).drew
 replace HX := yh ((uh HX).au nd)
 replace HR := yh ((uh HR).ag nd)
 replace HY := yh ((uh HY).au nd)
 replace HB := bZ HB nd
 have HSZ : Hid (w5.heap.size ≤ w5.drew.heap.size) := nd.size
 obtain ⟨_, _, _, _, _, _, _, _, hq, -, RN, -, -⟩ := aG (uh HR)
 simp only [List.cons.injEq, Value.slice.injEq, and_true, true_and] at hq
 obtain ⟨-, ⟨rfl, rfl⟩, -, -, -⟩ := hq
 obtain ⟨rowt, hclt, hrt⟩ := ab.bm RN hkt
 obtain ⟨an, dn, rfl, RW⟩ := bK hrt
 have hnt := cD ((uh HOK).nodes kt hkt).1
 obtain ⟨m, hm⟩ : ∃ m : Nat, x.nodes[kt].sure = (m : Int) := ⟨x.nodes[kt].sure.toNat, by have := hnt.sure; omega⟩
 have s4 : w5.drew.cell? ⟨b0, off0 + kt * 7 + 4, none⟩ = some (.slice an x.nodes[kt].writes.length dn) := hclt 4 (by decide)
 have s5 : w5.drew.cell? ⟨b0, off0 + kt * 7 + 5, none⟩ = some (.int .i64 x.nodes[kt].sure) := hclt 5 (by decide)
 rw [hm] at s5
 have hmw : m ≤ x.nodes[kt].writes.length := by have := hnt.sure; omega
 have hm40 : m ≤ 40 := by have := hnt.len; omega
 have hmd : m ≤ dn := Nat.le_trans hmw RW.cap.2
 have htm : x.nodes[kt].sure.toNat = m := by omega
 rw [htm] at HP HSW
 have HT := fW RW.cX m hmw
 have hlt : (x.nodes[kt].writes.take m).length = m := by rw [List.length_take]; omega
 have HL5 := yh (rH _ (x.nodes[kt].writes.take m) s q w5.drew HT.reads (by rw [hlt]; omega))
 have HSB : Hid (bM (x.nodes[kt].writes.take m) s q ≤ 40) := by
  have := jk (x.nodes[kt].writes.take m) s q
  rw [hlt] at this
  show bM (x.nodes[kt].writes.take m) s q ≤ 40
  omega
 clear RN hclt hrt RW hnt hm nd HT hlt htm
 refine wZz (fun w' => w' = w5.drew) rfl (fun zq => ?_)
 generalize w5.drew = wD at zq HL5 s4 s5 HX HR HY HB HSZ ⊢
 refine tkH 0 zq ?_
 refine tkH 1 zq ?_
 refine tkH 2 zq ?_
 refine tkJ 3 (v := ?ve3) ?he3 zq ?re3
 case he3 =>
  intro wS hSw
  subst hSw
  exact fZ
 refine tkH 4 zq ?_
 refine tkH 5 zq ?_
 refine tkH 6 zq ?_
 refine tkJ 7 (v := ?ve7) ?he7 zq ?re7
 case he7 =>
  intro wS hSw
  subst hSw
  exact fZ
 refine tkH 8 zq ?_
 refine tkH 9 zq ?_
 refine tkH 10 zq ?_
 refine rdH 11 (fun K hK => ?_)
 go_simp
 go_at_call 83
 refine (uh HL5).mono ?_
 rintro e u ⟨rfl, hu⟩
 subst hu
 try go_wp2_with fail
 refine hK.out _ _ rfl (fun zq => ?_)
 clear hK K
 try simp only [Act.put, pz, py, px]
 refine tkH 12 zq ?_
 refine dZ ?_
 clear zq s4 s5 HL5
 have hzD := uh HSZ
 by_cases hs0 : bM (x.nodes[kt].writes.take m) s q = 0
 ·
  replace HP := yh ((uh HP).trans (if_pos hs0))
  have hds : (((bM (x.nodes[kt].writes.take m) s q : Nat) : Int) == 0) = true := by simpa using hs0
  have HC : Hid (-1000000000 ≤ (8 : Int) ∧ (8 : Int) ≤ 1000000000) := by show (-1000000000 : Int) ≤ 8 ∧ (8 : Int) ≤ 1000000000; omega
  clear hs0 HOK hf
  generalize bM (x.nodes[kt].writes.take m) s q = sn at *
  go_wp2_with fail
  refine (gn (8) _).mono ?_
  rintro e wB ⟨rfl, hbB⟩
  have hyB := (uh HY).au hbB
  have z0 := aj.at hyB 0 _ rfl
  have z1 := aj.at hyB 1 _ rfl
  have z2 := aj.at hyB 2 _ rfl
  have z3 := aj.at hyB 3 _ rfl
  have z4 := aj.at hyB 4 _ rfl
  have z5 := aj.at hyB 5 _ rfl
  have z6 := aj.at hyB 6 _ rfl
  have z7 := aj.at hyB 7 _ rfl
  have z8 := aj.at hyB 8 _ rfl
  simp only [ga, gb, gc] at z0 z1 z2 z3 z4 z5 z6 z7 z8
  have zf := aj.soft hyB
  have zl := hyB.lt
  have HB9 := yh (aP ((uh HB).trans (hbB.mono (uh HB).size)) (w.heap.size + 1) 0 [.int .i64 8, .bool false, .int .i64 0, .int .i64 0, .int .i64 0, .slice none 0 0, .slice none 0 0, .slice none 0 0, .slice none 0 0] (by omega))
  clear hyB hbB HY HB
  go_wp2_with fail
  refine bodyPost_ret (v := .agg #[.int .i64 8, .bool false, .int .i64 0, .int .i64 0, .int .i64 0, .slice none 0 0, .slice none 0 0, .slice none 0 0, .slice none 0 0]) (by simp [results, Tryz.results25, go_sem, z0, z1, z2, z3, z4, z5, z6, z7, z8]) rfl ?_
  rw [uh HP]
  exact ⟨[.int .i64 8, .bool false, .int .i64 0, .int .i64 0, .int .i64 0, .slice none 0 0, .slice none 0 0, .slice none 0 0, .slice none 0 0], rfl, (ei (uh HC) (lo := 0) (hi := 0) (Nat.le_refl 0)).bp.reads, uh HB9⟩
 replace HP := yh ((uh HP).trans (if_neg hs0))
 have hds : (((bM (x.nodes[kt].writes.take m) s q : Nat) : Int) == 0) = false := by simpa using hs0
 have HZ : Hid (finished (cC x) s q = lN (cC x) k (en x.ae[k] (x.events + 1) ((bM (x.nodes[kt].writes.take m) s q : Nat) : Int))) := by
  show finished (cC x) s q = _
  have e1 : fg (cC x).ae s q = k := uh HK2
  have e2 : cM (cC x) s q = x.ae[k] := uh HEA
  have e3 : cW (cC x) = x.nodes[kt].writes.take m := uh HSW
  rw [finished, e1, e2, e3]
  rfl
 rw [uh HZ] at HP
 clear hs0 HZ HEA HK2 HSW HTP
 generalize bM (x.nodes[kt].writes.take m) s q = sn at *
 have HL := yh (qe _ x u (uh HR) (uh HOK) hf)
 have z0 := aj.at (uh HX) 0 _ rfl
 have z1 := aj.at (uh HX) 1 _ rfl
 have z2 := aj.at (uh HX) 2 _ rfl
 have z3 := aj.at (uh HX) 3 _ rfl
 have z4 := aj.at (uh HX) 4 _ rfl
 have z5 := aj.at (uh HX) 5 _ rfl
 have z6 := aj.at (uh HX) 6 _ rfl
 simp only [ga, gb, gc] at z0 z1 z2 z3 z4 z5 z6
 have zl := (uh HX).lt
 go_wp2_with fail
 refine (uh HL).mono ?_
 rintro e W1 ⟨cs', rfl, O, hb⟩
 have hop := aG O.reads
 dsimp only [cC] at hop
 obtain ⟨a3w, d3w, a4w, d4w, a5w, d5w, a6w, d6w, rfl, -⟩ := hop
 have hz1 : u.heap.size ≤ W1.heap.size := hb.size
 have nb : Below W1.heap.size W1 (W1.alloc (.cells #[.int .i64 x.now, .int .i64 (x.events + 1), .int .i64 x.chain.af, .slice a3w x.chain.ids.length d3w, .slice a4w x.nodes.length d4w, .slice a5w x.msgs.length d5w, .slice a6w x.ae.length d6w] 37)) := (Below.refl _ _).alloc (Nat.le_refl _) _
 have HG : Hid (aj 0 #[.int .i64 x.now, .int .i64 (x.events + 1), .int .i64 x.chain.af, .slice a3w x.chain.ids.length d3w, .slice a4w x.nodes.length d4w, .slice a5w x.msgs.length d5w, .slice a6w x.ae.length d6w] 37 (W1.alloc (.cells #[.int .i64 x.now, .int .i64 (x.events + 1), .int .i64 x.chain.af, .slice a3w x.chain.ids.length d3w, .slice a4w x.nodes.length d4w, .slice a5w x.msgs.length d5w, .slice a6w x.ae.length d6w] 37)) W1.heap.size) := aH (Nat.zero_le _)
 have HO := yh (O.ag nb)
 replace HX := yh (((uh HX).au hb).au nb)
 replace HR := yh (((uh HR).ag hb).ag nb)
 replace HY := yh (((uh HY).au hb).au nb)
 replace HB := yh ((uh HB).trans ((hb.trans (nb.mono hb.size)).mono (uh HB).size))
 have hz2 : W1.heap.size < (W1.alloc (.cells #[.int .i64 x.now, .int .i64 (x.events + 1), .int .i64 x.chain.af, .slice a3w x.chain.ids.length d3w, .slice a4w x.nodes.length d4w, .slice a5w x.msgs.length d5w, .slice a6w x.ae.length d6w] 37)).heap.size := by simp
 clear nb O hb HL
 clear z0 z1 z2 z3 z4 z5 z6 zl hds
 go_upto_region 14 with fail
 generalize W1.alloc (.cells #[.int .i64 x.now, .int .i64 (x.events + 1), .int .i64 x.chain.af, .slice a3w x.chain.ids.length d3w, .slice a4w x.nodes.length d4w, .slice a5w x.msgs.length d5w, .slice a6w x.ae.length d6w] 37) = W2 at *
 obtain ⟨b, off, cap', aq', dq', av', dv', ah', dh', e6, hlb, hbh, hbl, hR0, hput⟩ := nj (x := cC x) (uh HO) hk (by have := (uh HOK).few; show x.ae.length ≤ 1000000; omega)
 simp only [Value.slice.injEq] at e6
 obtain ⟨rfl, -, rfl⟩ := e6
 have HRW := yh hR0
 have HPUT := yh hput
 have hgb : W1.heap.size ≠ b := by omega
 have hyb : w.heap.size + 1 ≠ b := by omega
 have hev := (uh HOK).events
 have y6 := aj.at (uh HG) 6 _ rfl
 have y1 := aj.at (uh HG) 1 _ rfl
 simp only [ga, gb, gc] at y6 y1
 have yl := (uh HG).lt
 clear hR0 hput HO
 have x7 : W2.cell? ⟨b, off + k * 11 + 7, none⟩ = some (.int .i64 x.ae[k].fin) := (uh HRW).cells 7 (by decide)
 have f7 := (uh HRW).soft (off + k * 11 + 7)
 have bl := (uh HRW).lt
 have e1 : Ext (fun q => q = b) W2 (W2.setCell ⟨b, off + k * 11 + 7, none⟩ (.int .i64 (x.events + 1))) := (Ext.refl _ _).setCell _ _ rfl
 have hR9 := (uh HRW).set 7 (.int .i64 (x.events + 1)) (by decide)
 simp only [List.set_cons_succ, List.set_cons_zero] at hR9
 clear HRW
 have HRW := yh hR9
 have HGN := yh ((uh HG).ext e1 hgb)
 have HYN := yh ((uh HY).ext e1 hyb)
 have HBN2 := yh ((uh HB).trans (e1.below (B := w.heap.size) (uh HB).size (fun c hc e => by omega)))
 clear hR9 e1
 go_upto_region 15 with fail
 generalize W2.setCell ⟨b, off + k * 11 + 7, none⟩ (.int .i64 (x.events + 1)) = Wa at *
 clear x7 f7 bl HG HY HB
 have HG := HGN
 have HY := HYN
 have HB := HBN2
 clear HGN HYN HBN2
 clear y1 y6 yl
 have y6 := aj.at (uh HG) 6 _ rfl
 simp only [ga, gb, gc] at y6
 have yl := (uh HG).lt
 have x8 : Wa.cell? ⟨b, off + k * 11 + 8, none⟩ = some (.int .i64 x.ae[k].place) := (uh HRW).cells 8 (by decide)
 have f8 := (uh HRW).soft (off + k * 11 + 8)
 have bl := (uh HRW).lt
 have e1 : Ext (fun q => q = b) Wa (Wa.setCell ⟨b, off + k * 11 + 8, none⟩ (.int .i64 ((sn : Nat) : Int))) := (Ext.refl _ _).setCell _ _ rfl
 have hR9 := (uh HRW).set 8 (.int .i64 ((sn : Nat) : Int)) (by decide)
 simp only [List.set_cons_succ, List.set_cons_zero] at hR9
 clear HRW
 have HRW := yh hR9
 have HGN := yh ((uh HG).ext e1 hgb)
 have HYN := yh ((uh HY).ext e1 hyb)
 have HBN2 := yh ((uh HB).trans (e1.below (B := w.heap.size) (uh HB).size (fun c hc e => by omega)))
 clear hR9 e1
 go_upto_region 16 with fail
 generalize Wa.setCell ⟨b, off + k * 11 + 8, none⟩ (.int .i64 ((sn : Nat) : Int)) = Wb at *
 clear x8 f8 bl HG HY HB
 have HG := HGN
 have HY := HYN
 have HB := HBN2
 clear HGN HYN HBN2
 clear y6 yl
 have hO3 := uh HPUT Wb (x.events + 1) ((sn : Nat) : Int) (aR (by omega)) (aR (by have := uh HSB; omega)) (uh HRW)
 have HO : Hid (rU Wb u.heap.size W1.heap.size (fun c => c < 0 ∨ c < wa.heap.size ∨ c = W1.heap.size) [.int .i64 x.now, .int .i64 (x.events + 1), .int .i64 x.chain.af, .slice a3w x.chain.ids.length d3w, .slice a4w x.nodes.length d4w, .slice a5w x.msgs.length d5w, .slice (some ⟨b, off, none⟩) x.ae.length d6w] (lN (cC x) k (en x.ae[k] (x.events + 1) ((sn : Nat) : Int)))) := hO3.st (fun c hc => by omega)
 clear hO3 HPUT HRW HX HR
 have y0 := aj.at (uh HG) 0 _ rfl
 have y1 := aj.at (uh HG) 1 _ rfl
 have y2 := aj.at (uh HG) 2 _ rfl
 have y3 := aj.at (uh HG) 3 _ rfl
 have y4 := aj.at (uh HG) 4 _ rfl
 have y5 := aj.at (uh HG) 5 _ rfl
 have y6 := aj.at (uh HG) 6 _ rfl
 simp only [ga, gb, gc] at y0 y1 y2 y3 y4 y5 y6
 have yl := (uh HG).lt
 have r0 := aj.at (uh HY) 0 _ rfl
 have r1 := aj.at (uh HY) 1 _ rfl
 have r2 := aj.at (uh HY) 2 _ rfl
 have r3 := aj.at (uh HY) 3 _ rfl
 have r4 := aj.at (uh HY) 4 _ rfl
 have r5 := aj.at (uh HY) 5 _ rfl
 have r6 := aj.at (uh HY) 6 _ rfl
 have r7 := aj.at (uh HY) 7 _ rfl
 have r8 := aj.at (uh HY) 8 _ rfl
 simp only [ga, gb, gc] at r0 r1 r2 r3 r4 r5 r6 r7 r8
 have rl := (uh HY).lt
 have rf := aj.soft (uh HY)
 have e9 : Ext (fun q => q = w.heap.size + 1) Wb (aO Wb (w.heap.size + 1) 0 [.int .i64 0, .bool true, .int .i64 x.now, .int .i64 (x.events + 1), .int .i64 x.chain.af, .slice a3w x.chain.ids.length d3w, .slice a4w x.nodes.length d4w, .slice a5w x.msgs.length d5w, .slice (some ⟨b, off, none⟩) x.ae.length d6w]) := bD _ (Ext.refl _ _) _ _ _ rfl
 have HO9 := yh (pR (m := true) (((uh HO).ext e9 (fun c h1 h2 h3 => h2 (Or.inr (Or.inl (by omega))))).cX (B := 0) (fun c hc => by omega)))
 have HB9 := yh (aP (uh HB) (w.heap.size + 1) 0 [.int .i64 0, .bool true, .int .i64 x.now, .int .i64 (x.events + 1), .int .i64 x.chain.af, .slice a3w x.chain.ids.length d3w, .slice a4w x.nodes.length d4w, .slice a5w x.msgs.length d5w, .slice (some ⟨b, off, none⟩) x.ae.length d6w] (by omega))
 clear e9 HO HG HY HB
 go_wp2_with fail
 refine bodyPost_ret (v := .agg #[.int .i64 0, .bool true, .int .i64 x.now, .int .i64 (x.events + 1), .int .i64 x.chain.af, .slice a3w x.chain.ids.length d3w, .slice a4w x.nodes.length d4w, .slice a5w x.msgs.length d5w, .slice (some ⟨b, off, none⟩) x.ae.length d6w]) (by simp [results, Tryz.results25, go_sem, r0, r1, r2, r3, r4, r5, r6, r7, r8]) rfl ?_
 rw [uh HP]
 exact ⟨_, rfl, (uh HO9).reads, uh HB9⟩
theorem jY {W : World} {lo g k : Nat} {v3 v4 v5 v6 : Value} {y : ay} (h : fa W lo g [.int .i64 y.now, .int .i64 y.events, .int .i64 y.chain.af, v3, v4, v5, v6] y) (hk : k < y.ae.length) :
  ∃ (b off cap : Nat) (aq : Option Addr) (dq : Nat) (av : Option Addr) (dv : Nat) (ah : Option Addr) (dh : Nat), v6 = .slice (some ⟨b, off, none⟩) y.ae.length cap ∧ lo ≤ b ∧ b < W.heap.size ∧ b ≠ g ∧ cQ W W b (off + k * 11) 11 [.int .i64 y.ae[k].kind, .int .i64 y.ae[k].aa, .int .i64 y.ae[k].seq, .int .i64 y.ae[k].id, .slice aq y.ae[k].query.length dq, .int .i64 y.ae[k].k, .int .i64 y.ae[k].start, .int .i64 y.ae[k].fin, .int .i64 y.ae[k].place, .slice av y.ae[k].vec.length dv, .slice ah y.ae[k].aN.length dh] [] ∧
   ∀ (W2 : World) (f p : Int), (Lit.int .i64 f).wf = true → (Lit.int .i64 p).wf = true → cQ W W2 b (off + k * 11) 11 [.int .i64 y.ae[k].kind, .int .i64 y.ae[k].aa, .int .i64 y.ae[k].seq, .int .i64 y.ae[k].id, .slice aq y.ae[k].query.length dq, .int .i64 y.ae[k].k, .int .i64 y.ae[k].start, .int .i64 f, .int .i64 p, .slice av y.ae[k].vec.length dv, .slice ah y.ae[k].aN.length dh] [] → fa W2 lo g [.int .i64 y.now, .int .i64 y.events, .int .i64 y.chain.af, v3, v4, v5, v6] (lN y k (en y.ae[k] f p)) := by
 obtain ⟨bl, O, hgb, hbl⟩ := h
 obtain ⟨a3, d3, a4, d4, a5, d5, a6, d6, g2, g4, g5, g6, hq, rfl, O2, O4, O5, O6, w0, w1⟩ := gE O
 simp only [List.cons.injEq, and_true, true_and] at hq
 obtain ⟨rfl, rfl, rfl, rfl⟩ := hq
 have hnd := O.2.1
 obtain ⟨b, off, cap, r, e6, rfl, hA⟩ := ab.kB O6 (by omega)
 simp only [Value.slice.injEq, true_and] at e6
 obtain ⟨rfl, rfl⟩ := e6
 obtain ⟨row, blk, hR, hOn, hbk, hsub, hput⟩ := ab.fB O6 hk
 obtain ⟨aq, dq, av, dv, ah, dh, gq, gv, gh, rfl, rfl, Oq, Ov, Oh, n0, n1, n2, n3, n5, n6, n7, n8⟩ := ki hOn
 have hbin := hbl b (by simp)
 have hbg : b ≠ g := fun e => hgb (by rw [← e]; simp)
 rw [List.nodup_append, List.nodup_append, List.nodup_append] at hnd
 obtain ⟨-, ⟨-, ⟨-, -, x5⟩, x4⟩, x2⟩ := hnd
 refine ⟨b, off, d6, aq, dq, av, dv, ah, dh, rfl, hbin.1, hbin.2, hbg, ⟨hR.len, hR.cells, hR.others, hR.soft, hR.lt, Ext.refl _ _⟩, fun W2 f p hf hp hR2 => ?_⟩
 have hE : Ext (fun q => q = b) W W2 := hR2.ext.mono (fun k _ q => by rcases q with q | q; exact q; cases q)
 have Oq2 := Oq.ext hE (fun c hc e => hbk (by simp [← e, hc]))
 have Ov2 := Ov.ext hE (fun c hc e => hbk (by simp [← e, hc]))
 have Oh2 := Oh.ext hE (fun c hc e => hbk (by simp [← e, hc]))
 have hN := fj (x := en y.ae[k] f p) Oq2 Ov2 Oh2 n0 n1 n2 n3 n5 n6 hf hp hOn.2.1
 have O6' := hput W2 _ (en y.ae[k] f p) ⟨hR2.len, hR2.cells, hR2.others, hR2.soft, hR2.lt, hE.mono (fun q _ e => Or.inl e)⟩ hN
 have P2 := O2.ext hE (fun c hc e => x2 c hc b (by simp) e)
 have P4 := O4.ext hE (fun c hc e => x4 c hc b (by simp) e)
 have P5 := O5.ext hE (fun c hc e => x5 c hc b (by simp) e)
 exact ⟨_, eA (x := lN y k (en y.ae[k] f p)) P2 P4 P5 O6' w0 w1 O.2.1, hgb, fun c hc => ⟨(hbl c hc).1, Nat.lt_of_lt_of_le (hbl c hc).2 hE.size⟩⟩
theorem qi (cs : List Value) (e : aZ) (s q : Int) (g : Nat) (w : World) (h : ab.ar.Reads w cs e) (hbx : aj 0 #[.int .i64 s, .int .i64 q] 117 w g) :
  Calls Tryz.prog 207 #[.agg cs.toArray, .pointer (some ⟨g, 0, none⟩)] w fun r w' => r = .returned (.bool (cH s q e)) ∧ Below w.heap.size w w' := by
 obtain ⟨aq, dq, av, dv, ah, dh, rfl, -, -, -⟩ := bB h
 have nb : Below w.heap.size w (w.alloc (.cells #[.int .i64 e.kind, .int .i64 e.aa, .int .i64 e.seq, .int .i64 e.id, .slice aq e.query.length dq, .int .i64 e.k, .int .i64 e.start, .int .i64 e.fin, .int .i64 e.place, .slice av e.vec.length dv, .slice ah e.aN.length dh] 85)) := (Below.refl _ _).alloc (Nat.le_refl _) _
 have hb1 := hbx.au nb
 have c0 := aj.at hb1 0 _ rfl
 have c1 := aj.at hb1 1 _ rfl
 simp only [ga, gb, gc] at c0 c1
 have cl := hb1.lt
 have HB := yh nb
 clear nb hb1 hbx h
 cases h1 : (e.kind == 1)
 ·
  have HT : Hid (cH s q e = false) := fT h1
  go_enter Tryz.func207, Tryz.ntmps207
  go_wp2_with fail
  go_ret
  exact ⟨by rw [uh HT]; rfl, uh HB⟩
 cases h2 : (e.aa == s)
 ·
  have HT : Hid (cH s q e = false) := gf h2
  have HS : ¬ e.aa = s := by simpa using h2
  go_enter Tryz.func207, Tryz.ntmps207
  go_wp2_with fail
  go_ret
  exact ⟨by rw [uh HT]; rfl, uh HB⟩
 cases h3 : (e.seq == q)
 ·
  have HT : Hid (cH s q e = false) := gk h3
  go_enter Tryz.func207, Tryz.ntmps207
  go_wp2_with fail
  go_ret
  exact ⟨by rw [uh HT]; rfl, uh HB⟩
 have HT : Hid (cH s q e = true) := je h1 h2 h3
 go_enter Tryz.func207, Tryz.ntmps207
 go_wp2_with fail
 go_ret
 exact ⟨by rw [uh HT]; rfl, uh HB⟩
theorem mJ (v : Value) (xs : List aZ) (s q : Int) (g : Nat) (w : World) (h : (ab.sl ab.ar).Reads w [v] xs) (hbx : aj 0 #[.int .i64 s, .int .i64 q] 117 w g) :
  Calls Tryz.prog 206 #[v, .func (.func 207) #[] #[.pointer (some ⟨g, 0, none⟩)]] w fun e w' => e = .returned (.int .i64 (dG xs s q)) ∧ Below w.heap.size w w' := by
 have hbig := h.dK
 obtain ⟨ao, cap, rfl⟩ := aE h
 have H := yh h
 have HBX := yh hbx
 clear h hbx
 go_enter Tryz.func206, Tryz.ntmps206
 go_wp2_with fail
 go_loopw [8] (fun i wr => ∃ k : Nat, k ≤ xs.length ∧ i = .int .i64 k ∧ (∀ j (hj : j < xs.length), j < k → cH s q xs[j] = false) ∧ Below w.heap.size w wr) (fun i _ => xs.length - (intOf i).toNat)
 case atStart => exact ⟨0, Nat.zero_le _, rfl, fun j _ hj => by omega, Below.refl _ _⟩
 case round =>
  obtain ⟨k, hk, rfl, hz, hB⟩ := hrel
  by_cases hlt : k < xs.length
  ·
   obtain ⟨b, off, rfl, hbl⟩ := ab.aI (uh H) (by omega)
   obtain ⟨row, hc, hr⟩ := ab.bm (uh H) hlt
   replace hr := hr.ag hB
   have hdl : decide ((k : Int) < (xs.length : Int)) = true := by simp; omega
   have hr2 := hr
   obtain ⟨aq, dq, av, dv, ah, dh, rfl, -, -, -⟩ := bB hr2
   have c0 : wr.cell? ⟨b, off + k * 11, none⟩ = some (.int .i64 (xs[k]).kind) := (hB.cell (p := ⟨b, off + k * 11, none⟩) hbl).trans (hc 0 (by decide))
   have c1 : wr.cell? ⟨b, off + k * 11 + 1, none⟩ = some (.int .i64 (xs[k]).aa) := (hB.cell (p := ⟨b, off + k * 11 + 1, none⟩) hbl).trans (hc 1 (by decide))
   have c2 : wr.cell? ⟨b, off + k * 11 + 2, none⟩ = some (.int .i64 (xs[k]).seq) := (hB.cell (p := ⟨b, off + k * 11 + 2, none⟩) hbl).trans (hc 2 (by decide))
   have c3 : wr.cell? ⟨b, off + k * 11 + 3, none⟩ = some (.int .i64 (xs[k]).id) := (hB.cell (p := ⟨b, off + k * 11 + 3, none⟩) hbl).trans (hc 3 (by decide))
   have c4 : wr.cell? ⟨b, off + k * 11 + 4, none⟩ = some (.slice aq (xs[k]).query.length dq) := (hB.cell (p := ⟨b, off + k * 11 + 4, none⟩) hbl).trans (hc 4 (by decide))
   have c5 : wr.cell? ⟨b, off + k * 11 + 5, none⟩ = some (.int .i64 (xs[k]).k) := (hB.cell (p := ⟨b, off + k * 11 + 5, none⟩) hbl).trans (hc 5 (by decide))
   have c6 : wr.cell? ⟨b, off + k * 11 + 6, none⟩ = some (.int .i64 (xs[k]).start) := (hB.cell (p := ⟨b, off + k * 11 + 6, none⟩) hbl).trans (hc 6 (by decide))
   have c7 : wr.cell? ⟨b, off + k * 11 + 7, none⟩ = some (.int .i64 (xs[k]).fin) := (hB.cell (p := ⟨b, off + k * 11 + 7, none⟩) hbl).trans (hc 7 (by decide))
   have c8 : wr.cell? ⟨b, off + k * 11 + 8, none⟩ = some (.int .i64 (xs[k]).place) := (hB.cell (p := ⟨b, off + k * 11 + 8, none⟩) hbl).trans (hc 8 (by decide))
   have c9 : wr.cell? ⟨b, off + k * 11 + 9, none⟩ = some (.slice av (xs[k]).vec.length dv) := (hB.cell (p := ⟨b, off + k * 11 + 9, none⟩) hbl).trans (hc 9 (by decide))
   have c10 : wr.cell? ⟨b, off + k * 11 + 10, none⟩ = some (.slice ah (xs[k]).aN.length dh) := (hB.cell (p := ⟨b, off + k * 11 + 10, none⟩) hbl).trans (hc 10 (by decide))
   have HL := yh (qi _ xs[k] s q g wr hr ((uh HBX).au hB))
   have HA : Hid (cH s q xs[k] = true → dG xs s q = (k : Int)) := fun c => mh hlt c (fun j hj hjk => hz j hj hjk)
   have HN : Hid (cH s q xs[k] = false → ∀ j (hj : j < xs.length), j < k + 1 → cH s q xs[j] = false) := fun c j hj hjk => by
    by_cases h2 : j < k
    ·
     exact hz j hj h2
    obtain rfl : j = k := by omega
    exact c
   have HB := yh hB
   clear hz hB hr hc hr2
   generalize hy : xs[k] = y at *
   clear hy
   go_wp2_with fail
   refine (uh HL).mono ?_
   rintro e w2 ⟨rfl, hb⟩
   replace HB := bZ HB hb
   clear hb HL c0 c1 c2 c3 c4 c5 c6 c7 c8 c9 c10
   cases hq : cH s q y
   ·
    have HNN := yh (uh HN hq)
    clear HN HA hq
    go_wp2_with fail
    go_roundw
    case rel => exact ⟨k + 1, by omega, by go_num, uh HNN, uh HB⟩
    case measure => simp [intOf]; omega
   have HAA := yh (uh HA hq)
   clear HN HA hq
   go_wp2_with fail
   go_ret
   exact ⟨by rw [uh HAA]; rfl, uh HB⟩
  obtain rfl : k = xs.length := by omega
  have hdl : decide ((xs.length : Int) < (xs.length : Int)) = false := by simp
  have HAN := yh (iP (s := s) (q := q) fun j hj => hz j hj hj)
  have HB := yh hB
  clear hz hB
  go_wp2_with fail
  go_ret
  exact ⟨by rw [uh HAN]; rfl, uh HB⟩
theorem jz (v : Value) (xs : List aZ) (s q : Int) (w : World) (h : (ab.sl ab.ar).Reads w [v] xs) :
  Calls Tryz.prog 146 #[v, .agg #[.int .i64 s, .int .i64 q]] w fun e w' => e = .returned (.int .i64 (dG xs s q)) ∧ Below w.heap.size w w' := by
 have hmf : ∀ (fn : Fn) (first cap : Array Value) (w : World), (Instr.makeFunc fn first cap).run Tryz.prog w = .ok (.func fn first cap) w := fun _ _ _ _ => rfl
 have nb : Below w.heap.size w (w.alloc (.cells #[.int .i64 s, .int .i64 q] 117)) := (Below.refl _ _).alloc (Nat.le_refl _) _
 have HL := yh (mJ v xs s q w.heap.size _ (h.ag nb) (aH (Nat.zero_le _)))
 have HB := yh nb
 obtain ⟨ao, cap, rfl⟩ := aE h
 clear nb h
 go_enter Tryz.func146, Tryz.ntmps146
 go_wp2_with fail
 refine (uh HL).mono ?_
 rintro e w2 ⟨rfl, hb⟩
 have HB2 := yh ((uh HB).trans (hb.mono (uh HB).size))
 clear hb HL
 go_wp2_with fail
 go_ret
 exact ⟨rfl, uh HB2⟩
def gM (x : ay) (s q : Int) : Int := ((bM (cW x) s q : Nat) : Int)
theorem j8 {x : ay} {k : Nat} (hk : k < x.nodes.length) (ht : dX x = (k : Int) + 1) : cW x = x.nodes[k].writes.take x.nodes[k].sure.toNat := by
 rw [cW, ht, jW hk]
theorem lA {ws : List aA} {s q : Int} (hl : ws.length ≤ 200) (hw : ∀ v ∈ ws, wF v = 0) : (cK ws s q).value = ((bM ws s q : Nat) : Int) := by
 by_cases h : bM ws s q = 0
 ·
  have hf : aY ws = 0 := by
   rw [aY, if_neg (by omega)]
   exact eo ws fun j hj => hw _ (List.getElem_mem hj)
  rw [h]
  by_cases hs : 1 ≤ s ∧ s ≤ 9
  ·
   rw [cK, if_pos (eJ hf hs)]
   by_cases hq : 1 ≤ q ∧ q ≤ 999
   ·
    rw [if_pos hq, if_pos h]; rfl
   rw [if_neg hq]; rfl
  rw [cK, gO hf hs, if_neg (by decide)]; rfl
 rw [(oc hl hw).2 h]
theorem mM {w : World} {cs : List Value} {y : eU} {lo hi : Nat} (h : ab.eS.aQ w cs y lo hi) : cs = [.int .i64 y.code, .int .i64 y.value] ∧ (Lit.int .i64 y.code).wf = true ∧ (Lit.int .i64 y.value).wf = true := by
 obtain ⟨bl, O, -⟩ := h
 obtain ⟨e, -, w0, w1⟩ := fe.1 O.1
 exact ⟨e, w0, w1⟩
theorem rp (cs : List Value) (x : aZ) (w : World) (h : ab.ar.Reads w cs x) :
  Calls Tryz.prog 94 #[.agg cs.toArray] w fun e w' => e = .returned (.bool (x.fin != 0)) ∧ Below w.heap.size w w' := by
 obtain ⟨aq, dq, av, dv, ah, dh, rfl, -, -, -⟩ := bB h
 have nb : Below w.heap.size w (w.alloc (.cells #[.int .i64 x.kind, .int .i64 x.aa, .int .i64 x.seq, .int .i64 x.id, .slice aq x.query.length dq, .int .i64 x.k, .int .i64 x.start, .int .i64 x.fin, .int .i64 x.place, .slice av x.vec.length dv, .slice ah x.aN.length dh] 85)) := (Below.refl _ _).alloc (Nat.le_refl _) _
 have bX : aj 0 #[.int .i64 x.kind, .int .i64 x.aa, .int .i64 x.seq, .int .i64 x.id, .slice aq x.query.length dq, .int .i64 x.k, .int .i64 x.start, .int .i64 x.fin, .int .i64 x.place, .slice av x.vec.length dv, .slice ah x.aN.length dh] 85 (w.alloc (.cells #[.int .i64 x.kind, .int .i64 x.aa, .int .i64 x.seq, .int .i64 x.id, .slice aq x.query.length dq, .int .i64 x.k, .int .i64 x.start, .int .i64 x.fin, .int .i64 x.place, .slice av x.vec.length dv, .slice ah x.aN.length dh] 85)) w.heap.size := aH (Nat.zero_le _)
 have z7 := aj.at bX 7 _ rfl
 simp only [ga, gb, gc] at z7
 have HB := yh nb
 clear nb bX h
 go_enter Tryz.func94, Tryz.ntmps94
 go_wp2_with fail
 go_ret
 exact ⟨rfl, uh HB⟩
theorem re (cs : List Value) (x : bH) (w : World) (h : ab.aD.Reads w cs x) (k : Nat) (hk : x.ids.length = k + 1) (hn : x.ids.length ≤ 5) :
  Calls Tryz.prog 194 #[.agg cs.toArray] w fun e w' => e = .returned (.int .i64 (x.ids.getD k 0)) ∧ Below w.heap.size w w' := by
 obtain ⟨a3, d3, rfl, R3⟩ := bP h
 have hlt : k < x.ids.length := by omega
 have hv : x.ids.getD k 0 = x.ids[k] := by simp [List.getD, hlt]
 rw [hv]
 have nb : Below w.heap.size w (w.alloc (.cells #[.int .i64 x.af, .slice a3 x.ids.length d3] 32)) := (Below.refl _ _).alloc (Nat.le_refl _) _
 have HX : Hid (aj 0 #[.int .i64 x.af, .slice a3 x.ids.length d3] 32 (w.alloc (.cells #[.int .i64 x.af, .slice a3 x.ids.length d3] 32)) w.heap.size) := aH (Nat.zero_le _)
 have R := R3.ag nb
 obtain ⟨b, off, rfl, hbl⟩ := ab.aI R (by omega)
 have c1 := dO R hlt
 have HB := yh nb
 have hw1 : IntKind.i64.wrap ((k : Int) + 1 - 1) = (k : Int) := by rw [IntKind.wrap_i64]; omega
 have hw2 : IntKind.i64.wrap (k : Int) = (k : Int) := by rw [IntKind.wrap_i64]; omega
 have hki0 : (0 : Int) ≤ (k : Int) := by omega
 have hki : (k : Int) < ((k + 1 : Nat) : Int) := by omega
 have hks : ((k + 1 : Nat) : Int) - 1 = (k : Int) := by omega
 clear hv
 generalize x.ids[k] = z at *
 have HK := yh hk
 clear nb R R3 h hlt hn hk
 go_enter Tryz.func194, Tryz.ntmps194
 go_upto_region 1 with fail
 generalize hWW : w.alloc (.cells #[.int .i64 x.af, .slice (some ⟨b, off, none⟩) x.ids.length d3] 32) = w1 at *
 have z1 := aj.at (uh HX) 1 _ rfl
 simp only [ga, gb, gc] at z1
 have zl := (uh HX).lt
 clear hWW HX
 have hk := uh HK
 rw [hk] at z1
 clear hk HK
 go_wp2_with fail
 go_ret
 exact ⟨rfl, uh HB⟩
theorem rG (cs : List Value) (x : ay) (k : Nat) (w : World) (h : ab.aC.Reads w cs x) (hok : dM x) (hk : k < x.nodes.length) (ht : dX x = (k : Int) + 1) :
  Calls Tryz.prog 128 #[.agg cs.toArray] w fun e w' => ∃ an dn, e = .returned (.agg #[.int .i64 x.nodes[k].id, .bool x.nodes[k].up, .int .i64 x.nodes[k].af, .int .i64 x.nodes[k].az, .slice an x.nodes[k].writes.length dn, .int .i64 x.nodes[k].sure, .int .i64 x.nodes[k].clean]) ∧ ab.ax.Reads w' [.int .i64 x.nodes[k].id, .bool x.nodes[k].up, .int .i64 x.nodes[k].af, .int .i64 x.nodes[k].az, .slice an x.nodes[k].writes.length dn, .int .i64 x.nodes[k].sure, .int .i64 x.nodes[k].clean] x.nodes[k] ∧ Below w.heap.size w w' := by
 obtain ⟨a3, d3, a4, d4, a5, d5, a6, d6, rfl, RC0, RN0, -, -⟩ := aG h
 obtain ⟨b, off, rfl, hbl⟩ := ab.aI RN0 (by omega)
 obtain ⟨row, hcl, hr⟩ := ab.bm RN0 hk
 have hr0 := hr
 obtain ⟨an, dn, rfl, -⟩ := bK hr
 have nb : Below w.heap.size w ((w.alloc (.cells #[.int .i64 x.now, .int .i64 x.events, .int .i64 x.chain.af, .slice a3 x.chain.ids.length d3, .slice (some ⟨b, off, none⟩) x.nodes.length d4, .slice a5 x.msgs.length d5, .slice a6 x.ae.length d6] 37)).alloc (.cells #[.int .i64 0, .bool false, .int .i64 0, .int .i64 0, .slice none 0 0, .int .i64 0, .int .i64 0] 79)) := ((Below.refl _ _).alloc (Nat.le_refl _) _).alloc (by simp) _
 have HX : Hid (aj 0 #[.int .i64 x.now, .int .i64 x.events, .int .i64 x.chain.af, .slice a3 x.chain.ids.length d3, .slice (some ⟨b, off, none⟩) x.nodes.length d4, .slice a5 x.msgs.length d5, .slice a6 x.ae.length d6] 37 ((w.alloc (.cells #[.int .i64 x.now, .int .i64 x.events, .int .i64 x.chain.af, .slice a3 x.chain.ids.length d3, .slice (some ⟨b, off, none⟩) x.nodes.length d4, .slice a5 x.msgs.length d5, .slice a6 x.ae.length d6] 37)).alloc (.cells #[.int .i64 0, .bool false, .int .i64 0, .int .i64 0, .slice none 0 0, .int .i64 0, .int .i64 0] 79)) w.heap.size) := (aH (Nat.zero_le _)).grow _
 have HY : Hid (aj 0 #[.int .i64 0, .bool false, .int .i64 0, .int .i64 0, .slice none 0 0, .int .i64 0, .int .i64 0] 79 ((w.alloc (.cells #[.int .i64 x.now, .int .i64 x.events, .int .i64 x.chain.af, .slice a3 x.chain.ids.length d3, .slice (some ⟨b, off, none⟩) x.nodes.length d4, .slice a5 x.msgs.length d5, .slice a6 x.ae.length d6] 37)).alloc (.cells #[.int .i64 0, .bool false, .int .i64 0, .int .i64 0, .slice none 0 0, .int .i64 0, .int .i64 0] 79)) (w.heap.size + 1)) := bg (Nat.zero_le _) (by simp)
 have hz0 : ((w.alloc (.cells #[.int .i64 x.now, .int .i64 x.events, .int .i64 x.chain.af, .slice a3 x.chain.ids.length d3, .slice (some ⟨b, off, none⟩) x.nodes.length d4, .slice a5 x.msgs.length d5, .slice a6 x.ae.length d6] 37)).alloc (.cells #[.int .i64 0, .bool false, .int .i64 0, .int .i64 0, .slice none 0 0, .int .i64 0, .int .i64 0] 79)).heap.size = w.heap.size + 2 := by simp
 have hl := (cE hok.chain).len
 have HL0 := yh (RC0.ag nb)
 have x0 : ((w.alloc (.cells #[.int .i64 x.now, .int .i64 x.events, .int .i64 x.chain.af, .slice a3 x.chain.ids.length d3, .slice (some ⟨b, off, none⟩) x.nodes.length d4, .slice a5 x.msgs.length d5, .slice a6 x.ae.length d6] 37)).alloc (.cells #[.int .i64 0, .bool false, .int .i64 0, .int .i64 0, .slice none 0 0, .int .i64 0, .int .i64 0] 79)).cell? ⟨b, off + k * 7, none⟩ = some (.int .i64 (x.nodes[k]).id) := (cell_of_heap (nb.block b hbl) _).trans (hcl 0 (by decide))
 have x1 : ((w.alloc (.cells #[.int .i64 x.now, .int .i64 x.events, .int .i64 x.chain.af, .slice a3 x.chain.ids.length d3, .slice (some ⟨b, off, none⟩) x.nodes.length d4, .slice a5 x.msgs.length d5, .slice a6 x.ae.length d6] 37)).alloc (.cells #[.int .i64 0, .bool false, .int .i64 0, .int .i64 0, .slice none 0 0, .int .i64 0, .int .i64 0] 79)).cell? ⟨b, off + k * 7 + 1, none⟩ = some (.bool (x.nodes[k]).up) := (cell_of_heap (nb.block b hbl) _).trans (hcl 1 (by decide))
 have x2 : ((w.alloc (.cells #[.int .i64 x.now, .int .i64 x.events, .int .i64 x.chain.af, .slice a3 x.chain.ids.length d3, .slice (some ⟨b, off, none⟩) x.nodes.length d4, .slice a5 x.msgs.length d5, .slice a6 x.ae.length d6] 37)).alloc (.cells #[.int .i64 0, .bool false, .int .i64 0, .int .i64 0, .slice none 0 0, .int .i64 0, .int .i64 0] 79)).cell? ⟨b, off + k * 7 + 2, none⟩ = some (.int .i64 (x.nodes[k]).af) := (cell_of_heap (nb.block b hbl) _).trans (hcl 2 (by decide))
 have x3 : ((w.alloc (.cells #[.int .i64 x.now, .int .i64 x.events, .int .i64 x.chain.af, .slice a3 x.chain.ids.length d3, .slice (some ⟨b, off, none⟩) x.nodes.length d4, .slice a5 x.msgs.length d5, .slice a6 x.ae.length d6] 37)).alloc (.cells #[.int .i64 0, .bool false, .int .i64 0, .int .i64 0, .slice none 0 0, .int .i64 0, .int .i64 0] 79)).cell? ⟨b, off + k * 7 + 3, none⟩ = some (.int .i64 (x.nodes[k]).az) := (cell_of_heap (nb.block b hbl) _).trans (hcl 3 (by decide))
 have x4 : ((w.alloc (.cells #[.int .i64 x.now, .int .i64 x.events, .int .i64 x.chain.af, .slice a3 x.chain.ids.length d3, .slice (some ⟨b, off, none⟩) x.nodes.length d4, .slice a5 x.msgs.length d5, .slice a6 x.ae.length d6] 37)).alloc (.cells #[.int .i64 0, .bool false, .int .i64 0, .int .i64 0, .slice none 0 0, .int .i64 0, .int .i64 0] 79)).cell? ⟨b, off + k * 7 + 4, none⟩ = some (.slice an (x.nodes[k]).writes.length dn) := (cell_of_heap (nb.block b hbl) _).trans (hcl 4 (by decide))
 have x5 : ((w.alloc (.cells #[.int .i64 x.now, .int .i64 x.events, .int .i64 x.chain.af, .slice a3 x.chain.ids.length d3, .slice (some ⟨b, off, none⟩) x.nodes.length d4, .slice a5 x.msgs.length d5, .slice a6 x.ae.length d6] 37)).alloc (.cells #[.int .i64 0, .bool false, .int .i64 0, .int .i64 0, .slice none 0 0, .int .i64 0, .int .i64 0] 79)).cell? ⟨b, off + k * 7 + 5, none⟩ = some (.int .i64 (x.nodes[k]).sure) := (cell_of_heap (nb.block b hbl) _).trans (hcl 5 (by decide))
 have x6 : ((w.alloc (.cells #[.int .i64 x.now, .int .i64 x.events, .int .i64 x.chain.af, .slice a3 x.chain.ids.length d3, .slice (some ⟨b, off, none⟩) x.nodes.length d4, .slice a5 x.msgs.length d5, .slice a6 x.ae.length d6] 37)).alloc (.cells #[.int .i64 0, .bool false, .int .i64 0, .int .i64 0, .slice none 0 0, .int .i64 0, .int .i64 0] 79)).cell? ⟨b, off + k * 7 + 6, none⟩ = some (.int .i64 (x.nodes[k]).clean) := (cell_of_heap (nb.block b hbl) _).trans (hcl 6 (by decide))
 have hbl2 : b < ((w.alloc (.cells #[.int .i64 x.now, .int .i64 x.events, .int .i64 x.chain.af, .slice a3 x.chain.ids.length d3, .slice (some ⟨b, off, none⟩) x.nodes.length d4, .slice a5 x.msgs.length d5, .slice a6 x.ae.length d6] 37)).alloc (.cells #[.int .i64 0, .bool false, .int .i64 0, .int .i64 0, .slice none 0 0, .int .i64 0, .int .i64 0] 79)).heap.size := by omega
 have HN := yh hr0
 have hw1 : IntKind.i64.wrap (k : Int) = (k : Int) := by
  have := hok.some
  rw [IntKind.wrap_i64]
  omega
 have hki : (k : Int) < (x.nodes.length : Int) := by omega
 have hki0 : (0 : Int) ≤ (k : Int) := by omega
 have HB := yh nb
 clear hcl hr hr0 RC0 RN0 h hok nb
 generalize hnn : x.nodes[k] = n at *
 clear hnn
 go_enter Tryz.func128, Tryz.ntmps128
 go_upto_region 1 with fail
 generalize ((w.alloc (.cells #[.int .i64 x.now, .int .i64 x.events, .int .i64 x.chain.af, .slice a3 x.chain.ids.length d3, .slice (some ⟨b, off, none⟩) x.nodes.length d4, .slice a5 x.msgs.length d5, .slice a6 x.ae.length d6] 37)).alloc (.cells #[.int .i64 0, .bool false, .int .i64 0, .int .i64 0, .slice none 0 0, .int .i64 0, .int .i64 0] 79)) = W0 at *
 have HL := yh (re _ x.chain W0.drew ((uh HL0).drew 1) (x.chain.ids.length - 1) (by omega) hl.2)
 rw [show x.chain.ids.getD (x.chain.ids.length - 1) 0 = (k : Int) + 1 from ht] at HL
 have hx := uh HX
 have hxl := hx.lt
 have z2 := aj.at hx 2 _ rfl
 have z3 := aj.at hx 3 _ rfl
 have z4 := aj.at hx 4 _ rfl
 simp only [ga, gb, gc] at z2 z3 z4
 have HYD := yh (uh HY).drew
 have HBD := yh (uh HB).drew
 clear hx HX HY HB HL0 ht hl
 refine wZz (fun w' => Ext (fun q => w.heap.size < q) W0 w') ((Ext.refl _ _).drew 1) (fun zq => ?_)
 generalize W0.drew = wD at zq HL HYD HBD ⊢
 refine tkH 0 zq ?_
 refine tkJ 1 (v := ?vc1) ?hc1 zq ?rc1
 case hc1 =>
  intro wS hSw
  have q4 := (cell_of_heap (hSw.block w.heap.size hxl (fun e => Nat.lt_irrefl _ e)) 4).trans z4
  clear hSw
  exact fZ
 refine tkH 2 zq ?_
 refine tkJ 3 (v := ?vc3) ?hc3 zq ?rc3
 case hc3 =>
  intro wS hSw
  have q2 := (cell_of_heap (hSw.block w.heap.size hxl (fun e => Nat.lt_irrefl _ e)) 2).trans z2
  have q3 := (cell_of_heap (hSw.block w.heap.size hxl (fun e => Nat.lt_irrefl _ e)) 3).trans z3
  clear hSw
  exact fZ
 refine rdH 4 (fun K hK => ?_)
 go_simp
 go_at_call 194
 refine (uh HL).mono ?_
 rintro e w3 ⟨rfl, hb3⟩
 have hy3 := (uh HYD).au hb3
 have r0 := aj.at hy3 0 _ rfl
 have r1 := aj.at hy3 1 _ rfl
 have r2 := aj.at hy3 2 _ rfl
 have r3 := aj.at hy3 3 _ rfl
 have r4 := aj.at hy3 4 _ rfl
 have r5 := aj.at hy3 5 _ rfl
 have r6 := aj.at hy3 6 _ rfl
 simp only [ga, gb, gc] at r0 r1 r2 r3 r4 r5 r6
 have rf := aj.soft hy3
 have rl := hy3.lt
 try go_wp2_with fail
 refine hK.out _ _ (zq.trans (aL hb3 _)) (fun zq => ?_)
 clear hK K
 try simp only [Act.put, pz, py, px]
 refine tkH 5 zq ?_
 refine tkH 6 zq ?_
 refine tkJ 7 (v := ?vc7) ?hc7 zq ?rc7
 case hc7 =>
  intro wS hSw
  have q0 : wS.cell? ⟨b, off + k * 7, none⟩ = some (.int .i64 n.id) := (cell_of_heap (hSw.block b hbl2 (fun e => by omega)) (off + k * 7)).trans x0
  have q1 : wS.cell? ⟨b, off + k * 7 + 1, none⟩ = some (.bool n.up) := (cell_of_heap (hSw.block b hbl2 (fun e => by omega)) (off + k * 7 + 1)).trans x1
  have q2 : wS.cell? ⟨b, off + k * 7 + 2, none⟩ = some (.int .i64 n.af) := (cell_of_heap (hSw.block b hbl2 (fun e => by omega)) (off + k * 7 + 2)).trans x2
  have q3 : wS.cell? ⟨b, off + k * 7 + 3, none⟩ = some (.int .i64 n.az) := (cell_of_heap (hSw.block b hbl2 (fun e => by omega)) (off + k * 7 + 3)).trans x3
  have q4 : wS.cell? ⟨b, off + k * 7 + 4, none⟩ = some (.slice an n.writes.length dn) := (cell_of_heap (hSw.block b hbl2 (fun e => by omega)) (off + k * 7 + 4)).trans x4
  have q5 : wS.cell? ⟨b, off + k * 7 + 5, none⟩ = some (.int .i64 n.sure) := (cell_of_heap (hSw.block b hbl2 (fun e => by omega)) (off + k * 7 + 5)).trans x5
  have q6 : wS.cell? ⟨b, off + k * 7 + 6, none⟩ = some (.int .i64 n.clean) := (cell_of_heap (hSw.block b hbl2 (fun e => by omega)) (off + k * 7 + 6)).trans x6
  clear hSw
  exact fZ
 refine rdH 8 (fun K hK => ?_)
 go_simp
 refine hK.out _ _ (Ext.setCell (Ext.setCell (Ext.setCell (Ext.setCell (Ext.setCell (Ext.setCell (Ext.setCell zq ⟨w.heap.size + 1, 0, none⟩ (.int .i64 n.id) (Nat.lt_succ_self _)) ⟨w.heap.size + 1, 1, none⟩ (.bool n.up) (Nat.lt_succ_self _)) ⟨w.heap.size + 1, 2, none⟩ (.int .i64 n.af) (Nat.lt_succ_self _)) ⟨w.heap.size + 1, 3, none⟩ (.int .i64 n.az) (Nat.lt_succ_self _)) ⟨w.heap.size + 1, 4, none⟩ (.slice an n.writes.length dn) (Nat.lt_succ_self _)) ⟨w.heap.size + 1, 5, none⟩ (.int .i64 n.sure) (Nat.lt_succ_self _)) ⟨w.heap.size + 1, 6, none⟩ (.int .i64 n.clean) (Nat.lt_succ_self _)) (fun zq => ?_)
 clear hK K
 try simp only [Act.put, pz, py, px]
 refine dZ ?_
 have hy9 := (aj.set (aj.set (aj.set (aj.set (aj.set (aj.set (aj.set hy3 0 (.int .i64 n.id)) 1 (.bool n.up)) 2 (.int .i64 n.af)) 3 (.int .i64 n.az)) 4 (.slice an n.writes.length dn)) 5 (.int .i64 n.sure)) 6 (.int .i64 n.clean))
 simp only [List.setIfInBounds_toArray, List.set_cons_zero, List.set_cons_succ] at hy9
 have HB9 := yh (aP ((uh HBD).trans (hb3.mono (uh HBD).size)) (w.heap.size + 1) 0 [.int .i64 n.id, .bool n.up, .int .i64 n.af, .int .i64 n.az, .slice an n.writes.length dn, .int .i64 n.sure, .int .i64 n.clean] (by omega))
 clear r0 r1 r2 r3 r4 r5 r6
 have r0 := aj.at hy9 0 _ rfl
 have r1 := aj.at hy9 1 _ rfl
 have r2 := aj.at hy9 2 _ rfl
 have r3 := aj.at hy9 3 _ rfl
 have r4 := aj.at hy9 4 _ rfl
 have r5 := aj.at hy9 5 _ rfl
 have r6 := aj.at hy9 6 _ rfl
 simp only [ga, gb, gc] at r0 r1 r2 r3 r4 r5 r6
 clear zq hy3 hy9 hb3 HL HYD HBD x0 x1 x2 x3 x4 x5 x6
 go_wp2_with fail
 refine bodyPost_ret (v := .agg #[.int .i64 n.id, .bool n.up, .int .i64 n.af, .int .i64 n.az, .slice an n.writes.length dn, .int .i64 n.sure, .int .i64 n.clean]) (by simp [results, Tryz.results128, go_sem, r0, r1, r2, r3, r4, r5, r6]) rfl ?_
 exact ⟨an, dn, rfl, (uh HN).ag (uh HB9), uh HB9⟩
theorem lP (cs : List Value) (x : ay) (k : Nat) (w : World) (h : ab.aC.Reads w cs x) (hok : dM x) (hk : k < x.nodes.length) (ht : dX x = (k : Int) + 1) :
  Calls Tryz.prog 163 #[.agg cs.toArray] w fun e w' => ∃ v, e = .returned v ∧ (ab.sl ab.ai).Reads w' [v] (x.nodes[k].writes.take x.nodes[k].sure.toNat) ∧ Below w.heap.size w w' := by
 obtain ⟨a3, d3, a4, d4, a5, d5, a6, d6, rfl, -, -, -, -⟩ := aG h
 have nb : Below w.heap.size w (w.alloc (.cells #[.int .i64 x.now, .int .i64 x.events, .int .i64 x.chain.af, .slice a3 x.chain.ids.length d3, .slice a4 x.nodes.length d4, .slice a5 x.msgs.length d5, .slice a6 x.ae.length d6] 37)) := (Below.refl _ _).alloc (Nat.le_refl _) _
 have HX : Hid (aj 0 #[.int .i64 x.now, .int .i64 x.events, .int .i64 x.chain.af, .slice a3 x.chain.ids.length d3, .slice a4 x.nodes.length d4, .slice a5 x.msgs.length d5, .slice a6 x.ae.length d6] 37 (w.alloc (.cells #[.int .i64 x.now, .int .i64 x.events, .int .i64 x.chain.af, .slice a3 x.chain.ids.length d3, .slice a4 x.nodes.length d4, .slice a5 x.msgs.length d5, .slice a6 x.ae.length d6] 37)) w.heap.size) := aH (Nat.zero_le _)
 have HL := yh (rG _ x k _ (h.ag nb) hok hk ht)
 have HB := yh nb
 have hno := cD (hok.nodes k hk).1
 have HS := yh hno.sure
 have HN4 := yh hno.len
 clear nb h hok hno
 go_enter Tryz.func163, Tryz.ntmps163
 go_upto_region 1 with fail
 generalize (w.alloc (.cells #[.int .i64 x.now, .int .i64 x.events, .int .i64 x.chain.af, .slice a3 x.chain.ids.length d3, .slice a4 x.nodes.length d4, .slice a5 x.msgs.length d5, .slice a6 x.ae.length d6] 37)) = W1 at *
 have z0 := aj.at (uh HX) 0 _ rfl
 have z1 := aj.at (uh HX) 1 _ rfl
 have z2 := aj.at (uh HX) 2 _ rfl
 have z3 := aj.at (uh HX) 3 _ rfl
 have z4 := aj.at (uh HX) 4 _ rfl
 have z5 := aj.at (uh HX) 5 _ rfl
 have z6 := aj.at (uh HX) 6 _ rfl
 simp only [ga, gb, gc] at z0 z1 z2 z3 z4 z5 z6
 have zl := (uh HX).lt
 go_wp2_with fail
 refine (uh HL).mono ?_
 rintro e w3 ⟨an, dn, rfl, RN, hb3⟩
 generalize hnn : x.nodes[k] = n at *
 obtain ⟨an', dn', hq, RW⟩ := bK RN
 simp only [List.cons.injEq, Value.slice.injEq, true_and, and_true] at hq
 obtain ⟨rfl, rfl⟩ := hq
 obtain ⟨m, hm⟩ : ∃ m : Nat, n.sure = (m : Int) := ⟨n.sure.toNat, by have := (uh HS).1; omega⟩
 have hmw : m ≤ n.writes.length := by have := (uh HS).2; omega
 have hmd : m ≤ dn := Nat.le_trans hmw RW.cap.2
 have hln : n.writes.length ≤ 40 := uh HN4
 have nb4 : Below w3.heap.size w3 (w3.alloc (.cells #[.int .i64 n.id, .bool n.up, .int .i64 n.af, .int .i64 n.az, .slice an n.writes.length dn, .int .i64 n.sure, .int .i64 n.clean] 79)) := (Below.refl _ _).alloc (Nat.le_refl _) _
 have HY : Hid (aj 0 #[.int .i64 n.id, .bool n.up, .int .i64 n.af, .int .i64 n.az, .slice an n.writes.length dn, .int .i64 n.sure, .int .i64 n.clean] 79 (w3.alloc (.cells #[.int .i64 n.id, .bool n.up, .int .i64 n.af, .int .i64 n.az, .slice an n.writes.length dn, .int .i64 n.sure, .int .i64 n.clean] 79)) w3.heap.size) := aH (Nat.zero_le _)
 have HT := yh (fW (RW.ag nb4).cX m hmw)
 replace HB := yh (((uh HB).trans (hb3.mono (uh HB).size)).trans (nb4.mono (Nat.le_trans (uh HB).size hb3.size)))
 have HTN : Hid (n.sure.toNat = m) := by show n.sure.toNat = m; omega
 rw [hm] at HY nb4 HT HB ⊢
 clear hb3 nb4 HL z0 z1 z2 z3 z4 z5 z6 zl RN RW HX hm HS
 go_upto_region 2 with fail
 generalize w3.alloc (.cells #[.int .i64 n.id, .bool n.up, .int .i64 n.af, .int .i64 n.az, .slice an n.writes.length dn, .int .i64 (m : Int), .int .i64 n.clean] 79) = w4 at *
 have y0 := aj.at (uh HY) 0 _ rfl
 have y1 := aj.at (uh HY) 1 _ rfl
 have y2 := aj.at (uh HY) 2 _ rfl
 have y3 := aj.at (uh HY) 3 _ rfl
 have y4 := aj.at (uh HY) 4 _ rfl
 have y5 := aj.at (uh HY) 5 _ rfl
 have y6 := aj.at (uh HY) 6 _ rfl
 simp only [ga, gb, gc] at y0 y1 y2 y3 y4 y5 y6
 have yl := (uh HY).lt
 clear HY
 go_wp2_with fail
 go_ret
 exact ⟨_, rfl, by rw [hnn, uh HTN]; exact (uh HT).reads, uh HB⟩
theorem nA (v : Value) (ws : List aA) (s q : Int) (w : World) (h : (ab.sl ab.ai).Reads w [v] ws) :
  Calls Tryz.prog 162 #[v, .int .i64 s , .int .i64 q] w fun e w' => ∃ cs, e = .returned (.agg cs.toArray) ∧ ab.eS.aQ w' cs (cK ws s q) w.heap.size w'.heap.size ∧ Below w.heap.size w w' := by
 have nb : Below w.heap.size w (w.alloc (.cells #[.int .i64 0, .int .i64 0] 60)) := (Below.refl _ _).alloc (Nat.le_refl _) _
 have bR0 : aj w.heap.size #[.int .i64 0, .int .i64 0] 60 (w.alloc (.cells #[.int .i64 0, .int .i64 0] 60)) w.heap.size := aH (Nat.le_refl _)
 have HR := yh (h.ag nb)
 have HB0 := yh nb
 have HBR := yh bR0
 obtain ⟨ao, cap, rfl⟩ := aE h
 clear nb bR0 h
 have HL := yh (kV _ ws _ (uh HR))
 go_enter Tryz.func162, Tryz.ntmps162
 go_wp2_with fail
 refine (uh HL).mono ?_
 rintro e w2 ⟨r, rfl, g0, g1, hb⟩
 have bR := (uh HBR).au hb
 have HB2 := yh ((uh HB0).trans (hb.mono (uh HB0).size))
 have hsz : (w.alloc (.cells #[.int .i64 0, .int .i64 0] 60)).heap.size = w.heap.size + 1 := by simp
 rw [hsz] at g0
 clear hb HL HB0 HBR HR hsz
 by_cases hf : aY ws = 0
 ·
  obtain ⟨rfl, v2, rows, bls, hT⟩ := g0 hf
  clear g0 g1
  have HF := yh hf
  rw [hf]
  clear hf
  have HS := yh (dt s w2)
  by_cases hs : 1 ≤ s ∧ s ≤ 9
  ·
   rw [dec9 hs] at HS
   have HQ := yh (iK q w2)
   by_cases hq : 1 ≤ q ∧ q ≤ 999
   ·
    rw [rT hq] at HQ
    have hlk := hT.seen.look (s := s) (q := q) (aR (by omega)) (aR (by omega))
    simp only [tick] at hlk
    have zm : w2.cell? ⟨w.heap.size + 1 + 1, 1, none⟩ = some (.map (some (w.heap.size + 1))) := hT.box.at 1 _ rfl
    by_cases h0 : bM ws s q = 0
    ·
     have HG : Hid (cK ws s q = ⟨4, 0⟩) := by show cK ws s q = _; rw [cK, if_pos (eJ (uh HF) hs), if_pos hq, if_pos h0]
     have hlk2 : (Instr.lookup 234 (.map (some (w.heap.size + 1))) (.agg #[.int .i64 s, .int .i64 q]) true).run Tryz.prog w2 = .ok (.tuple #[.int .i64 0, .bool false]) w2 := by rw [hlk, h0]; rfl
     clear hlk h0 hs hq hT HF
     go_wp2_with fail
     refine (uh HS).mono ?_
     rintro e w3 ⟨rfl, hw3⟩
     rw [hw3]
     clear hw3 w3
     go_wp2_with fail
     refine (uh HQ).mono ?_
     rintro e w3 ⟨rfl, hw3⟩
     rw [hw3]
     clear hw3 w3
     clear HS HQ
     have z0 : w2.cell? ⟨w.heap.size, 0, none⟩ = some (.int .i64 0) := bR.at 0 _ rfl
     have z1 : w2.cell? ⟨w.heap.size, 1, none⟩ = some (.int .i64 0) := bR.at 1 _ rfl
     have f0 := bR.soft 0
     have f1 := bR.soft 1
     have l0 := bR.lt
     clear bR
     go_wp2_with fail
     refine bodyPost_ret (v := .agg #[.int .i64 (4), .int .i64 (0)]) (by simp [results, Tryz.results162, go_sem, z0, z1]) rfl ?_
     rw [uh HG]
     exact ⟨_, rfl, fm (by decide) (by decide), ((uh HB2).setCell (by simp) _).setCell (by simp) _⟩
    have HG : Hid (cK ws s q = ⟨0, bM ws s q⟩) := by show cK ws s q = _; rw [cK, if_pos (eJ (uh HF) hs), if_pos hq, if_neg h0]
    have HBD : Hid (bM ws s q ≤ 200) := Nat.le_trans (jk ws s q) (fY (uh HF)).1
    have hlk2 : (Instr.lookup 234 (.map (some (w.heap.size + 1))) (.agg #[.int .i64 s, .int .i64 q]) true).run Tryz.prog w2 = .ok (.tuple #[.int .i64 (bM ws s q), .bool true]) w2 := by rw [hlk]; simp [h0]
    clear hlk h0 hs hq hT HF
    go_wp2_with fail
    refine (uh HS).mono ?_
    rintro e w3 ⟨rfl, hw3⟩
    rw [hw3]
    clear hw3 w3
    go_wp2_with fail
    refine (uh HQ).mono ?_
    rintro e w3 ⟨rfl, hw3⟩
    rw [hw3]
    clear hw3 w3
    clear HS HQ
    have z0 : w2.cell? ⟨w.heap.size, 0, none⟩ = some (.int .i64 0) := bR.at 0 _ rfl
    have z1 : w2.cell? ⟨w.heap.size, 1, none⟩ = some (.int .i64 0) := bR.at 1 _ rfl
    have f0 := bR.soft 0
    have f1 := bR.soft 1
    have l0 := bR.lt
    clear bR
    go_wp2_with fail
    refine bodyPost_ret (v := .agg #[.int .i64 (0), .int .i64 (bM ws s q)]) (by simp [results, Tryz.results162, go_sem, z0, z1]) rfl ?_
    rw [uh HG]
    exact ⟨_, rfl, fm (by decide) (aR (by have := uh HBD; omega)), ((uh HB2).setCell (by simp) _).setCell (by simp) _⟩
   rw [qN hq] at HQ
   have HG : Hid (cK ws s q = ⟨3, 0⟩) := by show cK ws s q = _; rw [cK, if_pos (eJ (uh HF) hs), if_neg hq]
   clear hs hq hT HF
   go_wp2_with fail
   refine (uh HS).mono ?_
   rintro e w3 ⟨rfl, hw3⟩
   rw [hw3]
   clear hw3 w3
   go_wp2_with fail
   refine (uh HQ).mono ?_
   rintro e w3 ⟨rfl, hw3⟩
   rw [hw3]
   clear hw3 w3
   clear HS HQ
   have z0 : w2.cell? ⟨w.heap.size, 0, none⟩ = some (.int .i64 0) := bR.at 0 _ rfl
   have z1 : w2.cell? ⟨w.heap.size, 1, none⟩ = some (.int .i64 0) := bR.at 1 _ rfl
   have f0 := bR.soft 0
   have f1 := bR.soft 1
   have l0 := bR.lt
   clear bR
   go_wp2_with fail
   refine bodyPost_ret (v := .agg #[.int .i64 (3), .int .i64 (0)]) (by simp [results, Tryz.results162, go_sem, z0, z1]) rfl ?_
   rw [uh HG]
   exact ⟨_, rfl, fm (by decide) (by decide), ((uh HB2).setCell (by simp) _).setCell (by simp) _⟩
  rw [sK hs] at HS
  have HG : Hid (cK ws s q = ⟨3, 0⟩) := by show cK ws s q = _; rw [cK, gO (uh HF) hs, if_neg (by decide)]
  clear hs hT HF
  go_wp2_with fail
  refine (uh HS).mono ?_
  rintro e w3 ⟨rfl, hw3⟩
  rw [hw3]
  clear hw3 w3
  clear HS
  have z0 : w2.cell? ⟨w.heap.size, 0, none⟩ = some (.int .i64 0) := bR.at 0 _ rfl
  have z1 : w2.cell? ⟨w.heap.size, 1, none⟩ = some (.int .i64 0) := bR.at 1 _ rfl
  have f0 := bR.soft 0
  have f1 := bR.soft 1
  have l0 := bR.lt
  clear bR
  go_wp2_with fail
  refine bodyPost_ret (v := .agg #[.int .i64 (3), .int .i64 (0)]) (by simp [results, Tryz.results162, go_sem, z0, z1]) rfl ?_
  rw [uh HG]
  exact ⟨_, rfl, fm (by decide) (by decide), ((uh HB2).setCell (by simp) _).setCell (by simp) _⟩
 obtain rfl := g1 hf
 clear g0 g1
 have HG : Hid (cK ws s q = ⟨aY ws, 0⟩) := by show cK ws s q = _; rw [cK, ox s hf, if_neg hf]
 have HWF := yh (sy ws)
 have hd : (aY ws != 0) = true := by simpa using hf
 clear hf
 have z0 : w2.cell? ⟨w.heap.size, 0, none⟩ = some (.int .i64 0) := bR.at 0 _ rfl
 have z1 : w2.cell? ⟨w.heap.size, 1, none⟩ = some (.int .i64 0) := bR.at 1 _ rfl
 have f0 := bR.soft 0
 have f1 := bR.soft 1
 have l0 := bR.lt
 clear bR
 go_wp2_with fail
 refine bodyPost_ret (v := .agg #[.int .i64 (aY ws), .int .i64 (0)]) (by simp [results, Tryz.results162, go_sem, z0, z1]) rfl ?_
 rw [uh HG]
 exact ⟨_, rfl, fm (uh HWF) (by decide), ((uh HB2).setCell (by simp) _).setCell (by simp) _⟩
theorem kM (cs : List Value) (x : ay) (k : Nat) (s q : Int) (w : World) (h : ab.aC.Reads w cs x) (hok : dM x) (hk : k < x.nodes.length) (ht : dX x = (k : Int) + 1) :
  Calls Tryz.prog 96 #[.agg cs.toArray, .int .i64 s, .int .i64 q] w fun e w' => e = .returned (.int .i64 (gM x s q)) ∧ Below w.heap.size w w' := by
 obtain ⟨a3, d3, a4, d4, a5, d5, a6, d6, rfl, -, -, -, -⟩ := aG h
 have nb : Below w.heap.size w (w.alloc (.cells #[.int .i64 x.now, .int .i64 x.events, .int .i64 x.chain.af, .slice a3 x.chain.ids.length d3, .slice a4 x.nodes.length d4, .slice a5 x.msgs.length d5, .slice a6 x.ae.length d6] 37)) := (Below.refl _ _).alloc (Nat.le_refl _) _
 have HX : Hid (aj 0 #[.int .i64 x.now, .int .i64 x.events, .int .i64 x.chain.af, .slice a3 x.chain.ids.length d3, .slice a4 x.nodes.length d4, .slice a5 x.msgs.length d5, .slice a6 x.ae.length d6] 37 (w.alloc (.cells #[.int .i64 x.now, .int .i64 x.events, .int .i64 x.chain.af, .slice a3 x.chain.ids.length d3, .slice a4 x.nodes.length d4, .slice a5 x.msgs.length d5, .slice a6 x.ae.length d6] 37)) w.heap.size) := aH (Nat.zero_le _)
 have HL := yh (lP _ x k _ (h.ag nb) hok hk ht)
 have HB := yh nb
 have hno := cD (hok.nodes k hk).1
 have HSV := yh (lA (ws := (x.nodes[k].writes.take x.nodes[k].sure.toNat)) (s := s) (q := q) (by rw [List.length_take]; have := hno.len; omega) (fun v hv => hno.ws v (List.mem_of_mem_take hv)))
 have HPL : Hid (gM x s q = ((bM (x.nodes[k].writes.take x.nodes[k].sure.toNat) s q : Nat) : Int)) := by show gM x s q = _; rw [gM, j8 hk ht]
 clear nb h hok hno
 go_enter Tryz.func96, Tryz.ntmps96
 go_upto_region 1 with fail
 generalize (w.alloc (.cells #[.int .i64 x.now, .int .i64 x.events, .int .i64 x.chain.af, .slice a3 x.chain.ids.length d3, .slice a4 x.nodes.length d4, .slice a5 x.msgs.length d5, .slice a6 x.ae.length d6] 37)) = W1 at *
 have z0 := aj.at (uh HX) 0 _ rfl
 have z1 := aj.at (uh HX) 1 _ rfl
 have z2 := aj.at (uh HX) 2 _ rfl
 have z3 := aj.at (uh HX) 3 _ rfl
 have z4 := aj.at (uh HX) 4 _ rfl
 have z5 := aj.at (uh HX) 5 _ rfl
 have z6 := aj.at (uh HX) 6 _ rfl
 simp only [ga, gb, gc] at z0 z1 z2 z3 z4 z5 z6
 have zl := (uh HX).lt
 go_wp2_with fail
 refine (uh HL).mono ?_
 rintro e w3 ⟨v3, rfl, RA, hb3⟩
 have HS := yh (nA v3 _ s q w3 RA)
 replace HB := bZ HB hb3
 clear hb3 HL RA z0 z1 z2 z3 z4 z5 z6 zl HX
 go_wp2_with fail
 refine (uh HS).mono ?_
 rintro e w4 ⟨us, rfl, O0, hb4⟩
 obtain ⟨rfl, -, -⟩ := mM O0
 replace HB := bZ HB hb4
 clear hb4 HS O0
 generalize (cK (x.nodes[k].writes.take x.nodes[k].sure.toNat) s q).code = c1 at *
 generalize (cK (x.nodes[k].writes.take x.nodes[k].sure.toNat) s q).value = v1 at *
 have hfl : ∀ w : World, (Instr.field 60 (.agg #[.int .i64 c1, .int .i64 v1]) 1).run Tryz.prog w = .ok (.int .i64 v1) w := fun _ => by kernel_rfl
 go_wp2_with fail
 go_ret
 exact ⟨by rw [uh HPL, ← uh HSV]; try rfl, uh HB⟩
def eG (g lo : Nat) (c : Int) (mv : Bool) (z : ay) (W : World) (e : Ending) (W' : World) : Prop :=
 ∃ m, e = .returned (.tuple #[.bool m, .int .i64 c]) ∧ (c = 0 → m = mv ∧ ∃ (u3 u4 u5 u6 : Value), aj 0 #[.int .i64 z.now, .int .i64 z.events, .int .i64 z.chain.af, u3, u4, u5, u6] 37 W' g ∧ fa W' lo g [.int .i64 z.now, .int .i64 z.events, .int .i64 z.chain.af, u3, u4, u5, u6] z) ∧ Ext (fun q => lo ≤ q) W W'
theorem lH (L kt p : Nat) (s q : Int) (y : ay) (W : World) (hp : aj 0 #[.int .i64 s, .int .i64 q] 117 W p) (_ : p < L) (hmid : dM y) (hkt : kt < y.nodes.length) (hti : dX y = (kt : Int) + 1) (hev : -1000000000 ≤ y.events ∧ y.events ≤ 1000000000) :
  nP L 145 #[.pointer (some ⟨p, 0, none⟩)] y (fb y s q) true (finished y s q) W := by
 intro g lo v3 v4 v5 v6 hL hg hlo hO
 show Calls Tryz.prog 145 #[.pointer (some ⟨g, 0, none⟩), .pointer (some ⟨p, 0, none⟩)] W (fun e W' => eG g lo (fb y s q) true (finished y s q) W e W')
 obtain ⟨_, _, _, _, _, _, a6, d6, hq, -, -, -, RE⟩ := aG hO.reads
 simp only [List.cons.injEq, and_true, true_and] at hq
 obtain ⟨-, -, -, rfl⟩ := hq
 have g6 := aj.at hg 6 _ rfl
 simp only [ga, gb, gc] at g6
 have hgl := hg.lt
 have HE := yh RE
 have HG0 := yh hg
 have HP := yh hp
 have HRD := yh hO.reads
 have HO := yh hO
 have HMID := yh hmid
 have HTI := yh hti
 have HEV := yh hev
 clear hp hg hO RE hmid hti hev
 go_enter Tryz.func145, Tryz.ntmps145
 go_upto_region 1 with fail
 refine wZz (fun w' => Below W.heap.size W w') ((Below.refl _ _).drew) (fun zq => ?_)
 generalize W.drew = wD at zq ⊢
 refine tkH 0 zq ?_
 refine tkH 1 zq ?_
 refine tkH 2 zq ?_
 refine tkJ 3 (v := ?vm3) ?hm3 zq ?rm3
 case hm3 =>
  intro wS hSw
  have q6 := cZ hSw hgl g6
  clear hSw
  exact fZ
 refine tkJ 4 (v := ?vm4) ?hm4 zq ?rm4
 case hm4 =>
  intro wS hSw
  have bS := (uh HP).au hSw
  have q0 := aj.at bS 0 _ rfl
  have q1 := aj.at bS 1 _ rfl
  simp only [ga, gb, gc] at q0 q1
  clear bS hSw
  exact fZ
 refine rdH 5 (fun K hK => ?_)
 go_simp
 go_at_call 146
 refine (jz _ y.ae s q _ ((uh HE).ag zq)).mono ?_
 rintro e W2 ⟨rfl, hbu⟩
 generalize htp : dG y.ae s q = tp at *
 try go_wp2_with fail
 refine hK.out _ _ (zq.trans (hbu.mono zq.size)) (fun zq => ?_)
 clear hK K
 try simp only [Act.put, pz, py, px]
 refine tkH 6 zq ?_
 refine dZ ?_
 have HG := yh ((uh HG0).au zq)
 replace HP := yh ((uh HP).au zq)
 replace HO := yh ((uh HO).ag zq)
 replace HRD := yh ((uh HRD).ag zq)
 have HX : Hid (Ext (fun q => lo ≤ q) W W2) := yh (aL zq _)
 have HTP := yh htp
 replace HE := yh ((uh HE).ag zq)
 clear zq hbu g6 hgl HG0 htp
 by_cases hneg : tp < 0
 ·
  have hd : decide (tp < 0) = true := by simpa using hneg
  have HC : Hid (fb y s q = 4) := by
   show fb y s q = 4
   exact if_pos (by rw [uh HTP]; exact hneg)
  clear hneg
  go_wp2_with fail
  go_ret2
  unfold eG
  exact ⟨false, by rw [uh HC]; rfl, fun h0 => by rw [uh HC] at h0; simp at h0, uh HX⟩
 have hd : decide (tp < 0) = false := by simpa using hneg
 obtain ⟨k, hk, hk1, hk2⟩ := fN (es := y.ae) (s := s) (q := q) (by rw [uh HTP]; omega)
 rw [uh HTP] at hk1
 subst hk1
 have hea : cM y s q = y.ae[k] := by
  rw [cM, hk2]
  simp [List.getD, hk]
 have HEA := yh hea
 have HK2 := yh hk2
 clear hea hk2
 go_upto_region 4 with fail
 clear hd hneg
 obtain ⟨b, off, d6', -, -, -, -, -, -, e6, hlb, hbl, hbg, -, -⟩ := jY (uh HO) hk
 simp only [Value.slice.injEq, true_and] at e6
 obtain ⟨rfl, rfl⟩ := e6
 obtain ⟨row, hcl, hr⟩ := ab.bm (uh HE) hk
 obtain ⟨aq, dq, av, dv, ah, dh, rfl, -, -, -⟩ := bB hr
 have x0 : W2.cell? ⟨b, off + k * 11, none⟩ = some (.int .i64 y.ae[k].kind) := hcl 0 (by decide)
 have x1 : W2.cell? ⟨b, off + k * 11 + 1, none⟩ = some (.int .i64 y.ae[k].aa) := hcl 1 (by decide)
 have x2 : W2.cell? ⟨b, off + k * 11 + 2, none⟩ = some (.int .i64 y.ae[k].seq) := hcl 2 (by decide)
 have x3 : W2.cell? ⟨b, off + k * 11 + 3, none⟩ = some (.int .i64 y.ae[k].id) := hcl 3 (by decide)
 have x4 : W2.cell? ⟨b, off + k * 11 + 4, none⟩ = some (.slice aq y.ae[k].query.length dq) := hcl 4 (by decide)
 have x5 : W2.cell? ⟨b, off + k * 11 + 5, none⟩ = some (.int .i64 y.ae[k].k) := hcl 5 (by decide)
 have x6 : W2.cell? ⟨b, off + k * 11 + 6, none⟩ = some (.int .i64 y.ae[k].start) := hcl 6 (by decide)
 have x7 : W2.cell? ⟨b, off + k * 11 + 7, none⟩ = some (.int .i64 y.ae[k].fin) := hcl 7 (by decide)
 have x8 : W2.cell? ⟨b, off + k * 11 + 8, none⟩ = some (.int .i64 y.ae[k].place) := hcl 8 (by decide)
 have x9 : W2.cell? ⟨b, off + k * 11 + 9, none⟩ = some (.slice av y.ae[k].vec.length dv) := hcl 9 (by decide)
 have x10 : W2.cell? ⟨b, off + k * 11 + 10, none⟩ = some (.slice ah y.ae[k].aN.length dh) := hcl 10 (by decide)
 have HL := yh (rp _ _ W2 hr)
 have g6 := aj.at (uh HG) 6 _ rfl
 simp only [ga, gb, gc] at g6
 have hgl := (uh HG).lt
 have hki : (k : Int) < (y.ae.length : Int) := by omega
 have hki0 : (0 : Int) ≤ (k : Int) := by omega
 clear hr hcl HE
 go_wp2_with fail
 refine (uh HL).mono ?_
 rintro e W3 ⟨rfl, hb⟩
 replace HG := yh ((uh HG).au hb)
 replace HP := yh ((uh HP).au hb)
 replace HO := yh ((uh HO).ag hb)
 replace HRD := yh ((uh HRD).ag hb)
 replace HX := yh ((uh HX).trans (aL hb _))
 clear HL hb g6 hgl x0 x1 x2 x3 x4 x5 x6 x7 x8 x9 x10 hki hki0
 cases hfin : (y.ae[k].fin != 0)
 ·
  have HFN : Hid ((cM y s q).fin = 0) := by
   show (cM y s q).fin = 0
   rw [uh HEA]
   simpa using hfin
  clear hfin
  go_upto_region 7 with fail
  refine wZz (fun w' => Below W3.heap.size W3 w') ((Below.refl _ _).drew) (fun zq => ?_)
  generalize W3.drew = wD at zq ⊢
  refine tkH 0 zq ?_
  refine tkH 1 zq ?_
  refine tkJ 2 (v := ?vk2) ?hk2 zq ?rk2
  case hk2 =>
   intro wS hSw
   have bS := (uh HG).au hSw
   have q0 := aj.at bS 0 _ rfl
   have q1 := aj.at bS 1 _ rfl
   have q2 := aj.at bS 2 _ rfl
   have q3 := aj.at bS 3 _ rfl
   have q4 := aj.at bS 4 _ rfl
   have q5 := aj.at bS 5 _ rfl
   have q6 := aj.at bS 6 _ rfl
   simp only [ga, gb, gc] at q0 q1 q2 q3 q4 q5 q6
   clear bS hSw
   exact fZ
  refine tkH 3 zq ?_
  refine tkJ 4 (v := ?vk4) ?hk4 zq ?rk4
  case hk4 =>
   intro wS hSw
   have bS := (uh HP).au hSw
   have q0 := aj.at bS 0 _ rfl
   have q1 := aj.at bS 1 _ rfl
   simp only [ga, gb, gc] at q0 q1
   clear bS hSw
   exact fZ
  refine tkH 5 zq ?_
  refine tkJ 6 (v := ?vk6) ?hk6 zq ?rk6
  case hk6 =>
   intro wS hSw
   have bS := (uh HP).au hSw
   have q0 := aj.at bS 0 _ rfl
   have q1 := aj.at bS 1 _ rfl
   simp only [ga, gb, gc] at q0 q1
   clear bS hSw
   exact fZ
  refine rdH 7 (fun K hK => ?_)
  go_simp
  go_at_call 96
  refine (kM _ y kt s q _ ((uh HRD).ag zq) (uh HMID) hkt (uh HTI)).mono ?_
  rintro e WC ⟨rfl, hbu⟩
  try go_wp2_with fail
  refine hK.out _ _ (zq.trans (hbu.mono zq.size)) (fun zq => ?_)
  clear hK K
  try simp only [Act.put, pz, py, px]
  refine tkH 8 zq ?_
  refine dZ ?_
  have HSB := yh (jk (cW y) s q)
  have hno := cD ((uh HMID).nodes kt hkt).1
  have HSL : Hid ((cW y).length ≤ 40) := by
   show (cW y).length ≤ 40
   rw [j8 hkt (uh HTI), List.length_take]
   have := hno.len
   omega
  replace HG := yh ((uh HG).au zq)
  replace HO := yh ((uh HO).ag zq)
  replace HX := yh ((uh HX).trans (aL zq _))
  clear zq hbu hno HRD HP
  have HPL : Hid (gM y s q = ((bM (cW y) s q : Nat) : Int)) := rfl
  generalize gM y s q = pl at *
  by_cases hs0 : pl = 0
  ·
   have hdc : (pl == 0) = true := by simpa using hs0
   have HC : Hid (fb y s q = 8) := by
    show fb y s q = 8
    exact ((if_neg (by rw [uh HTP]; omega)).trans (if_neg (by rw [uh HFN]; decide))).trans (if_pos (by have := uh HPL; omega))
   clear hs0
   go_wp2_with fail
   go_ret2
   unfold eG
   exact ⟨false, by rw [uh HC]; rfl, fun h0 => by rw [uh HC] at h0; simp at h0, uh HX⟩
  have hdc : (pl == 0) = false := by simpa using hs0
  have HC : Hid (fb y s q = 0) := by
   show fb y s q = 0
   exact ((if_neg (by rw [uh HTP]; omega)).trans (if_neg (by rw [uh HFN]; decide))).trans (if_neg (by have := uh HPL; omega))
  have hsb : -1000000000 ≤ pl ∧ pl ≤ 1000000000 := by
   have := uh HSB
   have := uh HSL
   have := uh HPL
   omega
  replace HSB := yh hsb
  clear hs0 hsb HSL
  go_upto_region 10 with fail
  clear hdc
  obtain ⟨b', off', d6', aq', dq', av', dv', ah', dh', e6, -, -, -, hR0, hput⟩ := jY (uh HO) hk
  simp only [Value.slice.injEq, Option.some.injEq, Addr.mk.injEq, and_true, true_and] at e6
  obtain ⟨⟨rfl, rfl⟩, rfl⟩ := e6
  have HRW := yh hR0
  have HPUT := yh hput
  have g1 := aj.at (uh HG) 1 _ rfl
  simp only [ga, gb, gc] at g1
  have hgl := (uh HG).lt
  clear hR0 hput
  have x7 : WC.cell? ⟨b, off + k * 11 + 7, none⟩ = some (.int .i64 y.ae[k].fin) := (uh HRW).cells 7 (by decide)
  have f7 := (uh HRW).soft (off + k * 11 + 7)
  have bl := (uh HRW).lt
  have e1 : Ext (fun q => q = b) WC (WC.setCell ⟨b, off + k * 11 + 7, none⟩ (.int .i64 y.events)) := (Ext.refl _ _).setCell _ _ rfl
  have hR9 := (uh HRW).set 7 (.int .i64 y.events) (by decide)
  simp only [List.set_cons_succ, List.set_cons_zero] at hR9
  clear HRW
  have HRW := yh hR9
  have HGN := yh ((uh HG).ext e1 (fun e => hbg e.symm))
  have HXN := yh ((uh HX).trans (e1.mono (fun q _ e => by rw [e]; exact hlb)))
  clear hR9 e1
  go_upto_region 11 with fail
  generalize WC.setCell ⟨b, off + k * 11 + 7, none⟩ (.int .i64 y.events) = Wa at *
  clear x7 f7 bl HG HX
  have HG := HGN
  have HX := HXN
  clear HGN HXN
  clear g1 hgl
  have x8 : Wa.cell? ⟨b, off + k * 11 + 8, none⟩ = some (.int .i64 y.ae[k].place) := (uh HRW).cells 8 (by decide)
  have f8 := (uh HRW).soft (off + k * 11 + 8)
  have bl := (uh HRW).lt
  have e1 : Ext (fun q => q = b) Wa (Wa.setCell ⟨b, off + k * 11 + 8, none⟩ (.int .i64 pl)) := (Ext.refl _ _).setCell _ _ rfl
  have hR9 := (uh HRW).set 8 (.int .i64 pl) (by decide)
  simp only [List.set_cons_succ, List.set_cons_zero] at hR9
  clear HRW
  have HRW := yh hR9
  have HGN := yh ((uh HG).ext e1 (fun e => hbg e.symm))
  have HXN := yh ((uh HX).trans (e1.mono (fun q _ e => by rw [e]; exact hlb)))
  clear hR9 e1
  go_upto_region 12 with fail
  generalize Wa.setCell ⟨b, off + k * 11 + 8, none⟩ (.int .i64 pl) = Wb at *
  clear x8 f8 bl HG HX
  have HG := HGN
  have HX := HXN
  clear HGN HXN
  have hO9 := uh HPUT Wb y.events pl (aR (uh HEV)) (aR (uh HSB)) (uh HRW)
  have HO9 := yh hO9
  have HZ : Hid (finished y s q = lN y k (en y.ae[k] y.events pl)) := by
   show finished y s q = _
   rw [finished, uh HK2, uh HEA, uh HPL]
  clear hO9 HPUT HRW
  go_wp2_with fail
  go_ret2
  unfold eG
  refine ⟨true, by rw [uh HC]; rfl, fun _ => ⟨rfl, ?_⟩, uh HX⟩
  rw [uh HZ]
  exact ⟨_, _, _, _, uh HG, uh HO9⟩
 have HC : Hid (fb y s q = 6) := by
  show fb y s q = 6
  exact (if_neg (by rw [uh HTP]; omega)).trans (if_pos (by rw [uh HEA]; simpa using hfin))
 clear hfin
 go_wp2_with fail
 go_ret2
 unfold eG
 exact ⟨false, by rw [uh HC]; rfl, fun h0 => by rw [uh HC] at h0; simp at h0, uh HX⟩
end Go.Proofs.YtecagllmonckgaaGreat
