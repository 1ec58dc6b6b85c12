/-
  Texts of this proof in one: ImplWH, ImplMust, AppInts, ImplInts, ImplSameW, ImplMsgF, ImplFaced, ImplNetF, ImplWF, LawWorldF, OpenChain, OpenWrite, OpenNode, OpenMsg, OpenHit, OpenEntry, OpenWorld.
  Their conditions stand in their theorems.
-/
import Derived.Test.YthpbdafhjakekaaGreatWf11
import Derived.Deep.CutRange
import Derived.Test.YthpbdafhjakekaaGreatChecked
import Derived.Test.YthpbdafhjakekaaGreatWf01
import Derived.WalkKit
import Derived.WalkLawsBesides
import Derived.Test.YthpbdafhjakekaaGreatWf10
import Derived.Maps.AppendAt
import Derived.BigQuiet
import Derived.Deep.QuietTactic
import Derived.WalkSmall
import Derived.Test.YthpbdafhjakekaaGreatWf04
import Derived.Defers
import Derived.Recover
import Derived.Laws.Pointers
import Derived.Test.YthpbdafhjakekaaGreatWf03

namespace Go.Proofs.YthpbdafhjakekaaGreat
open Go.RowKit

theorem entryB_eq (X : DWorld) (e : DEntry) : entryB X e = ((decide (1 ≤ e.kind) && decide (e.kind ≤ 3)) && ((decide (1 ≤ e.start) && decide (e.start ≤ X.events)) && ((e.fin == 0 || (decide (e.start ≤ e.fin) && decide (e.fin ≤ X.events))) && (decide (0 ≤ e.place) && decide (e.place ≤ 40))))) := rfl
def entryE (ev : Int) (e : DEntry) : Bool := ((decide (1 ≤ e.kind) && decide (e.kind ≤ 3)) && ((decide (1 ≤ e.start) && decide (e.start ≤ ev)) && ((e.fin == 0 || (decide (e.start ≤ e.fin) && decide (e.fin ≤ ev))) && (decide (0 ≤ e.place) && decide (e.place ≤ 40)))))
theorem entryE_eq (ev : Int) (e : DEntry) : entryE ev e = ((decide (1 ≤ e.kind) && decide (e.kind ≤ 3)) && ((decide (1 ≤ e.start) && decide (e.start ≤ ev)) && ((e.fin == 0 || (decide (e.start ≤ e.fin) && decide (e.fin ≤ ev))) && (decide (0 ≤ e.place) && decide (e.place ≤ 40))))) := rfl
set_option maxRecDepth 100000 in
set_option maxHeartbeats 4000000 in
theorem isEntryC (cs : List Value) (x : DEntry) (ev : Int) (w : World) (h : Lay.tEntry.Reads w cs x) :
    Calls Tryz.prog 94 #[.agg cs.toArray, .int .i64 ev] w fun e w' => e = .returned (.bool (entryE ev x)) ∧ Below w.heap.size w w' := by
  have HP : Hid (entryE ev x = ((decide (1 ≤ x.kind) && decide (x.kind ≤ 3)) && ((decide (1 ≤ x.start) && decide (x.start ≤ ev)) && ((x.fin == 0 || (decide (x.start ≤ x.fin) && decide (x.fin ≤ ev))) && (decide (0 ≤ x.place) && decide (x.place ≤ 40)))))) := rfl
  generalize entryE ev x = r at *
  obtain ⟨aq, dq, av, dv, ah, dh, rfl, -, -, -⟩ := open_Entry h
  have nb : Below w.heap.size w (w.alloc (.cells #[.int .i64 x.kind, .int .i64 x.session, .int .i64 x.seq, .int .i64 x.id, .slice aq x.query.length dq, .int .i64 x.k, .int .i64 x.start, .int .i64 x.fin, .int .i64 x.place, .slice av x.vec.length dv, .slice ah x.hits.length dh] 121)) := (Below.refl _ _).alloc (Nat.le_refl _) _
  have bX : Box 0 #[.int .i64 x.kind, .int .i64 x.session, .int .i64 x.seq, .int .i64 x.id, .slice aq x.query.length dq, .int .i64 x.k, .int .i64 x.start, .int .i64 x.fin, .int .i64 x.place, .slice av x.vec.length dv, .slice ah x.hits.length dh] 121 (w.alloc (.cells #[.int .i64 x.kind, .int .i64 x.session, .int .i64 x.seq, .int .i64 x.id, .slice aq x.query.length dq, .int .i64 x.k, .int .i64 x.start, .int .i64 x.fin, .int .i64 x.place, .slice av x.vec.length dv, .slice ah x.hits.length dh] 121)) w.heap.size := newBox (Nat.zero_le _)
  have z0 := Box.at bX 0 _ rfl
  have z6 := Box.at bX 6 _ rfl
  have z7 := Box.at bX 7 _ rfl
  have z8 := Box.at bX 8 _ rfl
  simp only [List.getElem_toArray, List.getElem_cons_zero, List.getElem_cons_succ] at z0 z6 z7 z8
  have HB := hide nb
  clear nb bX h
  go_enter Tryz.func94, Tryz.ntmps94
  go_upto_region 1 with fail
  generalize w.alloc (.cells #[.int .i64 x.kind, .int .i64 x.session, .int .i64 x.seq, .int .i64 x.id, .slice aq x.query.length dq, .int .i64 x.k, .int .i64 x.start, .int .i64 x.fin, .int .i64 x.place, .slice av x.vec.length dv, .slice ah x.hits.length dh] 121) = w1 at *
  generalize x.kind = kd at *
  generalize x.start = st at *
  generalize x.fin = fi at *
  generalize x.place = pl at *
  go_cut [5] from 8 to 15 (fun s5 wx => s5 = .bool (decide (1 ≤ kd) && decide (kd ≤ 3)) ∧ wx = w1)
  case first =>
    cases k1 : decide (1 ≤ kd)
    · go_wp2_with fail
      go_meet
      exact ⟨by rw [k1]; rfl, rfl⟩
    · go_wp2_with fail
      go_meet
      exact ⟨by rw [k1, Bool.true_and], rfl⟩
  case rest =>
    obtain ⟨rfl, rfl⟩ := hcut
    generalize (decide (1 ≤ kd) && decide (kd ≤ 3)) = A at *
    go_upto_region 2 with fail
    go_cut [6] from 16 to 24 (fun s wx => s = .bool (decide (1 ≤ st) && decide (st ≤ ev)) ∧ wx = wc)
    case first =>
      cases k3 : decide (1 ≤ st)
      · go_wp2_with fail
        go_meet
        exact ⟨by rw [k3]; rfl, rfl⟩
      · go_wp2_with fail
        go_meet
        exact ⟨by rw [k3, Bool.true_and], rfl⟩
    case rest =>
      obtain ⟨rfl, rfl⟩ := hcut
      generalize (decide (1 ≤ st) && decide (st ≤ ev)) = B at *
      go_upto_region 3 with fail
      go_cut [7] from 25 to 35 (fun s wx => s = .bool (decide (st ≤ fi) && decide (fi ≤ ev)) ∧ wx = wc)
      case first =>
        cases k5 : decide (st ≤ fi)
        · go_wp2_with fail
          go_meet
          exact ⟨by rw [k5]; rfl, rfl⟩
        · go_wp2_with fail
          go_meet
          exact ⟨by rw [k5, Bool.true_and], rfl⟩
      case rest =>
        obtain ⟨rfl, rfl⟩ := hcut
        generalize (decide (st ≤ fi) && decide (fi ≤ ev)) = C at *
        cases A
        · go_wp2_with fail
          go_ret
          exact ⟨by rw [unhide HP]; rfl, unhide HB⟩
        · cases B
          · go_wp2_with fail
            go_ret
            exact ⟨by rw [unhide HP]; rfl, unhide HB⟩
          · cases C
            · generalize k7 : (fi == 0) = Z at *
              cases Z
              · go_wp2_with fail
                go_ret
                exact ⟨by rw [unhide HP]; simp, unhide HB⟩
              · skip
                go_wp2_with fail
                refine (isUpToC pl 40 wc).mono ?_
                rintro e w2 ⟨rfl, h2⟩
                subst w2
                generalize (decide (0 ≤ pl) && decide (pl ≤ 40)) = D at *
                go_wp2_with fail
                go_ret
                exact ⟨by rw [unhide HP]; simp, unhide HB⟩
            · skip
              go_wp2_with fail
              refine (isUpToC pl 40 wc).mono ?_
              rintro e w2 ⟨rfl, h2⟩
              subst w2
              generalize (decide (0 ≤ pl) && decide (pl ≤ 40)) = D at *
              go_wp2_with fail
              go_ret
              exact ⟨by rw [unhide HP]; simp, unhide HB⟩
theorem hist_drop (ev : Int) {xs : List DEntry} {k : Nat} (hk : k < xs.length) : (xs.drop k).all (entryE ev) = (entryE ev xs[k] && (xs.drop (k + 1)).all (entryE ev)) := by
  rw [List.drop_eq_getElem_cons hk, List.all_cons]
def histP (ev : Int) (xs : List DEntry) : Int := if 60 < xs.length then 2 else if (xs.drop 0).all (entryE ev) then 0 else 3
set_option maxRecDepth 100000 in
set_option maxHeartbeats 4000000 in
theorem historyFaultC (v : Value) (xs : List DEntry) (ev : Int) (w : World) (h : (Lay.sl Lay.tEntry).Reads w [v] xs) :
    Calls Tryz.prog 44 #[v, .int .i64 ev] w fun e w' => e = .returned (.int .i64 (histP ev xs)) ∧ Below w.heap.size w w' := by
  have hbig := h.big
  obtain ⟨ao, cap, rfl⟩ := open_sl h
  have H := hide h
  have HP : Hid (histP ev xs = if 60 < xs.length then 2 else if (xs.drop 0).all (entryE ev) then 0 else 3) := rfl
  clear h
  generalize histP ev xs = r at *
  go_enter Tryz.func44, Tryz.ntmps44
  cases d1 : decide ((60 : Int) < (xs.length : Int))
  · replace HP := hide ((unhide HP).trans (if_neg (by simp at d1; omega)))
    go_wp2_with fail
    clear d1
    go_loopw [12] (fun i wr => ∃ k : Nat, k ≤ xs.length ∧ i = .int .i64 k ∧ r = (if (xs.drop k).all (entryE ev) = true then 0 else 3) ∧ Below w.heap.size w wr) (fun i _ => xs.length - (intOf i).toNat)
    case atStart => exact ⟨0, Nat.zero_le _, rfl, unhide HP, Below.refl _ _⟩
    case round =>
      obtain ⟨k, hk, rfl, hF, hB⟩ := hrel
      clear HP
      by_cases hlt : k < xs.length
      · obtain ⟨b, off, rfl, hbl⟩ := Lay.sl_addr (unhide H) (by omega)
        obtain ⟨row, hcl, hr⟩ := Lay.row_at (unhide H) hlt
        replace hr := hr.later hB
        rw [hist_drop ev hlt] at hF
        have hdl : decide ((k : Int) < (xs.length : Int)) = true := by simp; omega
        obtain ⟨aq, dq, av, dv, ah, dh, rfl, -⟩ := open_Entry hr
        have c0 : wr.cell? ⟨b, off + k * 11, none⟩ = some (.int .i64 (xs[k]).kind) := (hB.cell (p := ⟨b, off + k * 11, none⟩) hbl).trans (hcl 0 (by decide))
        have c1 : wr.cell? ⟨b, off + k * 11 + 1, none⟩ = some (.int .i64 (xs[k]).session) := (hB.cell (p := ⟨b, off + k * 11 + 1, none⟩) hbl).trans (hcl 1 (by decide))
        have c2 : wr.cell? ⟨b, off + k * 11 + 2, none⟩ = some (.int .i64 (xs[k]).seq) := (hB.cell (p := ⟨b, off + k * 11 + 2, none⟩) hbl).trans (hcl 2 (by decide))
        have c3 : wr.cell? ⟨b, off + k * 11 + 3, none⟩ = some (.int .i64 (xs[k]).id) := (hB.cell (p := ⟨b, off + k * 11 + 3, none⟩) hbl).trans (hcl 3 (by decide))
        have c4 : wr.cell? ⟨b, off + k * 11 + 4, none⟩ = some (.slice aq (xs[k]).query.length dq) := (hB.cell (p := ⟨b, off + k * 11 + 4, none⟩) hbl).trans (hcl 4 (by decide))
        have c5 : wr.cell? ⟨b, off + k * 11 + 5, none⟩ = some (.int .i64 (xs[k]).k) := (hB.cell (p := ⟨b, off + k * 11 + 5, none⟩) hbl).trans (hcl 5 (by decide))
        have c6 : wr.cell? ⟨b, off + k * 11 + 6, none⟩ = some (.int .i64 (xs[k]).start) := (hB.cell (p := ⟨b, off + k * 11 + 6, none⟩) hbl).trans (hcl 6 (by decide))
        have c7 : wr.cell? ⟨b, off + k * 11 + 7, none⟩ = some (.int .i64 (xs[k]).fin) := (hB.cell (p := ⟨b, off + k * 11 + 7, none⟩) hbl).trans (hcl 7 (by decide))
        have c8 : wr.cell? ⟨b, off + k * 11 + 8, none⟩ = some (.int .i64 (xs[k]).place) := (hB.cell (p := ⟨b, off + k * 11 + 8, none⟩) hbl).trans (hcl 8 (by decide))
        have c9 : wr.cell? ⟨b, off + k * 11 + 9, none⟩ = some (.slice av (xs[k]).vec.length dv) := (hB.cell (p := ⟨b, off + k * 11 + 9, none⟩) hbl).trans (hcl 9 (by decide))
        have c10 : wr.cell? ⟨b, off + k * 11 + 10, none⟩ = some (.slice ah (xs[k]).hits.length dh) := (hB.cell (p := ⟨b, off + k * 11 + 10, none⟩) hbl).trans (hcl 10 (by decide))
        have HF := hide hF
        have HR := hide hr
        have HB := hide hB
        clear hF hr hB hcl
        generalize hx : xs[k] = x at *
        clear hx
        have nb : Below wr.heap.size wr (wr.alloc (.cells #[.int .i64 x.kind, .int .i64 x.session, .int .i64 x.seq, .int .i64 x.id, .slice aq x.query.length dq, .int .i64 x.k, .int .i64 x.start, .int .i64 x.fin, .int .i64 x.place, .slice av x.vec.length dv, .slice ah x.hits.length dh] 121)) := (Below.refl _ _).alloc (Nat.le_refl _) _
        have HL := hide (isEntryC _ x ev _ ((unhide HR).later nb))
        replace HB := hide ((unhide HB).trans (nb.mono (unhide HB).size))
        clear nb
        go_wp2_with fail
        refine (unhide HL).mono ?_
        generalize wr.alloc (.cells #[.int .i64 x.kind, .int .i64 x.session, .int .i64 x.seq, .int .i64 x.id, .slice aq x.query.length dq, .int .i64 x.k, .int .i64 x.start, .int .i64 x.fin, .int .i64 x.place, .slice av x.vec.length dv, .slice ah x.hits.length dh] 121) = W1 at *
        rintro e W2 ⟨rfl, hb⟩
        replace HB := hide ((unhide HB).trans (hb.mono (unhide HB).size))
        clear hb HL c0 c1 c2 c3 c4 c5 c6 c7 c8 c9 c10
        cases hf : entryE ev x
        · replace HF := hide ((unhide HF).trans (if_neg (by rw [hf]; simp)))
          clear hf
          go_wp2_with fail
          go_ret
          exact ⟨by rw [unhide HF]; rfl, unhide HB⟩
        · rw [hf, Bool.true_and] at HF
          clear hf
          go_wp2_with fail
          go_roundw
          case rel => exact ⟨k + 1, by omega, by go_num, unhide HF, unhide HB⟩
          case measure => simp [intOf]; omega
      · obtain rfl : k = xs.length := by omega
        rw [List.drop_length, List.all_nil, if_pos rfl] at hF
        have hdl : decide ((xs.length : Int) < (xs.length : Int)) = false := by simp
        have HF := hide hF
        have HB := hide hB
        clear hF hB
        go_wp2_with fail
        go_ret
        exact ⟨by rw [unhide HF]; rfl, unhide HB⟩
  · replace HP := hide ((unhide HP).trans (if_pos (by simp at d1; omega)))
    go_wp2_with fail
    go_ret
    exact ⟨by rw [unhide HP]; rfl, Below.refl _ _⟩
end Go.Proofs.YthpbdafhjakekaaGreat

namespace Go.Proofs.YthpbdafhjakekaaGreat
open Go.RowKit

/-- How what checks ends: a panic that carries the code, if there is one. -/
def wrongP (c : Int) : List PanicEntry := [{ v := .iface 202 (.agg #[.int .i64 c]), recovered := false }]
def wrongE (c : Int) : Ending := if c = 0 then .returned (.tuple #[]) else .panicked (wrongP c)
theorem wrongE_ok {c : Int} (h : c = 0) : wrongE c = .returned (.tuple #[]) := by rw [wrongE, if_pos h]
theorem wrongE_bad {c : Int} (h : c ≠ 0) : wrongE c = .panicked (wrongP c) := by rw [wrongE, if_neg h]

def workE (v : Value) (c : Int) : Ending := if c = 0 then .returned v else .panicked (wrongP c)
theorem workE_ok {v : Value} {c : Int} (h : c = 0) : workE v c = .returned v := by rw [workE, if_pos h]
theorem workE_bad {v : Value} {c : Int} (h : c ≠ 0) : workE v c = .panicked (wrongP c) := by rw [workE, if_neg h]

theorem mustT (c : Int) (w : World) :
    Calls Tryz.prog 143 #[.bool true, .int .i64 c] w fun e w' => e = .returned (.tuple #[]) ∧ w' = w := by
  go_enter Tryz.func143, Tryz.ntmps143
  go_wp2_with fail
  go_end0
  exact ⟨rfl, rfl⟩
theorem mustF (c : Int) (w : World) :
    Calls Tryz.prog 143 #[.bool false, .int .i64 c] w fun e w' => e = .panicked (wrongP c) ∧ w' = w := by
  go_enter Tryz.func143, Tryz.ntmps143
  go_wp2_with fail
  exact ⟨rfl, rfl, rfl⟩
end Go.Proofs.YthpbdafhjakekaaGreat

namespace Go.Proofs.YthpbdafhjakekaaGreat
open Go.RowKit

theorem append_noneI {P : Program} (t ty e : TypeId) (i : TypeInfo) (ht : P.underlying t = some (.slice e)) (hi : P.info? e = some i) (bo : Option Addr) (n cap c : Nat) (hn : n ≤ cap) (w : World) :
    (Builtin.append_ #[t, t] ty #[.slice bo n cap, .slice none 0 c]).run P w = (Builtin.append_ #[t, t] ty #[.slice bo n cap, .slice (some ⟨0, 0, none⟩) 0 c]).run P w := by
  simp [Builtin.append_, run_underlying ht, sizeOf, typeInfo, hi, Builtin.lenOf, hn, Builtin.firstCells, loadCells, loadCellsFrom]

theorem IsInts.news {w : World} {b off cap : Nat} {zs : List Int} (h : IsInts w (.slice (some ⟨b, off, none⟩) zs.length cap) zs) (hp : 0 < zs.length) : ∀ j u, (zs.map (Value.int .i64))[j]? = some u → w.cell? ((⟨b, off, none⟩ : Addr).add j) = some u := by
  intro j u hu
  obtain ⟨ao, cp, hv, hwf, hc⟩ := h
  obtain ⟨b', off', hao, hc1⟩ := hc hp
  simp only [Value.slice.injEq] at hv
  obtain ⟨rfl, -, -⟩ := hv
  simp only [Option.some.injEq, Addr.mk.injEq, and_true] at hao
  obtain ⟨rfl, rfl⟩ := hao
  have hj : j < zs.length := by
    have := (List.getElem?_eq_some_iff.1 hu).1
    simpa using this
  rw [Addr.add_lit, hc1 j hj]
  simp [hj] at hu
  simp [List.getD, hj, hu]

theorem run_append_ints {w : World} (base ty : Nat) (v : Value) (n : Nat) (xs : List Value) (hown : w.ownsRow base 2 1 v n xs) (x : Value) (ks : List Int) (hx : IsInts w x ks)
    (hn : n + ks.length ≤ 100000000) (hbase : base ≤ w.heap.size) :
    ∃ v' w', (Builtin.append_ #[22, 22] ty #[v, x]).run Tryz.prog w = .ok v' w' ∧ w'.ownsRow base 2 1 v' (n + ks.length) (xs ++ ks.map (Value.int .i64)) ∧ w.grownBy w' v.ownBlock := by
  obtain ⟨i0, hi, hz0, hz1, hz2⟩ := info_parts info2
  have hml : n + ks.length ≤ maxLen := by unfold maxLen; omega
  by_cases hp : 0 < ks.length
  · have hx' := hx
    obtain ⟨ao, cap, rfl, hwf, hc⟩ := hx'
    obtain ⟨b, off, rfl, hc1⟩ := hc hp
    obtain ⟨v', w', r1, r2, r3, -, -⟩ := run_append_own_at (P := Tryz.prog) w base 22 ty 2 i0 _ 1 8 Tryz.underlying22 hi hz0 hz1 hz2 rfl (by omega) v n xs hown ⟨b, off, none⟩ ks.length cap (ks.map (Value.int .i64)) (by simp) (hx.news hp) (by simp [Value.oneCell']) hml (by omega) hbase
    exact ⟨v', w', r1, r2, r3⟩
  · obtain rfl : ks = [] := List.eq_nil_of_length_eq_zero (by omega)
    obtain ⟨ao, cap, rfl, hwf, hc⟩ := hx
    cases ao with
    | none =>
      obtain ⟨v', w', r1, r2, r3, -, -⟩ := run_append_own_at (P := Tryz.prog) w base 22 ty 2 i0 _ 1 8 Tryz.underlying22 hi hz0 hz1 hz2 rfl (by omega) v n xs hown ⟨0, 0, none⟩ 0 cap [] rfl (by simp) (by simp) hml (by simp at hn; omega) hbase
      refine ⟨v', w', ?_, r2, r3⟩
      rcases hown.2 with ⟨rfl, h0⟩ | ⟨g, cp, cur, rfl, _, _, hle, _⟩
      · exact (append_noneI _ _ _ i0 Tryz.underlying22 hi none 0 0 cap (Nat.le_refl _) w).trans r1
      · exact (append_noneI _ _ _ i0 Tryz.underlying22 hi _ n cp cap hle w).trans r1
    | some ad =>
      obtain ⟨v', w', r1, r2, r3, -, -⟩ := run_append_own_at (P := Tryz.prog) w base 22 ty 2 i0 _ 1 8 Tryz.underlying22 hi hz0 hz1 hz2 rfl (by omega) v n xs hown ad 0 cap [] rfl (by simp) (by simp) hml (by simp at hn; omega) hbase
      exact ⟨v', w', r1, r2, r3⟩

/-- The same at an operation of a plain region. -/
theorem wpList_append_ints {w : World} {base : Nat} {v : Value} {n : Nat} {xs : List Value} (hown : w.ownsRow base 2 1 v n xs) {X : Value} {ks : List Int} (hx : IsInts w X ks)
    {ops : Array Oper} {rest : List Oper} {o : Oper} {a : Act} {Q : Exit → Act → World → Prop} (hgd : o.guard = none) (s x : Operand)
    (ho : o.op = .call { callee := .builtin .append, args := #[s, x], argTypes := #[22, 22] }) (hv : a.eval s = v) (hX : a.eval x = X)
    (hn : n + ks.length ≤ 100000000) (hbase : base ≤ w.heap.size)
    (h : ∀ v' w', w'.ownsRow base 2 1 v' (n + ks.length) (xs ++ ks.map (Value.int .i64)) → w.grownBy w' v.ownBlock → Below base w w' → wpList Tryz.prog ops Q rest (a.put o.dst v') w') :
    wpList Tryz.prog ops Q (o :: rest) a w := by
  refine wpList_plain hgd fun K hK => ?_
  obtain ⟨v', w', hr, h2, h3⟩ := run_append_ints base o.type v n xs hown X ks hx hn hbase
  unfold Oper.wp execOp
  simp only [ho, resolve, invoke, builtin, Sem.run_bind, Sem.run_pure, Result.andThen_ok, List.map_toArray, List.map_cons, List.map_nil, hv, hX, hr]
  exact hK _ _ (h v' w' h2 h3 ((Below.refl _ _).grown h3 hbase (fun j hj => (hown.lt j hj).1)))

end Go.Proofs.YthpbdafhjakekaaGreat

namespace Go.Proofs.YthpbdafhjakekaaGreat
open Go.RowKit

theorem ne_at_slEqual {ps qs : List Int} {k : Nat} (h : ps.getD k 0 ≠ qs.getD k 0) : decide (ps = qs) = false := by
  simp only [decide_eq_false_iff_not]
  rintro rfl
  exact h rfl
theorem eq_all_slEqual {ps qs : List Int} (hl : ps.length = qs.length) (h : ∀ j, j < ps.length → ps.getD j 0 = qs.getD j 0) : decide (ps = qs) = true := by
  simp only [decide_eq_true_eq]
  refine List.ext_getElem hl fun j h1 h2 => ?_
  have := h j h1
  simpa [List.getD, h1, h2] using this

set_option maxHeartbeats 800000 in
theorem slEqual_pos (b off cap b2 off2 cap2 : Nat) (ps qs : List Int) (w : World) (hl : ps.length = qs.length) (hn : ps.length ≤ 9223372036854775807) (hc : ∀ j, j < ps.length → w.cell? ⟨b, off + j, none⟩ = some (.int .i64 (ps.getD j 0)))
    (hc2 : ∀ j, j < ps.length → w.cell? ⟨b2, off2 + j, none⟩ = some (.int .i64 (qs.getD j 0))) :
    Calls Tryz.prog 193 #[.slice (some ⟨b, off, none⟩) ps.length cap, .slice (some ⟨b2, off2, none⟩) ps.length cap2] w fun e w' => e = .returned (.bool (decide (ps = qs))) ∧ Below w.heap.size w w' := by
  have HL := hide hl
  clear hl
  go_enter Tryz.func193, Tryz.ntmps193
  go_wp2
  go_loopw [13] (fun i wr => ∃ k : Nat, k ≤ ps.length ∧ i = .int .i64 k ∧ Below w.heap.size w wr ∧ ∀ j, j < k → ps.getD j 0 = qs.getD j 0) (fun i _ => ps.length - (intOf i).toNat)
  case atStart => exact ⟨0, Nat.zero_le _, rfl, Below.refl _ _, fun j hj => by omega⟩
  case round =>
    obtain ⟨k, hk, rfl, hB, hq⟩ := hrel
    by_cases hlt : k < ps.length
    · have hcx : wr.cell? ⟨b, off + k, none⟩ = some (.int .i64 (ps.getD k 0)) := (hB.cell (World.block_lt_of_cell? _ _ (hc k hlt))).trans (hc k hlt)
      have hcy : wr.cell? ⟨b2, off2 + k, none⟩ = some (.int .i64 (qs.getD k 0)) := (hB.cell (World.block_lt_of_cell? _ _ (hc2 k hlt))).trans (hc2 k hlt)
      have HQ := hide hq
      have HB := hide hB
      clear hc hc2 hq hB
      by_cases he : ps.getD k 0 = qs.getD k 0
      · have HE := hide he
        rw [← he] at hcy
        clear he
        generalize ps.getD k 0 = x at hcx hcy
        have hxx : (x != x) = false := by simp
        go_wp2
        go_quiet (fail)
        go_wp2
        go_roundw
        case rel =>
          refine ⟨k + 1, by omega, by go_num, below_drewN (unhide HB) _, fun j hj => ?_⟩
          by_cases hjk : j < k
          · exact unhide HQ j hjk
          · obtain rfl : j = k := by omega
            exact unhide HE
        case measure => simp [intOf]; omega
      · have HN := hide (ne_at_slEqual he)
        have hxy : (ps.getD k 0 != qs.getD k 0) = true := by rw [bne_iff_ne]; exact he
        clear he
        generalize ps.getD k 0 = x at hcx hxy
        generalize qs.getD k 0 = y at hcy hxy
        go_wp2
        go_quiet (fail)
        go_wp2
        go_ret
        exact ⟨by rw [unhide HN]; rfl, below_drewN (unhide HB) _⟩
    · obtain rfl : k = ps.length := by omega
      have HN := hide (eq_all_slEqual (unhide HL) hq)
      have HB := hide hB
      clear hc hc2 hq hB
      go_wp2
      go_ret
      exact ⟨by rw [unhide HN]; rfl, unhide HB⟩
set_option maxHeartbeats 400000 in
theorem slEqual_len (ao ao2 : Option Addr) (n m cap cap2 : Nat) (w : World) (h : n ≠ m) :
    Calls Tryz.prog 193 #[.slice ao n cap, .slice ao2 m cap2] w fun e w' => e = .returned (.bool false) ∧ Below w.heap.size w w' := by
  have hd : ((n : Int) != (m : Int)) = true := by rw [bne_iff_ne]; omega
  go_enter Tryz.func193, Tryz.ntmps193
  go_wp2
  go_ret
  exact ⟨rfl, Below.refl _ _⟩
theorem slEqual_zero (ao ao2 : Option Addr) (cap cap2 : Nat) (w : World) :
    Calls Tryz.prog 193 #[.slice ao 0 cap, .slice ao2 0 cap2] w fun e w' => e = .returned (.bool true) ∧ Below w.heap.size w w' := by
  go_enter Tryz.func193, Tryz.ntmps193
  go_wp2
  refine wp_loop_rounds 1 ?_
  rw [rounds_succ]
  go_wp2
  go_ret
  exact ⟨rfl, Below.refl _ _⟩
/-- Whether two lists of numbers are the same. -/
theorem slEqual (v v2 : Value) (ps qs : List Int) (w : World) (h : IsInts w v ps) (h2 : IsInts w v2 qs) (hn : ps.length ≤ 9223372036854775807) :
    Calls Tryz.prog 193 #[v, v2] w fun e w' => e = .returned (.bool (decide (ps = qs))) ∧ Below w.heap.size w w' := by
  obtain ⟨ao, cap, rfl, hwf, hc⟩ := h
  obtain ⟨ao2, cap2, rfl, _, hc2⟩ := h2
  by_cases hl : ps.length = qs.length
  · by_cases hp : 0 < ps.length
    · obtain ⟨b, off, rfl, hc1⟩ := hc hp
      obtain ⟨b2, off2, rfl, hc3⟩ := hc2 (by omega)
      rw [← hl] at hc3 ⊢
      exact slEqual_pos b off cap b2 off2 cap2 ps qs w hl hn hc1 hc3
    · obtain rfl : ps = [] := List.eq_nil_of_length_eq_zero (by omega)
      obtain rfl : qs = [] := List.eq_nil_of_length_eq_zero (by simpa using hl.symm)
      exact slEqual_zero ao ao2 cap cap2 w
  · rw [show decide (ps = qs) = false by simp only [decide_eq_false_iff_not]; rintro rfl; exact hl rfl]
    exact slEqual_len ao ao2 _ _ cap cap2 w hl

end Go.Proofs.YthpbdafhjakekaaGreat

namespace Go.Proofs.YthpbdafhjakekaaGreat
open Go.RowKit

set_option maxRecDepth 10000 in
set_option maxHeartbeats 2000000 in
theorem sameWrite (cs cs2 : List Value) (x y : DWrite) (w : World) (h : Lay.tWrite.Reads w cs x) (h2 : Lay.tWrite.Reads w cs2 y) :
    Calls Tryz.prog 173 #[.agg cs.toArray, .agg cs2.toArray] w fun e w' => e = .returned (.bool (sameW x y)) ∧ Below w.heap.size w w' := by
  obtain ⟨a2, d2, rfl, R2⟩ := open_Write h
  obtain ⟨a2z, d2z, rfl, R2z⟩ := open_Write h2
  clear h h2
  have HB : Hid (Below w.heap.size w ((w.alloc (.cells #[.int .i64 x.kind, .int .i64 x.id, .slice a2 x.vec.length d2, .int .i64 x.session, .int .i64 x.seq] 83)).alloc (.cells #[.int .i64 y.kind, .int .i64 y.id, .slice a2z y.vec.length d2z, .int .i64 y.session, .int .i64 y.seq] 83))) := ((Below.refl _ _).alloc (Nat.le_refl _) _).alloc (by simp) _
  cases e0 : (x.kind == y.kind) with
  | false =>
    have HS : Hid (sameW x y = false) := by
      show sameW x y = false
      simp [sameW, e0]
    go_enter Tryz.func173, Tryz.ntmps173
    go_wp2_with fail
    go_ret
    exact ⟨by rw [unhide HS]; rfl, unhide HB⟩
  | true =>
    cases e1 : (x.id == y.id) with
    | false =>
      have HS : Hid (sameW x y = false) := by
        show sameW x y = false
        simp [sameW, e0, e1]
      go_enter Tryz.func173, Tryz.ntmps173
      go_wp2_with fail
      go_ret
      exact ⟨by rw [unhide HS]; rfl, unhide HB⟩
    | true =>
      cases e2 : (x.session == y.session) with
      | false =>
        have HS : Hid (sameW x y = false) := by
          show sameW x y = false
          simp [sameW, e0, e1, e2]
        go_enter Tryz.func173, Tryz.ntmps173
        go_wp2_with fail
        go_ret
        exact ⟨by rw [unhide HS]; rfl, unhide HB⟩
      | true =>
        cases e3 : (x.seq == y.seq) with
        | false =>
          have HS : Hid (sameW x y = false) := by
            show sameW x y = false
            simp [sameW, e0, e1, e2, e3]
          go_enter Tryz.func173, Tryz.ntmps173
          go_wp2_with fail
          go_ret
          exact ⟨by rw [unhide HS]; rfl, unhide HB⟩
        | true =>
          have HS : Hid (sameW x y = decide (x.vec = y.vec)) := by
            show sameW x y = decide (x.vec = y.vec)
            simp [sameW, e0, e1, e2, e3]
          have L := hide (slEqual _ _ x.vec y.vec _ ((Lay.ints_reads R2).later (unhide HB)) ((Lay.ints_reads R2z).later (unhide HB)) R2.big)
          clear R2 R2z
          go_enter Tryz.func173, Tryz.ntmps173
          go_wp2_with fail
          refine (unhide L).mono ?_
          rintro e w1 ⟨rfl, hb⟩
          have HB1 := hide ((unhide HB).trans (hb.mono (unhide HB).size))
          clear hb L HB
          go_wp2_with fail
          go_ret
          exact ⟨by rw [unhide HS]; rfl, unhide HB1⟩
end Go.Proofs.YthpbdafhjakekaaGreat

namespace Go.Proofs.YthpbdafhjakekaaGreat
open Go.RowKit

/-- Whether an index fits a message. -/
def idxB (x : DMsg) : Bool := (decide (0 ≤ x.index) && decide (x.index ≤ 40)) && (x.kind == 2 || decide (0 < x.index))
set_option maxRecDepth 10000 in
theorem isMsgIndexC (a : Option Addr) (d : Nat) (x : DMsg) (w : World) :
    Calls Tryz.prog 174 #[.agg #[.int .i64 x.kind, .int .i64 x.epoch, .int .i64 x.src, .int .i64 x.dst, .int .i64 x.index, .int .i64 x.write.kind, .int .i64 x.write.id, .slice a x.write.vec.length d, .int .i64 x.write.session, .int .i64 x.write.seq]] w fun e w' => e = .returned (.bool (idxB x)) ∧ Below w.heap.size w w' := by
  have HB : Hid (Below w.heap.size w (w.alloc (.cells #[.int .i64 x.kind, .int .i64 x.epoch, .int .i64 x.src, .int .i64 x.dst, .int .i64 x.index, .int .i64 x.write.kind, .int .i64 x.write.id, .slice a x.write.vec.length d, .int .i64 x.write.session, .int .i64 x.write.seq] 85))) := (Below.refl _ _).alloc (Nat.le_refl _) _
  have L := hide (isUpToC x.index 40 (w.alloc (.cells #[.int .i64 x.kind, .int .i64 x.epoch, .int .i64 x.src, .int .i64 x.dst, .int .i64 x.index, .int .i64 x.write.kind, .int .i64 x.write.id, .slice a x.write.vec.length d, .int .i64 x.write.session, .int .i64 x.write.seq] 85)))
  cases d1 : (decide (0 ≤ x.index) && decide (x.index ≤ 40))
  · have HI : Hid (idxB x = false) := by show idxB x = false; rw [idxB, d1]; rfl
    rw [d1] at L
    clear d1
    go_enter Tryz.func174, Tryz.ntmps174
    go_wp2_with fail
    refine (unhide L).mono ?_
    rintro e w1 ⟨rfl, h1⟩
    subst w1
    clear L
    go_wp2_with fail
    go_ret
    exact ⟨by rw [unhide HI]; rfl, unhide HB⟩
  · rw [d1] at L
    cases d2 : (x.kind == 2)
    · have HI : Hid (idxB x = decide (0 < x.index)) := by show idxB x = _; rw [idxB, d1, d2]; rfl
      clear d1
      go_enter Tryz.func174, Tryz.ntmps174
      go_wp2_with fail
      refine (unhide L).mono ?_
      rintro e w1 ⟨rfl, h1⟩
      subst w1
      clear L
      go_wp2_with fail
      go_ret
      exact ⟨by rw [unhide HI]; rfl, unhide HB⟩
    · have HI : Hid (idxB x = true) := by show idxB x = _; rw [idxB, d1, d2]; rfl
      clear d1
      go_enter Tryz.func174, Tryz.ntmps174
      go_wp2_with fail
      refine (unhide L).mono ?_
      rintro e w1 ⟨rfl, h1⟩
      subst w1
      clear L
      go_wp2_with fail
      go_ret
      exact ⟨by rw [unhide HI]; rfl, unhide HB⟩

def zeroW : DWrite := ⟨0, 0, [], 0, 0⟩
theorem sameW_zero (y : DWrite) : sameW y zeroW = true ↔ noW y := by
  constructor
  · intro h
    simp only [sameW, zeroW, Bool.and_eq_true, beq_iff_eq] at h
    exact ⟨h.1, h.2.1, h.2.2.1, h.2.2.2.1, by rw [of_decide_eq_true h.2.2.2.2]; rfl⟩
  · rintro ⟨h1, h2, h3, h4, h5⟩
    have h6 : y.vec = [] := List.eq_nil_of_length_eq_zero h5
    simp only [sameW, zeroW, Bool.and_eq_true, beq_iff_eq]
    exact ⟨h1, h2, h3, h4, decide_eq_true h6⟩
theorem zeroW_reads (w : World) : Lay.tWrite.Reads w [.int .i64 0, .int .i64 0, .slice none 0 0, .int .i64 0, .int .i64 0] zeroW :=
  ⟨[], lies_Write.2 ⟨none, 0, [], rfl, rfl, by decide, by decide, ⟨none, 0, rfl, ⟨by simp [zeroW], by simp [zeroW]⟩, Or.inl ⟨rfl, rfl⟩⟩, by decide, by decide⟩⟩

/-! What comes first. -/
theorem mfi_kind {x : DMsg} (h : (x.kind == 1) = false) (h2 : (x.kind == 2) = false) : msgFault x = 1 := by
  have h1 : ¬ x.kind = 1 := by simpa using h
  have h3 : ¬ x.kind = 2 := by simpa using h2
  rw [msgFault, if_pos (Or.inl (by omega))]
theorem mfi_self {x : DMsg} (h : (x.src != x.dst) = false) : msgFault x = 1 := by
  rw [msgFault, if_pos (Or.inr (Or.inl (by simpa using h)))]
theorem mfi_ack {x : DMsg} (h : (x.kind == 2) = true) (h2 : sameW x.write zeroW = false) : msgFault x = 1 := by
  rw [msgFault, if_pos (Or.inr (Or.inr ⟨by simpa using h, fun q => by rw [(sameW_zero _).2 q] at h2; simp at h2⟩))]
/-- The form is right. -/
def formM (x : DMsg) : Prop := (1 ≤ x.kind ∧ x.kind ≤ 2) ∧ x.src ≠ x.dst ∧ (x.kind = 2 → noW x.write)
theorem mfi_form {x : DMsg} (h : formM x) : msgFault x = if ¬ (1 ≤ x.epoch ∧ x.epoch ≤ 999) ∨ ¬ (1 ≤ x.src ∧ x.src ≤ 5) ∨ ¬ (1 ≤ x.dst ∧ x.dst ≤ 5) ∨ ¬ (0 ≤ x.index ∧ x.index ≤ 40) ∨ (x.kind ≠ 2 ∧ x.index = 0) then 3
  else if x.kind = 2 then 0 else wF x.write := by
  rw [msgFault, if_neg]
  rintro (h1 | h1 | h1)
  · exact h1 h.1
  · exact h.2.1 h1
  · exact h1.2 (h.2.2 h1.1)
theorem mfi_epoch {x : DMsg} (h : formM x) (h2 : (decide (1 ≤ x.epoch) && decide (x.epoch ≤ 999)) = false) : msgFault x = 3 := by
  rw [mfi_form h, if_pos (Or.inl fun q => by simp at h2; omega)]
theorem mfi_src {x : DMsg} (h : formM x) (h2 : (decide (1 ≤ x.src) && decide (x.src ≤ 5)) = false) : msgFault x = 3 := by
  rw [mfi_form h, if_pos (Or.inr (Or.inl fun q => by simp at h2; omega))]
theorem mfi_dst {x : DMsg} (h : formM x) (h2 : (decide (1 ≤ x.dst) && decide (x.dst ≤ 5)) = false) : msgFault x = 3 := by
  rw [mfi_form h, if_pos (Or.inr (Or.inr (Or.inl fun q => by simp at h2; omega)))]
theorem mfi_idx {x : DMsg} (h : formM x) (h2 : idxB x = false) : msgFault x = 3 := by
  rw [mfi_form h, if_pos]
  have : ¬ (0 ≤ x.index ∧ x.index ≤ 40) ∨ (x.kind ≠ 2 ∧ x.index = 0) := by
    refine Decidable.byContradiction fun q => ?_
    rw [idxB] at h2
    have q1 : 0 ≤ x.index ∧ x.index ≤ 40 := Decidable.byContradiction fun z => q (Or.inl z)
    rw [decide_eq_true q1.1, decide_eq_true q1.2] at h2
    simp at h2
    exact q (Or.inr ⟨h2.1, by omega⟩)
  exact Or.inr (Or.inr (Or.inr this))
theorem mfi_rest {x : DMsg} (h : formM x) (h1 : (decide (1 ≤ x.epoch) && decide (x.epoch ≤ 999)) = true) (h2 : (decide (1 ≤ x.src) && decide (x.src ≤ 5)) = true) (h3 : (decide (1 ≤ x.dst) && decide (x.dst ≤ 5)) = true) (h4 : idxB x = true) : msgFault x = if x.kind = 2 then 0 else wF x.write := by
  simp only [Bool.and_eq_true, decide_eq_true_eq] at h1 h2 h3
  simp only [idxB, Bool.and_eq_true, Bool.or_eq_true, decide_eq_true_eq, beq_iff_eq] at h4
  rw [mfi_form h, if_neg]
  rintro (q | q | q | q | q)
  · exact q h1
  · exact q h2
  · exact q h3
  · exact q h4.1
  · rcases h4.2 with z | z
    · exact q.1 z
    · omega
theorem vec_of {w : World} {x : DWrite} {a : Option Addr} {d : Nat} (h : Lay.tWrite.Reads w [.int .i64 x.kind, .int .i64 x.id, .slice a x.vec.length d, .int .i64 x.session, .int .i64 x.seq] x) : (Lay.sl Lay.int).Reads w [.slice a x.vec.length d] x.vec := by
  obtain ⟨a2, d2, e, R⟩ := open_Write h
  simp only [List.cons.injEq, Value.slice.injEq, and_true, true_and] at e
  obtain ⟨rfl, rfl⟩ := e
  exact R
set_option maxRecDepth 10000 in
set_option maxHeartbeats 4000000 in
theorem mustBeMsgC (cs : List Value) (x : DMsg) (w : World) (h : Lay.tMsg.Reads w cs x) :
    Calls Tryz.prog 144 #[.agg cs.toArray] w fun e w' => e = wrongE (msgFault x) ∧ Below w.heap.size w w' := by
  obtain ⟨a, d, rfl, R⟩ := open_Msg h
  have nb : Below w.heap.size w (w.alloc (.cells #[.int .i64 x.kind, .int .i64 x.epoch, .int .i64 x.src, .int .i64 x.dst, .int .i64 x.index, .int .i64 x.write.kind, .int .i64 x.write.id, .slice a x.write.vec.length d, .int .i64 x.write.session, .int .i64 x.write.seq] 85)) := (Below.refl _ _).alloc (Nat.le_refl _) _
  have HR := hide (R.later nb)
  have HB := hide nb
  have HX : Hid (Box 0 #[.int .i64 x.kind, .int .i64 x.epoch, .int .i64 x.src, .int .i64 x.dst, .int .i64 x.index, .int .i64 x.write.kind, .int .i64 x.write.id, .slice a x.write.vec.length d, .int .i64 x.write.session, .int .i64 x.write.seq] 85 (w.alloc (.cells #[.int .i64 x.kind, .int .i64 x.epoch, .int .i64 x.src, .int .i64 x.dst, .int .i64 x.index, .int .i64 x.write.kind, .int .i64 x.write.id, .slice a x.write.vec.length d, .int .i64 x.write.session, .int .i64 x.write.seq] 85)) w.heap.size) := newBox (Nat.zero_le _)
  clear R h nb
  go_enter Tryz.func144, Tryz.ntmps144
  go_upto_region 1 with fail
  generalize (w.alloc (.cells #[.int .i64 x.kind, .int .i64 x.epoch, .int .i64 x.src, .int .i64 x.dst, .int .i64 x.index, .int .i64 x.write.kind, .int .i64 x.write.id, .slice a x.write.vec.length d, .int .i64 x.write.session, .int .i64 x.write.seq] 85)) = W1 at *
  have z0 : W1.cell? ⟨w.heap.size, 0, none⟩ = some (.int .i64 x.kind) := (unhide HX).at 0 _ rfl
  have z1 : W1.cell? ⟨w.heap.size, 1, none⟩ = some (.int .i64 x.epoch) := (unhide HX).at 1 _ rfl
  have z2 : W1.cell? ⟨w.heap.size, 2, none⟩ = some (.int .i64 x.src) := (unhide HX).at 2 _ rfl
  have z3 : W1.cell? ⟨w.heap.size, 3, none⟩ = some (.int .i64 x.dst) := (unhide HX).at 3 _ rfl
  have z4 : W1.cell? ⟨w.heap.size, 4, none⟩ = some (.int .i64 x.index) := (unhide HX).at 4 _ rfl
  have z5 : W1.cell? ⟨w.heap.size, 5, none⟩ = some (.int .i64 x.write.kind) := (unhide HX).at 5 _ rfl
  have z6 : W1.cell? ⟨w.heap.size, 6, none⟩ = some (.int .i64 x.write.id) := (unhide HX).at 6 _ rfl
  have z7 : W1.cell? ⟨w.heap.size, 7, none⟩ = some (.slice a x.write.vec.length d) := (unhide HX).at 7 _ rfl
  have z8 : W1.cell? ⟨w.heap.size, 8, none⟩ = some (.int .i64 x.write.session) := (unhide HX).at 8 _ rfl
  have z9 : W1.cell? ⟨w.heap.size, 9, none⟩ = some (.int .i64 x.write.seq) := (unhide HX).at 9 _ rfl
  cases e1 : (x.kind == 1)
  · cases e2 : (x.kind == 2)
    · have HF := hide (mfi_kind e1 e2)
      go_wp2_with fail
      refine (mustF 1 _).mono ?_
      rintro e w9 ⟨rfl, h9⟩
      subst w9
      go_wp2_with fail
      exact ⟨rfl, by rw [unhide HF]; rfl, unhide HB⟩
    · go_wp2_with fail
      refine (mustT 1 _).mono ?_
      rintro e w9 ⟨rfl, h9⟩
      subst w9
      cases e3 : (x.src != x.dst)
      · have HF := hide (mfi_self e3)
        go_wp2_with fail
        refine (mustF 1 _).mono ?_
        rintro e w9 ⟨rfl, h9⟩
        subst w9
        go_wp2_with fail
        exact ⟨rfl, by rw [unhide HF]; rfl, unhide HB⟩
      · go_wp2_with fail
        refine (mustT 1 _).mono ?_
        rintro e w9 ⟨rfl, h9⟩
        subst w9
        have HL := hide (sameWrite _ _ x.write zeroW W1 (unhide HR) (zeroW_reads W1))
        go_wp2_with fail
        refine (unhide HL).mono ?_
        rintro e Wa ⟨rfl, hb⟩
        replace HX := hide ((unhide HX).keep hb)
        replace HR := hide ((unhide HR).later hb)
        replace HB := hide ((unhide HB).trans (hb.mono (unhide HB).size))
        clear hb z0 z1 z2 z3 z4 z5 z6 z7 z8 z9
        have z0 : Wa.cell? ⟨w.heap.size, 0, none⟩ = some (.int .i64 x.kind) := (unhide HX).at 0 _ rfl
        have z1 : Wa.cell? ⟨w.heap.size, 1, none⟩ = some (.int .i64 x.epoch) := (unhide HX).at 1 _ rfl
        have z2 : Wa.cell? ⟨w.heap.size, 2, none⟩ = some (.int .i64 x.src) := (unhide HX).at 2 _ rfl
        have z3 : Wa.cell? ⟨w.heap.size, 3, none⟩ = some (.int .i64 x.dst) := (unhide HX).at 3 _ rfl
        have z4 : Wa.cell? ⟨w.heap.size, 4, none⟩ = some (.int .i64 x.index) := (unhide HX).at 4 _ rfl
        have z5 : Wa.cell? ⟨w.heap.size, 5, none⟩ = some (.int .i64 x.write.kind) := (unhide HX).at 5 _ rfl
        have z6 : Wa.cell? ⟨w.heap.size, 6, none⟩ = some (.int .i64 x.write.id) := (unhide HX).at 6 _ rfl
        have z7 : Wa.cell? ⟨w.heap.size, 7, none⟩ = some (.slice a x.write.vec.length d) := (unhide HX).at 7 _ rfl
        have z8 : Wa.cell? ⟨w.heap.size, 8, none⟩ = some (.int .i64 x.write.session) := (unhide HX).at 8 _ rfl
        have z9 : Wa.cell? ⟨w.heap.size, 9, none⟩ = some (.int .i64 x.write.seq) := (unhide HX).at 9 _ rfl
        clear HL
        cases e9 : sameW x.write zeroW
        · have HF := hide (mfi_ack e2 e9)
          clear e9
          go_wp2_with fail
          refine (mustF 1 _).mono ?_
          rintro e w9 ⟨rfl, h9⟩
          subst w9
          go_wp2_with fail
          exact ⟨rfl, by rw [unhide HF]; rfl, unhide HB⟩
        · have HFM : Hid (formM x) := ⟨by simp at e2; omega, by simpa using e3, fun _ => (sameW_zero _).1 e9⟩
          clear e9
          go_wp2_with fail
          refine (mustT 1 _).mono ?_
          rintro e w9 ⟨rfl, h9⟩
          subst w9
          cases e4 : (decide (1 ≤ x.epoch) && decide (x.epoch ≤ 999))
          · have HL := hide (isChainEpochC x.epoch Wa)
            rw [e4] at HL
            have HF := hide (mfi_epoch (unhide HFM) e4)
            clear e4
            go_wp2_with fail
            refine (unhide HL).mono ?_
            rintro e w9 ⟨rfl, h9⟩
            subst w9
            clear HL
            go_wp2_with fail
            refine (mustF 3 _).mono ?_
            rintro e w9 ⟨rfl, h9⟩
            subst w9
            go_wp2_with fail
            exact ⟨rfl, by rw [unhide HF]; rfl, unhide HB⟩
          · have HL := hide (isChainEpochC x.epoch Wa)
            rw [e4] at HL
            have HE := hide e4
            clear e4
            go_wp2_with fail
            refine (unhide HL).mono ?_
            rintro e w9 ⟨rfl, h9⟩
            subst w9
            clear HL
            go_wp2_with fail
            refine (mustT 3 _).mono ?_
            rintro e w9 ⟨rfl, h9⟩
            subst w9
            cases e5 : (decide (1 ≤ x.src) && decide (x.src ≤ 5))
            · have HL := hide (isNodeIdC x.src Wa)
              rw [e5] at HL
              have HF := hide (mfi_src (unhide HFM) e5)
              clear e5
              go_wp2_with fail
              refine (unhide HL).mono ?_
              rintro e w9 ⟨rfl, h9⟩
              subst w9
              clear HL
              go_wp2_with fail
              refine (mustF 3 _).mono ?_
              rintro e w9 ⟨rfl, h9⟩
              subst w9
              go_wp2_with fail
              exact ⟨rfl, by rw [unhide HF]; rfl, unhide HB⟩
            · have HL := hide (isNodeIdC x.src Wa)
              rw [e5] at HL
              have HS := hide e5
              clear e5
              go_wp2_with fail
              refine (unhide HL).mono ?_
              rintro e w9 ⟨rfl, h9⟩
              subst w9
              clear HL
              cases e6 : (decide (1 ≤ x.dst) && decide (x.dst ≤ 5))
              · have HL := hide (isNodeIdC x.dst Wa)
                rw [e6] at HL
                have HF := hide (mfi_dst (unhide HFM) e6)
                clear e6
                go_wp2_with fail
                refine (unhide HL).mono ?_
                rintro e w9 ⟨rfl, h9⟩
                subst w9
                clear HL
                go_wp2_with fail
                refine (mustF 3 _).mono ?_
                rintro e w9 ⟨rfl, h9⟩
                subst w9
                go_wp2_with fail
                exact ⟨rfl, by rw [unhide HF]; rfl, unhide HB⟩
              · have HL := hide (isNodeIdC x.dst Wa)
                rw [e6] at HL
                have HD := hide e6
                clear e6
                go_wp2_with fail
                refine (unhide HL).mono ?_
                rintro e w9 ⟨rfl, h9⟩
                subst w9
                clear HL
                go_wp2_with fail
                refine (mustT 3 _).mono ?_
                rintro e w9 ⟨rfl, h9⟩
                subst w9
                have HL := hide (isMsgIndexC a d x Wa)
                go_wp2_with fail
                refine (unhide HL).mono ?_
                rintro e W2 ⟨rfl, hb⟩
                replace HX := hide ((unhide HX).keep hb)
                replace HR := hide ((unhide HR).later hb)
                replace HB := hide ((unhide HB).trans (hb.mono (unhide HB).size))
                clear hb z0 z1 z2 z3 z4 z5 z6 z7 z8 z9
                have z0 : W2.cell? ⟨w.heap.size, 0, none⟩ = some (.int .i64 x.kind) := (unhide HX).at 0 _ rfl
                have z1 : W2.cell? ⟨w.heap.size, 1, none⟩ = some (.int .i64 x.epoch) := (unhide HX).at 1 _ rfl
                have z2 : W2.cell? ⟨w.heap.size, 2, none⟩ = some (.int .i64 x.src) := (unhide HX).at 2 _ rfl
                have z3 : W2.cell? ⟨w.heap.size, 3, none⟩ = some (.int .i64 x.dst) := (unhide HX).at 3 _ rfl
                have z4 : W2.cell? ⟨w.heap.size, 4, none⟩ = some (.int .i64 x.index) := (unhide HX).at 4 _ rfl
                have z5 : W2.cell? ⟨w.heap.size, 5, none⟩ = some (.int .i64 x.write.kind) := (unhide HX).at 5 _ rfl
                have z6 : W2.cell? ⟨w.heap.size, 6, none⟩ = some (.int .i64 x.write.id) := (unhide HX).at 6 _ rfl
                have z7 : W2.cell? ⟨w.heap.size, 7, none⟩ = some (.slice a x.write.vec.length d) := (unhide HX).at 7 _ rfl
                have z8 : W2.cell? ⟨w.heap.size, 8, none⟩ = some (.int .i64 x.write.session) := (unhide HX).at 8 _ rfl
                have z9 : W2.cell? ⟨w.heap.size, 9, none⟩ = some (.int .i64 x.write.seq) := (unhide HX).at 9 _ rfl
                clear HL
                cases e7 : idxB x
                · have HF := hide (mfi_idx (unhide HFM) e7)
                  clear e7
                  go_wp2_with fail
                  refine (mustF 3 _).mono ?_
                  rintro e w9 ⟨rfl, h9⟩
                  subst w9
                  go_wp2_with fail
                  exact ⟨rfl, by rw [unhide HF]; rfl, unhide HB⟩
                · have HF := hide (mfi_rest (unhide HFM) (unhide HE) (unhide HS) (unhide HD) e7)
                  clear e7
                  go_wp2_with fail
                  refine (mustT 3 _).mono ?_
                  rintro e w9 ⟨rfl, h9⟩
                  subst w9
                  replace HF := hide ((unhide HF).trans (if_pos (by simpa using e2)))
                  go_wp2_with fail
                  go_end0
                  exact ⟨by rw [unhide HF]; rfl, unhide HB⟩
  · go_wp2_with fail
    refine (mustT 1 _).mono ?_
    rintro e w9 ⟨rfl, h9⟩
    subst w9
    cases e3 : (x.src != x.dst)
    · have HF := hide (mfi_self e3)
      go_wp2_with fail
      refine (mustF 1 _).mono ?_
      rintro e w9 ⟨rfl, h9⟩
      subst w9
      go_wp2_with fail
      exact ⟨rfl, by rw [unhide HF]; rfl, unhide HB⟩
    · have HFM : Hid (formM x) := ⟨by simp at e1; omega, by simpa using e3, fun q => by simp at e1; omega⟩
      go_wp2_with fail
      refine (mustT 1 _).mono ?_
      rintro e w9 ⟨rfl, h9⟩
      subst w9
      go_wp2_with fail
      refine (mustT 1 _).mono ?_
      rintro e w9 ⟨rfl, h9⟩
      subst w9
      cases e4 : (decide (1 ≤ x.epoch) && decide (x.epoch ≤ 999))
      · have HL := hide (isChainEpochC x.epoch W1)
        rw [e4] at HL
        have HF := hide (mfi_epoch (unhide HFM) e4)
        clear e4
        go_wp2_with fail
        refine (unhide HL).mono ?_
        rintro e w9 ⟨rfl, h9⟩
        subst w9
        clear HL
        go_wp2_with fail
        refine (mustF 3 _).mono ?_
        rintro e w9 ⟨rfl, h9⟩
        subst w9
        go_wp2_with fail
        exact ⟨rfl, by rw [unhide HF]; rfl, unhide HB⟩
      · have HL := hide (isChainEpochC x.epoch W1)
        rw [e4] at HL
        have HE := hide e4
        clear e4
        go_wp2_with fail
        refine (unhide HL).mono ?_
        rintro e w9 ⟨rfl, h9⟩
        subst w9
        clear HL
        go_wp2_with fail
        refine (mustT 3 _).mono ?_
        rintro e w9 ⟨rfl, h9⟩
        subst w9
        cases e5 : (decide (1 ≤ x.src) && decide (x.src ≤ 5))
        · have HL := hide (isNodeIdC x.src W1)
          rw [e5] at HL
          have HF := hide (mfi_src (unhide HFM) e5)
          clear e5
          go_wp2_with fail
          refine (unhide HL).mono ?_
          rintro e w9 ⟨rfl, h9⟩
          subst w9
          clear HL
          go_wp2_with fail
          refine (mustF 3 _).mono ?_
          rintro e w9 ⟨rfl, h9⟩
          subst w9
          go_wp2_with fail
          exact ⟨rfl, by rw [unhide HF]; rfl, unhide HB⟩
        · have HL := hide (isNodeIdC x.src W1)
          rw [e5] at HL
          have HS := hide e5
          clear e5
          go_wp2_with fail
          refine (unhide HL).mono ?_
          rintro e w9 ⟨rfl, h9⟩
          subst w9
          clear HL
          cases e6 : (decide (1 ≤ x.dst) && decide (x.dst ≤ 5))
          · have HL := hide (isNodeIdC x.dst W1)
            rw [e6] at HL
            have HF := hide (mfi_dst (unhide HFM) e6)
            clear e6
            go_wp2_with fail
            refine (unhide HL).mono ?_
            rintro e w9 ⟨rfl, h9⟩
            subst w9
            clear HL
            go_wp2_with fail
            refine (mustF 3 _).mono ?_
            rintro e w9 ⟨rfl, h9⟩
            subst w9
            go_wp2_with fail
            exact ⟨rfl, by rw [unhide HF]; rfl, unhide HB⟩
          · have HL := hide (isNodeIdC x.dst W1)
            rw [e6] at HL
            have HD := hide e6
            clear e6
            go_wp2_with fail
            refine (unhide HL).mono ?_
            rintro e w9 ⟨rfl, h9⟩
            subst w9
            clear HL
            go_wp2_with fail
            refine (mustT 3 _).mono ?_
            rintro e w9 ⟨rfl, h9⟩
            subst w9
            have HL := hide (isMsgIndexC a d x W1)
            go_wp2_with fail
            refine (unhide HL).mono ?_
            rintro e W2 ⟨rfl, hb⟩
            replace HX := hide ((unhide HX).keep hb)
            replace HR := hide ((unhide HR).later hb)
            replace HB := hide ((unhide HB).trans (hb.mono (unhide HB).size))
            clear hb z0 z1 z2 z3 z4 z5 z6 z7 z8 z9
            have z0 : W2.cell? ⟨w.heap.size, 0, none⟩ = some (.int .i64 x.kind) := (unhide HX).at 0 _ rfl
            have z1 : W2.cell? ⟨w.heap.size, 1, none⟩ = some (.int .i64 x.epoch) := (unhide HX).at 1 _ rfl
            have z2 : W2.cell? ⟨w.heap.size, 2, none⟩ = some (.int .i64 x.src) := (unhide HX).at 2 _ rfl
            have z3 : W2.cell? ⟨w.heap.size, 3, none⟩ = some (.int .i64 x.dst) := (unhide HX).at 3 _ rfl
            have z4 : W2.cell? ⟨w.heap.size, 4, none⟩ = some (.int .i64 x.index) := (unhide HX).at 4 _ rfl
            have z5 : W2.cell? ⟨w.heap.size, 5, none⟩ = some (.int .i64 x.write.kind) := (unhide HX).at 5 _ rfl
            have z6 : W2.cell? ⟨w.heap.size, 6, none⟩ = some (.int .i64 x.write.id) := (unhide HX).at 6 _ rfl
            have z7 : W2.cell? ⟨w.heap.size, 7, none⟩ = some (.slice a x.write.vec.length d) := (unhide HX).at 7 _ rfl
            have z8 : W2.cell? ⟨w.heap.size, 8, none⟩ = some (.int .i64 x.write.session) := (unhide HX).at 8 _ rfl
            have z9 : W2.cell? ⟨w.heap.size, 9, none⟩ = some (.int .i64 x.write.seq) := (unhide HX).at 9 _ rfl
            clear HL
            cases e7 : idxB x
            · have HF := hide (mfi_idx (unhide HFM) e7)
              clear e7
              go_wp2_with fail
              refine (mustF 3 _).mono ?_
              rintro e w9 ⟨rfl, h9⟩
              subst w9
              go_wp2_with fail
              exact ⟨rfl, by rw [unhide HF]; rfl, unhide HB⟩
            · have HF := hide (mfi_rest (unhide HFM) (unhide HE) (unhide HS) (unhide HD) e7)
              clear e7
              go_wp2_with fail
              refine (mustT 3 _).mono ?_
              rintro e w9 ⟨rfl, h9⟩
              subst w9
              replace HF := hide ((unhide HF).trans (if_neg (by simp at e1; omega)))
              have HL := hide (implWriteFault x.write.kind x.write.id _ x.write.session x.write.seq x.write.vec W2 (Lay.ints_reads (vec_of (unhide HR))))
              go_wp2_with fail
              refine (unhide HL).mono ?_
              rintro e W3 ⟨rfl, hb⟩
              replace HX := hide ((unhide HX).keep hb)
              replace HR := hide ((unhide HR).later hb)
              replace HB := hide ((unhide HB).trans (hb.mono (unhide HB).size))
              clear hb z0 z1 z2 z3 z4 z5 z6 z7 z8 z9
              have z0 : W3.cell? ⟨w.heap.size, 0, none⟩ = some (.int .i64 x.kind) := (unhide HX).at 0 _ rfl
              have z1 : W3.cell? ⟨w.heap.size, 1, none⟩ = some (.int .i64 x.epoch) := (unhide HX).at 1 _ rfl
              have z2 : W3.cell? ⟨w.heap.size, 2, none⟩ = some (.int .i64 x.src) := (unhide HX).at 2 _ rfl
              have z3 : W3.cell? ⟨w.heap.size, 3, none⟩ = some (.int .i64 x.dst) := (unhide HX).at 3 _ rfl
              have z4 : W3.cell? ⟨w.heap.size, 4, none⟩ = some (.int .i64 x.index) := (unhide HX).at 4 _ rfl
              have z5 : W3.cell? ⟨w.heap.size, 5, none⟩ = some (.int .i64 x.write.kind) := (unhide HX).at 5 _ rfl
              have z6 : W3.cell? ⟨w.heap.size, 6, none⟩ = some (.int .i64 x.write.id) := (unhide HX).at 6 _ rfl
              have z7 : W3.cell? ⟨w.heap.size, 7, none⟩ = some (.slice a x.write.vec.length d) := (unhide HX).at 7 _ rfl
              have z8 : W3.cell? ⟨w.heap.size, 8, none⟩ = some (.int .i64 x.write.session) := (unhide HX).at 8 _ rfl
              have z9 : W3.cell? ⟨w.heap.size, 9, none⟩ = some (.int .i64 x.write.seq) := (unhide HX).at 9 _ rfl
              clear HL
              replace HF : Hid (msgFault x = writeFault x.write.kind x.write.id x.write.vec x.write.session x.write.seq) := unhide HF
              generalize writeFault x.write.kind x.write.id x.write.vec x.write.session x.write.seq = f at *
              cases e8 : (f == 0)
              · have hf : f ≠ 0 := by simpa using e8
                have HG := hide hf
                clear hf
                go_wp2_with fail
                refine (mustF f _).mono ?_
                rintro e w9 ⟨rfl, h9⟩
                subst w9
                go_wp2_with fail
                exact ⟨rfl, by rw [unhide HF]; exact (wrongE_bad (unhide HG)).symm, unhide HB⟩
              · have hf : f = 0 := by simpa using e8
                subst hf
                clear e8
                go_wp2_with fail
                refine (mustT 0 _).mono ?_
                rintro e w9 ⟨rfl, h9⟩
                subst w9
                go_wp2_with fail
                go_end0
                exact ⟨by rw [unhide HF]; rfl, unhide HB⟩
end Go.Proofs.YthpbdafhjakekaaGreat

namespace Go.Proofs.YthpbdafhjakekaaGreat
open Go.RowKit

theorem asWrong (v : Value) (w : World) : (Instr.typeAssert (.iface 202 v) 20 202 true).run Tryz.prog w = .ok (.tuple #[v, .bool true]) w := by kernel_rfl
set_option maxRecDepth 10000 in
theorem wrongCodeC (c : Int) (w : World) :
    Calls Tryz.prog 142 #[.iface 202 (.agg #[.int .i64 c])] w fun e w' => e = .returned (.int .i64 c) ∧ Below w.heap.size w w' := by
  have HB : Hid (Below w.heap.size w (w.alloc (.cells #[.int .i64 c] 202))) := hide ((Below.refl _ _).alloc (Nat.le_refl _) _)
  have q := asWrong
  go_enter Tryz.func142, Tryz.ntmps142
  go_wp2_with fail
  go_ret
  exact ⟨rfl, unhide HB⟩
theorem cell_new (w : World) (v : Value) (T : TypeId) : (w.alloc (.cells #[v] T)).cell? ⟨w.heap.size, 0, none⟩ = some v := (newBox (lo := 0) (Nat.zero_le _) : Box 0 #[v] T (w.alloc (.cells #[v] T)) w.heap.size).at 0 _ rfl
set_option maxRecDepth 10000 in
theorem catch_bad_bool (p : Addr) (x c : Int) (w : World) (hc : w.cell? p = some (.int .i64 x)) (hz : w.frozen? p = false) (hp : p.block < w.heap.size) :
    CallsD Tryz.prog 141 #[.pointer (some p)] (.panicking (wrongP c)) w fun e u' w' =>
      e = .returned (.tuple #[]) ∧ u' = .panicking [{ v := .iface 202 (.agg #[.int .i64 c]), recovered := true }] ∧ ∃ w1, w' = w1.setCell p (.int .i64 c) ∧ Below w.heap.size w w1 := by
  refine callsD_of_wpS Tryz.func141 rfl fun c₀ cs hu => ?_
  apply wpS_seq
  apply wpS_region
  simp [wpOpsS, go_sem, recoverD, hu, Tryz.ntmps141, Exit.thenS, wrongP]
  refine wpS_of_wp ?_
  have HL := hide (wrongCodeC c w)
  go_wp2_with fail
  refine (unhide HL).mono ?_
  rintro e w1 ⟨rfl, hb⟩
  have hc1 : w1.cell? p = some (.int .i64 x) := (hb.cell (p := p) hp).trans hc
  have hz1 : w1.frozen? p = false := (World.frozen?_of_block (hb.block _ hp)).trans hz
  have hp1 : p.block < w1.heap.size := Nat.lt_of_lt_of_le hp hb.size
  have HB := hide hb
  clear hb HL hc hz
  go_wp2_with fail
  refine ⟨rfl, _, rfl, .tuple #[], ?_, rfl, rfl, w1, rfl, unhide HB⟩
  simp [results, Tryz.results141, go_sem]
set_option maxRecDepth 10000 in
theorem catch_ok_bool (p : Addr) (w : World) :
    CallsD Tryz.prog 141 #[.pointer (some p)] .returning w fun e u' w' => e = .returned (.tuple #[]) ∧ u' = .returning ∧ w' = w := by
  refine callsD_of_wpS Tryz.func141 rfl fun c₀ cs hu => ?_
  apply wpS_seq
  apply wpS_region
  simp [wpOpsS, go_sem, recoverD, hu, Tryz.ntmps141, Exit.thenS]
  refine wpS_of_wp ?_
  go_wp2_with fail
  cases c₀
  simp_all [bodyPostS, results, Tryz.results141, go_sem]
set_option maxRecDepth 10000 in
theorem faced_bad_bool (N : Nat) (cap : Array Value) (c : Int) (w : World) (hf : ∀ W : World, (callFunc N cap).run Tryz.prog W = .ok (.enter N cap) W)
    (h : Calls Tryz.prog N cap (w.alloc (.cells #[.int .i64 0] 2)) fun e w' => e = .panicked (wrongP c) ∧ Below (w.heap.size + 1) (w.alloc (.cells #[.int .i64 0] 2)) w') :
    Calls Tryz.prog 91 #[.func (.func N) #[] cap] w fun e w' => e = .returned (.tuple #[.bool false, .int .i64 c]) ∧ Below w.heap.size w w' := by
  have hmf : ∀ (fn : Fn) (first cap : Array Value) (w : World), (Instr.makeFunc fn first cap).run Tryz.prog w = .ok (.func fn first cap) w := fun _ _ _ _ => rfl
  have HL := hide h
  have nb : Below w.heap.size w (w.alloc (.cells #[.int .i64 0] 2)) := (Below.refl _ _).alloc (Nat.le_refl _) _
  have HX : Hid (Box 0 #[.int .i64 0] 2 (w.alloc (.cells #[.int .i64 0] 2)) w.heap.size) := newBox (Nat.zero_le _)
  have HN := hide nb
  clear h nb
  go_enter_defers Tryz.func91, Tryz.ntmps91
  go_wp2_with fail
  refine (unhide HL).mono ?_
  rintro e w1 ⟨rfl, hb⟩
  replace HN := hide ((unhide HN).trans (hb.mono (by omega)))
  have hX := (unhide HX).keep (hb.mono (by simp))
  have z0 : w1.cell? ⟨w.heap.size, 0, none⟩ = some (.int .i64 0) := hX.at 0 _ rfl
  have zf : w1.frozen? ⟨w.heap.size, 0, none⟩ = false := hX.soft 0
  have zl := hX.lt
  clear HL HX hX hb
  go_wp2_with fail
  refine leaves_cons (f := 141) (args := #[.pointer (some ⟨w.heap.size, 0, none⟩)]) (by simp) (by simp [go_sem]) ?_
  refine (catch_bad_bool ⟨w.heap.size, 0, none⟩ 0 c w1 z0 zf zl).mono ?_
  rintro e u' w2 ⟨rfl, rfl, w3, rfl, hb⟩
  have hN : Below w.heap.size w (w3.setCell ⟨w.heap.size, 0, none⟩ (.int .i64 c)) := ((unhide HN).trans (hb.mono (unhide HN).size)).setCell (by simp) _
  have z1 : (w3.setCell ⟨w.heap.size, 0, none⟩ (.int .i64 c)).cell? ⟨w.heap.size, 0, none⟩ = some (.int .i64 c) := World.cell?_setCell_same _ _ _ ((hb.cell (p := ⟨w.heap.size, 0, none⟩) zl).trans z0)
  simp [Leaves, settle, results, Tryz.results91, go_sem, z1]
  exact hN
set_option maxRecDepth 10000 in
theorem faced_ok_bool (N : Nat) (cap : Array Value) (w : World) (Q : Value → World → Prop) (hf : ∀ W : World, (callFunc N cap).run Tryz.prog W = .ok (.enter N cap) W)
    (h : Calls Tryz.prog N cap (w.alloc (.cells #[.int .i64 0] 2)) fun e w' => ∃ v, e = .returned v ∧ Q v w' ∧ Below (w.heap.size + 1) (w.alloc (.cells #[.int .i64 0] 2)) w') :
    Calls Tryz.prog 91 #[.func (.func N) #[] cap] w fun e w' => ∃ v w1, e = .returned (.tuple #[v, .int .i64 0]) ∧ Q v w1 ∧ w' = w1.setCell ⟨w.heap.size, 0, none⟩ (.int .i64 0) ∧ Below w.heap.size w w' ∧ w.heap.size < w1.heap.size := by
  have hmf : ∀ (fn : Fn) (first cap : Array Value) (w : World), (Instr.makeFunc fn first cap).run Tryz.prog w = .ok (.func fn first cap) w := fun _ _ _ _ => rfl
  have HL := hide h
  have nb : Below w.heap.size w (w.alloc (.cells #[.int .i64 0] 2)) := (Below.refl _ _).alloc (Nat.le_refl _) _
  have HX : Hid (Box 0 #[.int .i64 0] 2 (w.alloc (.cells #[.int .i64 0] 2)) w.heap.size) := newBox (Nat.zero_le _)
  have HN := hide nb
  clear h nb
  go_enter_defers Tryz.func91, Tryz.ntmps91
  go_wp2_with fail
  refine (unhide HL).mono ?_
  rintro e w1 ⟨v, rfl, hq, hb⟩
  have HQ := hide hq
  replace HN := hide ((unhide HN).trans (hb.mono (by omega)))
  have hX := (unhide HX).keep (hb.mono (by simp))
  have z0 : w1.cell? ⟨w.heap.size, 0, none⟩ = some (.int .i64 0) := hX.at 0 _ rfl
  have zf : w1.frozen? ⟨w.heap.size, 0, none⟩ = false := hX.soft 0
  have zl := hX.lt
  clear HL HX hX hb hq
  go_wp2_with fail
  refine leaves_cons (f := 141) (args := #[.pointer (some ⟨w.heap.size, 0, none⟩)]) (by simp) (by simp [go_sem]) ?_
  refine (catch_ok_bool ⟨w.heap.size, 0, none⟩ _).mono ?_
  rintro e u' w2 ⟨rfl, rfl, rfl⟩
  have hN : Below w.heap.size w (w1.setCell ⟨w.heap.size, 0, none⟩ (.int .i64 0)) := (unhide HN).setCell (by simp) _
  have z1 : (w1.setCell ⟨w.heap.size, 0, none⟩ (.int .i64 0)).cell? ⟨w.heap.size, 0, none⟩ = some (.int .i64 0) := World.cell?_setCell_same _ _ _ z0
  refine ⟨.tuple #[v, .int .i64 0], by simp [results, Tryz.results91, go_sem, z1], v, w1, rfl, unhide HQ, rfl, hN, zl⟩
set_option maxRecDepth 10000 in
theorem catch_bad_msgs (p : Addr) (x c : Int) (w : World) (hc : w.cell? p = some (.int .i64 x)) (hz : w.frozen? p = false) (hp : p.block < w.heap.size) :
    CallsD Tryz.prog 198 #[.pointer (some p)] (.panicking (wrongP c)) w fun e u' w' =>
      e = .returned (.tuple #[]) ∧ u' = .panicking [{ v := .iface 202 (.agg #[.int .i64 c]), recovered := true }] ∧ ∃ w1, w' = w1.setCell p (.int .i64 c) ∧ Below w.heap.size w w1 := by
  refine callsD_of_wpS Tryz.func198 rfl fun c₀ cs hu => ?_
  apply wpS_seq
  apply wpS_region
  simp [wpOpsS, go_sem, recoverD, hu, Tryz.ntmps198, Exit.thenS, wrongP]
  refine wpS_of_wp ?_
  have HL := hide (wrongCodeC c w)
  go_wp2_with fail
  refine (unhide HL).mono ?_
  rintro e w1 ⟨rfl, hb⟩
  have hc1 : w1.cell? p = some (.int .i64 x) := (hb.cell (p := p) hp).trans hc
  have hz1 : w1.frozen? p = false := (World.frozen?_of_block (hb.block _ hp)).trans hz
  have hp1 : p.block < w1.heap.size := Nat.lt_of_lt_of_le hp hb.size
  have HB := hide hb
  clear hb HL hc hz
  go_wp2_with fail
  refine ⟨rfl, _, rfl, .tuple #[], ?_, rfl, rfl, w1, rfl, unhide HB⟩
  simp [results, Tryz.results198, go_sem]
set_option maxRecDepth 10000 in
theorem catch_ok_msgs (p : Addr) (w : World) :
    CallsD Tryz.prog 198 #[.pointer (some p)] .returning w fun e u' w' => e = .returned (.tuple #[]) ∧ u' = .returning ∧ w' = w := by
  refine callsD_of_wpS Tryz.func198 rfl fun c₀ cs hu => ?_
  apply wpS_seq
  apply wpS_region
  simp [wpOpsS, go_sem, recoverD, hu, Tryz.ntmps198, Exit.thenS]
  refine wpS_of_wp ?_
  go_wp2_with fail
  cases c₀
  simp_all [bodyPostS, results, Tryz.results198, go_sem]
set_option maxRecDepth 10000 in
theorem faced_bad_msgs (N : Nat) (cap : Array Value) (c : Int) (w : World) (hf : ∀ W : World, (callFunc N cap).run Tryz.prog W = .ok (.enter N cap) W)
    (h : Calls Tryz.prog N cap (w.alloc (.cells #[.int .i64 0] 2)) fun e w' => e = .panicked (wrongP c) ∧ Below (w.heap.size + 1) (w.alloc (.cells #[.int .i64 0] 2)) w') :
    Calls Tryz.prog 182 #[.func (.func N) #[] cap] w fun e w' => e = .returned (.tuple #[.slice none 0 0, .int .i64 c]) ∧ Below w.heap.size w w' := by
  have hmf : ∀ (fn : Fn) (first cap : Array Value) (w : World), (Instr.makeFunc fn first cap).run Tryz.prog w = .ok (.func fn first cap) w := fun _ _ _ _ => rfl
  have HL := hide h
  have nb : Below w.heap.size w (w.alloc (.cells #[.int .i64 0] 2)) := (Below.refl _ _).alloc (Nat.le_refl _) _
  have HX : Hid (Box 0 #[.int .i64 0] 2 (w.alloc (.cells #[.int .i64 0] 2)) w.heap.size) := newBox (Nat.zero_le _)
  have HN := hide nb
  clear h nb
  go_enter_defers Tryz.func182, Tryz.ntmps182
  go_wp2_with fail
  refine (unhide HL).mono ?_
  rintro e w1 ⟨rfl, hb⟩
  replace HN := hide ((unhide HN).trans (hb.mono (by omega)))
  have hX := (unhide HX).keep (hb.mono (by simp))
  have z0 : w1.cell? ⟨w.heap.size, 0, none⟩ = some (.int .i64 0) := hX.at 0 _ rfl
  have zf : w1.frozen? ⟨w.heap.size, 0, none⟩ = false := hX.soft 0
  have zl := hX.lt
  clear HL HX hX hb
  go_wp2_with fail
  refine leaves_cons (f := 198) (args := #[.pointer (some ⟨w.heap.size, 0, none⟩)]) (by simp) (by simp [go_sem]) ?_
  refine (catch_bad_msgs ⟨w.heap.size, 0, none⟩ 0 c w1 z0 zf zl).mono ?_
  rintro e u' w2 ⟨rfl, rfl, w3, rfl, hb⟩
  have hN : Below w.heap.size w (w3.setCell ⟨w.heap.size, 0, none⟩ (.int .i64 c)) := ((unhide HN).trans (hb.mono (unhide HN).size)).setCell (by simp) _
  have z1 : (w3.setCell ⟨w.heap.size, 0, none⟩ (.int .i64 c)).cell? ⟨w.heap.size, 0, none⟩ = some (.int .i64 c) := World.cell?_setCell_same _ _ _ ((hb.cell (p := ⟨w.heap.size, 0, none⟩) zl).trans z0)
  simp [Leaves, settle, results, Tryz.results182, go_sem, z1]
  exact hN
set_option maxRecDepth 10000 in
theorem faced_ok_msgs (N : Nat) (cap : Array Value) (w : World) (Q : Value → World → Prop) (hf : ∀ W : World, (callFunc N cap).run Tryz.prog W = .ok (.enter N cap) W)
    (h : Calls Tryz.prog N cap (w.alloc (.cells #[.int .i64 0] 2)) fun e w' => ∃ v, e = .returned v ∧ Q v w' ∧ Below (w.heap.size + 1) (w.alloc (.cells #[.int .i64 0] 2)) w') :
    Calls Tryz.prog 182 #[.func (.func N) #[] cap] w fun e w' => ∃ v w1, e = .returned (.tuple #[v, .int .i64 0]) ∧ Q v w1 ∧ w' = w1.setCell ⟨w.heap.size, 0, none⟩ (.int .i64 0) ∧ Below w.heap.size w w' ∧ w.heap.size < w1.heap.size := by
  have hmf : ∀ (fn : Fn) (first cap : Array Value) (w : World), (Instr.makeFunc fn first cap).run Tryz.prog w = .ok (.func fn first cap) w := fun _ _ _ _ => rfl
  have HL := hide h
  have nb : Below w.heap.size w (w.alloc (.cells #[.int .i64 0] 2)) := (Below.refl _ _).alloc (Nat.le_refl _) _
  have HX : Hid (Box 0 #[.int .i64 0] 2 (w.alloc (.cells #[.int .i64 0] 2)) w.heap.size) := newBox (Nat.zero_le _)
  have HN := hide nb
  clear h nb
  go_enter_defers Tryz.func182, Tryz.ntmps182
  go_wp2_with fail
  refine (unhide HL).mono ?_
  rintro e w1 ⟨v, rfl, hq, hb⟩
  have HQ := hide hq
  replace HN := hide ((unhide HN).trans (hb.mono (by omega)))
  have hX := (unhide HX).keep (hb.mono (by simp))
  have z0 : w1.cell? ⟨w.heap.size, 0, none⟩ = some (.int .i64 0) := hX.at 0 _ rfl
  have zf : w1.frozen? ⟨w.heap.size, 0, none⟩ = false := hX.soft 0
  have zl := hX.lt
  clear HL HX hX hb hq
  go_wp2_with fail
  refine leaves_cons (f := 198) (args := #[.pointer (some ⟨w.heap.size, 0, none⟩)]) (by simp) (by simp [go_sem]) ?_
  refine (catch_ok_msgs ⟨w.heap.size, 0, none⟩ _).mono ?_
  rintro e u' w2 ⟨rfl, rfl, rfl⟩
  have hN : Below w.heap.size w (w1.setCell ⟨w.heap.size, 0, none⟩ (.int .i64 0)) := (unhide HN).setCell (by simp) _
  have z1 : (w1.setCell ⟨w.heap.size, 0, none⟩ (.int .i64 0)).cell? ⟨w.heap.size, 0, none⟩ = some (.int .i64 0) := World.cell?_setCell_same _ _ _ z0
  refine ⟨.tuple #[v, .int .i64 0], by simp [results, Tryz.results182, go_sem, z1], v, w1, rfl, unhide HQ, rfl, hN, zl⟩
end Go.Proofs.YthpbdafhjakekaaGreat

namespace Go.Proofs.YthpbdafhjakekaaGreat
open Go.RowKit

theorem msgsFrom_drop {xs : List DMsg} {k : Nat} (hk : k < xs.length) : msgsFrom (xs.drop k) = if msgFault xs[k] = 0 then msgsFrom (xs.drop (k + 1)) else msgFault xs[k] := by
  rw [List.drop_eq_getElem_cons hk, msgsFrom]
set_option maxRecDepth 10000 in
set_option maxHeartbeats 4000000 in
theorem mustBeNetC (v : Value) (xs : List DMsg) (w : World) (h : (Lay.sl Lay.tMsg).Reads w [v] xs) :
    Calls Tryz.prog 93 #[v] w fun e w' => e = wrongE (netFault xs) ∧ Below w.heap.size w w' := by
  have hbig := h.big
  obtain ⟨ao, cap, rfl⟩ := open_sl h
  have H := hide h
  clear h
  go_enter Tryz.func93, Tryz.ntmps93
  cases e1 : decide ((xs.length : Int) ≤ 40)
  · have HF : Hid (netFault xs = 2) := by show netFault xs = 2; rw [netFault, if_pos (by simp at e1; omega)]
    go_wp2_with fail
    refine (mustF 2 _).mono ?_
    rintro e w9 ⟨rfl, h9⟩
    subst w9
    go_wp2_with fail
    exact ⟨rfl, by rw [unhide HF]; rfl, Below.refl _ _⟩
  · have HF : Hid (netFault xs = msgsFrom (xs.drop 0)) := by show netFault xs = _; rw [netFault, if_neg (by simp at e1; omega)]; rfl
    go_wp2_with fail
    refine (mustT 2 _).mono ?_
    rintro e w9 ⟨rfl, h9⟩
    subst w9
    clear e1
    go_wp2_with fail
    go_loopw [10] (fun i wr => ∃ k : Nat, k ≤ xs.length ∧ i = .int .i64 k ∧ netFault xs = msgsFrom (xs.drop k) ∧ Below w.heap.size w wr) (fun i _ => xs.length - (intOf i).toNat)
    case atStart => exact ⟨0, Nat.zero_le _, rfl, unhide HF, Below.refl _ _⟩
    case round =>
      obtain ⟨k, hk, rfl, hF, hB⟩ := hrel
      clear HF
      by_cases hlt : k < xs.length
      · obtain ⟨b, off, rfl, hbl⟩ := Lay.sl_addr (unhide H) (by omega)
        obtain ⟨row, hc, hr⟩ := Lay.row_at (unhide H) hlt
        replace hr := hr.later hB
        rw [msgsFrom_drop hlt] at hF
        have hdl : decide ((k : Int) < (xs.length : Int)) = true := by simp; omega
        obtain ⟨a, d, rfl, -⟩ := open_Msg hr
        have c0 : wr.cell? ⟨b, off + k * 10, none⟩ = some (.int .i64 (xs[k]).kind) := (hB.cell (p := ⟨b, off + k * 10, none⟩) hbl).trans (hc 0 (by decide))
        have c1 : wr.cell? ⟨b, off + k * 10 + 1, none⟩ = some (.int .i64 (xs[k]).epoch) := (hB.cell (p := ⟨b, off + k * 10 + 1, none⟩) hbl).trans (hc 1 (by decide))
        have c2 : wr.cell? ⟨b, off + k * 10 + 2, none⟩ = some (.int .i64 (xs[k]).src) := (hB.cell (p := ⟨b, off + k * 10 + 2, none⟩) hbl).trans (hc 2 (by decide))
        have c3 : wr.cell? ⟨b, off + k * 10 + 3, none⟩ = some (.int .i64 (xs[k]).dst) := (hB.cell (p := ⟨b, off + k * 10 + 3, none⟩) hbl).trans (hc 3 (by decide))
        have c4 : wr.cell? ⟨b, off + k * 10 + 4, none⟩ = some (.int .i64 (xs[k]).index) := (hB.cell (p := ⟨b, off + k * 10 + 4, none⟩) hbl).trans (hc 4 (by decide))
        have c5 : wr.cell? ⟨b, off + k * 10 + 5, none⟩ = some (.int .i64 (xs[k]).write.kind) := (hB.cell (p := ⟨b, off + k * 10 + 5, none⟩) hbl).trans (hc 5 (by decide))
        have c6 : wr.cell? ⟨b, off + k * 10 + 6, none⟩ = some (.int .i64 (xs[k]).write.id) := (hB.cell (p := ⟨b, off + k * 10 + 6, none⟩) hbl).trans (hc 6 (by decide))
        have c7 : wr.cell? ⟨b, off + k * 10 + 7, none⟩ = some (.slice a (xs[k]).write.vec.length d) := (hB.cell (p := ⟨b, off + k * 10 + 7, none⟩) hbl).trans (hc 7 (by decide))
        have c8 : wr.cell? ⟨b, off + k * 10 + 8, none⟩ = some (.int .i64 (xs[k]).write.session) := (hB.cell (p := ⟨b, off + k * 10 + 8, none⟩) hbl).trans (hc 8 (by decide))
        have c9 : wr.cell? ⟨b, off + k * 10 + 9, none⟩ = some (.int .i64 (xs[k]).write.seq) := (hB.cell (p := ⟨b, off + k * 10 + 9, none⟩) hbl).trans (hc 9 (by decide))
        have HF := hide hF
        have HR := hide hr
        have HB := hide hB
        clear hF hr hB hc
        generalize hx : xs[k] = x at *
        clear hx
        have nb : Below wr.heap.size wr (wr.alloc (.cells #[.int .i64 x.kind, .int .i64 x.epoch, .int .i64 x.src, .int .i64 x.dst, .int .i64 x.index, .int .i64 x.write.kind, .int .i64 x.write.id, .slice a x.write.vec.length d, .int .i64 x.write.session, .int .i64 x.write.seq] 85)) := (Below.refl _ _).alloc (Nat.le_refl _) _
        have HL := hide (mustBeMsgC _ x _ ((unhide HR).later nb))
        replace HB := hide ((unhide HB).trans (nb.mono (unhide HB).size))
        clear nb
        go_wp2_with fail
        refine (unhide HL).mono ?_
        generalize wr.alloc (.cells #[.int .i64 x.kind, .int .i64 x.epoch, .int .i64 x.src, .int .i64 x.dst, .int .i64 x.index, .int .i64 x.write.kind, .int .i64 x.write.id, .slice a x.write.vec.length d, .int .i64 x.write.session, .int .i64 x.write.seq] 85) = W1 at *
        rintro e W2 ⟨he, hb⟩
        replace HB := hide ((unhide HB).trans (hb.mono (unhide HB).size))
        clear hb HL c0 c1 c2 c3 c4 c5 c6 c7 c8 c9
        by_cases hf : msgFault x = 0
        · rw [wrongE_ok hf] at he
          subst he
          replace HF := hide ((unhide HF).trans (if_pos hf))
          clear hf
          go_wp2_with fail
          go_roundw
          case rel => exact ⟨k + 1, by omega, by go_num, unhide HF, unhide HB⟩
          case measure => simp [intOf]; omega
        · rw [wrongE_bad hf] at he
          subst he
          replace HF := hide ((unhide HF).trans (if_neg hf))
          have HG := hide hf
          clear hf
          go_wp2_with fail
          exact ⟨rfl, by rw [unhide HF]; exact (wrongE_bad (unhide HG)).symm, unhide HB⟩
      · obtain rfl : k = xs.length := by omega
        rw [List.drop_length] at hF
        have hdl : decide ((xs.length : Int) < (xs.length : Int)) = false := by simp
        have HF := hide hF
        have HB := hide hB
        clear hF hB
        go_wp2_with fail
        go_end0
        exact ⟨by rw [unhide HF]; rfl, unhide HB⟩
set_option maxRecDepth 10000 in
theorem netFaultWork (v : Value) (xs : List DMsg) (g : Nat) (w : World) (h : (Lay.sl Lay.tMsg).Reads w [v] xs) (hx : Box 0 #[v] 34 w g) :
    Calls Tryz.prog 92 #[.pointer (some ⟨g, 0, none⟩)] w fun e w' => e = workE (.bool true) (netFault xs) ∧ Below w.heap.size w w' := by
  have HL := hide (mustBeNetC v xs w h)
  obtain ⟨ao, cap, rfl⟩ := open_sl h
  have HX := hide hx
  clear hx h
  have z0 : w.cell? ⟨g, 0, none⟩ = some (.slice ao xs.length cap) := (unhide HX).at 0 _ rfl
  go_enter Tryz.func92, Tryz.ntmps92
  go_wp2_with fail
  refine (unhide HL).mono ?_
  rintro e W2 ⟨he, hb⟩
  have HB := hide hb
  clear hb HL z0
  by_cases hf : netFault xs = 0
  · rw [wrongE_ok hf] at he
    subst he
    have HF := hide hf
    clear hf
    go_wp2_with fail
    go_ret
    exact ⟨(workE_ok (unhide HF)).symm, unhide HB⟩
  · rw [wrongE_bad hf] at he
    subst he
    have HF := hide hf
    clear hf
    go_wp2_with fail
    exact ⟨rfl, (workE_bad (unhide HF)).symm, unhide HB⟩
set_option maxRecDepth 10000 in
set_option maxHeartbeats 1000000 in
theorem implNetFault (v : Value) (xs : List DMsg) (w : World) (h : (Lay.sl Lay.tMsg).Reads w [v] xs) :
    Calls Tryz.prog 43 #[v] w fun e w' => e = .returned (.int .i64 (netFault xs)) ∧ Below w.heap.size w w' := by
  have hmf : ∀ (fn : Fn) (first cap : Array Value) (w : World), (Instr.makeFunc fn first cap).run Tryz.prog w = .ok (.func fn first cap) w := fun _ _ _ _ => rfl
  obtain ⟨ao, cap, rfl⟩ := open_sl h
  have nb : Below w.heap.size w (w.alloc (.cells #[.slice ao xs.length cap] 34)) := (Below.refl _ _).alloc (Nat.le_refl _) _
  have HR := hide (h.later nb)
  have HB := hide nb
  have HX : Hid (Box 0 #[.slice ao xs.length cap] 34 (w.alloc (.cells #[.slice ao xs.length cap] 34)) w.heap.size) := newBox (Nat.zero_le _)
  clear h nb
  go_enter Tryz.func43, Tryz.ntmps43
  go_upto_region 1 with fail
  generalize w.alloc (.cells #[.slice ao xs.length cap] 34) = W1 at *
  have nb : Below W1.heap.size W1 (W1.alloc (.cells #[.int .i64 0] 2)) := (Below.refl _ _).alloc (Nat.le_refl _) _
  have HW := hide (netFaultWork _ xs w.heap.size _ ((unhide HR).later nb) ((unhide HX).keep nb))
  have hz : (W1.alloc (.cells #[.int .i64 0] 2)).heap.size = W1.heap.size + 1 := by simp
  have HZ := hide hz
  clear nb hz
  by_cases hf : netFault xs = 0
  · have HL := hide (faced_ok_bool 92 #[.pointer (some ⟨w.heap.size, 0, none⟩)] W1 (fun v _ => v = .bool true) (fun _ => by rfl) ((unhide HW).mono (by
      rintro e w' ⟨he, hb⟩
      rw [workE_ok hf] at he
      rw [unhide HZ] at hb
      exact ⟨_, he, rfl, hb⟩)))
    have HF := hide hf
    clear hf HW HZ
    go_wp2_with fail
    refine (unhide HL).mono ?_
    rintro e W2 ⟨v, W3, rfl, rfl, hW, hb, -⟩
    replace HB := hide ((unhide HB).trans (hb.mono (unhide HB).size))
    clear hW hb HL
    go_wp2_with fail
    go_ret
    exact ⟨by rw [unhide HF]; rfl, unhide HB⟩
  · have HL := hide (faced_bad_bool 92 #[.pointer (some ⟨w.heap.size, 0, none⟩)] (netFault xs) W1 (fun _ => by rfl) ((unhide HW).mono (by
      rintro e w' ⟨he, hb⟩
      rw [workE_bad hf] at he
      rw [unhide HZ] at hb
      exact ⟨he, hb⟩)))
    clear hf HW HZ
    go_wp2_with fail
    refine (unhide HL).mono ?_
    rintro e W2 ⟨rfl, hb⟩
    replace HB := hide ((unhide HB).trans (hb.mono (unhide HB).size))
    clear hb HL
    go_wp2_with fail
    go_ret
    exact ⟨rfl, unhide HB⟩
end Go.Proofs.YthpbdafhjakekaaGreat

namespace Go.Proofs.YthpbdafhjakekaaGreat
open Go.RowKit

set_option maxRecDepth 10000 in
set_option maxHeartbeats 2000000 in
theorem isNobodyC (a3 : Option Addr) (d3 : Nat) (a4 : Option Addr) (d4 : Nat) (a5 : Option Addr) (d5 : Nat) (a6 : Option Addr) (d6 : Nat) (x : DWorld) (id : Int) (g : Nat) (w : World) (h : Lay.tWorld.Reads w [.int .i64 x.now, .int .i64 x.events, .int .i64 x.chain.epoch, .slice a3 x.chain.ids.length d3, .slice a4 x.nodes.length d4, .slice a5 x.msgs.length d5, .slice a6 x.history.length d6] x) (hx : Box 0 #[.int .i64 x.now, .int .i64 x.events, .int .i64 x.chain.epoch, .slice a3 x.chain.ids.length d3, .slice a4 x.nodes.length d4, .slice a5 x.msgs.length d5, .slice a6 x.history.length d6] 37 w g) :
    Calls Tryz.prog 40 #[.int .i64 id, .pointer (some ⟨g, 0, none⟩)] w fun e w' => e = .returned (.bool (!nodeIn x id)) ∧ Below w.heap.size w w' := by
  have HL := hide (hasNodeC _ x id w h)
  have z0 := Box.at hx 0 _ rfl
  have z1 := Box.at hx 1 _ rfl
  have z2 := Box.at hx 2 _ rfl
  have z3 := Box.at hx 3 _ rfl
  have z4 := Box.at hx 4 _ rfl
  have z5 := Box.at hx 5 _ rfl
  have z6 := Box.at hx 6 _ rfl
  simp only [List.getElem_toArray, List.getElem_cons_zero, List.getElem_cons_succ] at z0 z1 z2 z3 z4 z5 z6
  clear h
  go_enter Tryz.func40, Tryz.ntmps40
  go_wp2_with fail
  refine (unhide HL).mono ?_
  rintro e w1 ⟨rfl, hb⟩
  have HB := hide hb
  clear hb HL z0 z1 z2 z3 z4 z5 z6
  go_wp2_with fail
  go_ret
  exact ⟨rfl, unhide HB⟩
set_option maxRecDepth 10000 in
set_option maxHeartbeats 2000000 in
theorem indexNobody (a3 : Option Addr) (d3 : Nat) (a4 : Option Addr) (d4 : Nat) (a5 : Option Addr) (d5 : Nat) (a6 : Option Addr) (d6 : Nat) (x : DWorld) (v : Value) (ids : List Int) (g : Nat) (w : World) (h : Lay.tWorld.Reads w [.int .i64 x.now, .int .i64 x.events, .int .i64 x.chain.epoch, .slice a3 x.chain.ids.length d3, .slice a4 x.nodes.length d4, .slice a5 x.msgs.length d5, .slice a6 x.history.length d6] x) (hx : Box 0 #[.int .i64 x.now, .int .i64 x.events, .int .i64 x.chain.epoch, .slice a3 x.chain.ids.length d3, .slice a4 x.nodes.length d4, .slice a5 x.msgs.length d5, .slice a6 x.history.length d6] 37 w g) (R : (Lay.sl Lay.int).Reads w [v] ids) :
    Calls Tryz.prog 90 #[v, .func (.func 40) #[] #[.pointer (some ⟨g, 0, none⟩)]] w fun e w' => ∃ i : Int, e = .returned (.int .i64 i) ∧ decide (0 ≤ i) = !(ids.all (nodeIn x)) ∧ Below w.heap.size w w' := by
  have hbig := R.big
  obtain ⟨ao, cap, rfl⟩ := open_sl R
  have H := hide R
  have HX := hide h
  have HBX := hide hx
  clear h hx R
  go_enter Tryz.func90, Tryz.ntmps90
  go_wp2_with fail
  go_loopw [8] (fun i wr => ∃ k : Nat, k ≤ ids.length ∧ i = .int .i64 k ∧ (∀ j (hj : j < ids.length), j < k → nodeIn x ids[j] = true) ∧ Below w.heap.size w wr) (fun i _ => ids.length - (intOf i).toNat)
  case atStart => exact ⟨0, Nat.zero_le _, rfl, fun j _ hj => by omega, Below.refl _ _⟩
  case round =>
    obtain ⟨k, hk, rfl, hz, hB⟩ := hrel
    by_cases hlt : k < ids.length
    · obtain ⟨b, off, rfl, hbl⟩ := Lay.sl_addr (unhide H) (by omega)
      have c1 := (hB.cell (p := ⟨b, off + k, none⟩) hbl).trans (int_cell (unhide H) hlt)
      have hdl : decide ((k : Int) < (ids.length : Int)) = true := by simp; omega
      have HL := hide (isNobodyC a3 d3 a4 d4 a5 d5 a6 d6 x ids[k] g wr ((unhide HX).later hB) ((unhide HBX).keep hB))
      have HA : Hid (nodeIn x ids[k] = false → (!(ids.all (nodeIn x))) = true) := fun q => by
        have : ids.all (nodeIn x) = false := by rw [List.all_eq_false]; exact ⟨ids[k], List.getElem_mem _, by rw [q]; simp⟩
        rw [this]; rfl
      have HN : Hid (nodeIn x ids[k] = true → ∀ j (hj : j < ids.length), j < k + 1 → nodeIn x ids[j] = true) := fun q j hj hjk => by
        by_cases h2 : j < k
        · exact hz j hj h2
        · obtain rfl : j = k := by omega
          exact q
      have HB := hide hB
      clear hz hB
      generalize hy : ids[k] = y at *
      clear hy
      go_wp2_with fail
      refine (unhide HL).mono ?_
      rintro e w2 ⟨rfl, hb⟩
      replace HB := hide ((unhide HB).trans (hb.mono (unhide HB).size))
      clear hb HL c1
      cases hq : nodeIn x y
      · have HAA := hide (unhide HA hq)
        clear HN HA hq
        go_wp2_with fail
        go_ret
        exact ⟨(k : Int), rfl, by rw [unhide HAA]; simp, unhide HB⟩
      · have HNN := hide (unhide HN hq)
        clear HN HA hq
        go_wp2_with fail
        go_roundw
        case rel => exact ⟨k + 1, by omega, by go_num, unhide HNN, unhide HB⟩
        case measure => simp [intOf]; omega
    · obtain rfl : k = ids.length := by omega
      have hdl : decide ((ids.length : Int) < (ids.length : Int)) = false := by simp
      have HB := hide hB
      have HZ : Hid (ids.all (nodeIn x) = true) := List.all_eq_true.2 fun y hy => by
        obtain ⟨j, hj, rfl⟩ := List.getElem_of_mem hy
        exact hz j hj hj
      clear hz hB
      go_wp2_with fail
      go_ret
      exact ⟨-1, rfl, by rw [unhide HZ]; simp, unhide HB⟩
set_option maxRecDepth 10000 in
set_option maxHeartbeats 2000000 in
theorem containsNobody (a3 : Option Addr) (d3 : Nat) (a4 : Option Addr) (d4 : Nat) (a5 : Option Addr) (d5 : Nat) (a6 : Option Addr) (d6 : Nat) (x : DWorld) (v : Value) (ids : List Int) (g : Nat) (w : World) (h : Lay.tWorld.Reads w [.int .i64 x.now, .int .i64 x.events, .int .i64 x.chain.epoch, .slice a3 x.chain.ids.length d3, .slice a4 x.nodes.length d4, .slice a5 x.msgs.length d5, .slice a6 x.history.length d6] x) (hx : Box 0 #[.int .i64 x.now, .int .i64 x.events, .int .i64 x.chain.epoch, .slice a3 x.chain.ids.length d3, .slice a4 x.nodes.length d4, .slice a5 x.msgs.length d5, .slice a6 x.history.length d6] 37 w g) (R : (Lay.sl Lay.int).Reads w [v] ids) :
    Calls Tryz.prog 42 #[v, .func (.func 40) #[] #[.pointer (some ⟨g, 0, none⟩)]] w fun e w' => e = .returned (.bool (!(ids.all (nodeIn x)))) ∧ Below w.heap.size w w' := by
  have HL := hide (indexNobody a3 d3 a4 d4 a5 d5 a6 d6 x v ids g w h hx R)
  obtain ⟨ao, cap, rfl⟩ := open_sl R
  clear h hx R
  go_enter Tryz.func42, Tryz.ntmps42
  go_wp2_with fail
  refine (unhide HL).mono ?_
  rintro e w1 ⟨i, rfl, hi, hb⟩
  have HI := hide hi
  have HB := hide hb
  clear hb HL hi
  go_wp2_with fail
  go_ret
  exact ⟨by rw [← unhide HI]; rfl, unhide HB⟩
theorem wf_eq (x : DWorld) : worldFault x = if (decide (0 ≤ x.now) && decide (x.now ≤ 9000)) = false ∨ (decide (0 ≤ x.events) && decide (x.events ≤ 9999)) = false then 3
    else if chainFault x.chain ≠ 0 then chainFault x.chain else if nodesP x.chain x.nodes ≠ 0 then nodesP x.chain x.nodes else if (!(x.chain.ids.all (nodeIn x))) = true then 4
    else if netFault x.msgs ≠ 0 then netFault x.msgs else histP x.events x.history := by
  have e1 : (¬ (0 ≤ x.now ∧ x.now ≤ 9000) ∨ ¬ (0 ≤ x.events ∧ x.events ≤ 9999)) ↔ ((decide (0 ≤ x.now) && decide (x.now ≤ 9000)) = false ∨ (decide (0 ≤ x.events) && decide (x.events ≤ 9999)) = false) := by
    simp only [Bool.and_eq_false_iff, decide_eq_false_iff_not]
    omega
  unfold worldFault
  by_cases h1 : (decide (0 ≤ x.now) && decide (x.now ≤ 9000)) = false ∨ (decide (0 ≤ x.events) && decide (x.events ≤ 9999)) = false
  · rw [if_pos (e1.2 h1), if_pos h1]
  · rw [if_neg (fun q => h1 (e1.1 q)), if_neg h1]
    by_cases h2 : chainFault x.chain ≠ 0
    · rw [if_pos h2, if_pos h2]
    · rw [if_neg h2, if_neg h2]
      by_cases h3 : x.nodes.length < 1 ∨ 5 < x.nodes.length
      · have hP : nodesP x.chain x.nodes = 2 := if_neg (by omega)
        rw [if_pos h3, hP, if_pos (show ((2 : Int) ≠ 0) by omega)]
      · have hP : nodesP x.chain x.nodes = nodesF x.chain 0 x.nodes := if_pos (by omega)
        rw [if_neg h3, hP]
        unfold nodesFault
        by_cases h4 : nodesF x.chain 0 x.nodes ≠ 0
        · rw [if_pos h4, if_pos h4, if_pos h4]
        · rw [if_neg h4, if_neg h4]
          cases h5 : x.chain.ids.all (nodeIn x)
          · simp
          · simp only [if_true, Bool.not_true, ne_eq, not_true_eq_false, if_false]
            by_cases h6 : netFault x.msgs ≠ 0
            · rw [if_pos h6, if_pos h6]; simp
            · rw [if_neg h6, if_neg h6]
              rfl
theorem wf_vals (x : DWorld) : 0 ≤ worldFault x ∧ worldFault x ≤ 10 := worldFault_vals x (chainFault_vals _)
set_option maxRecDepth 100000 in
set_option maxHeartbeats 4000000 in
theorem implWorldFault (cs : List Value) (x : DWorld) (w : World) (h : Lay.tWorld.Reads w cs x) :
    Calls Tryz.prog 12 #[.agg cs.toArray] w fun e w' => e = .returned (.int .i64 (worldFault x)) ∧ Below w.heap.size w w' := by
  obtain ⟨a3, d3, a4, d4, a5, d5, a6, d6, rfl, RC, RN, RM, RE⟩ := open_World h
  have nb : Below w.heap.size w (w.alloc (.cells #[.int .i64 x.now, .int .i64 x.events, .int .i64 x.chain.epoch, .slice a3 x.chain.ids.length d3, .slice a4 x.nodes.length d4, .slice a5 x.msgs.length d5, .slice a6 x.history.length d6] 37)) := (Below.refl _ _).alloc (Nat.le_refl _) _
  have HX : Hid (Box 0 #[.int .i64 x.now, .int .i64 x.events, .int .i64 x.chain.epoch, .slice a3 x.chain.ids.length d3, .slice a4 x.nodes.length d4, .slice a5 x.msgs.length d5, .slice a6 x.history.length d6] 37 (w.alloc (.cells #[.int .i64 x.now, .int .i64 x.events, .int .i64 x.chain.epoch, .slice a3 x.chain.ids.length d3, .slice a4 x.nodes.length d4, .slice a5 x.msgs.length d5, .slice a6 x.history.length d6] 37)) w.heap.size) := newBox (Nat.zero_le _)
  have HR := hide (h.later nb)
  have HP := hide (wf_eq x)
  have HB := hide nb
  have hmf : ∀ (fn : Fn) (first cap : Array Value) (w : World), (Instr.makeFunc fn first cap).run Tryz.prog w = .ok (.func fn first cap) w := fun _ _ _ _ => rfl
  clear nb h RC RN RM RE
  generalize worldFault x = r at *
  go_enter Tryz.func12, Tryz.ntmps12
  go_upto_region 1 with fail
  generalize w.alloc (.cells #[.int .i64 x.now, .int .i64 x.events, .int .i64 x.chain.epoch, .slice a3 x.chain.ids.length d3, .slice a4 x.nodes.length d4, .slice a5 x.msgs.length d5, .slice a6 x.history.length d6] 37) = w1 at *
  have z0 := Box.at (unhide HX) 0 _ rfl
  have z1 := Box.at (unhide HX) 1 _ rfl
  have z2 := Box.at (unhide HX) 2 _ rfl
  have z3 := Box.at (unhide HX) 3 _ rfl
  have z4 := Box.at (unhide HX) 4 _ rfl
  have z5 := Box.at (unhide HX) 5 _ rfl
  have z6 := Box.at (unhide HX) 6 _ rfl
  simp only [List.getElem_toArray, List.getElem_cons_zero, List.getElem_cons_succ] at z0 z1 z2 z3 z4 z5 z6
  go_wp2_with fail
  refine (isUpToC x.now 9000 w1).mono ?_
  rintro e w2 ⟨rfl, h2⟩
  subst w2
  cases d1 : (decide (0 ≤ x.now) && decide (x.now ≤ 9000))
  · replace HP := hide ((unhide HP).trans (if_pos (Or.inl d1)))
    clear d1
    go_wp2_with fail
    go_ret
    exact ⟨by rw [unhide HP]; rfl, unhide HB⟩
  · go_wp2_with fail
    refine (isUpToC x.events 9999 w1).mono ?_
    rintro e w2 ⟨rfl, h2⟩
    subst w2
    cases d2 : (decide (0 ≤ x.events) && decide (x.events ≤ 9999))
    · replace HP := hide ((unhide HP).trans (if_pos (Or.inr d2)))
      clear d1 d2
      go_wp2_with fail
      go_ret
      exact ⟨by rw [unhide HP]; rfl, unhide HB⟩
    · replace HP := hide ((unhide HP).trans (if_neg (by rw [d1, d2]; simp)))
      clear d1 d2
      go_wp2_with fail
      obtain ⟨_, _, _, _, _, _, _, _, hq, RC, -, -, -⟩ := open_World (unhide HR)
      simp only [List.cons.injEq, Value.slice.injEq, and_true, true_and] at hq
      obtain ⟨⟨rfl, rfl⟩, ⟨rfl, rfl⟩, ⟨rfl, rfl⟩, rfl, rfl⟩ := hq
      refine (implChainFault _ x.chain w1 RC).mono ?_
      rintro e w2 ⟨rfl, hb⟩
      clear RC z0 z1 z2 z3 z4 z5 z6
      replace HX := hide ((unhide HX).keep hb)
      replace HR := hide ((unhide HR).later hb)
      replace HB := hide ((unhide HB).trans (hb.mono (unhide HB).size))
      clear hb
      have z0 := Box.at (unhide HX) 0 _ rfl
      have z1 := Box.at (unhide HX) 1 _ rfl
      have z2 := Box.at (unhide HX) 2 _ rfl
      have z3 := Box.at (unhide HX) 3 _ rfl
      have z4 := Box.at (unhide HX) 4 _ rfl
      have z5 := Box.at (unhide HX) 5 _ rfl
      have z6 := Box.at (unhide HX) 6 _ rfl
      simp only [List.getElem_toArray, List.getElem_cons_zero, List.getElem_cons_succ] at z0 z1 z2 z3 z4 z5 z6
      by_cases d3 : chainFault x.chain ≠ 0
      · have hd : (chainFault x.chain != 0) = true := by simpa using d3
        replace HP := hide ((unhide HP).trans (if_pos d3))
        clear d3
        generalize chainFault x.chain = c at *
        go_wp2_with fail
        go_ret
        exact ⟨by rw [unhide HP]; rfl, unhide HB⟩
      · replace HP := hide ((unhide HP).trans (if_neg d3))
        have hd : chainFault x.chain = 0 := by simpa using d3
        clear d3
        rw [hd]
        clear hd
        go_wp2_with fail
        obtain ⟨_, _, _, _, _, _, _, _, hq, RC, RN, -, -⟩ := open_World (unhide HR)
        simp only [List.cons.injEq, Value.slice.injEq, and_true, true_and] at hq
        obtain ⟨⟨rfl, rfl⟩, ⟨rfl, rfl⟩, ⟨rfl, rfl⟩, rfl, rfl⟩ := hq
        refine (nodesFaultC _ x.chain _ x.nodes w2 RC RN).mono ?_
        rintro e w3 ⟨rfl, hb⟩
        clear RC RN z0 z1 z2 z3 z4 z5 z6
        replace HX := hide ((unhide HX).keep hb)
        replace HR := hide ((unhide HR).later hb)
        replace HB := hide ((unhide HB).trans (hb.mono (unhide HB).size))
        clear hb
        have z0 := Box.at (unhide HX) 0 _ rfl
        have z1 := Box.at (unhide HX) 1 _ rfl
        have z2 := Box.at (unhide HX) 2 _ rfl
        have z3 := Box.at (unhide HX) 3 _ rfl
        have z4 := Box.at (unhide HX) 4 _ rfl
        have z5 := Box.at (unhide HX) 5 _ rfl
        have z6 := Box.at (unhide HX) 6 _ rfl
        simp only [List.getElem_toArray, List.getElem_cons_zero, List.getElem_cons_succ] at z0 z1 z2 z3 z4 z5 z6
        by_cases d3 : nodesP x.chain x.nodes ≠ 0
        · have hd : (nodesP x.chain x.nodes != 0) = true := by simpa using d3
          replace HP := hide ((unhide HP).trans (if_pos d3))
          clear d3
          generalize nodesP x.chain x.nodes = c at *
          go_wp2_with fail
          go_ret
          exact ⟨by rw [unhide HP]; rfl, unhide HB⟩
        · replace HP := hide ((unhide HP).trans (if_neg d3))
          have hd : nodesP x.chain x.nodes = 0 := by simpa using d3
          clear d3
          rw [hd]
          clear hd
          go_wp2_with fail
          obtain ⟨_, _, _, _, _, _, _, _, hq, RC, -, -, -⟩ := open_World (unhide HR)
          simp only [List.cons.injEq, Value.slice.injEq, and_true, true_and] at hq
          obtain ⟨⟨rfl, rfl⟩, ⟨rfl, rfl⟩, ⟨rfl, rfl⟩, rfl, rfl⟩ := hq
          obtain ⟨_, _, hq, RI⟩ := open_Chain RC
          simp only [List.cons.injEq, Value.slice.injEq, and_true, true_and] at hq
          obtain ⟨rfl, rfl⟩ := hq
          refine (containsNobody a3 d3 a4 d4 a5 d5 a6 d6 x _ x.chain.ids w.heap.size w3 (unhide HR) (unhide HX) RI).mono ?_
          rintro e w4 ⟨rfl, hb⟩
          clear RC RI z0 z1 z2 z3 z4 z5 z6
          replace HX := hide ((unhide HX).keep hb)
          replace HR := hide ((unhide HR).later hb)
          replace HB := hide ((unhide HB).trans (hb.mono (unhide HB).size))
          clear hb
          have z0 := Box.at (unhide HX) 0 _ rfl
          have z1 := Box.at (unhide HX) 1 _ rfl
          have z2 := Box.at (unhide HX) 2 _ rfl
          have z3 := Box.at (unhide HX) 3 _ rfl
          have z4 := Box.at (unhide HX) 4 _ rfl
          have z5 := Box.at (unhide HX) 5 _ rfl
          have z6 := Box.at (unhide HX) 6 _ rfl
          simp only [List.getElem_toArray, List.getElem_cons_zero, List.getElem_cons_succ] at z0 z1 z2 z3 z4 z5 z6
          cases d3 : x.chain.ids.all (nodeIn x)
          · replace HP := hide ((unhide HP).trans (if_pos (by rw [d3]; rfl)))
            clear d3
            go_wp2_with fail
            go_ret
            exact ⟨by rw [unhide HP]; rfl, unhide HB⟩
          · replace HP := hide ((unhide HP).trans (if_neg (by rw [d3]; simp)))
            clear d3
            go_wp2_with fail
            obtain ⟨_, _, _, _, _, _, _, _, hq, -, -, RM, -⟩ := open_World (unhide HR)
            simp only [List.cons.injEq, Value.slice.injEq, and_true, true_and] at hq
            obtain ⟨⟨rfl, rfl⟩, ⟨rfl, rfl⟩, ⟨rfl, rfl⟩, rfl, rfl⟩ := hq
            refine (implNetFault _ x.msgs w4 RM).mono ?_
            rintro e w5 ⟨rfl, hb⟩
            clear RM z0 z1 z2 z3 z4 z5 z6
            replace HX := hide ((unhide HX).keep hb)
            replace HR := hide ((unhide HR).later hb)
            replace HB := hide ((unhide HB).trans (hb.mono (unhide HB).size))
            clear hb
            have z0 := Box.at (unhide HX) 0 _ rfl
            have z1 := Box.at (unhide HX) 1 _ rfl
            have z2 := Box.at (unhide HX) 2 _ rfl
            have z3 := Box.at (unhide HX) 3 _ rfl
            have z4 := Box.at (unhide HX) 4 _ rfl
            have z5 := Box.at (unhide HX) 5 _ rfl
            have z6 := Box.at (unhide HX) 6 _ rfl
            simp only [List.getElem_toArray, List.getElem_cons_zero, List.getElem_cons_succ] at z0 z1 z2 z3 z4 z5 z6
            by_cases d3 : netFault x.msgs ≠ 0
            · have hd : (netFault x.msgs != 0) = true := by simpa using d3
              replace HP := hide ((unhide HP).trans (if_pos d3))
              clear d3
              generalize netFault x.msgs = c at *
              go_wp2_with fail
              go_ret
              exact ⟨by rw [unhide HP]; rfl, unhide HB⟩
            · replace HP := hide ((unhide HP).trans (if_neg d3))
              have hd : netFault x.msgs = 0 := by simpa using d3
              clear d3
              rw [hd]
              clear hd
              go_wp2_with fail
              obtain ⟨_, _, _, _, _, _, _, _, hq, -, -, -, RE⟩ := open_World (unhide HR)
              simp only [List.cons.injEq, Value.slice.injEq, and_true, true_and] at hq
              obtain ⟨⟨rfl, rfl⟩, ⟨rfl, rfl⟩, ⟨rfl, rfl⟩, rfl, rfl⟩ := hq
              refine (historyFaultC _ x.history x.events w5 RE).mono ?_
              rintro e w6 ⟨rfl, hb⟩
              replace HB := hide ((unhide HB).trans (hb.mono (unhide HB).size))
              clear RE hb z0 z1 z2 z3 z4 z5 z6
              go_wp2_with fail
              go_ret
              exact ⟨by rw [unhide HP]; rfl, unhide HB⟩
end Go.Proofs.YthpbdafhjakekaaGreat

namespace Go.Proofs.YthpbdafhjakekaaGreat
open Go.RowKit

theorem lawWorldFault (cs : List Value) (x : DWorld) (w : World) (h : Lay.tWorld.Reads w cs x) :
    Calls Tryz.prog 3 #[.agg cs.toArray] w fun e w' => e = .returned (.bool true) ∧ Below w.heap.size w w' := by
  by_cases hn : Lay.tWorld.sz x ≤ 1048576
  · exact lawx_WorldFault cs x (worldFault x) w h hn (fun W a ha => specWorldFault a x W ha) (fun W a ha => implWorldFault a x W ha)
  · exact lawover_WorldFault cs x w h (by omega)

end Go.Proofs.YthpbdafhjakekaaGreat

namespace Go.Proofs.YthpbdafhjakekaaGreat
open Go.RowKit

set_option maxRecDepth 10000 in
theorem opens_Chain : Opens Lay.tChain 24 := by
  intro H enc W base spare held fuel cs x h
  obtain ⟨xs, n, _, _, hlen, hl, hfi⟩ := DataW.trod_struct Tryz.underlying24 h
  rw [show Tryz.prog.cellsOf 24 = 2 by kernel_rfl] at hlen
  match cs, hlen with
  | [c0, c1], _ =>
  match xs, hl with
  | [y0, y1], _ =>
  have z0 : Tryz.prog.cellsOf 2 = 1 := by kernel_rfl
  have z1 : Tryz.prog.cellsOf 22 = 1 := by kernel_rfl
  have f0 : DataW.trod enc Tryz.prog W base spare held n 2 (([c0, c1].drop 0).take (Tryz.prog.cellsOf 2)) = some y0 := hfi 0 _ rfl
  rw [z0] at f0
  obtain ⟨d0, r0⟩ := (opens_int Tryz.underlying2) enc W base spare held n _ _ f0
  have f1 : DataW.trod enc Tryz.prog W base spare held n 22 (([c0, c1].drop 1).take (Tryz.prog.cellsOf 22)) = some y1 := hfi 1 _ rfl
  rw [z1] at f1
  obtain ⟨d1, r1⟩ := (opens_sl Tryz.underlying22 (by kernel_rfl) (by decide) (opens_int Tryz.underlying2)) enc W base spare held n _ _ f1
  exact ⟨⟨d0, d1⟩, (reads_pair r0 r1)⟩

end Go.Proofs.YthpbdafhjakekaaGreat

namespace Go.Proofs.YthpbdafhjakekaaGreat
open Go.RowKit

set_option maxRecDepth 10000 in
theorem opens_Write : Opens Lay.tWrite 109 := by
  intro H enc W base spare held fuel cs x h
  obtain ⟨xs, n, _, _, hlen, hl, hfi⟩ := DataW.trod_struct Tryz.underlying109 h
  rw [show Tryz.prog.cellsOf 109 = 5 by kernel_rfl] at hlen
  match cs, hlen with
  | [c0, c1, c2, c3, c4], _ =>
  match xs, hl with
  | [y0, y1, y2, y3, y4], _ =>
  have z0 : Tryz.prog.cellsOf 2 = 1 := by kernel_rfl
  have z1 : Tryz.prog.cellsOf 22 = 1 := by kernel_rfl
  have f0 : DataW.trod enc Tryz.prog W base spare held n 2 (([c0, c1, c2, c3, c4].drop 0).take (Tryz.prog.cellsOf 2)) = some y0 := hfi 0 _ rfl
  rw [z0] at f0
  obtain ⟨d0, r0⟩ := (opens_int Tryz.underlying2) enc W base spare held n _ _ f0
  have f1 : DataW.trod enc Tryz.prog W base spare held n 2 (([c0, c1, c2, c3, c4].drop 1).take (Tryz.prog.cellsOf 2)) = some y1 := hfi 1 _ rfl
  rw [z0] at f1
  obtain ⟨d1, r1⟩ := (opens_int Tryz.underlying2) enc W base spare held n _ _ f1
  have f2 : DataW.trod enc Tryz.prog W base spare held n 22 (([c0, c1, c2, c3, c4].drop 2).take (Tryz.prog.cellsOf 22)) = some y2 := hfi 2 _ rfl
  rw [z1] at f2
  obtain ⟨d2, r2⟩ := (opens_sl Tryz.underlying22 (by kernel_rfl) (by decide) (opens_int Tryz.underlying2)) enc W base spare held n _ _ f2
  have f3 : DataW.trod enc Tryz.prog W base spare held n 2 (([c0, c1, c2, c3, c4].drop 3).take (Tryz.prog.cellsOf 2)) = some y3 := hfi 3 _ rfl
  rw [z0] at f3
  obtain ⟨d3, r3⟩ := (opens_int Tryz.underlying2) enc W base spare held n _ _ f3
  have f4 : DataW.trod enc Tryz.prog W base spare held n 2 (([c0, c1, c2, c3, c4].drop 4).take (Tryz.prog.cellsOf 2)) = some y4 := hfi 4 _ rfl
  rw [z0] at f4
  obtain ⟨d4, r4⟩ := (opens_int Tryz.underlying2) enc W base spare held n _ _ f4
  exact ⟨⟨d0, d1, d2, d3, d4⟩, (reads_pair r0 (reads_pair r1 (reads_pair r2 (reads_pair r3 r4))))⟩

end Go.Proofs.YthpbdafhjakekaaGreat

namespace Go.Proofs.YthpbdafhjakekaaGreat
open Go.RowKit

set_option maxRecDepth 10000 in
theorem opens_Node : Opens Lay.tNode 107 := by
  intro H enc W base spare held fuel cs x h
  obtain ⟨xs, n, _, _, hlen, hl, hfi⟩ := DataW.trod_struct Tryz.underlying107 h
  rw [show Tryz.prog.cellsOf 107 = 7 by kernel_rfl] at hlen
  match cs, hlen with
  | [c0, c1, c2, c3, c4, c5, c6], _ =>
  match xs, hl with
  | [y0, y1, y2, y3, y4, y5, y6], _ =>
  have z0 : Tryz.prog.cellsOf 2 = 1 := by kernel_rfl
  have z1 : Tryz.prog.cellsOf 4 = 1 := by kernel_rfl
  have z2 : Tryz.prog.cellsOf 105 = 1 := by kernel_rfl
  have f0 : DataW.trod enc Tryz.prog W base spare held n 2 (([c0, c1, c2, c3, c4, c5, c6].drop 0).take (Tryz.prog.cellsOf 2)) = some y0 := hfi 0 _ rfl
  rw [z0] at f0
  obtain ⟨d0, r0⟩ := (opens_int Tryz.underlying2) enc W base spare held n _ _ f0
  have f1 : DataW.trod enc Tryz.prog W base spare held n 4 (([c0, c1, c2, c3, c4, c5, c6].drop 1).take (Tryz.prog.cellsOf 4)) = some y1 := hfi 1 _ rfl
  rw [z1] at f1
  obtain ⟨d1, r1⟩ := (opens_bool Tryz.underlying4) enc W base spare held n _ _ f1
  have f2 : DataW.trod enc Tryz.prog W base spare held n 2 (([c0, c1, c2, c3, c4, c5, c6].drop 2).take (Tryz.prog.cellsOf 2)) = some y2 := hfi 2 _ rfl
  rw [z0] at f2
  obtain ⟨d2, r2⟩ := (opens_int Tryz.underlying2) enc W base spare held n _ _ f2
  have f3 : DataW.trod enc Tryz.prog W base spare held n 2 (([c0, c1, c2, c3, c4, c5, c6].drop 3).take (Tryz.prog.cellsOf 2)) = some y3 := hfi 3 _ rfl
  rw [z0] at f3
  obtain ⟨d3, r3⟩ := (opens_int Tryz.underlying2) enc W base spare held n _ _ f3
  have f4 : DataW.trod enc Tryz.prog W base spare held n 105 (([c0, c1, c2, c3, c4, c5, c6].drop 4).take (Tryz.prog.cellsOf 105)) = some y4 := hfi 4 _ rfl
  rw [z2] at f4
  obtain ⟨d4, r4⟩ := (opens_sl Tryz.underlying105 (by kernel_rfl) (by decide) opens_Write) enc W base spare held n _ _ f4
  have f5 : DataW.trod enc Tryz.prog W base spare held n 2 (([c0, c1, c2, c3, c4, c5, c6].drop 5).take (Tryz.prog.cellsOf 2)) = some y5 := hfi 5 _ rfl
  rw [z0] at f5
  obtain ⟨d5, r5⟩ := (opens_int Tryz.underlying2) enc W base spare held n _ _ f5
  have f6 : DataW.trod enc Tryz.prog W base spare held n 2 (([c0, c1, c2, c3, c4, c5, c6].drop 6).take (Tryz.prog.cellsOf 2)) = some y6 := hfi 6 _ rfl
  rw [z0] at f6
  obtain ⟨d6, r6⟩ := (opens_int Tryz.underlying2) enc W base spare held n _ _ f6
  exact ⟨⟨d0, d1, d2, d3, d4, d5, d6⟩, (reads_pair r0 (reads_pair r1 (reads_pair r2 (reads_pair r3 (reads_pair r4 (reads_pair r5 r6))))))⟩

end Go.Proofs.YthpbdafhjakekaaGreat

namespace Go.Proofs.YthpbdafhjakekaaGreat
open Go.RowKit

set_option maxRecDepth 10000 in
theorem opens_Msg : Opens Lay.tMsg 111 := by
  intro H enc W base spare held fuel cs x h
  obtain ⟨xs, n, _, _, hlen, hl, hfi⟩ := DataW.trod_struct Tryz.underlying111 h
  rw [show Tryz.prog.cellsOf 111 = 10 by kernel_rfl] at hlen
  match cs, hlen with
  | [c0, c1, c2, c3, c4, c5, c6, c7, c8, c9], _ =>
  match xs, hl with
  | [y0, y1, y2, y3, y4, y5], _ =>
  have z0 : Tryz.prog.cellsOf 2 = 1 := by kernel_rfl
  have z1 : Tryz.prog.cellsOf 109 = 5 := by kernel_rfl
  have f0 : DataW.trod enc Tryz.prog W base spare held n 2 (([c0, c1, c2, c3, c4, c5, c6, c7, c8, c9].drop 0).take (Tryz.prog.cellsOf 2)) = some y0 := hfi 0 _ rfl
  rw [z0] at f0
  obtain ⟨d0, r0⟩ := (opens_int Tryz.underlying2) enc W base spare held n _ _ f0
  have f1 : DataW.trod enc Tryz.prog W base spare held n 2 (([c0, c1, c2, c3, c4, c5, c6, c7, c8, c9].drop 1).take (Tryz.prog.cellsOf 2)) = some y1 := hfi 1 _ rfl
  rw [z0] at f1
  obtain ⟨d1, r1⟩ := (opens_int Tryz.underlying2) enc W base spare held n _ _ f1
  have f2 : DataW.trod enc Tryz.prog W base spare held n 2 (([c0, c1, c2, c3, c4, c5, c6, c7, c8, c9].drop 2).take (Tryz.prog.cellsOf 2)) = some y2 := hfi 2 _ rfl
  rw [z0] at f2
  obtain ⟨d2, r2⟩ := (opens_int Tryz.underlying2) enc W base spare held n _ _ f2
  have f3 : DataW.trod enc Tryz.prog W base spare held n 2 (([c0, c1, c2, c3, c4, c5, c6, c7, c8, c9].drop 3).take (Tryz.prog.cellsOf 2)) = some y3 := hfi 3 _ rfl
  rw [z0] at f3
  obtain ⟨d3, r3⟩ := (opens_int Tryz.underlying2) enc W base spare held n _ _ f3
  have f4 : DataW.trod enc Tryz.prog W base spare held n 2 (([c0, c1, c2, c3, c4, c5, c6, c7, c8, c9].drop 4).take (Tryz.prog.cellsOf 2)) = some y4 := hfi 4 _ rfl
  rw [z0] at f4
  obtain ⟨d4, r4⟩ := (opens_int Tryz.underlying2) enc W base spare held n _ _ f4
  have f5 : DataW.trod enc Tryz.prog W base spare held n 109 (([c0, c1, c2, c3, c4, c5, c6, c7, c8, c9].drop 5).take (Tryz.prog.cellsOf 109)) = some y5 := hfi 5 _ rfl
  rw [z1] at f5
  obtain ⟨d5, r5⟩ := (opens_Write) enc W base spare held n _ _ f5
  exact ⟨⟨d0, d1, d2, d3, d4, d5⟩, (reads_pair r0 (reads_pair r1 (reads_pair r2 (reads_pair r3 (reads_pair r4 r5)))))⟩

end Go.Proofs.YthpbdafhjakekaaGreat

namespace Go.Proofs.YthpbdafhjakekaaGreat
open Go.RowKit

set_option maxRecDepth 10000 in
theorem opens_Hit : Opens Lay.tHit 198 := by
  intro H enc W base spare held fuel cs x h
  obtain ⟨xs, n, _, _, hlen, hl, hfi⟩ := DataW.trod_struct Tryz.underlying198 h
  rw [show Tryz.prog.cellsOf 198 = 2 by kernel_rfl] at hlen
  match cs, hlen with
  | [c0, c1], _ =>
  match xs, hl with
  | [y0, y1], _ =>
  have z0 : Tryz.prog.cellsOf 2 = 1 := by kernel_rfl
  have f0 : DataW.trod enc Tryz.prog W base spare held n 2 (([c0, c1].drop 0).take (Tryz.prog.cellsOf 2)) = some y0 := hfi 0 _ rfl
  rw [z0] at f0
  obtain ⟨d0, r0⟩ := (opens_int Tryz.underlying2) enc W base spare held n _ _ f0
  have f1 : DataW.trod enc Tryz.prog W base spare held n 2 (([c0, c1].drop 1).take (Tryz.prog.cellsOf 2)) = some y1 := hfi 1 _ rfl
  rw [z0] at f1
  obtain ⟨d1, r1⟩ := (opens_int Tryz.underlying2) enc W base spare held n _ _ f1
  exact ⟨⟨d0, d1⟩, (reads_pair r0 r1)⟩

end Go.Proofs.YthpbdafhjakekaaGreat

namespace Go.Proofs.YthpbdafhjakekaaGreat
open Go.RowKit

set_option maxRecDepth 10000 in
theorem opens_Entry : Opens Lay.tEntry 115 := by
  intro H enc W base spare held fuel cs x h
  obtain ⟨xs, n, _, _, hlen, hl, hfi⟩ := DataW.trod_struct Tryz.underlying115 h
  rw [show Tryz.prog.cellsOf 115 = 11 by kernel_rfl] at hlen
  match cs, hlen with
  | [c0, c1, c2, c3, c4, c5, c6, c7, c8, c9, c10], _ =>
  match xs, hl with
  | [y0, y1, y2, y3, y4, y5, y6, y7, y8, y9, y10], _ =>
  have z0 : Tryz.prog.cellsOf 2 = 1 := by kernel_rfl
  have z1 : Tryz.prog.cellsOf 22 = 1 := by kernel_rfl
  have z2 : Tryz.prog.cellsOf 113 = 1 := by kernel_rfl
  have f0 : DataW.trod enc Tryz.prog W base spare held n 2 (([c0, c1, c2, c3, c4, c5, c6, c7, c8, c9, c10].drop 0).take (Tryz.prog.cellsOf 2)) = some y0 := hfi 0 _ rfl
  rw [z0] at f0
  obtain ⟨d0, r0⟩ := (opens_int Tryz.underlying2) enc W base spare held n _ _ f0
  have f1 : DataW.trod enc Tryz.prog W base spare held n 2 (([c0, c1, c2, c3, c4, c5, c6, c7, c8, c9, c10].drop 1).take (Tryz.prog.cellsOf 2)) = some y1 := hfi 1 _ rfl
  rw [z0] at f1
  obtain ⟨d1, r1⟩ := (opens_int Tryz.underlying2) enc W base spare held n _ _ f1
  have f2 : DataW.trod enc Tryz.prog W base spare held n 2 (([c0, c1, c2, c3, c4, c5, c6, c7, c8, c9, c10].drop 2).take (Tryz.prog.cellsOf 2)) = some y2 := hfi 2 _ rfl
  rw [z0] at f2
  obtain ⟨d2, r2⟩ := (opens_int Tryz.underlying2) enc W base spare held n _ _ f2
  have f3 : DataW.trod enc Tryz.prog W base spare held n 2 (([c0, c1, c2, c3, c4, c5, c6, c7, c8, c9, c10].drop 3).take (Tryz.prog.cellsOf 2)) = some y3 := hfi 3 _ rfl
  rw [z0] at f3
  obtain ⟨d3, r3⟩ := (opens_int Tryz.underlying2) enc W base spare held n _ _ f3
  have f4 : DataW.trod enc Tryz.prog W base spare held n 22 (([c0, c1, c2, c3, c4, c5, c6, c7, c8, c9, c10].drop 4).take (Tryz.prog.cellsOf 22)) = some y4 := hfi 4 _ rfl
  rw [z1] at f4
  obtain ⟨d4, r4⟩ := (opens_sl Tryz.underlying22 (by kernel_rfl) (by decide) (opens_int Tryz.underlying2)) enc W base spare held n _ _ f4
  have f5 : DataW.trod enc Tryz.prog W base spare held n 2 (([c0, c1, c2, c3, c4, c5, c6, c7, c8, c9, c10].drop 5).take (Tryz.prog.cellsOf 2)) = some y5 := hfi 5 _ rfl
  rw [z0] at f5
  obtain ⟨d5, r5⟩ := (opens_int Tryz.underlying2) enc W base spare held n _ _ f5
  have f6 : DataW.trod enc Tryz.prog W base spare held n 2 (([c0, c1, c2, c3, c4, c5, c6, c7, c8, c9, c10].drop 6).take (Tryz.prog.cellsOf 2)) = some y6 := hfi 6 _ rfl
  rw [z0] at f6
  obtain ⟨d6, r6⟩ := (opens_int Tryz.underlying2) enc W base spare held n _ _ f6
  have f7 : DataW.trod enc Tryz.prog W base spare held n 2 (([c0, c1, c2, c3, c4, c5, c6, c7, c8, c9, c10].drop 7).take (Tryz.prog.cellsOf 2)) = some y7 := hfi 7 _ rfl
  rw [z0] at f7
  obtain ⟨d7, r7⟩ := (opens_int Tryz.underlying2) enc W base spare held n _ _ f7
  have f8 : DataW.trod enc Tryz.prog W base spare held n 2 (([c0, c1, c2, c3, c4, c5, c6, c7, c8, c9, c10].drop 8).take (Tryz.prog.cellsOf 2)) = some y8 := hfi 8 _ rfl
  rw [z0] at f8
  obtain ⟨d8, r8⟩ := (opens_int Tryz.underlying2) enc W base spare held n _ _ f8
  have f9 : DataW.trod enc Tryz.prog W base spare held n 22 (([c0, c1, c2, c3, c4, c5, c6, c7, c8, c9, c10].drop 9).take (Tryz.prog.cellsOf 22)) = some y9 := hfi 9 _ rfl
  rw [z1] at f9
  obtain ⟨d9, r9⟩ := (opens_sl Tryz.underlying22 (by kernel_rfl) (by decide) (opens_int Tryz.underlying2)) enc W base spare held n _ _ f9
  have f10 : DataW.trod enc Tryz.prog W base spare held n 113 (([c0, c1, c2, c3, c4, c5, c6, c7, c8, c9, c10].drop 10).take (Tryz.prog.cellsOf 113)) = some y10 := hfi 10 _ rfl
  rw [z2] at f10
  obtain ⟨d10, r10⟩ := (opens_sl Tryz.underlying113 (by kernel_rfl) (by decide) opens_Hit) enc W base spare held n _ _ f10
  exact ⟨⟨d0, d1, d2, d3, d4, d5, d6, d7, d8, d9, d10⟩, (reads_pair r0 (reads_pair r1 (reads_pair r2 (reads_pair r3 (reads_pair r4 (reads_pair r5 (reads_pair r6 (reads_pair r7 (reads_pair r8 (reads_pair r9 r10))))))))))⟩

end Go.Proofs.YthpbdafhjakekaaGreat

namespace Go.Proofs.YthpbdafhjakekaaGreat
open Go.RowKit

set_option maxRecDepth 10000 in
theorem opens_World : Opens Lay.tWorld 29 := by
  intro H enc W base spare held fuel cs x h
  obtain ⟨xs, n, _, _, hlen, hl, hfi⟩ := DataW.trod_struct Tryz.underlying29 h
  rw [show Tryz.prog.cellsOf 29 = 7 by kernel_rfl] at hlen
  match cs, hlen with
  | [c0, c1, c2, c3, c4, c5, c6], _ =>
  match xs, hl with
  | [y0, y1, y2, y3, y4, y5], _ =>
  have z0 : Tryz.prog.cellsOf 2 = 1 := by kernel_rfl
  have z1 : Tryz.prog.cellsOf 24 = 2 := by kernel_rfl
  have z2 : Tryz.prog.cellsOf 25 = 1 := by kernel_rfl
  have z3 : Tryz.prog.cellsOf 26 = 1 := by kernel_rfl
  have z4 : Tryz.prog.cellsOf 27 = 1 := by kernel_rfl
  have f0 : DataW.trod enc Tryz.prog W base spare held n 2 (([c0, c1, c2, c3, c4, c5, c6].drop 0).take (Tryz.prog.cellsOf 2)) = some y0 := hfi 0 _ rfl
  rw [z0] at f0
  obtain ⟨d0, r0⟩ := (opens_int Tryz.underlying2) enc W base spare held n _ _ f0
  have f1 : DataW.trod enc Tryz.prog W base spare held n 2 (([c0, c1, c2, c3, c4, c5, c6].drop 1).take (Tryz.prog.cellsOf 2)) = some y1 := hfi 1 _ rfl
  rw [z0] at f1
  obtain ⟨d1, r1⟩ := (opens_int Tryz.underlying2) enc W base spare held n _ _ f1
  have f2 : DataW.trod enc Tryz.prog W base spare held n 24 (([c0, c1, c2, c3, c4, c5, c6].drop 2).take (Tryz.prog.cellsOf 24)) = some y2 := hfi 2 _ rfl
  rw [z1] at f2
  obtain ⟨d2, r2⟩ := (opens_Chain) enc W base spare held n _ _ f2
  have f3 : DataW.trod enc Tryz.prog W base spare held n 25 (([c0, c1, c2, c3, c4, c5, c6].drop 4).take (Tryz.prog.cellsOf 25)) = some y3 := hfi 3 _ rfl
  rw [z2] at f3
  obtain ⟨d3, r3⟩ := (opens_sl Tryz.underlying25 (by kernel_rfl) (by decide) opens_Node) enc W base spare held n _ _ f3
  have f4 : DataW.trod enc Tryz.prog W base spare held n 26 (([c0, c1, c2, c3, c4, c5, c6].drop 5).take (Tryz.prog.cellsOf 26)) = some y4 := hfi 4 _ rfl
  rw [z3] at f4
  obtain ⟨d4, r4⟩ := (opens_sl Tryz.underlying26 (by kernel_rfl) (by decide) opens_Msg) enc W base spare held n _ _ f4
  have f5 : DataW.trod enc Tryz.prog W base spare held n 27 (([c0, c1, c2, c3, c4, c5, c6].drop 6).take (Tryz.prog.cellsOf 27)) = some y5 := hfi 5 _ rfl
  rw [z4] at f5
  obtain ⟨d5, r5⟩ := (opens_sl Tryz.underlying27 (by kernel_rfl) (by decide) opens_Entry) enc W base spare held n _ _ f5
  exact ⟨⟨d0, d1, d2, d3, d4, d5⟩, (reads_pair r0 (reads_pair r1 (reads_pair r2 (reads_pair r3 (reads_pair r4 r5)))))⟩

end Go.Proofs.YthpbdafhjakekaaGreat
