/-
  Texts of this proof in one: AppInts, ImplClone, ImplTrainF, CenScoreC, ImplNear, SumPlain, ImplPlus, ImplTellExt.
  Their conditions stand in their theorems.
-/
import Derived.Test.YtjofcmdlcoganaaNq01
import Derived.Test.YtjofcmdlcoganaaNq02
import Derived.Test.YtjofcmdlcoganaaNq05
import Derived.Maps.AppendAt
import Derived.Test.YtjofcmdlcoganaaChecked
import Derived.BigQuiet
import Derived.Deep.QuietTactic
import Derived.WalkSmall
import Derived.Test.YtjofcmdlcoganaaNq04

namespace Go.Proofs.Ytjofcmdlcoganaa
open Go.RowKit

theorem append_noneI {P : Program} (t ty e : TypeId) (i : TypeInfo) (ht : P.underlying t = some (.slice e)) (hi : P.info? e = some i) (bo : Option Addr) (n cap c : Nat) (hn : n ≤ cap) (w : World) :
    (Builtin.append_ #[t, t] ty #[.slice bo n cap, .slice none 0 c]).run P w = (Builtin.append_ #[t, t] ty #[.slice bo n cap, .slice (some ⟨0, 0, none⟩) 0 c]).run P w := by
  simp [Builtin.append_, run_underlying ht, sizeOf, typeInfo, hi, Builtin.lenOf, hn, Builtin.firstCells, loadCells, loadCellsFrom]

theorem IsInts.news {w : World} {b off cap : Nat} {zs : List Int} (h : IsInts w (.slice (some ⟨b, off, none⟩) zs.length cap) zs) (hp : 0 < zs.length) : ∀ j u, (zs.map (Value.int .i64))[j]? = some u → w.cell? ((⟨b, off, none⟩ : Addr).add j) = some u := by
  intro j u hu
  obtain ⟨ao, cp, hv, hwf, hc⟩ := h
  obtain ⟨b', off', hao, hc1⟩ := hc hp
  simp only [Value.slice.injEq] at hv
  obtain ⟨rfl, -, -⟩ := hv
  simp only [Option.some.injEq, Addr.mk.injEq, and_true] at hao
  obtain ⟨rfl, rfl⟩ := hao
  have hj : j < zs.length := by
    have := (List.getElem?_eq_some_iff.1 hu).1
    simpa using this
  rw [Addr.add_lit, hc1 j hj]
  simp [hj] at hu
  simp [List.getD, hj, hu]

theorem run_append_ints {w : World} (base ty : Nat) (v : Value) (n : Nat) (xs : List Value) (hown : w.ownsRow base 2 1 v n xs) (x : Value) (ks : List Int) (hx : IsInts w x ks)
    (hn : n + ks.length ≤ 100000000) (hbase : base ≤ w.heap.size) :
    ∃ v' w', (Builtin.append_ #[25, 25] ty #[v, x]).run Try.prog w = .ok v' w' ∧ w'.ownsRow base 2 1 v' (n + ks.length) (xs ++ ks.map (Value.int .i64)) ∧ w.grownBy w' v.ownBlock := by
  obtain ⟨i0, hi, hz0, hz1, hz2⟩ := info_parts info2
  have hml : n + ks.length ≤ maxLen := by unfold maxLen; omega
  by_cases hp : 0 < ks.length
  · have hx' := hx
    obtain ⟨ao, cap, rfl, hwf, hc⟩ := hx'
    obtain ⟨b, off, rfl, hc1⟩ := hc hp
    obtain ⟨v', w', r1, r2, r3, -, -⟩ := run_append_own_at (P := Try.prog) w base 25 ty 2 i0 _ 1 8 Try.underlying25 hi hz0 hz1 hz2 rfl (by omega) v n xs hown ⟨b, off, none⟩ ks.length cap (ks.map (Value.int .i64)) (by simp) (hx.news hp) (by simp [Value.oneCell']) hml (by omega) hbase
    exact ⟨v', w', r1, r2, r3⟩
  · obtain rfl : ks = [] := List.eq_nil_of_length_eq_zero (by omega)
    obtain ⟨ao, cap, rfl, hwf, hc⟩ := hx
    cases ao with
    | none =>
      obtain ⟨v', w', r1, r2, r3, -, -⟩ := run_append_own_at (P := Try.prog) w base 25 ty 2 i0 _ 1 8 Try.underlying25 hi hz0 hz1 hz2 rfl (by omega) v n xs hown ⟨0, 0, none⟩ 0 cap [] rfl (by simp) (by simp) hml (by simp at hn; omega) hbase
      refine ⟨v', w', ?_, r2, r3⟩
      rcases hown.2 with ⟨rfl, h0⟩ | ⟨g, cp, cur, rfl, _, _, hle, _⟩
      · exact (append_noneI _ _ _ i0 Try.underlying25 hi none 0 0 cap (Nat.le_refl _) w).trans r1
      · exact (append_noneI _ _ _ i0 Try.underlying25 hi _ n cp cap hle w).trans r1
    | some ad =>
      obtain ⟨v', w', r1, r2, r3, -, -⟩ := run_append_own_at (P := Try.prog) w base 25 ty 2 i0 _ 1 8 Try.underlying25 hi hz0 hz1 hz2 rfl (by omega) v n xs hown ad 0 cap [] rfl (by simp) (by simp) hml (by simp at hn; omega) hbase
      exact ⟨v', w', r1, r2, r3⟩

/-- The same at an operation of a plain region. -/
theorem wpList_append_ints {w : World} {base : Nat} {v : Value} {n : Nat} {xs : List Value} (hown : w.ownsRow base 2 1 v n xs) {X : Value} {ks : List Int} (hx : IsInts w X ks)
    {ops : Array Oper} {rest : List Oper} {o : Oper} {a : Act} {Q : Exit → Act → World → Prop} (hgd : o.guard = none) (s x : Operand)
    (ho : o.op = .call { callee := .builtin .append, args := #[s, x], argTypes := #[25, 25] }) (hv : a.eval s = v) (hX : a.eval x = X)
    (hn : n + ks.length ≤ 100000000) (hbase : base ≤ w.heap.size)
    (h : ∀ v' w', w'.ownsRow base 2 1 v' (n + ks.length) (xs ++ ks.map (Value.int .i64)) → w.grownBy w' v.ownBlock → Below base w w' → wpList Try.prog ops Q rest (a.put o.dst v') w') :
    wpList Try.prog ops Q (o :: rest) a w := by
  refine wpList_plain hgd fun K hK => ?_
  obtain ⟨v', w', hr, h2, h3⟩ := run_append_ints base o.type v n xs hown X ks hx hn hbase
  unfold Oper.wp execOp
  simp only [ho, resolve, invoke, builtin, Sem.run_bind, Sem.run_pure, Result.andThen_ok, List.map_toArray, List.map_cons, List.map_nil, hv, hX, hr]
  exact hK _ _ (h v' w' h2 h3 ((Below.refl _ _).grown h3 hbase (fun j hj => (hown.lt j hj).1)))

end Go.Proofs.Ytjofcmdlcoganaa

namespace Go.Proofs.Ytjofcmdlcoganaa
open Go.RowKit

set_option maxHeartbeats 400000 in
theorem slClone (ad : Addr) (cap : Nat) (zs : List Int) (w : World) (h : IsInts w (.slice (some ad) zs.length cap) zs) (hn : zs.length ≤ 100000000) :
    Calls Try.prog 74 #[.slice (some ad) zs.length cap] w fun e w' => ∃ v', e = .returned v' ∧ w'.ownsRow w.heap.size 2 1 v' zs.length (zs.map (Value.int .i64)) ∧ Below w.heap.size w w' := by
  have nb : Below w.heap.size w (w.alloc (.cells #[] 2)) := (Below.refl _ _).alloc (Nat.le_refl _) _
  have O : (w.alloc (.cells #[] 2)).ownsRow w.heap.size 2 1 (.slice (some ⟨w.heap.size, 0, none⟩) 0 0) 0 [] := World.ownsRow_lit w _ 0 (Nat.le_refl _) (by unfold maxLen; omega) rfl
  have h1 := h.later nb
  have HB := hide nb
  have hnil : ∀ w : World, (binOp .eql 25 (.slice (some ad) zs.length cap) (.slice none 0 0)).run Try.prog w = .ok (.bool false) w := fun _ => by kernel_rfl
  clear nb h
  go_enter Try.func74, Try.ntmps74
  go_wp2_with (at_builtin; refine wpList_append_ints O h1 rfl _ _ rfl rfl rfl (by omega) (by simp) ?_)
  rintro v' w' O2 - hb
  have HB2 := hide ((unhide HB).trans hb)
  clear O h1 hb HB
  go_wp2_with fail
  go_ret
  exact ⟨v', rfl, by simpa using O2, unhide HB2⟩

end Go.Proofs.Ytjofcmdlcoganaa

namespace Go.Proofs.Ytjofcmdlcoganaa
open Go.RowKit

set_option maxRecDepth 10000 in
set_option maxHeartbeats 1000000 in
theorem trainFaultC (vx : Value) (xs : List DItem) (vs : Value) (ss : List Int) (r : Int) (w : World) (h : (Lay.sl Lay.tItem).Reads w [vx] xs) (hs : (Lay.sl Lay.int).Reads w [vs] ss) :
    Calls Try.prog 46 #[vx, vs, .int .i64 r] w fun e w' => e = .returned (.int .i64 (trainFault xs ss r)) ∧ Below w.heap.size w w' := by
  have HI0 := hide (Lay.ints_reads hs)
  obtain ⟨ao, cap, rfl⟩ := open_sl h
  obtain ⟨ao2, cap2, rfl⟩ := open_sl hs
  have L := hide (implTab _ xs w h)
  have hbig := hs.big
  clear h hs
  go_enter Try.func46, Try.ntmps46
  go_wp2_with fail
  refine (unhide L).mono ?_
  rintro e w1 ⟨rfl, hb⟩
  have HI := hide ((unhide HI0).later hb)
  have HB := hide hb
  clear hb L HI0
  by_cases hf : tableFault xs = 0
  · rw [hf]
    by_cases h0 : xs.length = 0
    · have HG := hide (trainFault_none hf h0 ss r)
      have hd : ((xs.length : Int) == 0) = true := by rw [beq_iff_eq]; omega
      clear hf h0
      go_wp2_with fail
      go_ret
      exact ⟨by rw [unhide HG]; rfl, unhide HB⟩
    · have hd : ((xs.length : Int) == 0) = false := by rw [beq_eq_false_iff_ne]; omega
      have HF := hide hf
      have H0 := hide h0
      clear hf h0
      go_wp2_with fail
      refine (implCount ss.length _).mono ?_
      rintro e w1 ⟨rfl, rfl⟩
      by_cases hm : ss.length < 1 ∨ 6 < ss.length
      · have HG := hide (trainFault_many (unhide HF) (unhide H0) hm r)
        rw [show (decide ((1 : Int) ≤ (ss.length : Int)) && decide ((ss.length : Int) ≤ 6)) = false by simp; omega]
        clear hm
        go_wp2_with fail
        go_ret
        exact ⟨by rw [unhide HG]; rfl, unhide HB⟩
      · rw [show (decide ((1 : Int) ≤ (ss.length : Int)) && decide ((ss.length : Int) ≤ 6)) = true by simp; omega]
        have HM := hide hm
        clear hm
        by_cases hr1 : r < 0
        · have HG := hide (trainFault_rounds (unhide HF) (unhide H0) (unhide HM) (r := r) (by simp; omega))
          have hd1 : decide (r < 0) = true := by simpa using hr1
          clear hr1
          go_wp2_with fail
          go_ret
          exact ⟨by rw [unhide HG]; rfl, unhide HB⟩
        · by_cases hr2 : 20 < r
          · have HG := hide (trainFault_rounds (unhide HF) (unhide H0) (unhide HM) (r := r) (by simp; omega))
            have hd1 : decide (r < 0) = false := by simpa using hr1
            have hd2 : decide (20 < r) = true := by simpa using hr2
            clear hr1 hr2
            go_wp2_with fail
            go_ret
            exact ⟨by rw [unhide HG]; rfl, unhide HB⟩
          · have HG := hide (trainFault_seeds (unhide HF) (unhide H0) (unhide HM) (r := r) (by simp; omega))
            have hd1 : decide (r < 0) = false := by simpa using hr1
            have hd2 : decide (20 < r) = false := by simpa using hr2
            obtain ⟨b, off, rfl⟩ := ints_addr (unhide HI) (by have := unhide HM; omega)
            clear hr1 hr2
            go_wp2_with fail
            go_loopw [30] (fun i wr => ∃ k : Nat, k ≤ ss.length ∧ i = .int .i64 k ∧ (ss.drop k).all seedB = ss.all seedB ∧ wr = w1) (fun i _ => ss.length - (intOf i).toNat)
            case atStart => exact ⟨0, Nat.zero_le _, rfl, rfl, rfl⟩
            case round =>
              obtain ⟨k, hk, rfl, hall, rfl⟩ := hrel
              by_cases hlt : k < ss.length
              · have c1 := ints_cell (unhide HI) k hlt
                rw [all_step ss k hlt] at hall
                generalize hz : ss[k] = z at *
                clear hz
                by_cases hz1 : z < 0
                · have HG2 : Hid (trainFault xs ss r = 3) := by
                    show trainFault xs ss r = 3
                    rw [unhide HG, ← hall, show seedB z = false by simp [seedB]; omega]
                    simp
                  have hd3 : decide (z < 0) = true := by simpa using hz1
                  clear hall hz1
                  go_wp2_with fail
                  go_ret
                  exact ⟨by rw [unhide HG2]; rfl, unhide HB⟩
                · by_cases hz2 : 9999 < z
                  · have HG2 : Hid (trainFault xs ss r = 3) := by
                      show trainFault xs ss r = 3
                      rw [unhide HG, ← hall, show seedB z = false by simp [seedB]; omega]
                      simp
                    have hd3 : decide (z < 0) = false := by simpa using hz1
                    have hd4 : decide (9999 < z) = true := by simpa using hz2
                    clear hall hz1 hz2
                    go_wp2_with fail
                    go_ret
                    exact ⟨by rw [unhide HG2]; rfl, unhide HB⟩
                  · rw [show seedB z = true by simp [seedB]; omega, Bool.true_and] at hall
                    have HALL := hide hall
                    have hd3 : decide (z < 0) = false := by simpa using hz1
                    have hd4 : decide (9999 < z) = false := by simpa using hz2
                    clear hall hz1 hz2
                    go_wp2_with fail
                    go_roundw
                    case rel => exact ⟨k + 1, by omega, by go_num, unhide HALL, by simp⟩
                    case measure => simp [intOf]; omega
              · obtain rfl : k = ss.length := by omega
                rw [List.drop_length] at hall
                have HG2 : Hid (trainFault xs ss r = 0) := by
                  show trainFault xs ss r = 0
                  rw [unhide HG, ← hall]
                  rfl
                clear hall
                go_wp2_with fail
                go_ret
                exact ⟨by rw [unhide HG2]; rfl, unhide HB⟩
  · have HG := hide (trainFault_tab hf ss r)
    have hd : (tableFault xs != 0) = true := by simpa using hf
    clear hf
    go_wp2_with fail
    go_ret
    exact ⟨by rw [unhide HG]; rfl, unhide HB⟩

set_option maxRecDepth 100000 in
set_option maxHeartbeats 2000000 in
theorem seedsC (vx : Value) (xs : List DItem) (vs : Value) (ss : List Int) (w : World) (h : (Lay.sl Lay.tItem).Reads w [vx] xs) (hs : (Lay.sl Lay.int).Reads w [vs] ss) (hft : tableFault xs = 0) (h0 : xs.length ≠ 0) (hn : 1 ≤ ss.length ∧ ss.length ≤ 6) (hall : ss.all seedB = true) :
    Calls Try.prog 47 #[vx, vs] w fun e w' => ∃ v', e = .returned v' ∧ (Lay.sl Lay.tCenter).OwnIn w' [v'] (seedCs xs ss) w.heap.size w'.heap.size ∧ Below w.heap.size w w' := by
  have HI := hide (Lay.ints_reads hs)
  have HX := hide h
  obtain ⟨ao, cap, rfl⟩ := open_sl h
  obtain ⟨ao2, cap2, rfl⟩ := open_sl hs
  obtain ⟨b2, off2, rfl⟩ := ints_addr (unhide HI) (by omega)
  obtain ⟨b, off, rfl, hbl⟩ := Lay.sl_addr h (by omega)
  have hbl2 : b2 < w.heap.size := World.block_lt_of_cell? _ _ (ints_cell (unhide HI) 0 (by omega))
  obtain ⟨hlen, hxa, -⟩ := tableFault_zero hft
  have HXV : Hid (∀ x ∈ xs, vecFault x.vec = 0) := fun x hm => (hxa x hm).2
  have HALL : Hid (∀ z ∈ ss, 0 ≤ z ∧ z ≤ 9999) := fun z hz => by
    have := List.all_eq_true.1 hall z hz
    simpa [seedB] using this
  obtain ⟨i0, hi, hz0, hz1, hz2⟩ := info_parts infoCenF
  clear h hs hft hxa hall
  go_enter Try.func47, Try.ntmps47
  go_wp2_with (at_make; refine wpList_make_full _ rfl _ _ 28 rfl w.heap.size 77 i0 _ 1 Try.underlying28 hi hz0 hz1 _ _ _ _ ss.length rfl rfl rfl rfl ?c1 ?c2 ?c3 ?_)
  case c1 => rw [hz2]; omega
  case c2 => unfold maxLen; omega
  case c3 => exact Nat.le_refl _
  intro w8 hown8 hgrow8
  have hB8 : Below w.heap.size w w8 := (Below.refl _ _).grown hgrow8 (Nat.le_refl _) (by simp)
  have HF8 := hide (FillC.start (seedCs xs ss) hown8)
  have HB8 := hide hB8
  clear hown8 hgrow8 hB8 hi hz0 hz1 hz2
  go_wp2_with fail
  go_loopw [14] (fun i wr => ∃ k : Nat, k ≤ ss.length ∧ i = .int .i64 k ∧ FillC wr w.heap.size ss.length k (seedCs xs ss) ∧ Below w.heap.size w wr) (fun i _ => ss.length - (intOf i).toNat)
  case atStart => exact ⟨0, Nat.zero_le _, rfl, unhide HF8, unhide HB8⟩
  case round =>
    obtain ⟨k, hk, rfl, hF, hB⟩ := hrel
    clear HF8 HB8
    by_cases hlt : k < ss.length
    · have c2 : wr.cell? ⟨b2, off2 + k, none⟩ = some (.int .i64 ss[k]) := (hB.cell (p := ⟨b2, off2 + k, none⟩) hbl2).trans (ints_cell (unhide HI) k hlt)
      obtain ⟨hz1, hz2⟩ := unhide HALL ss[k] (List.getElem_mem hlt)
      have HT := hide (seedCs_take xs ss k hlt)
      generalize hz : ss[k] = z at *
      clear hz
      have hml : z.toNat % xs.length < xs.length := Nat.mod_lt _ (by omega)
      have hrem := seed_rem z xs.length hz1
      have HT2 : Hid ((seedCs xs ss).take (k + 1) = (seedCs xs ss).take k ++ [⟨(xs[z.toNat % xs.length]).vec⟩]) := by
        show (seedCs xs ss).take (k + 1) = _
        rw [unhide HT, seedC, getD_at hml]
      obtain ⟨row, hc, hr⟩ := Lay.row_at (unhide HX) hml
      obtain ⟨a1, d1, rfl, R1⟩ := open_Item hr
      have hvx := unhide HXV xs[z.toNat % xs.length] (List.getElem_mem hml)
      have c0 : wr.cell? ⟨b, off + (z.toNat % xs.length) * 2, none⟩ = some (.int .i64 (xs[z.toNat % xs.length]).id) := (hB.cell (p := ⟨b, off + (z.toNat % xs.length) * 2, none⟩) hbl).trans (hc 0 (by decide))
      have c1 : wr.cell? ⟨b, off + (z.toNat % xs.length) * 2 + 1, none⟩ = some (.slice a1 (xs[z.toNat % xs.length]).vec.length d1) := (hB.cell (p := ⟨b, off + (z.toNat % xs.length) * 2 + 1, none⟩) hbl).trans (hc 1 (by decide))
      clear hc hr HT
      generalize hx : xs[z.toNat % xs.length] = x at *
      clear hx
      generalize z.toNat % xs.length = m at *
      have hl3 := (vecFault_zero hvx).1
      obtain ⟨b1, off1, rfl, hbl1⟩ := Lay.sl_addr R1 (by omega)
      have L := hide (slClone ⟨b1, off1, none⟩ d1 x.vec wr ((Lay.ints_reads R1).later hB) (by omega))
      have HWF := hide (ints_wf (Lay.ints_reads R1))
      have HL3 := hide hl3
      have HF := hide hF
      have HB := hide hB
      have hne : ((xs.length : Int) == 0) = false := by rw [beq_eq_false_iff_ne]; omega
      have hne2 : ¬ (xs.length : Int) = 0 := by omega
      clear R1 hB hF hvx hl3
      go_wp2_with fail
      refine (unhide L).mono ?_
      rintro e w9 ⟨v9, rfl, ho9, hb9⟩
      have hO9 := Lay.ownInts (unhide HWF) (by have := unhide HL3; omega) ho9
      obtain ⟨⟨u9, hu9⟩, hf9, hl9⟩ := ((unhide HF).later hb9).there hlt
      have HF9 := hide ((unhide HF).put hlt hb9 hO9 (unhide HT2))
      have HB9 : Hid (Below w.heap.size w (w9.setCell ⟨w.heap.size, k, none⟩ v9)) := ((unhide HB).trans (hb9.mono (unhide HB).size)).setCell (by simp) _
      obtain ⟨a9, c9, rfl⟩ := open_sl hO9.reads
      clear hO9 ho9 hb9 L c0 c1 c2
      generalize x.vec.length = yl9 at *
      go_wp2_with fail
      go_roundw
      case rel => exact ⟨k + 1, by omega, by go_num, unhide HF9, unhide HB9⟩
      case measure => simp [intOf]; omega
    · obtain rfl : k = ss.length := by omega
      have HO := hide (hF.done (seedCs_len xs ss) (by omega))
      have HB := hide hB
      clear hF hB
      go_wp2_with fail
      go_ret
      exact ⟨_, rfl, unhide HO, unhide HB⟩

end Go.Proofs.Ytjofcmdlcoganaa

namespace Go.Proofs.Ytjofcmdlcoganaa
open Go.RowKit

theorem cvec3 {zs : List Int} (h : vecFault zs = 0) : ∃ p q r, zs = [p, q, r] := by
  have hl := (vecFault_zero h).1
  match zs, hl with
  | [p, q, r], _ => exact ⟨p, q, r, rfl⟩
theorem implScore3 (v1 v2 : Value) (p q : List Int) (w : World) (h1 : IsInts w v1 p) (h2 : IsInts w v2 q) (f1 : vecFault p = 0) (f2 : vecFault q = 0) :
    Calls Try.prog 87 #[v1, v2] w fun e w' => e = .returned (.agg #[.int .i64 0, .int .i64 (score3 p q)]) ∧ Below w.heap.size w w' := by
  obtain ⟨x, y, z, rfl⟩ := cvec3 f1
  obtain ⟨a, b, c, rfl⟩ := cvec3 f2
  exact implScore_ok v1 v2 x y z a b c w h1 h2 f1 f2
theorem modelScore3 (v1 v2 : Value) (p q : List Int) (w : World) (h1 : IsInts w v1 p) (h2 : IsInts w v2 q) (f1 : vecFault p = 0) (f2 : vecFault q = 0) :
    Calls Try.prog 86 #[v1, v2] w fun e w' => e = .returned (.int .i64 (score3 p q)) ∧ Below w.heap.size w w' := by
  obtain ⟨x, y, z, rfl⟩ := cvec3 f1
  obtain ⟨a, b, c, rfl⟩ := cvec3 f2
  obtain ⟨b1, o1, k1, x', y', z', he, rfl, hbl, c0, c1, c2⟩ := h1.three rfl
  simp only [List.cons.injEq, and_true] at he
  obtain ⟨rfl, rfl, rfl⟩ := he
  obtain ⟨b2, o2, k2, x', y', z', he, rfl, hbl2, d0, d1, d2⟩ := h2.three rfl
  simp only [List.cons.injEq, and_true] at he
  obtain ⟨rfl, rfl, rfl⟩ := he
  exact modelSum b1 o1 k1 b2 o2 k2 x y z a b c w c0 c1 c2 d0 d1 d2 f1 f2

end Go.Proofs.Ytjofcmdlcoganaa

namespace Go.Proofs.Ytjofcmdlcoganaa
open Go.RowKit

set_option maxRecDepth 100000 in
set_option maxHeartbeats 1000000 in
theorem nearC_pos (b off cap : Nat) (cs : List DCenter) (a2 : Option Addr) (d2 : Nat) (q : List Int) (w : World) (h : (Lay.sl Lay.tCenter).Reads w [.slice (some ⟨b, off, none⟩) cs.length cap] cs) (hbl : b < w.heap.size) (hq : IsInts w (.slice a2 q.length d2) q) (hc0 : centersFault cs = 0) (hv : vecFault q = 0) :
    Calls Try.prog 56 #[.slice (some ⟨b, off, none⟩) cs.length cap, .slice a2 q.length d2] w fun e w' => e = .returned (.tuple #[.int .i64 (near cs q : Nat), .int .i64 (nearS cs q)]) ∧ Below w.heap.size w w' := by
  obtain ⟨hn, hall⟩ := centersFault_zero hc0
  have HQ := hide hq
  have HA := hide hall
  have HV := hide hv
  have H := hide h
  have HN : Hid ((near cs q = (nearK cs q cs.length).1) ∧ (nearS cs q = (nearK cs q cs.length).2)) := ⟨rfl, rfl⟩
  clear h hq hall hc0 hv
  go_enter Try.func56, Try.ntmps56
  go_wp2_with fail
  go_loopw [6, 7, 12] (fun a l i wr => ∃ k : Nat, k ≤ cs.length ∧ i = .int .i64 k ∧ a = .int .i64 ((nearK cs q k).1 : Nat) ∧ l = .int .i64 (nearK cs q k).2 ∧ Below w.heap.size w wr) (fun _ _ i _ => cs.length - (intOf i).toNat)
  case atStart => exact ⟨0, Nat.zero_le _, rfl, rfl, rfl, Below.refl _ _⟩
  case round =>
    obtain ⟨k, hk, rfl, rfl, rfl, hB⟩ := hrel
    by_cases hlt : k < cs.length
    · obtain ⟨row, hc, hr⟩ := Lay.row_at (unhide H) hlt
      replace hr := hr.later hB
      obtain ⟨a1, d1, rfl, R1⟩ := open_Center hr
      have c1 : wr.cell? ⟨b, off + k, none⟩ = some (.slice a1 (cs[k]).vec.length d1) := (hB.cell (p := ⟨b, off + k, none⟩) hbl).trans (cen_cell (hc 0 (by decide)))
      have HS := hide (nearK_step cs q k hlt)
      have hbd := nearK_bd (unhide HA) (unhide HV) k hk
      have hvx := unhide HA cs[k] (List.getElem_mem hlt)
      clear hc hr
      generalize hx : cs[k] = x at *
      clear hx
      have hsb := cscore_bd hvx (unhide HV)
      have I1 := hide (Lay.ints_reads R1)
      have I2 := hide ((unhide HQ).later hB)
      have HX := hide hvx
      have HB := hide hB
      clear R1 hB hvx
      have L := hide (implScore3 _ _ x.vec q wr (unhide I1) (unhide I2) (unhide HX) (unhide HV))
      generalize score3 x.vec q = sc at *
      generalize hs : nearK cs q k = s at *
      clear hs
      obtain ⟨sa, sl⟩ := s
      simp only at hbd
      have hfl : ∀ W : World, (Instr.field 33 (.agg #[.int .i64 0, .int .i64 sc]) 1).run Try.prog W = .ok (.int .i64 sc) W := fun _ => by kernel_rfl
      go_wp2_with fail
      refine (unhide L).mono ?_
      rintro e w1 ⟨rfl, hb⟩
      have HB2 := hide ((unhide HB).trans (hb.mono (unhide HB).size))
      clear hb L HB I1 I2 c1
      cases hd : decide (sc < sl) with
      | true =>
        have HS2 : Hid (nearK cs q (k + 1) = (k, sc)) := (unhide HS).trans (if_pos (by simpa using hd))
        clear HS
        go_wp2_with fail
        go_roundw
        case rel => exact ⟨k + 1, by omega, by go_num, by rw [unhide HS2], by rw [unhide HS2], unhide HB2⟩
        case measure => simp [intOf]; omega
      | false =>
        have HS2 : Hid (nearK cs q (k + 1) = (sa, sl)) := (unhide HS).trans (if_neg (by simpa using hd))
        clear HS
        go_wp2_with fail
        go_roundw
        case rel => exact ⟨k + 1, by omega, by go_num, by rw [unhide HS2], by rw [unhide HS2], unhide HB2⟩
        case measure => simp [intOf]; omega
    · obtain rfl : k = cs.length := by omega
      have HB := hide hB
      clear hB H
      go_wp2_with fail
      refine bodyPost_ret (v := .tuple #[.int .i64 ((nearK cs q cs.length).1 : Nat), .int .i64 (nearK cs q cs.length).2]) (by simp [results, Try.results56, go_sem]) rfl ⟨rfl, unhide HB⟩

theorem nearC (v : Value) (cs : List DCenter) (vq : Value) (q : List Int) (w : World) (h : (Lay.sl Lay.tCenter).Reads w [v] cs) (hq : IsInts w vq q) (hc : centersFault cs = 0) (hv : vecFault q = 0) :
    Calls Try.prog 56 #[v, vq] w fun e w' => e = .returned (.tuple #[.int .i64 (near cs q : Nat), .int .i64 (nearS cs q)]) ∧ Below w.heap.size w w' := by
  obtain ⟨ao, cap, rfl⟩ := open_sl h
  have hvq : ∃ a d, vq = .slice a q.length d := by obtain ⟨a, d, e, -⟩ := hq; exact ⟨a, d, e⟩
  obtain ⟨a2, d2, rfl⟩ := hvq
  obtain ⟨b, off, rfl, hbl⟩ := Lay.sl_addr h (centersFault_zero hc).1.1
  exact nearC_pos b off cap cs a2 d2 q w h hbl hq hc hv

end Go.Proofs.Ytjofcmdlcoganaa

namespace Go.Proofs.Ytjofcmdlcoganaa
open Go.RowKit

/-- A row of n triples. -/
structure Sums3 (w : World) (g n : Nat) (f : Nat → Nat → Int) : Prop where
  lt : g < w.heap.size
  soft : ∀ o, w.frozen? ⟨g, o, none⟩ = false
  cell : ∀ p, p < n → ∀ j, j < 3 → w.cell? ⟨g, p * 3 + j, none⟩ = some (.int .i64 (f p j))
/-- A row of n numbers. -/
structure Sums1 (w : World) (g n : Nat) (f : Nat → Int) : Prop where
  lt : g < w.heap.size
  soft : ∀ o, w.frozen? ⟨g, o, none⟩ = false
  cell : ∀ p, p < n → w.cell? ⟨g, p, none⟩ = some (.int .i64 (f p))
def upd3 (f : Nat → Nat → Int) (p : Nat) (x y z : Int) : Nat → Nat → Int := fun q j => if q = p then (if j = 0 then x else if j = 1 then y else z) else f q j
def upd1 (f : Nat → Int) (p : Nat) (x : Int) : Nat → Int := fun q => if q = p then x else f q

theorem Sums3.ext {S : Nat → Prop} {w w' : World} {g n : Nat} {f : Nat → Nat → Int} (h : Sums3 w g n f) (e : Ext S w w') (hs : ¬ S g) : Sums3 w' g n f := by
  have hh := e.block g h.lt hs
  exact ⟨Nat.lt_of_lt_of_le h.lt e.size, fun o => (frozen_of_heap hh o).trans (h.soft o), fun p hp j hj => (cell_of_heap hh _).trans (h.cell p hp j hj)⟩
theorem Sums3.later {w w' : World} {g n : Nat} {f : Nat → Nat → Int} (h : Sums3 w g n f) (hb : Below w.heap.size w w') : Sums3 w' g n f := h.ext (ext_of_below hb nowhere) fun h => h
theorem Sums3.drew {w : World} {g n : Nat} {f : Nat → Nat → Int} (h : Sums3 w g n f) : Sums3 w.drew g n f := ⟨h.lt, h.soft, h.cell⟩
theorem Sums1.ext {S : Nat → Prop} {w w' : World} {g n : Nat} {f : Nat → Int} (h : Sums1 w g n f) (e : Ext S w w') (hs : ¬ S g) : Sums1 w' g n f := by
  have hh := e.block g h.lt hs
  exact ⟨Nat.lt_of_lt_of_le h.lt e.size, fun o => (frozen_of_heap hh o).trans (h.soft o), fun p hp => (cell_of_heap hh _).trans (h.cell p hp)⟩
theorem Sums1.later {w w' : World} {g n : Nat} {f : Nat → Int} (h : Sums1 w g n f) (hb : Below w.heap.size w w') : Sums1 w' g n f := h.ext (ext_of_below hb nowhere) fun h => h
theorem Sums1.drew {w : World} {g n : Nat} {f : Nat → Int} (h : Sums1 w g n f) : Sums1 w.drew g n f := ⟨h.lt, h.soft, h.cell⟩

theorem frozen_set (w : World) (a : Addr) (v : Value) (p : Addr) : (w.setCell a v).frozen? p = w.frozen? p := by simp [go_sem]
theorem Sums1.set {w : World} {g n : Nat} {f : Nat → Int} (h : Sums1 w g n f) (p : Nat) (hp : p < n) (x : Int) : Sums1 (w.setCell ⟨g, p, none⟩ (.int .i64 x)) g n (upd1 f p x) := by
  refine ⟨by simpa using h.lt, fun o => (frozen_set _ _ _ _).trans (h.soft o), fun q hq => ?_⟩
  unfold upd1
  by_cases e : q = p
  · subst e
    rw [if_pos rfl]
    exact World.cell?_setCell_same _ _ _ (h.cell q hq)
  · rw [if_neg e]
    have : (w.setCell ⟨g, p, none⟩ (.int .i64 x)).cell? ⟨g, q, none⟩ = w.cell? ⟨g, q, none⟩ := by apply World.cell?_setCell_other; simp
    rw [this]
    exact h.cell q hq
theorem cell_set_same {w : World} {a : Addr} {u v : Value} (h : w.cell? a = some u) : (w.setCell a v).cell? a = some v := World.cell?_setCell_same _ _ _ h
theorem cell_set_off {w : World} {g o o' : Nat} {v : Value} (h : o' ≠ o) : (w.setCell ⟨g, o, none⟩ v).cell? ⟨g, o', none⟩ = w.cell? ⟨g, o', none⟩ := by apply World.cell?_setCell_other; simp
theorem Sums3.set {w : World} {g n : Nat} {f : Nat → Nat → Int} (h : Sums3 w g n f) (p : Nat) (hp : p < n) (x y z : Int) :
    Sums3 (((w.setCell ⟨g, p * 3, none⟩ (.int .i64 x)).setCell ⟨g, p * 3 + 1, none⟩ (.int .i64 y)).setCell ⟨g, p * 3 + 2, none⟩ (.int .i64 z)) g n (upd3 f p x y z) := by
  refine ⟨by simpa using h.lt, fun o => ((frozen_set _ _ _ _).trans ((frozen_set _ _ _ _).trans (frozen_set _ _ _ _))).trans (h.soft o), fun q hq j hj => ?_⟩
  unfold upd3
  by_cases e : q = p
  · subst e
    rw [if_pos rfl]
    have c0 := h.cell q hq 0 (by omega)
    have c1 := h.cell q hq 1 (by omega)
    have c2 := h.cell q hq 2 (by omega)
    match j, hj with
    | 0, _ =>
      rw [if_pos rfl, Nat.add_zero, cell_set_off (by omega), cell_set_off (by omega)]
      exact cell_set_same c0
    | 1, _ =>
      rw [if_neg (by omega), if_pos rfl, cell_set_off (by omega)]
      exact cell_set_same ((cell_set_off (by omega)).trans c1)
    | 2, _ =>
      rw [if_neg (by omega), if_neg (by omega)]
      exact cell_set_same ((cell_set_off (by omega)).trans ((cell_set_off (by omega)).trans c2))
  · rw [if_neg e, cell_set_off (by omega), cell_set_off (by omega), cell_set_off (by omega)]
    exact h.cell q hq j hj
theorem Sums3.of_row {w : World} {base T g n cap : Nat} (h : w.ownsRow base T 3 (.slice (some ⟨g, 0, none⟩) n cap) n (List.replicate (n * 3) (.int .i64 0))) : Sums3 w g n (fun _ _ => 0) := by
  refine ⟨(h.lt g rfl).2, fun o => h.frozenAt o, fun p hp j hj => ?_⟩
  have hm : p * 3 + j < n * 3 := by omega
  rw [h.cellAt (p * 3 + j) (by omega)]
  rw [List.getElem?_replicate, if_pos hm]
theorem Sums1.of_row {w : World} {base T g n cap : Nat} (h : w.ownsRow base T 1 (.slice (some ⟨g, 0, none⟩) n cap) n (List.replicate n (.int .i64 0))) : Sums1 w g n (fun _ => 0) := by
  refine ⟨(h.lt g rfl).2, fun o => h.frozenAt o, fun p hp => ?_⟩
  rw [h.cellAt p (by omega)]
  rw [List.getElem?_replicate, if_pos hp]

/-- The sums behind one item more. -/
def sumF (cs : List DCenter) (xs : List DItem) (k : Nat) : Nat → Nat → Int := fun p j => sumK cs xs p j k
def cntF (cs : List DCenter) (xs : List DItem) (k : Nat) : Nat → Int := fun p => cntK cs xs p k
theorem sumF_step (cs : List DCenter) (xs : List DItem) (k : Nat) (h : k < xs.length) (q j : Nat) (hj : j < 3) : sumF cs xs (k + 1) q j = upd3 (sumF cs xs k) (near cs xs[k].vec) (sumF cs xs k (near cs xs[k].vec) 0 + xs[k].vec.getD 0 0) (sumF cs xs k (near cs xs[k].vec) 1 + xs[k].vec.getD 1 0) (sumF cs xs k (near cs xs[k].vec) 2 + xs[k].vec.getD 2 0) q j := by
  unfold sumF upd3
  rw [sumK_step cs xs q j k h]
  by_cases e : near cs xs[k].vec = q
  · rw [if_pos e, if_pos e.symm, e]
    match j, hj with
    | 0, _ => rfl
    | 1, _ => rfl
    | 2, _ => rfl
  · rw [if_neg e, if_neg (fun h => e h.symm)]
theorem cntF_step (cs : List DCenter) (xs : List DItem) (k : Nat) (h : k < xs.length) (q : Nat) : cntF cs xs (k + 1) q = upd1 (cntF cs xs k) (near cs xs[k].vec) (cntF cs xs k (near cs xs[k].vec) + 1) q := by
  unfold cntF upd1
  rw [cntK_step cs xs q k h]
  by_cases e : near cs xs[k].vec = q
  · rw [if_pos e, if_pos e.symm, e]
  · rw [if_neg e, if_neg (fun h => e h.symm)]
theorem Sums3.same {w : World} {g n : Nat} {f f' : Nat → Nat → Int} (h : Sums3 w g n f) (e : ∀ q j, j < 3 → f' q j = f q j) : Sums3 w g n f' := ⟨h.lt, h.soft, fun p hp j hj => by rw [e p j hj]; exact h.cell p hp j hj⟩
theorem Sums1.same {w : World} {g n : Nat} {f f' : Nat → Int} (h : Sums1 w g n f) (e : ∀ q, f' q = f q) : Sums1 w g n f' := ⟨h.lt, h.soft, fun p hp => by rw [e p]; exact h.cell p hp⟩
theorem Sums1.sameLt {w : World} {g n : Nat} {f f' : Nat → Int} (h : Sums1 w g n f) (e : ∀ q, q < n → f' q = f q) : Sums1 w g n f' := ⟨h.lt, h.soft, fun p hp => by rw [e p hp]; exact h.cell p hp⟩

end Go.Proofs.Ytjofcmdlcoganaa

namespace Go.Proofs.Ytjofcmdlcoganaa
open Go.RowKit

theorem plusNum (x y : Int) (w : World) (h1 : -1000000 ≤ x + y) (h2 : x + y ≤ 1000000) :
    Calls Try.prog 78 #[.int .i64 x, .int .i64 y] w fun e w' => e = .returned (.int .i64 (x + y)) ∧ w' = w := by
  go_enter Try.func78, Try.ntmps78
  go_wp2_with fail
  go_ret
  exact ⟨rfl, rfl⟩

set_option maxRecDepth 10000 in
set_option maxHeartbeats 2000000 in
theorem plusVec (x y z a b c : Int) (w : World) (x1 : -1000000 ≤ x + a) (x2 : x + a ≤ 1000000) (y1 : -1000000 ≤ y + b) (y2 : y + b ≤ 1000000) (z1 : -1000000 ≤ z + c) (z2 : z + c ≤ 1000000) :
    Calls Try.prog 76 #[.agg #[.int .i64 x, .int .i64 y, .int .i64 z], .agg #[.int .i64 a, .int .i64 b, .int .i64 c]] w fun e w' => e = .returned (.agg #[.int .i64 (x + a), .int .i64 (y + b), .int .i64 (z + c)]) ∧ Below w.heap.size w w' := by
  go_enter Try.func76, Try.ntmps76
  go_wp2_with fail
  refine wp_loop_rounds 4 ?_
  rw [rounds_succ]
  go_wp2
  go_region
  go_wp2
  rw [rounds_succ]
  go_wp2
  go_region
  go_wp2
  rw [rounds_succ]
  go_wp2
  go_region
  go_wp2
  rw [rounds_succ]
  go_wp2
  refine bodyPost_ret (v := .agg #[.int .i64 (x + a), .int .i64 (y + b), .int .i64 (z + c)]) (by simp [results, Try.results76, go_sem]) rfl ⟨rfl, ?_⟩
  repeat first
    | exact Below.refl _ _
    | refine Below.drew ?_
    | refine Below.setCell ?_ (by simp <;> omega) _
    | refine Below.setCell ?_ (by simp) _
    | refine Below.alloc ?_ (by simp <;> omega) _
    | refine Below.alloc ?_ (by simp) _
    | refine below_drawn ?_ _

end Go.Proofs.Ytjofcmdlcoganaa

namespace Go.Proofs.Ytjofcmdlcoganaa
open Go.RowKit

theorem Ext.drewX {S : Nat → Prop} {a b : World} (h : Ext S a b) : Ext S a b.drew := ⟨h.os, h.tape, h.output, h.size, h.block⟩
theorem Ext.allocX {S : Nat → Prop} {a b : World} (h : Ext S a b) (o : Obj) : Ext S a (b.alloc o) := h.trans (ext_of_below ((Below.refl _ _).alloc (Nat.le_refl _) o) S)

end Go.Proofs.Ytjofcmdlcoganaa
