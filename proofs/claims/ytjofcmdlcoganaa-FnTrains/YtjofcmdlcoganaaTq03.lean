/-
  Texts of this proof in one: SpecSet, SpecSet2, Draw1, DrawKeep, Source, Draw2, Draw3, DrawItems, DrawTab, DrawTrainB.
  Their conditions stand in their theorems.
-/
import Derived.Test.YtjofcmdlcoganaaTq02
import Derived.Test.YtjofcmdlcoganaaChecked
import Derived.Test.YtjofcmdlcoganaaTq01
import Derived.BigQuiet
import Derived.Deep.QuietTactic
import Derived.Deep.AppendLies
import Derived.WalkKit

namespace Go.Proofs.Ytjofcmdlcoganaa
open Go.RowKit

theorem take_fold (nw : DItem) (st : List DItem × Bool) (xs : List DItem) (k : Nat) (h : k < xs.length) : (xs.take (k + 1)).foldl (setStep nw) st = setStep nw ((xs.take k).foldl (setStep nw) st) xs[k] := by
  rw [List.take_succ_eq_append_getElem h, List.foldl_append]
  rfl

set_option maxRecDepth 100000 in
set_option maxHeartbeats 4000000 in
theorem specSet_pos (b off cap : Nat) (xs : List DItem) (nw : DItem) (a2 : Option Addr) (d2 : Nat) (has : Bool) (w : World) (h : (Lay.sl Lay.tItem).Reads w [.slice (some ⟨b, off, none⟩) xs.length cap] xs) (hv : (Lay.sl Lay.int).Reads w [.slice a2 nw.vec.length d2] nw.vec) (hw : (Lit.int .i64 nw.id).wf = true)
    (hbl : b < w.heap.size) (hn : xs.length ≤ 1000000) (hx : ∀ x ∈ xs, x.vec.length ≤ 100000000) (hx2 : nw.vec.length ≤ 100000000) :
    Calls Try.prog 91 #[.slice (some ⟨b, off, none⟩) xs.length cap, .int .i64 nw.id, .slice a2 nw.vec.length d2, .bool has] w fun e w' => ∃ v', e = .returned v' ∧ (∃ rows bls, Grow Lay.tItem w' w.heap.size 41 v' rows (setM xs nw has) bls ∧ ∀ c ∈ bls.flatten, w.heap.size ≤ c) ∧ Below w.heap.size w w' := by
  obtain ⟨blN, hlN⟩ := hv
  have hN : Lay.tItem.lies w [.int .i64 nw.id, .slice a2 nw.vec.length d2] nw blN := lies_Item.2 ⟨a2, d2, blN, rfl, rfl, hw, hlN⟩
  have hNl : ∀ c ∈ blN, c < w.heap.size := Lay.tItem.lt hN
  have HN := hide hN
  have HNL := hide hNl
  have H := hide h
  have HX := hide hx
  clear h hx hlN hN hNl
  have G0 : Grow Lay.tItem (w.alloc (.cells #[] 41)) w.heap.size 41 (.slice (some ⟨w.heap.size, 0, none⟩) 0 0) [] [] [] := Grow.nil (World.ownsRow_lit w #[] 0 (Nat.le_refl _) (Nat.zero_le _) rfl)
  have HG := hide G0
  have HB0 := hide ((Below.refl w.heap.size w).alloc (Nat.le_refl _) (.cells #[] 41))
  clear G0
  go_enter Try.func91, Try.ntmps91
  go_wp2_with fail
  go_loopw [9, 10, 11] (fun v d i wr => ∃ (k : Nat) (rows : List (List Value)) (bls : List (List Nat)) (out : List DItem) (dn : Bool), k ≤ xs.length ∧ i = .int .i64 k ∧ d = .bool dn ∧ (xs.take k).foldl (setStep nw) ([], !has) = (out, dn) ∧ out.length ≤ 2 * k ∧ (∀ x ∈ out, x.vec.length ≤ 100000000) ∧ Grow Lay.tItem wr w.heap.size 41 v rows out bls ∧ Below w.heap.size w wr) (fun _ _ i _ => xs.length - (intOf i).toNat)
  case atStart => exact ⟨0, [], [], [], !has, Nat.zero_le _, rfl, rfl, rfl, by simp, by simp, unhide HG, unhide HB0⟩
  case round =>
    obtain ⟨k, rows, bls, out, dn, hk, rfl, rfl, hst, hol, hov, hG, hB⟩ := hrel
    clear HG HB0
    by_cases hlt : k < xs.length
    · obtain ⟨row, hc, hr⟩ := Lay.row_at (unhide H) hlt
      obtain ⟨blX, hlX⟩ := hr
      obtain ⟨a1, d1, bb, rfl, hbb, hwi, hlv⟩ := lies_Item.1 hlX
      have hXl : ∀ c ∈ blX, c < w.heap.size := Lay.tItem.lt hlX
      have c0 : wr.cell? ⟨b, off + k * 2, none⟩ = some (.int .i64 (xs[k]).id) := (hB.cell (p := ⟨b, off + k * 2, none⟩) hbl).trans (hc 0 (by decide))
      have c1 : wr.cell? ⟨b, off + k * 2 + 1, none⟩ = some (.slice a1 (xs[k]).vec.length d1) := (hB.cell (p := ⟨b, off + k * 2 + 1, none⟩) hbl).trans (hc 1 (by decide))
      have hbr : b < wr.heap.size := Nat.lt_of_lt_of_le hbl hB.size
      have HST : Hid ((xs.take (k + 1)).foldl (setStep nw) ([], !has) = setOld nw (setNew nw (out, dn) xs[k]) xs[k]) := by
        show (xs.take (k + 1)).foldl (setStep nw) ([], !has) = _
        rw [take_fold nw _ xs k hlt, hst]
        rfl
      have HXV := hide (unhide HX xs[k] (List.getElem_mem hlt))
      have HLX := hide (Lay.tItem.keep hlX fun c hc => hB.block c (hXl c hc))
      have HXL := hide hXl
      have HLN := hide (Lay.tItem.keep (unhide HN) fun c hc => hB.block c (unhide HNL c hc))
      clear hc hlX hbb hwi hlv hst
      generalize hx : xs[k] = x at *
      clear hx
      have HG := hide hG
      have HB := hide hB
      have HOV := hide hov
      clear hG hB hov
      have hnx : out.length + 3 ≤ 100000000 := by omega
      by_cases hA : dn = false ∧ nw.id ≤ x.id
      · obtain ⟨rfl, hle⟩ := hA
        have hd1 : decide (nw.id ≤ x.id) = true := by simpa using hle
        have e1 : setNew nw (out, false) x = (out ++ [nw], true) := by simp [setNew, hle]
        rw [e1] at HST
        have hG := unhide HG
        have hoff : ∀ c ∈ blN, u9.ownBlock ≠ some c := fun c hc e => by have h1 := unhide HNL c hc; have h2 := (hG.own.lt c e).1; omega
        have hLN := unhide HLN
        have HZ : Hid (w.heap.size ≤ wr.heap.size) := (unhide HB).size
        clear e1 hle HLN HG
        go_wp2_with (at_builtin; refine wpList_append_Item hG hLN hoff rfl _ _ rfl rfl rfl (by omega) (unhide HZ) ?_)
        rintro g5 cp5 w5 hG5 hb5 hE5 hl5 hz5 hor
        have d0 : w5.cell? ⟨b, off + k * 2, none⟩ = some (.int .i64 x.id) := (hb5.cell (p := ⟨b, off + k * 2, none⟩) hbl).trans c0
        have d1' : w5.cell? ⟨b, off + k * 2 + 1, none⟩ = some (.slice a1 x.vec.length d1) := (hb5.cell (p := ⟨b, off + k * 2 + 1, none⟩) hbl).trans c1
        have hbr5 : b < w5.heap.size := by omega
        have HLX5 := hide (Lay.tItem.keep (unhide HLX) fun c hc => hb5.block c (unhide HXL c hc))
        have HB5 := hide ((unhide HB).trans hb5)
        have HG5 := hide hG5
        clear hG hoff hLN hG5 hb5 hE5 hor HB HLX c0 c1 hd1 HZ hz5
        have HOV5 : Hid (∀ y ∈ out ++ [nw], y.vec.length ≤ 100000000) := by
          intro y hy
          rcases List.mem_append.1 hy with hy | hy
          · exact unhide HOV y hy
          · rw [List.mem_singleton.1 hy]; exact hx2
        by_cases he : x.id = nw.id
        · have hd2 : (x.id != nw.id) = false := by simpa using he
          have e2 : setOld nw (out ++ [nw], true) x = (out ++ [nw], true) := by rw [setOld, if_pos he]
          rw [e2] at HST
          clear he e2 HLX5
          go_wp2_with fail
          go_roundw
          case rel => exact ⟨k + 1, _, _, out ++ [nw], true, by omega, by go_num, rfl, unhide HST, by simp; omega, unhide HOV5, unhide HG5, unhide HB5⟩
          case measure => simp [intOf]; omega
        · have hd2 : (x.id != nw.id) = true := by simpa using he
          have e2 : setOld nw (out ++ [nw], true) x = (out ++ [nw] ++ [x], true) := by rw [setOld, if_neg he]
          rw [e2] at HST
          have hG := unhide HG5
          have hoff : ∀ c ∈ blX, (Value.slice (some ⟨g5, 0, none⟩) (out.length + 1) cp5).ownBlock ≠ some c := fun c hc e => by have h1 := unhide HXL c hc; have h2 := (hG.own.lt c e).1; omega
          have hLX := unhide HLX5
          have HZ : Hid (w.heap.size ≤ w5.heap.size) := (unhide HB5).size
          clear he e2 HLX5 HG5
          go_wp2_with (at_builtin; refine wpList_append_Item hG hLX hoff rfl _ _ rfl rfl rfl (by simp; omega) (unhide HZ) ?_)
          rintro g6 cp6 w6 hG6 hb6 hE6 hl6 hz6 hor6
          have HB6 := hide ((unhide HB5).trans hb6)
          have HG6 := hide hG6
          have HOV6 : Hid (∀ y ∈ out ++ [nw] ++ [x], y.vec.length ≤ 100000000) := by
            intro y hy
            rcases List.mem_append.1 hy with hy | hy
            · exact unhide HOV5 y hy
            · rw [List.mem_singleton.1 hy]; exact unhide HXV
          clear hG hoff hLX hG6 hb6 hE6 hor6 HB5 d0 d1' hd2 HZ hz6
          go_wp2_with fail
          go_roundw
          case rel =>
            have hg := unhide HG6
            have e3 : out ++ [nw] ++ [x] = out ++ [nw, x] := by simp
            have hs := unhide HST
            have ho := unhide HOV6
            rw [e3] at hs ho
            exact ⟨k + 1, _, _, out ++ [nw, x], true, by omega, by go_num, rfl, hs, by simp; omega, ho, hg, unhide HB6⟩
          case measure => simp [intOf]; omega
      · have e1 : setNew nw (out, dn) x = (out, dn) := by rw [setNew, if_neg hA]
        rw [e1] at HST
        have hcond : dn = true ∨ decide (nw.id ≤ x.id) = false := by
          cases dn with
          | true => exact Or.inl rfl
          | false => right; simpa using hA
        clear e1 hA
        by_cases he : x.id = nw.id
        · have hd2 : (x.id != nw.id) = false := by simpa using he
          have e2 : setOld nw (out, dn) x = (out, dn) := by rw [setOld, if_pos he]
          rw [e2] at HST
          clear he e2 HLX HLN
          rcases hcond with rfl | hd1
          · go_wp2_with fail
            go_roundw
            case rel => exact ⟨k + 1, _, _, out, true, by omega, by go_num, rfl, unhide HST, by omega, unhide HOV, unhide HG, unhide HB⟩
            case measure => simp [intOf]; omega
          · cases dn with
            | true =>
              go_wp2_with fail
              go_roundw
              case rel => exact ⟨k + 1, _, _, out, true, by omega, by go_num, rfl, unhide HST, by omega, unhide HOV, unhide HG, unhide HB⟩
              case measure => simp [intOf]; omega
            | false =>
              go_wp2_with fail
              go_roundw
              case rel => exact ⟨k + 1, _, _, out, false, by omega, by go_num, rfl, unhide HST, by omega, unhide HOV, unhide HG, unhide HB⟩
              case measure => simp [intOf]; omega
        · have hd2 : (x.id != nw.id) = true := by simpa using he
          have e2 : setOld nw (out, dn) x = (out ++ [x], dn) := by rw [setOld, if_neg he]
          rw [e2] at HST
          have hG := unhide HG
          have hoff : ∀ c ∈ blX, u9.ownBlock ≠ some c := fun c hc e => by have h1 := unhide HXL c hc; have h2 := (hG.own.lt c e).1; omega
          have hLX := unhide HLX
          have HZ : Hid (w.heap.size ≤ wr.heap.size) := (unhide HB).size
          have HOV6 : Hid (∀ y ∈ out ++ [x], y.vec.length ≤ 100000000) := by
            intro y hy
            rcases List.mem_append.1 hy with hy | hy
            · exact unhide HOV y hy
            · rw [List.mem_singleton.1 hy]; exact unhide HXV
          clear he e2 HLX HLN HG
          have hcd : (dn = true) ∨ (dn = false ∧ decide (nw.id ≤ x.id) = false) := by
            rcases hcond with h | h
            · exact Or.inl h
            · cases dn with
              | true => exact Or.inl rfl
              | false => exact Or.inr ⟨rfl, h⟩
          clear hcond
          rcases hcd with rfl | ⟨rfl, hd1⟩
          · go_wp2_with (at_builtin; refine wpList_append_Item hG hLX hoff rfl _ _ rfl rfl rfl (by omega) (unhide HZ) ?_)
            rintro g6 cp6 w6 hG6 hb6 hE6 hl6 hz6 hor6
            have HB6 := hide ((unhide HB).trans hb6)
            have HG6 := hide hG6
            clear hG hoff hLX hG6 hb6 hE6 hor6 HB c0 c1 hd2 HZ hz6
            go_wp2_with fail
            go_roundw
            case rel => exact ⟨k + 1, _, _, out ++ [x], true, by omega, by go_num, rfl, unhide HST, by simp; omega, unhide HOV6, unhide HG6, unhide HB6⟩
            case measure => simp [intOf]; omega
          · go_wp2_with (at_builtin; refine wpList_append_Item hG hLX hoff rfl _ _ rfl rfl rfl (by omega) (unhide HZ) ?_)
            rintro g6 cp6 w6 hG6 hb6 hE6 hl6 hz6 hor6
            have HB6 := hide ((unhide HB).trans hb6)
            have HG6 := hide hG6
            clear hG hoff hLX hG6 hb6 hE6 hor6 HB c0 c1 hd2 HZ hz6 hd1
            go_wp2_with fail
            go_roundw
            case rel => exact ⟨k + 1, _, _, out ++ [x], false, by omega, by go_num, rfl, unhide HST, by simp; omega, unhide HOV6, unhide HG6, unhide HB6⟩
            case measure => simp [intOf]; omega
    · obtain rfl : k = xs.length := by omega
      rw [List.take_length] at hst
      have HM : Hid (setM xs nw has = setFin nw (out, dn)) := by
        show setM xs nw has = _
        rw [setM, hst]
      have HG := hide hG
      have HB := hide hB
      have HOV := hide hov
      have HLN := hide (Lay.tItem.keep (unhide HN) fun c hc => hB.block c (unhide HNL c hc))
      clear hG hB hov hst H
      cases dn with
      | true =>
        have hR := (unhide HG).toReads (by omega)
        have L := specCopyG u9 out wr hR (by omega) (unhide HOV)
        have HL := hide L
        rw [setFin, if_pos rfl] at HM
        clear hR L HLN HG
        go_wp2_with fail
        refine (unhide HL).mono ?_
        rintro e w6 ⟨v6, rfl, hR6, hb6⟩
        have HB6 := hide ((unhide HB).trans (hb6.mono (unhide HB).size))
        obtain ⟨rows6, bls6, hG6, hs6⟩ := hR6
        have HR6 : Hid (∃ rows bls, Grow Lay.tItem w6 w.heap.size 41 v6 rows _ bls ∧ ∀ c ∈ bls.flatten, w.heap.size ≤ c) := ⟨rows6, bls6, hG6.lower (unhide HB).size, fun c hc => Nat.le_trans (unhide HB).size (hs6 c hc)⟩
        clear hb6 hG6 hs6
        go_wp2_with fail
        go_ret
        exact ⟨_, rfl, by rw [unhide HM]; exact unhide HR6, unhide HB6⟩
      | false =>
        have hG := unhide HG
        have hoff : ∀ c ∈ blN, u9.ownBlock ≠ some c := fun c hc e => by have h1 := unhide HNL c hc; have h2 := (hG.own.lt c e).1; omega
        have hLN := unhide HLN
        have HZ : Hid (w.heap.size ≤ wr.heap.size) := (unhide HB).size
        rw [setFin, if_neg (by simp)] at HM
        clear HLN HG
        go_wp2_with (at_builtin; refine wpList_append_Item hG hLN hoff rfl _ _ rfl rfl rfl (by omega) (unhide HZ) ?_)
        rintro g5 cp5 w5 hG5 hb5 hE5 hl5 hz5 hor
        have HOV5 : Hid (∀ y ∈ out ++ [nw], y.vec.length ≤ 100000000) := by
          intro y hy
          rcases List.mem_append.1 hy with hy | hy
          · exact unhide HOV y hy
          · rw [List.mem_singleton.1 hy]; exact hx2
        have hR := hG5.toReads (by simp; omega)
        have HL := hide (specCopyG _ (out ++ [nw]) w5 hR (by simp; omega) (unhide HOV5))
        have HB5 := hide ((unhide HB).trans hb5)
        clear hG hoff hLN hG5 hb5 hE5 hor HB HZ hR hz5
        go_wp2_with fail
        refine (unhide HL).mono ?_
        rintro e w6 ⟨v6, rfl, hR6, hb6⟩
        have HB6 := hide ((unhide HB5).trans (hb6.mono (unhide HB5).size))
        obtain ⟨rows6, bls6, hG6, hs6⟩ := hR6
        have HR6 : Hid (∃ rows bls, Grow Lay.tItem w6 w.heap.size 41 v6 rows _ bls ∧ ∀ c ∈ bls.flatten, w.heap.size ≤ c) := ⟨rows6, bls6, hG6.lower (unhide HB5).size, fun c hc => Nat.le_trans (unhide HB5).size (hs6 c hc)⟩
        clear hb6 hG6 hs6
        go_wp2_with fail
        go_ret
        exact ⟨_, rfl, by rw [unhide HM]; exact unhide HR6, unhide HB6⟩

end Go.Proofs.Ytjofcmdlcoganaa

namespace Go.Proofs.Ytjofcmdlcoganaa
open Go.RowKit

set_option maxRecDepth 100000 in
set_option maxHeartbeats 1000000 in
theorem specSet_zero (ao : Option Addr) (cap : Nat) (nw : DItem) (a2 : Option Addr) (d2 : Nat) (has : Bool) (w : World) (hv : (Lay.sl Lay.int).Reads w [.slice a2 nw.vec.length d2] nw.vec) (hw : (Lit.int .i64 nw.id).wf = true) (hx2 : nw.vec.length ≤ 100000000) :
    Calls Try.prog 91 #[.slice ao 0 cap, .int .i64 nw.id, .slice a2 nw.vec.length d2, .bool has] w fun e w' => ∃ v', e = .returned v' ∧ (∃ rows bls, Grow Lay.tItem w' w.heap.size 41 v' rows (setM [] nw has) bls ∧ ∀ c ∈ bls.flatten, w.heap.size ≤ c) ∧ Below w.heap.size w w' := by
  obtain ⟨blN, hlN⟩ := hv
  have hN : Lay.tItem.lies w [.int .i64 nw.id, .slice a2 nw.vec.length d2] nw blN := lies_Item.2 ⟨a2, d2, blN, rfl, rfl, hw, hlN⟩
  have hNl : ∀ c ∈ blN, c < w.heap.size := Lay.tItem.lt hN
  have nb : Below w.heap.size w (w.alloc (.cells #[] 41)) := (Below.refl w.heap.size w).alloc (Nat.le_refl _) (.cells #[] 41)
  have G0 : Grow Lay.tItem (w.alloc (.cells #[] 41)) w.heap.size 41 (.slice (some ⟨w.heap.size, 0, none⟩) 0 0) [] [] [] := Grow.nil (World.ownsRow_lit w #[] 0 (Nat.le_refl _) (Nat.zero_le _) rfl)
  have hLN := Lay.tItem.keep hN fun c hc => nb.block c (hNl c hc)
  have hoff : ∀ c ∈ blN, (Value.slice (some ⟨w.heap.size, 0, none⟩) 0 0).ownBlock ≠ some c := fun c hc e => by have h1 := hNl c hc; simp [Value.ownBlock] at e; omega
  have HZ : Hid (w.heap.size ≤ (w.alloc (.cells #[] 41)).heap.size) := nb.size
  have HB0 := hide nb
  cases has with
  | false =>
    have HL := hide (specCopyG _ [] _ (G0.toReads (by simp)) (by simp) (by simp))
    clear G0 hLN hoff hN hNl hlN nb
    go_enter Try.func91, Try.ntmps91
    go_wp2_with fail
    refine wp_loop_rounds 1 ?_
    rw [rounds_succ]
    go_wp2_with fail
    refine (unhide HL).mono ?_
    rintro e w6 ⟨v6, rfl, hR6, hb6⟩
    have HB6 := hide ((unhide HB0).trans (hb6.mono (unhide HB0).size))
    obtain ⟨rows6, bls6, hG6, hs6⟩ := hR6
    have HR6 : Hid (∃ rows bls, Grow Lay.tItem w6 w.heap.size 41 v6 rows _ bls ∧ ∀ c ∈ bls.flatten, w.heap.size ≤ c) := ⟨rows6, bls6, hG6.lower (unhide HB0).size, fun c hc => Nat.le_trans (unhide HB0).size (hs6 c hc)⟩
    clear hb6 hG6 hs6
    go_wp2_with fail
    go_ret
    exact ⟨_, rfl, unhide HR6, unhide HB6⟩
  | true =>
    clear hN hNl hlN nb
    go_enter Try.func91, Try.ntmps91
    go_wp2_with fail
    refine wp_loop_rounds 1 ?_
    rw [rounds_succ]
    generalize hW : w.alloc (.cells #[] 41) = W1 at *
    have hsz : w.heap.size < W1.heap.size := by rw [← hW]; simp
    clear hW
    go_wp2_with (at_builtin; refine wpList_append_Item G0 hLN hoff rfl _ _ rfl rfl rfl (by simp) (unhide HZ) ?_)
    rintro g5 cp5 w5 hG5 hb5 hE5 hl5 hz5 hor
    have hR := hG5.toReads (by simp)
    have HL := hide (specCopyG _ ([] ++ [nw]) w5 hR (by simp) (by intro y hy; rw [List.mem_singleton.1 hy]; exact hx2))
    have HB5 := hide ((unhide HB0).trans hb5)
    clear G0 hoff hLN hG5 hb5 hE5 hor HZ hR hz5
    go_wp2_with fail
    refine (unhide HL).mono ?_
    rintro e w6 ⟨v6, rfl, hR6, hb6⟩
    have HB6 := hide ((unhide HB5).trans (hb6.mono (unhide HB5).size))
    obtain ⟨rows6, bls6, hG6, hs6⟩ := hR6
    have HR6 : Hid (∃ rows bls, Grow Lay.tItem w6 w.heap.size 41 v6 rows _ bls ∧ ∀ c ∈ bls.flatten, w.heap.size ≤ c) := ⟨rows6, bls6, hG6.lower (unhide HB5).size, fun c hc => Nat.le_trans (unhide HB5).size (hs6 c hc)⟩
    clear hb6 hG6 hs6
    go_wp2_with fail
    go_ret
    exact ⟨_, rfl, unhide HR6, unhide HB6⟩

theorem specSetG (v : Value) (xs : List DItem) (id : Int) (vec : List Int) (vv : Value) (has : Bool) (w : World) (h : (Lay.sl Lay.tItem).Reads w [v] xs) (hv : (Lay.sl Lay.int).Reads w [vv] vec) (hw : (Lit.int .i64 id).wf = true)
    (hn : xs.length ≤ 1000000) (hx : ∀ x ∈ xs, x.vec.length ≤ 100000000) (hx2 : vec.length ≤ 100000000) :
    Calls Try.prog 91 #[v, .int .i64 id, vv, .bool has] w fun e w' => ∃ v', e = .returned v' ∧ (∃ rows bls, Grow Lay.tItem w' w.heap.size 41 v' rows (setM xs ⟨id, vec⟩ has) bls ∧ ∀ c ∈ bls.flatten, w.heap.size ≤ c) ∧ Below w.heap.size w w' := by
  obtain ⟨ao, cap, rfl⟩ := open_sl h
  obtain ⟨ao2, cap2, rfl⟩ := open_sl hv
  by_cases hp : 0 < xs.length
  · obtain ⟨b, off, rfl, hbl⟩ := Lay.sl_addr h hp
    exact specSet_pos b off cap xs ⟨id, vec⟩ ao2 cap2 has w h hv hw hbl hn hx hx2
  · obtain rfl : xs = [] := List.eq_nil_of_length_eq_zero (by omega)
    exact specSet_zero ao cap ⟨id, vec⟩ ao2 cap2 has w hv hw hx2

/-- l4Set of the model. -/
theorem specSet (v : Value) (xs : List DItem) (id : Int) (vec : List Int) (vv : Value) (has : Bool) (w : World) (h : (Lay.sl Lay.tItem).Reads w [v] xs) (hv : (Lay.sl Lay.int).Reads w [vv] vec) (hw : (Lit.int .i64 id).wf = true)
    (hn : xs.length ≤ 1000000) (hx : ∀ x ∈ xs, x.vec.length ≤ 100000000) (hx2 : vec.length ≤ 100000000) :
    Calls Try.prog 91 #[v, .int .i64 id, vv, .bool has] w fun e w' => ∃ v', e = .returned v' ∧ (Lay.sl Lay.tItem).LiesIn w' [v'] (setM xs ⟨id, vec⟩ has) w.heap.size w'.heap.size ∧ Below w.heap.size w w' := by
  refine (specSetG v xs id vec vv has w h hv hw hn hx hx2).mono ?_
  rintro e w' ⟨v', rfl, ⟨rows, bls, hG, hs⟩, hb⟩
  have hl := setM_size xs ⟨id, vec⟩ has
  exact ⟨v', rfl, hG.toLies (by omega) hs, hb⟩

end Go.Proofs.Ytjofcmdlcoganaa

namespace Go.Proofs.Ytjofcmdlcoganaa
open Go.RowKit

/-- The slice of bytes cv lies below block B. -/
def IsCode (B : Nat) (w : World) (cv : Value) : Prop :=
  ∃ ao len cap, cv = .slice ao len cap ∧ len ≤ 1048576 ∧
    (0 < len → ∃ b off, ao = some ⟨b, off, none⟩ ∧ b < B ∧ ∀ j, j < len → ∃ z : Int, w.cell? ⟨b, off + j, none⟩ = some (.int .u8 z) ∧ 0 ≤ z ∧ z ≤ 255)

theorem IsCode.later {B : Nat} {w w' : World} {cv : Value} (h : IsCode B w cv) (hb : Below B w w') : IsCode B w' cv := by
  obtain ⟨ao, len, cap, rfl, hl, hc⟩ := h
  refine ⟨ao, len, cap, rfl, hl, fun hp => ?_⟩
  obtain ⟨b, off, hao, hB, hc1⟩ := hc hp
  refine ⟨b, off, hao, hB, fun j hj => ?_⟩
  obtain ⟨z, h1, h2⟩ := hc1 j hj
  exact ⟨z, (hb.cell (p := ⟨b, off + j, none⟩) hB).trans h1, h2⟩

/-- The source in block b: its code, and how many numbers have been drawn. -/
def SrcAt (w : World) (b : Nat) (cv : Value) (m : Nat) : Prop := w.heap[b]? = some (.cells #[cv, .int .i64 m] 92 (0, 0))

theorem SrcAt.c0 {w : World} {b m : Nat} {cv : Value} (h : SrcAt w b cv m) : w.cell? ⟨b, 0, none⟩ = some cv := by simp [World.cell?, show w.heap[b]? = _ from h]
theorem SrcAt.c1 {w : World} {b m : Nat} {cv : Value} (h : SrcAt w b cv m) : w.cell? ⟨b, 1, none⟩ = some (.int .i64 m) := by simp [World.cell?, show w.heap[b]? = _ from h]
theorem SrcAt.fz {w : World} {b m : Nat} {cv : Value} (h : SrcAt w b cv m) (o : Nat) : w.frozen? ⟨b, o, none⟩ = false := by simp [World.frozen?, show w.heap[b]? = _ from h]
theorem SrcAt.lt {w : World} {b m : Nat} {cv : Value} (h : SrcAt w b cv m) : b < w.heap.size := lt_of_block h
theorem SrcAt.set {w : World} {b m : Nat} {cv : Value} (h : SrcAt w b cv m) : SrcAt (w.setCell ⟨b, 1, none⟩ (.int .i64 ((m : Int) + 1))) b cv (m + 1) :=
  heap_setCell_same w b 1 #[cv, .int .i64 m] 92 (.int .i64 ((m : Int) + 1)) h
theorem grown_set (w : World) (b o : Nat) (u : Value) : w.grownBy (w.setCell ⟨b, o, none⟩ u) (some b) :=
  ⟨rfl, rfl, rfl, by simp, fun k _ hk => heap_setCell_other w ⟨b, o, none⟩ k u (fun e => hk (by simp [e]))⟩
theorem grown_drawn {a w : World} {r : Option Nat} (h : a.grownBy w r) (n : Nat) : a.grownBy (w.drewN n) r := ⟨h.os, h.tape, h.output, h.size, h.block⟩

theorem below_of_grown {w w' : World} {b : Nat} (h : w.grownBy w' (some b)) (hb : b ≤ w.heap.size) : Below b w w' :=
  (Below.refl b w).grown h hb (fun k hk => by simp at hk; omega)

set_option maxHeartbeats 400000 in
theorem next_low (b m : Nat) (cv : Value) (n : Int) (w : World) (hs : SrcAt w b cv m) (hm : m ≤ 1000000000) (hn : n < 1) :
    Calls Try.prog 44 #[.pointer (some ⟨b, 0, none⟩), .int .i64 n] w fun e w' => e = .returned (.int .i64 0) ∧ SrcAt w' b cv (m + 1) ∧ w.grownBy w' (some b) := by
  have c1 := hs.c1
  have fz := hs.fz
  have HS := hide hs.set
  clear hs
  go_enter Try.func44, Try.ntmps44
  go_wp2
  go_ret
  exact ⟨rfl, unhide HS, grown_set _ _ _ _⟩

set_option maxHeartbeats 400000 in
theorem next_empty (b m : Nat) (ao : Option Addr) (cap : Nat) (n : Int) (w : World) (hs : SrcAt w b (.slice ao 0 cap) m) (hm : m ≤ 1000000000) (hn : 1 ≤ n) :
    Calls Try.prog 44 #[.pointer (some ⟨b, 0, none⟩), .int .i64 n] w fun e w' => ∃ r : Int, e = .returned (.int .i64 r) ∧ (0 ≤ r ∧ r < n) ∧ SrcAt w' b (.slice ao 0 cap) (m + 1) ∧ w.grownBy w' (some b) := by
  have c0 := hs.c0
  have c1 := hs.c1
  have fz := hs.fz
  have HS := hide hs.set
  clear hs
  have hd : (n == 0) = false := by rw [beq_eq_false_iff_ne]; omega
  go_enter Try.func44, Try.ntmps44
  go_wp2
  go_ret
  exact ⟨_, rfl, ⟨Int.emod_nonneg _ (by omega), Int.emod_lt_of_pos _ (by omega)⟩, unhide HS, grown_set _ _ _ _⟩

theorem quot_bd (m k : Nat) (hm : m ≤ 1000000000) : 0 ≤ (m : Int) / (k : Int) ∧ (m : Int) / (k : Int) ≤ 1000000000 := by
  refine ⟨Int.ediv_nonneg (by omega) (by omega), ?_⟩
  have := Int.ediv_le_self (a := (m : Int)) (k : Int) (by omega)
  omega

set_option maxHeartbeats 1000000 in
theorem next_some (b m cb off k cap : Nat) (n : Int) (w : World) (hs : SrcAt w b (.slice (some ⟨cb, off, none⟩) k cap) m) (hm : m ≤ 1000000000) (hn : 1 ≤ n) (hn2 : n ≤ 200) (hk : 0 < k) (hk2 : k ≤ 1048576) (hcb : cb < b)
    (hc : ∀ j, j < k → ∃ z : Int, w.cell? ⟨cb, off + j, none⟩ = some (.int .u8 z) ∧ 0 ≤ z ∧ z ≤ 255) :
    Calls Try.prog 44 #[.pointer (some ⟨b, 0, none⟩), .int .i64 n] w fun e w' => ∃ r : Int, e = .returned (.int .i64 r) ∧ (0 ≤ r ∧ r < n) ∧ SrcAt w' b (.slice (some ⟨cb, off, none⟩) k cap) (m + 1) ∧ w.grownBy w' (some b) := by
  have c0 := hs.c0
  have c1 := hs.c1
  have fz := hs.fz
  have HS := hide hs.set
  clear hs
  obtain ⟨z, hz, z1, z2⟩ := hc (m % k) (Nat.mod_lt _ hk)
  obtain ⟨q1, q2⟩ := quot_bd m k hm
  have hd : (n == 0) = false := by rw [beq_eq_false_iff_ne]; omega
  have hd2 : ((k : Int) == 0) = false := by rw [beq_eq_false_iff_ne]; omega
  have hne : ¬ cb = b := by omega
  have hne2 : ¬ b = cb := by omega
  have r1 : 0 ≤ (m : Int) % (k : Int) := Int.emod_nonneg _ (by omega)
  have r2 : (m : Int) % (k : Int) < (k : Int) := Int.emod_lt_of_pos _ (by omega)
  clear hc
  go_enter Try.func44, Try.ntmps44
  go_wp2
  go_quiet (fail)
  go_wp2
  go_ret
  exact ⟨_, rfl, ⟨Int.emod_nonneg _ (by omega), Int.emod_lt_of_pos _ (by omega)⟩, unhide HS, grown_drawn (grown_set _ _ _ _) _⟩

/-- l1Next: a number below n. -/
theorem next (b m : Nat) (cv : Value) (n : Int) (w : World) (hs : SrcAt w b cv m) (hc : IsCode b w cv) (hm : m ≤ 1000000000) (hn : 1 ≤ n) (hn2 : n ≤ 200) :
    Calls Try.prog 44 #[.pointer (some ⟨b, 0, none⟩), .int .i64 n] w fun e w' => ∃ r : Nat, e = .returned (.int .i64 r) ∧ (r : Int) < n ∧ SrcAt w' b cv (m + 1) ∧ IsCode b w' cv ∧ w.grownBy w' (some b) := by
  have fin : ∀ (e : Ending) (w' : World), (∃ r : Int, e = .returned (.int .i64 r) ∧ (0 ≤ r ∧ r < n) ∧ SrcAt w' b cv (m + 1) ∧ w.grownBy w' (some b)) → ∃ r : Nat, e = .returned (.int .i64 r) ∧ (r : Int) < n ∧ SrcAt w' b cv (m + 1) ∧ IsCode b w' cv ∧ w.grownBy w' (some b) := by
    rintro e w' ⟨r, rfl, ⟨h1, h2⟩, h3, h4⟩
    obtain ⟨j, rfl⟩ := Int.eq_ofNat_of_zero_le h1
    exact ⟨j, rfl, h2, h3, hc.later (below_of_grown h4 (Nat.le_of_lt hs.lt)), h4⟩
  obtain ⟨ao, len, cap, rfl, hl, hc1⟩ := hc
  by_cases hp : 0 < len
  · obtain ⟨cb, off, rfl, hB, hc2⟩ := hc1 hp
    exact (next_some b m cb off len cap n w hs hm hn hn2 hp hl hB hc2).mono fin
  · obtain rfl : len = 0 := by omega
    exact (next_empty b m ao cap n w hs hm hn).mono fin

set_option maxHeartbeats 400000 in
/-- l1Pick: one of the list. -/
theorem pick (b m g : Nat) (cv : Value) (zs : List Int) (w : World) (hs : SrcAt w b cv m) (hc : IsCode b w cv) (hm : m ≤ 1000000000) (hl : 1 ≤ zs.length) (hl2 : zs.length ≤ 200) (hg : w.heap[g]? = some (.cells (zs.map (Value.int .i64)).toArray 2 (0, 0))) (hne : g ≠ b) :
    Calls Try.prog 45 #[.pointer (some ⟨b, 0, none⟩), .slice (some ⟨g, 0, none⟩) zs.length zs.length] w fun e w' => ∃ r : Int, e = .returned (.int .i64 r) ∧ r ∈ zs ∧ SrcAt w' b cv (m + 1) ∧ IsCode b w' cv ∧ w.grownBy w' (some b) := by
  go_enter Try.func45, Try.ntmps45
  go_wp2_with fail
  refine (next b m cv zs.length w hs hc hm (by omega) (by omega)).mono ?_
  rintro e w1 ⟨r, rfl, hr, hs1, hc1, hgr⟩
  have hr' : r < zs.length := by omega
  have hcell : w1.cell? ⟨g, r, none⟩ = some (.int .i64 (zs.getD r 0)) := by
    have h1 : w1.heap[g]? = w.heap[g]? := hgr.block g (lt_of_block hg) (by simpa using hne)
    rw [cell_of_row w1 g r _ _ _ (h1.trans hg)]
    simp [List.getD, hr']
  have HS := hide hs1
  have HC := hide hc1
  have HG := hide hgr
  have HR : Hid (zs.getD r 0 ∈ zs) := by
    have e : zs.getD r 0 = zs[r] := by simp [List.getD, hr']
    show zs.getD r 0 ∈ zs
    rw [e]
    exact List.getElem_mem hr'
  generalize zs.getD r 0 = x at *
  clear hs hc hs1 hc1 hgr hg
  go_wp2
  go_ret
  exact ⟨x, rfl, unhide HR, unhide HS, unhide HC, unhide HG⟩

end Go.Proofs.Ytjofcmdlcoganaa

namespace Go.Proofs.Ytjofcmdlcoganaa
open Go.RowKit

/-- Growth behind growth: what else is written is new. -/
theorem grown_new {a b c : World} {s r : Option Nat} (h : a.grownBy b s) (k : b.grownBy c r) (hr : ∀ j, r = some j → a.heap.size ≤ j) : a.grownBy c s :=
  ⟨k.os.trans h.os, k.tape.trans h.tape, k.output.trans h.output, Nat.le_trans h.size k.size, fun i hi hs => (k.block i (Nat.lt_of_lt_of_le hi h.size) (fun e => by have := hr i e.symm; omega)).trans (h.block i hi hs)⟩

theorem SrcAt.keep {w w' : World} {b m : Nat} {cv : Value} {r : Option Nat} (h : SrcAt w b cv m) (hg : w.grownBy w' r) (hr : some b ≠ r) : SrcAt w' b cv m := (hg.block b h.lt hr).trans h
theorem SrcAt.alloc {w : World} {b m : Nat} {cv : Value} (h : SrcAt w b cv m) (o : Obj) : SrcAt (w.alloc o) b cv m := (Below.heap_alloc w o b h.lt).trans h
theorem IsCode.alloc {w : World} {b : Nat} {cv : Value} (h : IsCode b w cv) (hb : b ≤ w.heap.size) (o : Obj) : IsCode b (w.alloc o) cv := h.later ((Below.refl _ _).alloc hb o)

theorem own_ne {W : World} {b0 b T sz : Nat} {u : Value} {n : Nat} {xs : List Value} (h : W.ownsRow b0 T sz u n xs) (hb : b < b0) : u.ownBlock ≠ some b := fun e => by have := (h.lt b e).1; omega

end Go.Proofs.Ytjofcmdlcoganaa

namespace Go.Proofs.Ytjofcmdlcoganaa
open Go.RowKit

theorem source (ao : Option Addr) (len cap : Nat) (w : World) :
    Calls Try.prog 42 #[.slice ao len cap] w fun e w' => e = .returned (.pointer (some ⟨w.heap.size, 0, none⟩)) ∧ w.alloc (.cells #[.slice ao len cap, .int .i64 0] 92) = w' := by
  go_enter Try.func42, Try.ntmps42
  go_wp2
  go_ret
  exact ⟨rfl, rfl⟩

theorem src_new (w : World) (cv : Value) : SrcAt (w.alloc (.cells #[cv, .int .i64 0] 92)) w.heap.size cv 0 := heap_alloc_new w _

/-- What a row's reading tells of a slice of bytes that came in. -/
theorem isCode_of_row {w : World} {a : Option Addr} {len cap : Nat} {zs : List Int} (h : (a = none ∧ len = 0 ∧ cap = 0 ∧ zs = []) ∨
    ∃ x, a = some x ∧ len ≤ cap ∧ cap ≤ maxLen ∧ zs.length = cap ∧ (∀ i, i < zs.length → w.cell? (x.add i) = some (.int .u8 (zs.getD i 0))) ∧ ∀ n ∈ zs, (Lit.int .u8 n).wf = true) (hn : len ≤ 1048576) :
    IsCode w.heap.size w (.slice a len cap) := by
  refine ⟨a, len, cap, rfl, hn, fun hp => ?_⟩
  rcases h with ⟨rfl, rfl, rfl, rfl⟩ | ⟨x, rfl, hl, hm, hz, hcell, hwz⟩
  · omega
  · obtain ⟨b, off, spot⟩ := x
    have hc := hcell 0 (by omega)
    have hspot : spot = none := by simpa [Addr.add] using World.cell?_spot hc
    subst hspot
    refine ⟨b, off, rfl, by simpa [Addr.add] using World.block_lt_of_cell? _ _ hc, fun j hj => ⟨zs.getD j 0, ?_, ?_⟩⟩
    · have h1 := hcell j (by omega)
      rwa [Addr.add_lit] at h1
    · have h1 := hwz (zs.getD j 0) (by simp [List.getD, show j < zs.length by omega])
      simpa [Lit.wf, IntKind.min, IntKind.max, IntKind.signed, IntKind.bits] using h1

end Go.Proofs.Ytjofcmdlcoganaa

namespace Go.Proofs.Ytjofcmdlcoganaa
open Go.RowKit

def inRange (ds : List Int) : Prop := ∀ d ∈ ds, -1000 ≤ d ∧ d ≤ 1000

set_option maxHeartbeats 1000000 in
theorem draw (b m : Nat) (cv : Value) (w : World) (hs : SrcAt w b cv m) (hc : IsCode b w cv) (hm : m ≤ 100000000) :
    Calls Try.prog 92 #[.pointer (some ⟨b, 0, none⟩)] w fun e w' => ∃ (v : Value) (ds : List Int), e = .returned v ∧ ds.length = 3 ∧ inRange ds ∧ w'.ownsRow w.heap.size 2 1 v 3 (ds.map (Value.int .i64)) ∧
      SrcAt w' b cv (m + 9) ∧ IsCode b w' cv ∧ w.grownBy w' (some b) := by
  obtain ⟨i0, hi0, hz0, hz1, hz2⟩ := info_parts info2
  go_enter Try.func92, Try.ntmps92
  go_wp2_with fail
  go_loopw [3, 4] (fun v i wr => ∃ (k : Nat) (ds : List Int), k ≤ 3 ∧ i = .int .i64 k ∧ ds.length = k ∧ inRange ds ∧ wr.ownsRow w.heap.size 2 1 v k (ds.map (Value.int .i64)) ∧ SrcAt wr b cv (m + 3 * k) ∧ IsCode b wr cv ∧ w.grownBy wr (some b))
    (fun _ i _ => 3 - (intOf i).toNat)
  case atStart =>
    refine ⟨0, [], by omega, rfl, rfl, fun d hd => by simp at hd, ?_, hs.alloc _, hc.alloc (Nat.le_of_lt hs.lt) _, World.grownBy_alloc w _ _⟩
    exact World.ownsRow_lit w #[] 0 (Nat.le_refl _) (by unfold maxLen; omega) rfl
  case round =>
    obtain ⟨k, ds, hk, rfl, hl, hd, hown, hs1, hc1, hg1⟩ := hrel
    have hbw := hs.lt
    have HW := hide hg1
    have hwr := hg1.size
    clear hs hc hg1
    by_cases hlt : k < 3
    · have HD := hide hd
      have HL := hide hl
      clear hd hl hi0 hz0 hz1 hz2
      go_wp2_with fail
      refine (next b (m + 3 * k) cv 9 _ hs1 hc1 (by omega) (by omega) (by omega)).mono ?_
      rintro e w1 ⟨x, rfl, hx, hs2, hc2, hg2⟩
      have hown2 := hown.kept hg2 (Or.inr (own_ne hown hbw))
      have HW2 := hide (grown_trans (unhide HW) hg2)
      have hw1 : wr.heap.size ≤ w1.heap.size := hg2.size
      clear hown hs1 hc1 hg2 HW
      go_wp2_with fail
      refine (next b (m + 3 * k + 1) cv 40 _ hs2 hc2 (by omega) (by omega) (by omega)).mono ?_
      rintro e w2 ⟨y, rfl, hy, hs3, hc3, hg3⟩
      have hown3 := hown2.kept hg3 (Or.inr (own_ne hown2 hbw))
      have HW3 := hide (grown_trans (unhide HW2) hg3)
      have hw2 : w1.heap.size ≤ w2.heap.size := hg3.size
      clear hown2 hs2 hc2 hg3 HW2
      go_wp2_with fail
      have e := pick b (m + 3 * k + 1 + 1) w2.heap.size cv [(x : Int) - 4, (y : Int) - 20, 0, 1000, -1000] (w2.alloc (.cells #[.int .i64 ((x : Int) - 4), .int .i64 ((y : Int) - 20), .int .i64 0, .int .i64 1000, .int .i64 (-1000)] 2)) (hs3.alloc _) (hc3.alloc (by omega) _) (by omega) (by simp) (by simp) (heap_alloc_new w2 _) (by omega)
      refine e.mono ?_
      clear e
      rintro e w3 ⟨r, rfl, hr, hs4, hc4, hg4⟩
      have hrr : -1000 ≤ r ∧ r ≤ 1000 := by
        simp at hr
        omega
      have hown4 := (hown3.alloc (.cells #[.int .i64 ((x : Int) - 4), .int .i64 ((y : Int) - 20), .int .i64 0, .int .i64 1000, .int .i64 (-1000)] 2)).kept hg4 (Or.inr (own_ne hown3 hbw))
      have HW4 := hide (grown_trans (grown_trans (unhide HW3) (World.grownBy_alloc w2 _ _)) hg4)
      have hw3 : w2.heap.size ≤ w3.heap.size := by have := hg4.size; simp at this; omega
      have HR := hide hrr
      clear hown3 hs3 hc3 hg4 HW3 hr hrr
      obtain ⟨i0, hi0, hz0, hz1, hz2⟩ := info_parts info2
      have HS := hide hs4
      have HC := hide hc4
      clear hs4 hc4
      go_wp2_with (at_builtin; refine wpList_append_lies _ rfl _ _ 25 rfl w.heap.size 2 i0 _ 1 8 Try.underlying25 hi0 hz0 hz1 hz2 rfl (by omega) _ k _ rfl (hown4.alloc _) ⟨w3.heap.size, 0, none⟩ 1 1 [.int .i64 r] rfl rfl (World.news_of_block (cs := #[.int .i64 r]) (t := 2) (fr := (0, 0)) (heap_alloc_new w3 _)) (by simp [Value.oneCell']) (by omega) (by unfold maxLen; omega) (by omega) (by simp; omega) (w3.heap.size + 1) (by simp) ?_)
      intro gg cap2 w4 hown5 hgr hat hlt4
      have hne := own_ne hown4 hbw
      have HS5 := hide (((unhide HS).alloc (.cells #[.int .i64 r] 2)).keep hgr (Ne.symm hne))
      have HW5 := hide (grown_new (grown_trans (unhide HW4) (World.grownBy_alloc w3 (.cells #[.int .i64 r] 2) _)) hgr (fun j hj => (hown4.lt j hj).1))
      have HC5 := hide (((unhide HC).alloc (by omega) (.cells #[.int .i64 r] 2)).later (((Below.refl b _).grown hgr (by simp; omega) (fun j hj => by have := (hown4.lt j hj).1; omega))))
      have HO5 : Hid (w4.ownsRow w.heap.size 2 1 (Value.slice (some ⟨gg, 0, none⟩) (k + 1) cap2) (k + 1) ((ds ++ [r]).map (Value.int .i64))) := by
        show w4.ownsRow w.heap.size 2 1 (Value.slice (some ⟨gg, 0, none⟩) (k + 1) cap2) (k + 1) ((ds ++ [r]).map (Value.int .i64))
        rw [List.map_append]
        exact hown5
      clear hown4 hown5 hgr hat HS HC HW4 hne hi0 hz0 hz1 hz2
      go_wp2
      go_roundw
      case rel =>
        refine ⟨k + 1, ds ++ [r], by omega, by go_num, by simp [unhide HL], fun d hd => ?_, unhide HO5, unhide HS5, unhide HC5, unhide HW5⟩
        rcases List.mem_append.1 hd with h | h
        · exact unhide HD d h
        · simp at h
          subst h
          exact unhide HR
      case measure => simp [intOf]; omega
    · obtain rfl : k = 3 := by omega
      have HD := hide hd
      have HL := hide hl
      have HO := hide hown
      have HS := hide hs1
      have HC := hide hc1
      clear hd hl hown hs1 hc1 hi0 hz0 hz1 hz2
      go_wp2
      go_ret
      exact ⟨_, ds, rfl, unhide HL, unhide HD, unhide HO, unhide HS, unhide HC, unhide HW⟩

end Go.Proofs.Ytjofcmdlcoganaa

namespace Go.Proofs.Ytjofcmdlcoganaa
open Go.RowKit

/-- The slice v holds the numbers zs in memory from block B on. -/
def NewInts (B : Nat) (w : World) (v : Value) (zs : List Int) : Prop :=
  ∃ ao cap, v = .slice ao zs.length cap ∧ (∀ z ∈ zs, -1001 ≤ z ∧ z ≤ 1001) ∧
    (0 < zs.length → ∃ g off, ao = some ⟨g, off, none⟩ ∧ B ≤ g ∧ ∀ j, j < zs.length → w.cell? ⟨g, off + j, none⟩ = some (.int .i64 (zs.getD j 0))) ∧ zs.length ≤ cap

theorem NewInts.ints {B : Nat} {w : World} {v : Value} {zs : List Int} (h : NewInts B w v zs) : IsInts w v zs := by
  obtain ⟨ao, cap, rfl, hb, hc, -⟩ := h
  refine ⟨ao, cap, rfl, fun z hz => wf_of_bd (by have := hb z hz; omega), fun hp => ?_⟩
  obtain ⟨g, off, h1, _, h2⟩ := hc hp
  exact ⟨g, off, h1, h2⟩

theorem NewInts.keep {B b : Nat} {w w' : World} {v : Value} {zs : List Int} (h : NewInts B w v zs) (hg : w.grownBy w' (some b)) (hb : b < B) : NewInts B w' v zs := by
  obtain ⟨ao, cap, rfl, hr, hc, hcap⟩ := h
  refine ⟨ao, cap, rfl, hr, fun hp => ?_, hcap⟩
  obtain ⟨g, off, h1, h2, h3⟩ := hc hp
  refine ⟨g, off, h1, h2, fun j hj => ?_⟩
  have h4 := h3 j hj
  exact (hg.cell_far _ (World.block_lt_of_cell? _ _ h4) (by simp; omega)).trans h4

theorem newInts_own {B T : Nat} {w : World} {v : Value} {zs : List Int} (hr : ∀ z ∈ zs, -1001 ≤ z ∧ z ≤ 1001) (h : w.ownsRow B T 1 v zs.length (zs.map (Value.int .i64))) : NewInts B w v zs := by
  rcases h.2 with ⟨rfl, h0⟩ | ⟨g, cap, cur, rfl, hB, _, hcap, _⟩
  · obtain rfl : zs = [] := List.eq_nil_of_length_eq_zero h0
    exact ⟨none, 0, rfl, hr, by simp, by simp⟩
  · refine ⟨_, _, rfl, hr, fun hp => ⟨g, 0, rfl, hB, fun j hj => ?_⟩, hcap⟩
    rw [Nat.zero_add, h.cellAt j (by omega)]
    simp [List.getD, hj]

theorem own_three {w : World} {B T : Nat} {v : Value} {xs : List Value} (h : w.ownsRow B T 1 v 3 xs) : ∃ g cap, v = .slice (some ⟨g, 0, none⟩) 3 cap ∧ B ≤ g ∧ g < w.heap.size ∧ 3 ≤ cap := by
  rcases h.2 with ⟨_, h0⟩ | ⟨g, cap, cur, rfl, hB, hh, hcap, _⟩
  · omega
  · exact ⟨g, cap, rfl, hB, lt_of_block hh, hcap⟩

/-- What a bent draw leaves. -/
def BentPost (b m : Nat) (cv : Value) (w : World) (e : Ending) (w' : World) : Prop :=
  ∃ (v : Value) (zs : List Int) (m' : Nat), e = .returned v ∧ zs.length ≤ 4 ∧ NewInts w.heap.size w' v zs ∧ m' ≤ m + 11 ∧ SrcAt w' b cv m' ∧ IsCode b w' cv ∧ w.grownBy w' (some b)

set_option maxHeartbeats 1000000 in
theorem bent (b m : Nat) (cv : Value) (w : World) (hs : SrcAt w b cv m) (hc : IsCode b w cv) (hm : m ≤ 90000000) :
    Calls Try.prog 72 #[.pointer (some ⟨b, 0, none⟩)] w (BentPost b m cv w) := by
  have hbw := hs.lt
  go_enter Try.func72, Try.ntmps72
  go_wp2_with fail
  refine (draw b m cv w hs hc (by omega)).mono ?_
  rintro e w1 ⟨v, ds, rfl, hl, hr, hown, hs1, hc1, hg1⟩
  obtain ⟨g, cap, rfl, hBg, -, hcap⟩ := own_three hown
  have HL := hide hl
  have HR := hide hr
  have hw1 : w.heap.size ≤ w1.heap.size := hg1.size
  clear hs hc hl hr
  go_wp2_with fail
  refine (next b (m + 9) cv 12 _ hs1 hc1 (by omega) (by omega) (by omega)).mono ?_
  rintro e w2 ⟨r, rfl, hr, hs2, hc2, hg2⟩
  have hown2 := hown.kept hg2 (Or.inr (own_ne hown hbw))
  have HW := hide (grown_trans hg1 hg2)
  have hw2 : w1.heap.size ≤ w2.heap.size := hg2.size
  clear hown hs1 hc1 hg1 hg2
  rcases (show r = 0 ∨ r = 1 ∨ r = 2 ∨ 3 ≤ r by omega) with rfl | rfl | rfl | h3
  · go_wp2_with fail
    have e := pick b (m + 9 + 1) w2.heap.size cv [1001, -1001] (w2.alloc (.cells #[.int .i64 1001, .int .i64 (-1001)] 2)) (hs2.alloc _) (hc2.alloc (by omega) _) (by omega) (by simp) (by simp) (heap_alloc_new w2 _) (by omega)
    refine e.mono ?_
    clear e
    rintro e w3 ⟨q, rfl, hq, hs3, hc3, hg3⟩
    have hqq : -1001 ≤ q ∧ q ≤ 1001 := by
      simp at hq
      omega
    have hown3 := (hown2.alloc (.cells #[.int .i64 1001, .int .i64 (-1001)] 2)).kept hg3 (Or.inr (own_ne hown2 hbw))
    have hw3 : w2.heap.size ≤ w3.heap.size := by have := hg3.size; simp at this; omega
    obtain ⟨u, hcd⟩ : ∃ u, w3.cell? ⟨g, 0, none⟩ = some u := by
      rw [hown3.cellAt 0 (by omega)]
      exact ⟨_, List.getElem?_eq_getElem (by simp [unhide HL])⟩
    have hfz := hown3.frozenAt 0
    have hst := hown3.stored 0 (.int .i64 q)
    have HO := hide hst.1
    have hgb : some b ≠ some g := by simp; omega
    have HS := hide (hs3.keep hst.2 hgb)
    have HC := hide (hc3.later ((Below.refl b _).grown hst.2 (by omega) (fun j hj => by simp at hj; omega)))
    have HW2 := hide (grown_new (grown_trans (grown_trans (unhide HW) (World.grownBy_alloc w2 (.cells #[.int .i64 1001, .int .i64 (-1001)] 2) _)) hg3) hst.2 (fun j hj => by simp at hj; omega))
    have HQ := hide hqq
    clear hown2 hs2 hc2 hs3 hc3 hg3 hown3 hst hq hqq HW
    go_wp2_with fail
    go_ret
    refine ⟨_, ds.set 0 q, m + 11, rfl, by simp [unhide HL], newInts_own (T := 2) (fun z hz => ?_) (by simpa [unhide HL, List.map_set] using unhide HO), by omega, unhide HS, unhide HC, unhide HW2⟩
    rcases List.mem_or_eq_of_mem_set hz with h | h
    · have := unhide HR z h; omega
    · subst h; exact unhide HQ
  · have hcell : ∀ j, j < 2 → w2.cell? ⟨g, 1 + j, none⟩ = some (.int .i64 (ds.tail.getD j 0)) := by
      intro j hj
      rw [hown2.cellAt (1 + j) (by omega)]
      match ds, unhide HL with
      | [x, y, z], _ =>
        rcases (show j = 0 ∨ j = 1 by omega) with rfl | rfl <;> rfl
    have HC2 := hide hcell
    have HS := hide hs2
    have HC := hide hc2
    clear hown2 hs2 hc2 hcell
    go_wp2_with fail
    go_ret
    have hl2 : ds.tail.length = 2 := by simp [unhide HL]
    refine ⟨_, ds.tail, m + 10, rfl, by omega, ⟨some ⟨g, 1, none⟩, cap - 1, by rw [hl2]; rfl, fun z hz => ?_, fun _ => ⟨g, 1, rfl, hBg, fun j hj => unhide HC2 j (by omega)⟩, by omega⟩, by omega, unhide HS, unhide HC, unhide HW⟩
    have := unhide HR z (List.mem_of_mem_tail hz)
    omega
  · obtain ⟨i0, hi0, hz0, hz1, hz2⟩ := info_parts info2
    have HS := hide hs2
    have HC := hide hc2
    clear hs2 hc2
    go_wp2_with (at_builtin; refine wpList_append_lies _ rfl _ _ 25 rfl w.heap.size 2 i0 _ 1 8 Try.underlying25 hi0 hz0 hz1 hz2 rfl (by omega) _ 3 _ rfl (hown2.alloc _) ⟨w2.heap.size, 0, none⟩ 1 1 [.int .i64 0] rfl rfl (World.news_of_block (cs := #[.int .i64 0]) (t := 2) (fr := (0, 0)) (heap_alloc_new w2 _)) (by simp [Value.oneCell']) (by omega) (by unfold maxLen; omega) (by omega) (by simp; omega) (w2.heap.size + 1) (by simp) ?_)
    intro gg cap2 w3 hown3 hgr hat hlt4
    have HO : Hid (w3.ownsRow w.heap.size 2 1 (.slice (some ⟨gg, 0, none⟩) (ds ++ [0]).length cap2) (ds ++ [0]).length ((ds ++ [0]).map (Value.int .i64))) := by
      show w3.ownsRow w.heap.size 2 1 (.slice (some ⟨gg, 0, none⟩) (ds ++ [0]).length cap2) (ds ++ [0]).length ((ds ++ [0]).map (Value.int .i64))
      rw [List.map_append, List.length_append, unhide HL]
      exact hown3
    have hne := own_ne hown2 hbw
    have HS3 := hide (((unhide HS).alloc (.cells #[.int .i64 0] 2)).keep hgr (Ne.symm hne))
    have HW3 := hide (grown_new (grown_trans (unhide HW) (World.grownBy_alloc w2 (.cells #[.int .i64 0] 2) _)) hgr (fun j hj => (hown2.lt j hj).1))
    have HC3 := hide (((unhide HC).alloc (by omega) (.cells #[.int .i64 0] 2)).later (((Below.refl b _).grown hgr (by simp; omega) (fun j hj => by have := (hown2.lt j hj).1; omega))))
    clear hown2 hown3 hgr hat HS HC HW hne hi0 hz0 hz1 hz2
    go_wp2_with fail
    go_ret
    have hl4 : (ds ++ [(0 : Int)]).length = 4 := by simp [unhide HL]
    refine ⟨_, ds ++ [0], m + 10, rfl, by omega, ?_, by omega, unhide HS3, unhide HC3, unhide HW3⟩
    have h1 := unhide HO
    rw [hl4] at h1
    refine newInts_own (T := 2) (fun z hz => ?_) (by rw [hl4]; exact h1)
    rcases List.mem_append.1 hz with h | h
    · have := unhide HR z h; omega
    · simp at h; omega
  · have e0 : ((r : Int) == 0) = false := by rw [beq_eq_false_iff_ne]; omega
    have e1 : ((r : Int) == 1) = false := by rw [beq_eq_false_iff_ne]; omega
    have e2 : ((r : Int) == 2) = false := by rw [beq_eq_false_iff_ne]; omega
    have HO := hide hown2
    have HS := hide hs2
    have HC := hide hc2
    clear hown2 hs2 hc2
    go_wp2_with fail
    go_ret
    refine ⟨_, ds, m + 10, rfl, by rw [unhide HL]; omega, newInts_own (T := 2) (fun z hz => by have := unhide HR z hz; omega) (by rw [unhide HL]; exact unhide HO), by omega, unhide HS, unhide HC, unhide HW⟩

theorem NewInts.lies {B : Nat} {w : World} {v : Value} {zs : List Int} (h : NewInts B w v zs) (hn : zs.length ≤ 10) : ∃ bl, (Lay.sl Lay.int).lies w [v] zs bl ∧ ∀ c ∈ bl, B ≤ c := by
  obtain ⟨ao, cap, rfl, hr, hc, hcap⟩ := h
  have hwf : ∀ z ∈ zs, (Lit.int .i64 z).wf = true := fun z hz => wf_of_bd (by have := hr z hz; omega)
  by_cases hp : 0 < zs.length
  · obtain ⟨g, off, rfl, hB, hcell⟩ := hc hp
    exact ⟨[g], Lay.lies_ints.2 ⟨_, cap, rfl, ⟨hcap, by omega⟩, hwf, Or.inr ⟨g, off, rfl, World.block_lt_of_cell? _ _ (hcell 0 hp), rfl, hcell⟩⟩, by simp; exact hB⟩
  · obtain rfl : zs = [] := List.eq_nil_of_length_eq_zero (by omega)
    exact ⟨[], Lay.lies_ints.2 ⟨ao, cap, rfl, ⟨hcap, by simp⟩, by simp, Or.inl ⟨rfl, rfl⟩⟩, by simp⟩

end Go.Proofs.Ytjofcmdlcoganaa

namespace Go.Proofs.Ytjofcmdlcoganaa
open Go.RowKit

theorem grown_on {a b c : World} {s : Option Nat} (h : a.grownBy b s) (k : Below b.heap.size b c) : a.grownBy c s :=
  ⟨k.os.trans h.os, k.tape.trans h.tape, k.output.trans h.output, Nat.le_trans h.size k.size, fun i hi hn => (k.block i (Nat.lt_of_lt_of_le hi h.size)).trans (h.block i hi hn)⟩
theorem SrcAt.on {w w' : World} {b m : Nat} {cv : Value} (h : SrcAt w b cv m) (hb : Below w.heap.size w w') : SrcAt w' b cv m := (hb.block b h.lt).trans h
theorem IsCode.on {B : Nat} {w w' : World} {cv : Value} (h : IsCode B w cv) (hB : B ≤ w.heap.size) (hb : Below w.heap.size w w') : IsCode B w' cv := h.later (hb.mono hB)
/-- Some items of the draw's own; the source has gone on. -/
def ItemsPost (b m : Nat) (cv : Value) (w : World) (e : Ending) (w' : World) : Prop :=
  ∃ (v : Value) (rows : List (List Value)) (xs : List DItem) (bls : List (List Nat)) (m' : Nat), e = .returned v ∧ Grow Lay.tItem w' w.heap.size 41 v rows xs bls ∧ (∀ c ∈ bls.flatten, w.heap.size ≤ c) ∧ xs.length ≤ 31 ∧
    SrcAt w' b cv m' ∧ m' ≤ m + 400 ∧ IsCode b w' cv ∧ w.grownBy w' (some b)

set_option maxRecDepth 10000 in
set_option maxHeartbeats 1000000 in
theorem drawRight (b m : Nat) (cv : Value) (w : World) (hs : SrcAt w b cv m) (hc : IsCode b w cv) (hm : m ≤ 1000000) :
    Calls Try.prog 71 #[.pointer (some ⟨b, 0, none⟩)] w fun e w' => ∃ (v : Value) (rows : List (List Value)) (xs : List DItem) (bls : List (List Nat)) (m' : Nat), e = .returned v ∧ Grow Lay.tItem w' w.heap.size 41 v rows xs bls ∧ (∀ c ∈ bls.flatten, w.heap.size ≤ c) ∧ xs.length ≤ 11 ∧
      SrcAt w' b cv m' ∧ m' ≤ m + 200 ∧ IsCode b w' cv ∧ w.grownBy w' (some b) := by
  have hbw := hs.lt
  have nb : Below w.heap.size w (w.alloc (.cells #[] 41)) := (Below.refl w.heap.size w).alloc (Nat.le_refl _) (.cells #[] 41)
  have G0 : Grow Lay.tItem (w.alloc (.cells #[] 41)) w.heap.size 41 (.slice (some ⟨w.heap.size, 0, none⟩) 0 0) [] [] [] := Grow.nil (World.ownsRow_lit w #[] 0 (Nat.le_refl _) (Nat.zero_le _) rfl)
  have L := next b m cv 12 (w.alloc (.cells #[] 41)) (hs.on nb) (hc.on (Nat.le_of_lt hbw) nb) (by omega) (by omega) (by omega)
  have HL := hide L
  have HG := hide G0
  have HN := hide nb
  clear L G0 nb hs hc
  go_enter Try.func71, Try.ntmps71
  go_wp2_with fail
  refine (unhide HL).mono ?_
  rintro e w1 ⟨r, rfl, hr, s1, c1, g1⟩
  have hr2 : r ≤ 11 := by omega
  have HG1 := hide ((unhide HG).grown g1 hbw (by simp))
  have HS1 := hide s1
  have HC1 := hide c1
  have HGR1 : Hid (w.grownBy w1 (some b)) := ⟨g1.os.trans (unhide HN).os, g1.tape.trans (unhide HN).tape, g1.output.trans (unhide HN).output, Nat.le_trans (unhide HN).size g1.size, fun i hi hn => (g1.block i (Nat.lt_of_lt_of_le hi (unhide HN).size) hn).trans ((unhide HN).block i hi)⟩
  clear s1 c1 g1 HL HG HN hr
  go_wp2_with fail
  go_loopw [3, 4] (fun v kk wr => ∃ (j : Nat) (rows : List (List Value)) (xs : List DItem) (bls : List (List Nat)) (m' : Nat), j ≤ 11 ∧ kk = .int .i64 j ∧ Grow Lay.tItem wr w.heap.size 41 v rows xs bls ∧ (∀ c ∈ bls.flatten, w.heap.size ≤ c) ∧ Rising xs ∧ (∀ x ∈ xs, x.vec.length = 3) ∧ xs.length + j ≤ 11 ∧
      SrcAt wr b cv m' ∧ m' + 10 * j ≤ m + 111 ∧ IsCode b wr cv ∧ w.grownBy wr (some b)) (fun _ kk _ => (intOf kk).toNat)
  case atStart => exact ⟨r, [], [], [], m + 1, hr2, rfl, unhide HG1, by simp, List.Pairwise.nil, by simp, by simp; exact hr2, unhide HS1, by omega, unhide HC1, unhide HGR1⟩
  case round =>
    obtain ⟨j, rows, xs, bls, m', hj, rfl, hG, hsf, hris, hv3, hlen, hS, hm', hC, hgr⟩ := hrel
    clear HG1 HS1 HC1 HGR1
    by_cases hlt : 0 < j
    · have L := next b m' cv 14 wr hS hC (by omega) (by omega) (by omega)
      have HL := hide L
      have HG := hide hG
      have HSF := hide hsf
      have HRI := hide hris
      have HV3 := hide hv3
      have HGR := hide hgr
      clear L hG hsf hris hv3 hS hC hgr
      go_wp2_with fail
      refine (unhide HL).mono ?_
      rintro e w2 ⟨r2, rfl, hr2', s2, c2, g2⟩
      have hz2 := g2.size
      have HG2 := hide ((unhide HG).grown g2 hbw (unhide HSF))
      have HGR2 : Hid (w.grownBy w2 (some b)) := grown_trans (unhide HGR) g2
      have L := draw b (m' + 1) cv w2 s2 c2 (by omega)
      have HL2 := hide L
      have hr3 : (r2 : Int) ≤ 13 := by omega
      clear L s2 c2 g2 HL HG HGR hr2'
      go_wp2_with fail
      refine (unhide HL2).mono ?_
      rintro e w3 ⟨vd, ds, rfl, hd3, hdr, hod, s3, c3, g3⟩
      have hz3 := g3.size
      have hG3 := (unhide HG2).grown g3 hbw (unhide HSF)
      have hGR3 : w.grownBy w3 (some b) := grown_trans (unhide HGR2) g3
      have hR := hG3.toReads (by omega)
      have hdw : ∀ z ∈ ds, (Lit.int .i64 z).wf = true := fun z hz => wf_of_bd (by have := hdr z hz; omega)
      rw [← hd3] at hod
      have hvd := (Lay.ownInts hdw (by omega) hod).reads
      have L := specSetG u3 xs (1 + (r2 : Int)) ds vd true w3 hR hvd (wf_of_bd (by omega)) (by omega) (fun x hx => by have := unhide HV3 x hx; omega) (by omega)
      rw [setM_put (unhide HRI)] at L
      have HL3 := hide L
      have HS3 := hide s3
      have HC3 := hide c3
      have HG3 := hide hG3
      have HGR3 := hide hGR3
      have hwz : w.heap.size ≤ w3.heap.size := hGR3.size
      have HRI2 := hide (putI_rising (unhide HRI) (1 + (r2 : Int)) ds)
      have HV2 : Hid (∀ x ∈ putI xs (1 + (r2 : Int)) ds, x.vec.length = 3) := by
        intro x hx
        rcases mem_putI.1 hx with rfl | ⟨hx, -⟩
        · exact hd3
        · exact unhide HV3 x hx
      have HLN : Hid ((putI xs (1 + (r2 : Int)) ds).length ≤ xs.length + 1) := by
        show (putI xs (1 + (r2 : Int)) ds).length ≤ xs.length + 1
        rw [putI_len (unhide HRI)]
        split <;> omega
      clear L hG3 hGR3 hR hvd hod hdw hdr s3 c3 g3 HL2 HG2 HGR2
      go_wp2_with fail
      refine (unhide HL3).mono ?_
      rintro e w4 ⟨v4, rfl, ⟨rows4, bls4, hG4, hs4⟩, hb4⟩
      have HG4 := hide (hG4.lower hwz)
      have HSF4 : Hid (∀ c ∈ bls4.flatten, w.heap.size ≤ c) := fun c hc => Nat.le_trans hwz (hs4 c hc)
      have HS4 := hide ((unhide HS3).on hb4)
      have HC4 := hide ((unhide HC3).on (by omega) hb4)
      have HGR4 := hide (grown_on (unhide HGR3) hb4)
      clear hG4 hs4 hb4 HL3 HS3 HC3 HG3 HGR3
      go_wp2_with fail
      go_roundw
      case rel => exact ⟨j - 1, rows4, putI xs (1 + (r2 : Int)) ds, bls4, m' + 1 + 9, by omega, by go_num, unhide HG4, unhide HSF4, unhide HRI2, unhide HV2, by have := unhide HLN; omega, unhide HS4, by omega, unhide HC4, unhide HGR4⟩
      case measure => simp [intOf]; omega
    · have HG := hide hG
      have HSF := hide hsf
      have HS := hide hS
      have HC := hide hC
      have HGR := hide hgr
      clear hG hsf hS hC hgr hris hv3
      have hd : decide ((0 : Int) < (j : Int)) = false := by simp; omega
      go_wp2_with fail
      go_ret
      exact ⟨_, rows, xs, bls, m', rfl, unhide HG, unhide HSF, by omega, unhide HS, by omega, unhide HC, unhide HGR⟩

end Go.Proofs.Ytjofcmdlcoganaa

namespace Go.Proofs.Ytjofcmdlcoganaa
open Go.RowKit

theorem flat_snocI {bls : List (List Nat)} {bl : List Nat} {P : Nat → Prop} (h : ∀ c ∈ bls.flatten, P c) (h2 : ∀ c ∈ bl, P c) : ∀ c ∈ (bls ++ [bl]).flatten, P c := by
  intro c hc
  rw [List.flatten_append] at hc
  rcases List.mem_append.1 hc with hc | hc
  · exact h c hc
  · exact h2 c (by simpa using hc)
theorem grown_lowI {a b c : World} {s : Option Nat} (h : a.grownBy b s) (k : Below a.heap.size b c) : a.grownBy c s :=
  ⟨k.os.trans h.os, k.tape.trans h.tape, k.output.trans h.output, Nat.le_trans h.size k.size, fun i hi hn => (k.block i hi).trans (h.block i hi hn)⟩
theorem made_flatI (row : List Value) (n : Nat) (h0 : 0 < row.length) : (madeCells row.toArray (n * row.length)).toList = (List.replicate n row).flatten := by
  have hl : (List.replicate n row).flatten.length = n * row.length := by simp
  apply List.ext_getElem?
  intro i
  by_cases hi : i < n * row.length
  · have hm := Nat.mod_lt i h0
    have hj : i / row.length < n := (Nat.div_lt_iff_lt_mul h0).2 hi
    have e := Lay.flat_at (rows := List.replicate n row) (n := row.length) (fun r hr => by rw [List.eq_of_mem_replicate hr]) (i / row.length) (i % row.length) (by simpa using hj) hm
    rw [Nat.div_add_mod' i row.length] at e
    rw [e]
    simp [madeCells, hi, hm]
  · rw [List.getElem?_eq_none (by simp [madeCells]; omega), List.getElem?_eq_none (by omega)]
theorem made31 : (madeCells #[.int .i64 0, .slice none 0 0] 62).toList = (List.replicate 31 [.int .i64 0, .slice none 0 0]).flatten :=
  made_flatI [.int .i64 0, .slice none 0 0] 31 (by decide)
theorem zeroItem (w : World) : Lay.tItem.lies w [.int .i64 0, .slice none 0 0] ⟨0, []⟩ [] :=
  lies_Item.2 ⟨none, 0, [], rfl, rfl, by decide, Lay.lies_ints.2 ⟨none, 0, rfl, by simp, by simp, Or.inl ⟨rfl, rfl⟩⟩⟩
theorem flat_none (n : Nat) : ∀ c ∈ (List.replicate n ([] : List Nat)).flatten, False := by
  intro c hc
  obtain ⟨l, h1, h2⟩ := List.mem_flatten.1 hc
  rw [List.eq_of_mem_replicate h1] at h2
  simp at h2
theorem grow31 {w : World} {base : Nat} {v : Value} (h : w.ownsRow base 41 2 v 31 (madeCells #[.int .i64 0, .slice none 0 0] 62).toList) :
    Grow Lay.tItem w base 41 v (List.replicate 31 [.int .i64 0, .slice none 0 0]) (List.replicate 31 ⟨0, []⟩) (List.replicate 31 []) := by
  rw [made31] at h
  refine ⟨by rw [List.length_replicate]; exact h, by rw [List.length_replicate, List.length_replicate], by rw [List.length_replicate, List.length_replicate], fun j h1 h2 h3 => ?_, fun b hb => (flat_none _ b hb).elim⟩
  rw [List.getElem_replicate, List.getElem_replicate, List.getElem_replicate]
  exact zeroItem w

set_option maxRecDepth 10000 in
set_option maxHeartbeats 1000000 in
theorem drawTab (b m : Nat) (cv : Value) (w : World) (hs : SrcAt w b cv m) (hc : IsCode b w cv) (hm : m ≤ 100000) :
    Calls Try.prog 43 #[.pointer (some ⟨b, 0, none⟩)] w (ItemsPost b m cv w) := by
  have hbw := hs.lt
  have HL := hide (drawRight b m cv w hs hc (by omega))
  clear hs hc
  go_enter Try.func43, Try.ntmps43
  go_wp2_with fail
  refine (unhide HL).mono ?_
  rintro e w2 ⟨v, rows, xs, bls, m', rfl, hG, hsf, hlen, s2, hm', c2, g2⟩
  have HL2 := hide (next b m' cv 14 w2 s2 c2 (by omega) (by omega) (by omega))
  have HG := hide hG
  have HSF := hide hsf
  have HGR := hide g2
  clear hG hsf s2 c2 g2 HL
  go_wp2_with fail
  refine (unhide HL2).mono ?_
  rintro e w3 ⟨q, rfl, hq, s3, c3, g3⟩
  replace HG := hide ((unhide HG).grown g3 hbw (unhide HSF))
  replace HGR := hide (grown_trans (unhide HGR) g3)
  have HS := hide s3
  have HC := hide c3
  clear s3 c3 g3 HL2
  have hw3 : w.heap.size ≤ w3.heap.size := (unhide HGR).size
  rcases (show q = 0 ∨ q = 1 ∨ 2 ≤ q by omega) with rfl | rfl | h2
  · have nb3 : Below w3.heap.size w3 (w3.alloc (.cells #[.int .i64 0, .int .i64 5, .int .i64 999, .int .i64 1000] 2)) := (Below.refl _ _).alloc (Nat.le_refl _) _
    have hg3 := heap_alloc_new w3 (.cells #[.int .i64 0, .int .i64 5, .int .i64 999, .int .i64 1000] 2)
    have L := hide (pick b (m' + 1) w3.heap.size cv [0, 5, 999, 1000] _ ((unhide HS).on nb3) ((unhide HC).on (by omega) nb3) (by omega) (by simp) (by simp) hg3 (by omega))
    replace HG := hide ((unhide HG).later nb3)
    replace HGR := hide (grown_on (unhide HGR) nb3)
    clear HS HC hg3 nb3
    go_wp2_with fail
    refine (unhide L).mono ?_
    generalize w3.alloc (.cells #[.int .i64 0, .int .i64 5, .int .i64 999, .int .i64 1000] 2) = W3 at *
    rintro e w4 ⟨p, rfl, hp, s4, c4, g4⟩
    have hpb : 0 ≤ p ∧ p ≤ 1000 := by
      simp only [List.mem_cons, List.not_mem_nil, or_false] at hp
      omega
    have L4 := hide (bent b (m' + 1 + 1) cv w4 s4 c4 (by omega))
    replace HG := hide ((unhide HG).grown g4 hbw (unhide HSF))
    replace HGR := hide (grown_trans (unhide HGR) g4)
    clear s4 c4 g4 L hp
    have hw4 : w.heap.size ≤ w4.heap.size := (unhide HGR).size
    go_wp2_with fail
    refine (unhide L4).mono ?_
    rintro e w5 ⟨v3, zs, m3, rfl, hzs, hNI, hm3, s5, c5, g5⟩
    obtain ⟨bz, hlz, hbz⟩ := hNI.lies (by omega)
    obtain ⟨a3, d3, rfl⟩ := open_sl ⟨bz, hlz⟩
    have hG := (unhide HG).grown g5 hbw (unhide HSF)
    have hoff : ∀ c ∈ bz, v.ownBlock ≠ some c := fun c hc e => by
      have h1 := hbz c hc
      have h2 := ((unhide HG).own.lt c e).2
      omega
    have hl : Lay.tItem.lies w5 [.int .i64 p, .slice a3 zs.length d3] ⟨p, zs⟩ bz := lies_Item.2 ⟨a3, d3, bz, rfl, rfl, (show (Lit.int .i64 p).wf = true from wf_of_bd (by omega)), hlz⟩
    replace HSF := hide (flat_snocI (unhide HSF) (fun c hc => Nat.le_trans hw4 (hbz c hc)))
    replace HGR := hide (grown_trans (unhide HGR) g5)
    have HS := hide s5
    have HC := hide c5
    have HZ : Hid (w.heap.size ≤ w5.heap.size) := (unhide HGR).size
    clear s5 c5 g5 L4 hNI hlz hbz HG
    go_wp2_with (at_builtin; refine wpList_append_Item hG hl hoff rfl _ _ rfl rfl rfl (by omega) (unhide HZ) ?_)
    intro g cap w6 hG6 hb6 hE6 hg6 hz6 hor6
    have HG6 := hide hG6
    have HS6 : Hid (SrcAt w6 b cv m3) := (hb6.block b hbw).trans (unhide HS)
    have HC6 := hide ((unhide HC).later (hb6.mono (Nat.le_of_lt hbw)))
    have HGR6 := hide (grown_lowI (unhide HGR) hb6)
    clear hG hl hoff hG6 hb6 hE6 hg6 hz6 hor6 HS HC HGR
    go_wp2_with fail
    go_ret
    exact ⟨_, _, _, _, m3, rfl, unhide HG6, unhide HSF, by simp; omega, unhide HS6, by omega, unhide HC6, unhide HGR6⟩
  · obtain ⟨i0, hi, hz0, hz1, hz2⟩ := info_parts infoAppItem
    clear HG HSF
    go_wp2_with (at_make; refine wpList_make_full _ rfl _ _ 24 rfl w.heap.size 41 i0 _ 2 Try.underlying24 hi hz0 hz1 _ _ _ _ 31 rfl rfl rfl rfl ?c1 ?c2 ?c3 ?_)
    case c1 => omega
    case c2 => unfold maxLen; omega
    case c3 => omega
    intro w4 o4 g4
    have hb4 : Below w3.heap.size w3 w4 := (Below.refl _ _).grown g4 (Nat.le_refl _) (by simp)
    have HG4 := hide (grow31 o4)
    have HS4 := hide ((unhide HS).on hb4)
    have HC4 := hide ((unhide HC).on (by omega) hb4)
    have HGR4 := hide (grown_on (unhide HGR) hb4)
    clear o4 g4 hi hz0 hz1 hz2 hb4 HS HC HGR
    go_wp2_with fail
    go_ret
    exact ⟨_, _, _, _, m' + 1, rfl, unhide HG4, fun c hc => (flat_none _ c hc).elim, by rw [List.length_replicate]; omega, unhide HS4, by omega, unhide HC4, unhide HGR4⟩
  · have d0 : ((q : Int) == 0) = false := by rw [beq_eq_false_iff_ne]; omega
    have d1 : ((q : Int) == 1) = false := by rw [beq_eq_false_iff_ne]; omega
    go_wp2_with fail
    go_ret
    exact ⟨v, rows, xs, bls, m' + 1, rfl, unhide HG, unhide HSF, by omega, unhide HS, by omega, unhide HC, unhide HGR⟩

end Go.Proofs.Ytjofcmdlcoganaa

namespace Go.Proofs.Ytjofcmdlcoganaa
open Go.RowKit

theorem ext_of_grown {w w' : World} {r : Option Nat} (h : w.grownBy w' r) : Ext (fun k => r = some k) w w' := ⟨h.os, h.tape, h.output, h.size, fun k hk hn => h.block k hk (fun e => hn e.symm)⟩

structure DT (w0 : World) (b B : Nat) (cv v : Value) (xs : List DItem) (w : World) (m : Nat) (u : Value) (zs : List Int) : Prop where
  src : SrcAt w b cv m
  code : IsCode b w cv
  items : (Lay.sl Lay.tItem).LiesIn w [v] xs (b + 1) B
  lt : b < B
  own : w.ownsRow B 2 1 u zs.length (zs.map (Value.int .i64))
  wf : ∀ z ∈ zs, (Lit.int .i64 z).wf = true
  bel : Below b w0 w
  hi : B ≤ w.heap.size
theorem DT.grown {w0 w w' : World} {b B m m' : Nat} {cv v u : Value} {xs : List DItem} {zs : List Int} (h : DT w0 b B cv v xs w m u zs) (g : w.grownBy w' (some b)) (s : SrcAt w' b cv m') (c : IsCode b w' cv) : DT w0 b B cv v xs w' m' u zs where
  src := s
  code := c
  items := h.items.ext (ext_of_grown g) (fun k h1 _ e => by have := Option.some.inj e; omega)
  lt := h.lt
  own := h.own.kept g (Or.inr fun e => by have := (h.own.lt b e).1; have := h.lt; omega)
  wf := h.wf
  bel := h.bel.grown g (Nat.le_of_lt h.src.lt |> fun q => by have := h.bel.size; omega) (fun k hk => by simp at hk; omega)
  hi := Nat.le_trans h.hi g.size
theorem DT.alloc {w0 w : World} {b B m : Nat} {cv v u : Value} {xs : List DItem} {zs : List Int} (h : DT w0 b B cv v xs w m u zs) (o : Obj) : DT w0 b B cv v xs (w.alloc o) m u zs where
  src := h.src.alloc o
  code := h.code.alloc (Nat.le_of_lt h.src.lt) o
  items := h.items.later ((Below.refl _ _).alloc (Nat.le_refl _) o)
  lt := h.lt
  own := h.own.alloc o
  wf := h.wf
  bel := h.bel.alloc (Nat.le_of_lt h.src.lt) o
  hi := by have := h.hi; simp; omega
theorem DT.app {w0 w w' : World} {b B m : Nat} {cv v u u' : Value} {xs : List DItem} {zs zs' : List Int} (h : DT w0 b B cv v xs w m u zs) (g : w.grownBy w' u.ownBlock) (o : w'.ownsRow B 2 1 u' zs'.length (zs'.map (Value.int .i64))) (hw : ∀ z ∈ zs', (Lit.int .i64 z).wf = true) : DT w0 b B cv v xs w' m u' zs' where
  src := h.src.keep g (fun e => by have := (h.own.lt b e.symm).1; have := h.lt; omega)
  code := h.code.later ((Below.refl b w).grown g (Nat.le_of_lt h.src.lt) (fun k hk => by have := (h.own.lt k hk).1; have := h.lt; omega))
  items := h.items.ext (ext_of_grown g) (fun k _ h2 e => by have := (h.own.lt k e).1; omega)
  lt := h.lt
  own := o
  wf := hw
  bel := h.bel.grown g (by have := h.src.lt; omega) (fun k hk => by have := (h.own.lt k hk).1; have := h.lt; omega)
  hi := Nat.le_trans h.hi g.size
theorem DT.new {w0 w w' : World} {b B m : Nat} {cv v u u' : Value} {xs : List DItem} {zs zs' : List Int} (h : DT w0 b B cv v xs w m u zs) (g : Below w.heap.size w w') (o : w'.ownsRow w.heap.size 2 1 u' zs'.length (zs'.map (Value.int .i64))) (hw : ∀ z ∈ zs', (Lit.int .i64 z).wf = true) : DT w0 b B cv v xs w' m u' zs' where
  src := (g.block b h.src.lt).trans h.src
  code := h.code.later (g.mono (Nat.le_of_lt h.src.lt))
  items := h.items.later g
  lt := h.lt
  own := own_mono h.hi o
  wf := hw
  bel := h.bel.trans (g.mono (Nat.le_of_lt h.src.lt))
  hi := Nat.le_trans h.hi g.size

end Go.Proofs.Ytjofcmdlcoganaa
