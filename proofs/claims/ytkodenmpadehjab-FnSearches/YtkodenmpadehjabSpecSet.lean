/-
  The model's l4Set: an item put, or gone, in new memory; nothing old is written.
  Condition: at most 1000000 items, each with at most 100000000 numbers.
-/
import Derived.Test.YtkodenmpadehjabSpecCopy
import Derived.Test.YtkodenmpadehjabTabGround
namespace Go.Proofs.Ytkodenmpadehjab
open Go.RowKit

theorem take_fold (nw : DItem) (st : List DItem × Bool) (xs : List DItem) (k : Nat) (h : k < xs.length) : (xs.take (k + 1)).foldl (setStep nw) st = setStep nw ((xs.take k).foldl (setStep nw) st) xs[k] := by
  rw [List.take_succ_eq_append_getElem h, List.foldl_append]
  rfl

set_option maxRecDepth 100000 in
set_option maxHeartbeats 4000000 in
theorem specSet_pos (b off cap : Nat) (xs : List DItem) (nw : DItem) (a2 : Option Addr) (d2 : Nat) (has : Bool) (w : World) (h : (Lay.sl Lay.tItem).Reads w [.slice (some ⟨b, off, none⟩) xs.length cap] xs) (hv : (Lay.sl Lay.int).Reads w [.slice a2 nw.vec.length d2] nw.vec) (hw : (Lit.int .i64 nw.id).wf = true)
    (hbl : b < w.heap.size) (hn : xs.length ≤ 1000000) (hx : ∀ x ∈ xs, x.vec.length ≤ 100000000) (hx2 : nw.vec.length ≤ 100000000) :
    Calls Try.prog 43 #[.slice (some ⟨b, off, none⟩) xs.length cap, .int .i64 nw.id, .slice a2 nw.vec.length d2, .bool has] w fun e w' => ∃ v', e = .returned v' ∧ (∃ rows bls, Grow Lay.tItem w' w.heap.size 33 v' rows (setM xs nw has) bls ∧ ∀ c ∈ bls.flatten, w.heap.size ≤ c) ∧ Below w.heap.size w w' := by
  obtain ⟨blN, hlN⟩ := hv
  have hN : Lay.tItem.lies w [.int .i64 nw.id, .slice a2 nw.vec.length d2] nw blN := lies_Item.2 ⟨a2, d2, blN, rfl, rfl, hw, hlN⟩
  have hNl : ∀ c ∈ blN, c < w.heap.size := Lay.tItem.lt hN
  have HN := hide hN
  have HNL := hide hNl
  have H := hide h
  have HX := hide hx
  clear h hx hlN hN hNl
  have G0 : Grow Lay.tItem (w.alloc (.cells #[] 33)) w.heap.size 33 (.slice (some ⟨w.heap.size, 0, none⟩) 0 0) [] [] [] := Grow.nil (World.ownsRow_lit w #[] 0 (Nat.le_refl _) (Nat.zero_le _) rfl)
  have HG := hide G0
  have HB0 := hide ((Below.refl w.heap.size w).alloc (Nat.le_refl _) (.cells #[] 33))
  clear G0
  go_enter Try.func43, Try.ntmps43
  go_wp2_with fail
  go_loopw [9, 10, 11] (fun v d i wr => ∃ (k : Nat) (rows : List (List Value)) (bls : List (List Nat)) (out : List DItem) (dn : Bool), k ≤ xs.length ∧ i = .int .i64 k ∧ d = .bool dn ∧ (xs.take k).foldl (setStep nw) ([], !has) = (out, dn) ∧ out.length ≤ 2 * k ∧ (∀ x ∈ out, x.vec.length ≤ 100000000) ∧ Grow Lay.tItem wr w.heap.size 33 v rows out bls ∧ Below w.heap.size w wr) (fun _ _ i _ => xs.length - (intOf i).toNat)
  case atStart => exact ⟨0, [], [], [], !has, Nat.zero_le _, rfl, rfl, rfl, by simp, by simp, unhide HG, unhide HB0⟩
  case round =>
    obtain ⟨k, rows, bls, out, dn, hk, rfl, rfl, hst, hol, hov, hG, hB⟩ := hrel
    clear HG HB0
    by_cases hlt : k < xs.length
    · obtain ⟨row, hc, hr⟩ := Lay.row_at (unhide H) hlt
      obtain ⟨blX, hlX⟩ := hr
      obtain ⟨a1, d1, bb, rfl, hbb, hwi, hlv⟩ := lies_Item.1 hlX
      have hXl : ∀ c ∈ blX, c < w.heap.size := Lay.tItem.lt hlX
      have c0 : wr.cell? ⟨b, off + k * 2, none⟩ = some (.int .i64 (xs[k]).id) := (hB.cell (p := ⟨b, off + k * 2, none⟩) hbl).trans (hc 0 (by decide))
      have c1 : wr.cell? ⟨b, off + k * 2 + 1, none⟩ = some (.slice a1 (xs[k]).vec.length d1) := (hB.cell (p := ⟨b, off + k * 2 + 1, none⟩) hbl).trans (hc 1 (by decide))
      have hbr : b < wr.heap.size := Nat.lt_of_lt_of_le hbl hB.size
      have HST : Hid ((xs.take (k + 1)).foldl (setStep nw) ([], !has) = setOld nw (setNew nw (out, dn) xs[k]) xs[k]) := by
        show (xs.take (k + 1)).foldl (setStep nw) ([], !has) = _
        rw [take_fold nw _ xs k hlt, hst]
        rfl
      have HXV := hide (unhide HX xs[k] (List.getElem_mem hlt))
      have HLX := hide (Lay.tItem.keep hlX fun c hc => hB.block c (hXl c hc))
      have HXL := hide hXl
      have HLN := hide (Lay.tItem.keep (unhide HN) fun c hc => hB.block c (unhide HNL c hc))
      clear hc hlX hbb hwi hlv hst
      generalize hx : xs[k] = x at *
      clear hx
      have HG := hide hG
      have HB := hide hB
      have HOV := hide hov
      clear hG hB hov
      have hnx : out.length + 3 ≤ 100000000 := by omega
      by_cases hA : dn = false ∧ nw.id ≤ x.id
      · obtain ⟨rfl, hle⟩ := hA
        have hd1 : decide (nw.id ≤ x.id) = true := by simpa using hle
        have e1 : setNew nw (out, false) x = (out ++ [nw], true) := by simp [setNew, hle]
        rw [e1] at HST
        have hG := unhide HG
        have hoff : ∀ c ∈ blN, u9.ownBlock ≠ some c := fun c hc e => by have h1 := unhide HNL c hc; have h2 := (hG.own.lt c e).1; omega
        have hLN := unhide HLN
        have HZ : Hid (w.heap.size ≤ wr.heap.size) := (unhide HB).size
        clear e1 hle HLN HG
        go_wp2_with (at_builtin; refine wpList_append_Item hG hLN hoff rfl _ _ rfl rfl rfl (by omega) (unhide HZ) ?_)
        rintro g5 cp5 w5 hG5 hb5 hE5 hl5 hz5 hor
        have d0 : w5.cell? ⟨b, off + k * 2, none⟩ = some (.int .i64 x.id) := (hb5.cell (p := ⟨b, off + k * 2, none⟩) hbl).trans c0
        have d1' : w5.cell? ⟨b, off + k * 2 + 1, none⟩ = some (.slice a1 x.vec.length d1) := (hb5.cell (p := ⟨b, off + k * 2 + 1, none⟩) hbl).trans c1
        have hbr5 : b < w5.heap.size := by omega
        have HLX5 := hide (Lay.tItem.keep (unhide HLX) fun c hc => hb5.block c (unhide HXL c hc))
        have HB5 := hide ((unhide HB).trans hb5)
        have HG5 := hide hG5
        clear hG hoff hLN hG5 hb5 hE5 hor HB HLX c0 c1 hd1 HZ hz5
        have HOV5 : Hid (∀ y ∈ out ++ [nw], y.vec.length ≤ 100000000) := by
          intro y hy
          rcases List.mem_append.1 hy with hy | hy
          · exact unhide HOV y hy
          · rw [List.mem_singleton.1 hy]; exact hx2
        by_cases he : x.id = nw.id
        · have hd2 : (x.id != nw.id) = false := by simpa using he
          have e2 : setOld nw (out ++ [nw], true) x = (out ++ [nw], true) := by rw [setOld, if_pos he]
          rw [e2] at HST
          clear he e2 HLX5
          go_wp2_with fail
          go_roundw
          case rel => exact ⟨k + 1, _, _, out ++ [nw], true, by omega, by go_num, rfl, unhide HST, by simp; omega, unhide HOV5, unhide HG5, unhide HB5⟩
          case measure => simp [intOf]; omega
        · have hd2 : (x.id != nw.id) = true := by simpa using he
          have e2 : setOld nw (out ++ [nw], true) x = (out ++ [nw] ++ [x], true) := by rw [setOld, if_neg he]
          rw [e2] at HST
          have hG := unhide HG5
          have hoff : ∀ c ∈ blX, (Value.slice (some ⟨g5, 0, none⟩) (out.length + 1) cp5).ownBlock ≠ some c := fun c hc e => by have h1 := unhide HXL c hc; have h2 := (hG.own.lt c e).1; omega
          have hLX := unhide HLX5
          have HZ : Hid (w.heap.size ≤ w5.heap.size) := (unhide HB5).size
          clear he e2 HLX5 HG5
          go_wp2_with (at_builtin; refine wpList_append_Item hG hLX hoff rfl _ _ rfl rfl rfl (by simp; omega) (unhide HZ) ?_)
          rintro g6 cp6 w6 hG6 hb6 hE6 hl6 hz6 hor6
          have HB6 := hide ((unhide HB5).trans hb6)
          have HG6 := hide hG6
          have HOV6 : Hid (∀ y ∈ out ++ [nw] ++ [x], y.vec.length ≤ 100000000) := by
            intro y hy
            rcases List.mem_append.1 hy with hy | hy
            · exact unhide HOV5 y hy
            · rw [List.mem_singleton.1 hy]; exact unhide HXV
          clear hG hoff hLX hG6 hb6 hE6 hor6 HB5 d0 d1' hd2 HZ hz6
          go_wp2_with fail
          go_roundw
          case rel =>
            have hg := unhide HG6
            have e3 : out ++ [nw] ++ [x] = out ++ [nw, x] := by simp
            have hs := unhide HST
            have ho := unhide HOV6
            rw [e3] at hs ho
            exact ⟨k + 1, _, _, out ++ [nw, x], true, by omega, by go_num, rfl, hs, by simp; omega, ho, hg, unhide HB6⟩
          case measure => simp [intOf]; omega
      · have e1 : setNew nw (out, dn) x = (out, dn) := by rw [setNew, if_neg hA]
        rw [e1] at HST
        have hcond : dn = true ∨ decide (nw.id ≤ x.id) = false := by
          cases dn with
          | true => exact Or.inl rfl
          | false => right; simpa using hA
        clear e1 hA
        by_cases he : x.id = nw.id
        · have hd2 : (x.id != nw.id) = false := by simpa using he
          have e2 : setOld nw (out, dn) x = (out, dn) := by rw [setOld, if_pos he]
          rw [e2] at HST
          clear he e2 HLX HLN
          rcases hcond with rfl | hd1
          · go_wp2_with fail
            go_roundw
            case rel => exact ⟨k + 1, _, _, out, true, by omega, by go_num, rfl, unhide HST, by omega, unhide HOV, unhide HG, unhide HB⟩
            case measure => simp [intOf]; omega
          · cases dn with
            | true =>
              go_wp2_with fail
              go_roundw
              case rel => exact ⟨k + 1, _, _, out, true, by omega, by go_num, rfl, unhide HST, by omega, unhide HOV, unhide HG, unhide HB⟩
              case measure => simp [intOf]; omega
            | false =>
              go_wp2_with fail
              go_roundw
              case rel => exact ⟨k + 1, _, _, out, false, by omega, by go_num, rfl, unhide HST, by omega, unhide HOV, unhide HG, unhide HB⟩
              case measure => simp [intOf]; omega
        · have hd2 : (x.id != nw.id) = true := by simpa using he
          have e2 : setOld nw (out, dn) x = (out ++ [x], dn) := by rw [setOld, if_neg he]
          rw [e2] at HST
          have hG := unhide HG
          have hoff : ∀ c ∈ blX, u9.ownBlock ≠ some c := fun c hc e => by have h1 := unhide HXL c hc; have h2 := (hG.own.lt c e).1; omega
          have hLX := unhide HLX
          have HZ : Hid (w.heap.size ≤ wr.heap.size) := (unhide HB).size
          have HOV6 : Hid (∀ y ∈ out ++ [x], y.vec.length ≤ 100000000) := by
            intro y hy
            rcases List.mem_append.1 hy with hy | hy
            · exact unhide HOV y hy
            · rw [List.mem_singleton.1 hy]; exact unhide HXV
          clear he e2 HLX HLN HG
          have hcd : (dn = true) ∨ (dn = false ∧ decide (nw.id ≤ x.id) = false) := by
            rcases hcond with h | h
            · exact Or.inl h
            · cases dn with
              | true => exact Or.inl rfl
              | false => exact Or.inr ⟨rfl, h⟩
          clear hcond
          rcases hcd with rfl | ⟨rfl, hd1⟩
          · go_wp2_with (at_builtin; refine wpList_append_Item hG hLX hoff rfl _ _ rfl rfl rfl (by omega) (unhide HZ) ?_)
            rintro g6 cp6 w6 hG6 hb6 hE6 hl6 hz6 hor6
            have HB6 := hide ((unhide HB).trans hb6)
            have HG6 := hide hG6
            clear hG hoff hLX hG6 hb6 hE6 hor6 HB c0 c1 hd2 HZ hz6
            go_wp2_with fail
            go_roundw
            case rel => exact ⟨k + 1, _, _, out ++ [x], true, by omega, by go_num, rfl, unhide HST, by simp; omega, unhide HOV6, unhide HG6, unhide HB6⟩
            case measure => simp [intOf]; omega
          · go_wp2_with (at_builtin; refine wpList_append_Item hG hLX hoff rfl _ _ rfl rfl rfl (by omega) (unhide HZ) ?_)
            rintro g6 cp6 w6 hG6 hb6 hE6 hl6 hz6 hor6
            have HB6 := hide ((unhide HB).trans hb6)
            have HG6 := hide hG6
            clear hG hoff hLX hG6 hb6 hE6 hor6 HB c0 c1 hd2 HZ hz6 hd1
            go_wp2_with fail
            go_roundw
            case rel => exact ⟨k + 1, _, _, out ++ [x], false, by omega, by go_num, rfl, unhide HST, by simp; omega, unhide HOV6, unhide HG6, unhide HB6⟩
            case measure => simp [intOf]; omega
    · obtain rfl : k = xs.length := by omega
      rw [List.take_length] at hst
      have HM : Hid (setM xs nw has = setFin nw (out, dn)) := by
        show setM xs nw has = _
        rw [setM, hst]
      have HG := hide hG
      have HB := hide hB
      have HOV := hide hov
      have HLN := hide (Lay.tItem.keep (unhide HN) fun c hc => hB.block c (unhide HNL c hc))
      clear hG hB hov hst H
      cases dn with
      | true =>
        have hR := (unhide HG).toReads (by omega)
        have L := specCopyG u9 out wr hR (by omega) (unhide HOV)
        have HL := hide L
        rw [setFin, if_pos rfl] at HM
        clear hR L HLN HG
        go_wp2_with fail
        refine (unhide HL).mono ?_
        rintro e w6 ⟨v6, rfl, hR6, hb6⟩
        have HB6 := hide ((unhide HB).trans (hb6.mono (unhide HB).size))
        obtain ⟨rows6, bls6, hG6, hs6⟩ := hR6
        have HR6 : Hid (∃ rows bls, Grow Lay.tItem w6 w.heap.size 33 v6 rows _ bls ∧ ∀ c ∈ bls.flatten, w.heap.size ≤ c) := ⟨rows6, bls6, hG6.lower (unhide HB).size, fun c hc => Nat.le_trans (unhide HB).size (hs6 c hc)⟩
        clear hb6 hG6 hs6
        go_wp2_with fail
        go_ret
        exact ⟨_, rfl, by rw [unhide HM]; exact unhide HR6, unhide HB6⟩
      | false =>
        have hG := unhide HG
        have hoff : ∀ c ∈ blN, u9.ownBlock ≠ some c := fun c hc e => by have h1 := unhide HNL c hc; have h2 := (hG.own.lt c e).1; omega
        have hLN := unhide HLN
        have HZ : Hid (w.heap.size ≤ wr.heap.size) := (unhide HB).size
        rw [setFin, if_neg (by simp)] at HM
        clear HLN HG
        go_wp2_with (at_builtin; refine wpList_append_Item hG hLN hoff rfl _ _ rfl rfl rfl (by omega) (unhide HZ) ?_)
        rintro g5 cp5 w5 hG5 hb5 hE5 hl5 hz5 hor
        have HOV5 : Hid (∀ y ∈ out ++ [nw], y.vec.length ≤ 100000000) := by
          intro y hy
          rcases List.mem_append.1 hy with hy | hy
          · exact unhide HOV y hy
          · rw [List.mem_singleton.1 hy]; exact hx2
        have hR := hG5.toReads (by simp; omega)
        have HL := hide (specCopyG _ (out ++ [nw]) w5 hR (by simp; omega) (unhide HOV5))
        have HB5 := hide ((unhide HB).trans hb5)
        clear hG hoff hLN hG5 hb5 hE5 hor HB HZ hR hz5
        go_wp2_with fail
        refine (unhide HL).mono ?_
        rintro e w6 ⟨v6, rfl, hR6, hb6⟩
        have HB6 := hide ((unhide HB5).trans (hb6.mono (unhide HB5).size))
        obtain ⟨rows6, bls6, hG6, hs6⟩ := hR6
        have HR6 : Hid (∃ rows bls, Grow Lay.tItem w6 w.heap.size 33 v6 rows _ bls ∧ ∀ c ∈ bls.flatten, w.heap.size ≤ c) := ⟨rows6, bls6, hG6.lower (unhide HB5).size, fun c hc => Nat.le_trans (unhide HB5).size (hs6 c hc)⟩
        clear hb6 hG6 hs6
        go_wp2_with fail
        go_ret
        exact ⟨_, rfl, by rw [unhide HM]; exact unhide HR6, unhide HB6⟩

end Go.Proofs.Ytkodenmpadehjab
