/-
  Texts of this proof in one: ImplItemsIvf, InB, SpecTab, SpecLists7, SpecItems7, SpecFault7, SpecAsk7, IvfRes, SpecAt4, SpecAddIvf, SameTPlain, ImplInts, ImplSameT.
  Their conditions stand in their theorems.
-/
import Derived.Test.YtfgadegpdknocaaAq11
import Derived.Test.YtfgadegpdknocaaAq06
import Derived.Test.YtfgadegpdknocaaChecked
import Derived.Test.YtfgadegpdknocaaAq01
import Derived.Test.YtfgadegpdknocaaAq02
import Derived.BigQuiet
import Derived.Deep.QuietTactic
import Derived.Deep.RegionHeld3
import Derived.Test.YtfgadegpdknocaaAq08
import Derived.Test.YtfgadegpdknocaaAq04
import Derived.Test.YtfgadegpdknocaaAq03
import Derived.WalkSmall

namespace Go.Proofs.Ytfgadegpdknocaa
open Go.RowKit

set_option maxRecDepth 10000 in
set_option maxHeartbeats 1000000 in
theorem implItemsIvf (cs : List Value) (x : DIvf) (w : World) (h : Lay.tIvf.Reads w cs x) :
    Calls Try.prog 37 #[.agg cs.toArray] w fun e w' => ∃ cs', e = .returned (.agg cs'.toArray) ∧ Lay.tTableResult.OwnIn w' cs' (itemsIvfR x) w.heap.size w'.heap.size ∧ Below w.heap.size w w' := by
  obtain ⟨ac, dc, al, dl, rfl, R0, R1⟩ := open_Ivf h
  have nb1 : Below w.heap.size w (w.alloc (.cells #[.slice ac x.centers.length dc, .slice al x.lists.length dl] 31)) := (Below.refl _ _).alloc (Nat.le_refl _) _
  have nb : Below w.heap.size w ((w.alloc (.cells #[.slice ac x.centers.length dc, .slice al x.lists.length dl] 31)).alloc (.cells #[.int .i64 0, .slice none 0 0] 63)) := nb1.alloc (by simp) _
  have bX : Box w.heap.size #[.slice ac x.centers.length dc, .slice al x.lists.length dl] 31 ((w.alloc (.cells #[.slice ac x.centers.length dc, .slice al x.lists.length dl] 31)).alloc (.cells #[.int .i64 0, .slice none 0 0] 63)) w.heap.size := (newBox (Nat.le_refl _)).grow _
  have bR : Box w.heap.size #[.int .i64 0, .slice none 0 0] 63 ((w.alloc (.cells #[.slice ac x.centers.length dc, .slice al x.lists.length dl] 31)).alloc (.cells #[.int .i64 0, .slice none 0 0] 63)) (w.heap.size + 1) := newBoxAt (by omega) (by simp)
  have L := hide (implTIvf x ac dc al dl _ (R0.later nb) (R1.later nb))
  have c0 := bX.at 0 _ rfl
  have c1 := bX.at 1 _ rfl
  clear h R0 R1 nb1
  go_enter Try.func37, Try.ntmps37
  go_wp2_with fail
  generalize (w.alloc (.cells #[.slice ac x.centers.length dc, .slice al x.lists.length dl] 31)).alloc (.cells #[.int .i64 0, .slice none 0 0] 63) = W0 at *
  refine (unhide L).mono ?_
  rintro e w1 ⟨⟨mv, rfl, m1, m2⟩, hb⟩
  have hW0 := bR.lt
  replace bR := bR.keep hb
  replace nb := nb.trans (hb.mono nb.size)
  clear hb L c0 c1 bX
  by_cases hf : ivfFault x = 0
  · obtain ⟨b, rfl, hbb, hT⟩ := m2 hf
    have L := hide (itemsC b 200 (allIs x.lists) w1 hT (all_right hf))
    have HG : Hid (itemsIvfR x = ⟨0, allIs x.lists⟩) := if_pos hf
    rw [hf]
    have HR := hide bR
    have HB := hide nb
    clear m1 m2 hf hT bR nb
    go_wp2_with fail
    refine (unhide L).mono ?_
    rintro e w3 ⟨v9, rfl, hO, hb⟩
    obtain ⟨ao9, cp9, rfl⟩ := open_sl hO.reads
    have bR := (unhide HR).keep hb
    have z0 : w3.cell? ⟨w.heap.size + 1, 0, none⟩ = some (.int .i64 0) := bR.at 0 _ rfl
    have z1 : w3.cell? ⟨w.heap.size + 1, 1, none⟩ = some (.slice none 0 0) := bR.at 1 _ rfl
    have f0 := bR.soft 0
    have f1 := bR.soft 1
    have l0 := bR.lt
    have HB9 := hide ((unhide HB).trans (hb.mono (unhide HB).size))
    have HO9 := hide (hO.mono (lo' := w.heap.size + 2) (by have := (unhide HR).lt; omega) (Nat.le_refl _))
    clear hO hb bR L
    go_wp2_with fail
    refine bodyPost_ret (v := .agg #[.int .i64 0, .slice ao9 (allIs x.lists).length cp9]) (by simp [results, Try.results37, go_sem, z0, z1]) rfl ?_
    rw [unhide HG]
    have hE : Ext (fun c => c = w.heap.size + 1) w3 ((w3.setCell ⟨w.heap.size + 1, 0, none⟩ (.int .i64 0)).setCell ⟨w.heap.size + 1, 1, none⟩ (.slice ao9 (allIs x.lists).length cp9)) := ((Ext.refl (fun c => c = w.heap.size + 1) _).setCell ⟨w.heap.size + 1, 0, none⟩ _ rfl).setCell ⟨w.heap.size + 1, 1, none⟩ _ rfl
    refine ⟨[.int .i64 0, .slice ao9 (allIs x.lists).length cp9], rfl, own_items (by decide) ?_, ((unhide HB9).setCell (by simp) _).setCell (by simp) _⟩
    exact ((unhide HO9).ext hE (fun c h1 _ h3 => by omega)).mono (by omega) (by simp)
  · obtain rfl := m1 hf
    have hd : (ivfFault x != 0) = true := by simpa using hf
    have HG : Hid (itemsIvfR x = ⟨ivfFault x, []⟩) := if_neg hf
    have z0 : w1.cell? ⟨w.heap.size + 1, 0, none⟩ = some (.int .i64 0) := bR.at 0 _ rfl
    have z1 : w1.cell? ⟨w.heap.size + 1, 1, none⟩ = some (.slice none 0 0) := bR.at 1 _ rfl
    have f0 := bR.soft 0
    have f1 := bR.soft 1
    have l0 := bR.lt
    have HB := hide nb
    clear m1 m2 bR nb hf
    go_wp2_with fail
    refine bodyPost_ret (v := .agg #[.int .i64 (ivfFault x), .slice none 0 0]) (by simp [results, Try.results37, go_sem, z0, z1]) rfl ?_
    rw [unhide HG]
    exact ⟨[.int .i64 (ivfFault x), .slice none 0 0], rfl, own_codeItems (ivfFault_wf x), ((unhide HB).setCell (by simp) _).setCell (by simp) _⟩

end Go.Proofs.Ytfgadegpdknocaa

namespace Go.Proofs.Ytfgadegpdknocaa
open Go.RowKit

theorem inC (v lo hi : Int) (w : World) :
    Calls Try.prog 119 #[.int .i64 v, .int .i64 lo, .int .i64 hi] w fun e w' => e = .returned (.bool (decide (lo ≤ v) && decide (v ≤ hi))) ∧ w' = w := by
  by_cases h1 : lo ≤ v
  · have d1 : decide (lo ≤ v) = true := by simpa using h1
    rw [d1]
    cases d2 : decide (v ≤ hi) <;>
    · go_enter Try.func119, Try.ntmps119
      go_wp2_with fail
      go_ret
      exact ⟨rfl, rfl⟩
  · have d1 : decide (lo ≤ v) = false := by simpa using h1
    rw [d1]
    go_enter Try.func119, Try.ntmps119
    go_wp2_with fail
    go_ret
    exact ⟨rfl, rfl⟩
theorem idC (x : Int) (w : World) : Calls Try.prog 136 #[.int .i64 x] w fun e w' => e = .returned (.bool (decide (1 ≤ x) && decide (x ≤ 999))) ∧ w' = w := by
  go_enter Try.func136, Try.ntmps136
  go_wp2_with fail
  refine (inC x 1 999 _).mono ?_
  rintro e w1 ⟨rfl, rfl⟩
  go_wp2_with fail
  go_ret
  exact ⟨rfl, rfl⟩

end Go.Proofs.Ytfgadegpdknocaa

namespace Go.Proofs.Ytfgadegpdknocaa
open Go.RowKit

set_option maxRecDepth 100000 in
set_option maxHeartbeats 1000000 in
theorem specTab_pos (b off cap : Nat) (xs : List DItem) (w : World) (hn : xs.length ≤ 30) (h : (Lay.sl Lay.tItem).Reads w [.slice (some ⟨b, off, none⟩) xs.length cap] xs) (hbl : b < w.heap.size) :
    Calls Try.prog 110 #[.slice (some ⟨b, off, none⟩) xs.length cap] w fun e w' => e = .returned (.int .i64 (tabFrom none xs)) ∧ Below w.heap.size w w' := by
  generalize hF0 : tabFrom none xs = F0
  have H := hide h
  clear h
  go_enter Try.func110, Try.ntmps110
  go_wp2_with fail
  go_loopw [3] (fun i wr => ∃ k : Nat, k ≤ xs.length ∧ i = .int .i64 k ∧ tabFrom (idAhead xs k) (xs.drop k) = F0 ∧ Below w.heap.size w wr) (fun i _ => xs.length - (intOf i).toNat)
  case atStart => exact ⟨0, Nat.zero_le _, rfl, hF0, Below.refl _ _⟩
  case round =>
    obtain ⟨k, hk, rfl, hF, hB⟩ := hrel
    by_cases hlt : k < xs.length
    · obtain ⟨row, hc, hr⟩ := Lay.row_at (unhide H) hlt
      replace hr := hr.later hB
      obtain ⟨a1, d1, rfl, R1⟩ := open_Item hr
      have c0 : wr.cell? ⟨b, off + k * 2, none⟩ = some (.int .i64 (xs[k]).id) := (hB.cell (p := ⟨b, off + k * 2, none⟩) hbl).trans (hc 0 (by decide))
      have c1 : wr.cell? ⟨b, off + k * 2 + 1, none⟩ = some (.slice a1 (xs[k]).vec.length d1) := (hB.cell (p := ⟨b, off + k * 2 + 1, none⟩) hbl).trans (hc 1 (by decide))
      have HP : Hid (∀ m, k = m + 1 → ∃ z, idAhead xs (m + 1) = some z ∧ wr.cell? ⟨b, off + m * 2, none⟩ = some (.int .i64 z)) := by
        rintro m rfl
        have hm : m < xs.length := by omega
        obtain ⟨row2, hc2, hr2⟩ := Lay.row_at (unhide H) hm
        obtain ⟨a2, d2, rfl, -⟩ := open_Item hr2
        exact ⟨_, idAhead_succ xs m hm, (hB.cell (p := ⟨b, off + m * 2, none⟩) hbl).trans (hc2 0 (by decide))⟩
      rw [tabFrom_step xs k hlt] at hF
      clear hc hr
      generalize hx : xs[k] = x at *
      clear hx
      have hbr : b < wr.heap.size := Nat.lt_of_lt_of_le hbl hB.size
      have I1 := hide (Lay.ints_reads R1)
      have HF := hide hF
      have B1 := hide hB
      clear R1 hF hB
      go_wp2_with fail
      refine (idC x.id _).mono ?_
      rintro e w1 ⟨rfl, rfl⟩
      rw [show (decide (1 ≤ x.id) && decide (x.id ≤ 999)) = idB x.id from rfl]
      cases hid : idB x.id with
      | false =>
        have hF := unhide HF
        rw [hid, if_neg (by simp)] at hF
        have HF2 := hide hF
        clear HF hF hid HP
        go_wp2_with fail
        go_ret
        exact ⟨by rw [← unhide HF2]; rfl, unhide B1⟩
      | true =>
        have hF := unhide HF
        rw [hid, if_pos rfl] at hF
        clear HF hid
        have HF := hide hF
        clear hF
        go_wp2_with fail
        refine (modelFault _ x.vec _ (unhide I1)).mono ?_
        rintro e w1 ⟨rfl, rfl⟩
        by_cases hv : vecFault x.vec = 0
        · rw [hv]
          have hF := unhide HF
          rw [if_pos hv] at hF
          clear HF I1 hv
          have HF := hide hF
          clear hF
          by_cases hk0 : k = 0
          · subst hk0
            have hF := unhide HF
            rw [idAhead_zero, Option.all_none, if_pos rfl] at hF
            have HF3 := hide hF
            clear HF hF HP
            have g0 : decide ((0 : Int) < 0) = false := by decide
            go_wp2_with fail
            go_quiet (fail)
            all_goals go_wp2_with fail
            all_goals exact ⟨⟨0 + 1, by omega, by go_num, unhide HF3, below_drewN (unhide B1) _⟩, by simp [intOf]; omega⟩
          · obtain ⟨m, rfl⟩ : ∃ m, k = m + 1 := ⟨k - 1, by omega⟩
            obtain ⟨z, e1, p0⟩ := unhide HP m rfl
            have hF := unhide HF
            rw [e1, Option.all_some] at hF
            have HF3 := hide hF
            clear HF hF HP e1 hk0
            have g1 : decide ((0 : Int) < (m : Int) + 1) = true := by simp
            have g4 : IntKind.i64.wrap ((m : Int) + 1 - 1) = (m : Int) := by simp only [IntKind.wrap_i64]; omega
            have g9 : IntKind.i64.wrap (m : Int) = (m : Int) := by simp only [IntKind.wrap_i64]; omega
            have g2 : (m : Int) + 1 - 1 = (m : Int) := by omega
            have g3 : (m : Int) < (xs.length : Int) := by omega
            have g5 : (0 : Int) ≤ (m : Int) := by omega
            have g6 : (m : Int) + 1 < (xs.length : Int) := by omega
            have g7 : (0 : Int) ≤ (m : Int) + 1 := by omega
            have g8 : ((m : Int) + 1).toNat = m + 1 := by omega
            cases hq : decide (z < x.id) with
            | true =>
              have hF := unhide HF3
              rw [hq, if_pos rfl] at hF
              have HF4 := hide hF
              have q1 : decide (x.id ≤ z) = false := by simp at hq ⊢; omega
              clear hF HF3 hq
              go_wp2_with fail
              go_quiet (fail)
              all_goals go_wp2_with fail
              all_goals exact ⟨⟨m + 1 + 1, by omega, by go_num, unhide HF4, below_drewN (unhide B1) _⟩, by simp [intOf]; omega⟩
            | false =>
              have hF := unhide HF3
              rw [hq, if_neg (by simp)] at hF
              have HF4 := hide hF
              have q1 : decide (x.id ≤ z) = true := by simp at hq ⊢; omega
              clear hF HF3 hq
              go_wp2_with fail
              go_quiet (fail)
              all_goals go_wp2_with fail
              all_goals go_ret
              all_goals exact ⟨by rw [← unhide HF4]; rfl, below_drewN (unhide B1) _⟩
        · have hF := unhide HF
          rw [if_neg hv] at hF
          have hd : (vecFault x.vec != 0) = true := by simpa using hv
          have HF2 := hide hF
          clear HF hF HP I1 hv
          go_wp2_with fail
          go_ret
          exact ⟨by rw [← unhide HF2]; rfl, unhide B1⟩
    · obtain rfl : k = xs.length := by omega
      rw [List.drop_length] at hF
      have HF := hide hF
      have HB := hide hB
      clear hF hB H
      go_wp2_with fail
      go_ret
      exact ⟨by rw [← unhide HF]; rfl, unhide HB⟩

set_option maxRecDepth 10000 in
/-- l4Fault of the model. -/
theorem specTab (v : Value) (xs : List DItem) (w : World) (h : (Lay.sl Lay.tItem).Reads w [v] xs) :
    Calls Try.prog 110 #[v] w fun e w' => e = .returned (.int .i64 (tableFault xs)) ∧ Below w.heap.size w w' := by
  obtain ⟨ao, cap, rfl⟩ := open_sl h
  by_cases hn : xs.length ≤ 30
  · have e : tableFault xs = tabFrom none xs := by unfold tableFault; rw [if_neg (by omega)]
    rw [e]
    by_cases hp : 0 < xs.length
    · obtain ⟨b, off, rfl, hbl⟩ := Lay.sl_addr h hp
      exact specTab_pos b off cap xs w hn h hbl
    · obtain rfl : xs = [] := List.eq_nil_of_length_eq_zero (by omega)
      clear h e hn hp
      go_enter Try.func110, Try.ntmps110
      go_wp2_with fail
      refine wp_loop_rounds 1 ?_
      rw [rounds_succ]
      go_wp2_with fail
      go_ret
      exact ⟨rfl, Below.refl _ _⟩
  · have e : tableFault xs = 2 := by unfold tableFault; rw [if_pos (by omega)]
    rw [e]
    have hd : decide ((30 : Int) < (xs.length : Int)) = true := by simp; omega
    clear h e
    go_enter Try.func110, Try.ntmps110
    go_wp2_with fail
    go_ret
    exact ⟨rfl, Below.refl _ _⟩

end Go.Proofs.Ytfgadegpdknocaa

namespace Go.Proofs.Ytfgadegpdknocaa
open Go.RowKit

set_option maxRecDepth 100000 in
set_option maxHeartbeats 4000000 in
theorem specLists7 (b : Nat) (x : DIvf) (ac : Option Addr) (dc : Nat) (al : Option Addr) (dl : Nat) (w : World) (h : IvfAt w b x ac dc al dl) (hcf : centersFault x.centers = 0) (hn : x.lists.length ≤ 1000000) :
    Calls Try.prog 104 #[.pointer (some ⟨b, 0, none⟩)] w fun e w' => e = .returned (.int .i64 (listsFrom x.centers 0 x.lists)) ∧ Below w.heap.size w w' := by
  generalize hF0 : listsFrom x.centers 0 x.lists = F0
  have HX := hide h
  have HCF := hide hcf
  clear h hcf
  go_enter Try.func104, Try.ntmps104
  go_wp2_with fail
  go_loopw [3] (fun i wr => ∃ k : Nat, k ≤ x.lists.length ∧ i = .int .i64 k ∧ listsFrom x.centers k (x.lists.drop k) = F0 ∧ Below w.heap.size w wr) (fun i _ => x.lists.length - (intOf i).toNat)
  case atStart => exact ⟨0, Nat.zero_le _, rfl, hF0, Below.refl _ _⟩
  case round =>
    obtain ⟨k, hk, rfl, hF, hB⟩ := hrel
    have c1 := ((unhide HX).later hB).c1
    by_cases hlt : k < x.lists.length
    · obtain ⟨bl, ol, rfl, hbl⟩ := Lay.sl_addr (unhide HX).lists (by omega)
      obtain ⟨row, hc, hr⟩ := Lay.row_at (unhide HX).lists hlt
      obtain ⟨a5, d5, rfl, R5⟩ := open_IvfList hr
      have c2 : wr.cell? ⟨bl, ol + k, none⟩ = some (.slice a5 (x.lists[k]).items.length d5) := (hB.cell (p := ⟨bl, ol + k, none⟩) hbl).trans (one_cell (hc 0 (by decide)))
      rw [listsFrom_step x.centers x.lists k hlt] at hF
      clear hc hr
      generalize hls : x.lists[k] = l at *
      clear hls
      have HR5 := hide R5
      have LT := hide (specTab _ l.items wr (R5.later hB))
      have HF := hide hF
      have HB := hide hB
      clear R5 hF hB
      go_wp2_with fail
      refine (unhide LT).mono ?_
      rintro e w2 ⟨rfl, hb2⟩
      replace HB := hide ((unhide HB).trans (hb2.mono (unhide HB).size))
      clear hb2 LT c1 c2
      by_cases hft : tableFault l.items = 0
      · rw [hft]
        obtain ⟨hl30, hla, -⟩ := tableFault_zero hft
        have HLA := hide hla
        have HFT := hide hft
        clear hla hft
        go_wp2_with fail
        rename World => wo
        go_loopw [6] (fun i wr => ∃ j : Nat, j ≤ l.items.length ∧ i = .int .i64 j ∧ atB x.centers k (l.items.take j) = true ∧ Below w.heap.size w wr) (fun i _ => l.items.length - (intOf i).toNat)
        case atStart => exact ⟨0, Nat.zero_le _, rfl, rfl, unhide HB⟩
        case round =>
          obtain ⟨j, hj, rfl, hat, hBr⟩ := hrel
          clear HB
          by_cases hlj : j < l.items.length
          · obtain ⟨b6, o6, rfl, hb6⟩ := Lay.sl_addr (unhide HR5) (by omega)
            obtain ⟨row, hc, hr⟩ := Lay.row_at (unhide HR5) hlj
            obtain ⟨a7, d7, rfl, R7⟩ := open_Item hr
            have c4 : w.cell? ⟨b6, o6 + j * 2 + 1, none⟩ = some (.slice a7 (l.items[j]).vec.length d7) := hc 1 (by decide)
            have hvx := (unhide HLA l.items[j] (List.getElem_mem hlj)).2
            have hats : atB x.centers k (l.items.take (j + 1)) = (near x.centers (l.items[j]).vec == k) := by
              rw [atB, List.take_succ_eq_append_getElem hlj, List.all_append, show (l.items.take j).all (fun y => near x.centers y.vec == k) = true from hat]
              simp
            have hbad : (near x.centers (l.items[j]).vec == k) = false → atB x.centers k l.items = false := fun hq => by
              rw [atB, List.all_eq_false]
              exact ⟨_, List.getElem_mem hlj, by rw [hq]; simp⟩
            clear hc hr hat
            generalize l.items[j] = y at *
            have LN : Hid (∀ W, Below w.heap.size w W → Calls Try.prog 112 #[.slice ac x.centers.length dc, .slice a7 y.vec.length d7] W fun e w' => e = .returned (.int .i64 (near x.centers y.vec : Nat)) ∧ Below W.heap.size W w') := fun W hW => specNear _ x.centers _ y.vec W ((unhide HX).later hW).cens ((Lay.ints_reads R7).later hW) (unhide HCF) hvx
            have HBr := hide hBr
            have HATS := hide hats
            have HBAD := hide hbad
            clear R7 hvx hBr hats hbad
            generalize near x.centers y.vec = nr at *
            have i1 : (0 : Int) ≤ (j : Int) := by omega
            have i2 : (j : Int) < (l.items.length : Int) := by omega
            by_cases he : nr = k
            · subst he
              have hd : (((nr : Nat) : Int) != ((nr : Nat) : Int)) = false := by simp
              have HAT2 : Hid (atB x.centers nr (l.items.take (j + 1)) = true) := (unhide HATS).trans (by simp)
              clear HATS HBAD
              go_wp2_with fail
              refine wp_region_noPanic ?_
              refine wp_region_held_drew (S := fun w' => Below w.heap.size w w') (by kernel_rfl) (unhide HBr).drew (fun hHeld => ?_)
              generalize wr.drew = wD at hHeld ⊢
              refine wpAnyH_take (i := 0) (oi := { dst := some 35, op := Go.Op.move (Go.Operand.tmp 0), type := 89, pos := "l07_ivf.go:25", after := #[], guard := none }) (v := ?va0_1) rfl (by kernel_rfl) (by kernel_rfl) (by kernel_rfl) (fun _ _ _ h => h) (Or.inl ⟨by rfl, ?ha0_1⟩) hHeld ?ra0_1
              case ha0_1 =>
                intro wS hSw
                (try dsimp only at hSw)
                go_simp
                try with_reducible rfl
              case ra0_1 =>
              simp only [Act.put, List.setIfInBounds_toArray, List.set_cons_zero, List.set_cons_succ]
              refine wpAnyH_take (i := 1) (oi := { dst := some 36, op := Go.Op.nilCheck (Go.Operand.tmp 35), type := 0, pos := "l07_ivf.go:25", after := #[{ on := 0, ground := Go.Ground.data }], guard := none }) (v := ?va1_2) rfl (by kernel_rfl) (by kernel_rfl) (by kernel_rfl) (fun _ _ _ h => h) (Or.inl ⟨by rfl, ?ha1_2⟩) hHeld ?ra1_2
              case ha1_2 =>
                intro wS hSw
                (try dsimp only at hSw)
                go_simp
                try with_reducible rfl
              case ra1_2 =>
              simp only [Act.put, List.setIfInBounds_toArray, List.set_cons_zero, List.set_cons_succ]
              refine wpAnyH_take (i := 2) (oi := { dst := some 37, op := Go.Op.fieldAddr 31 (Go.Operand.tmp 36) 0, type := 0, pos := "l07_ivf.go:25", after := #[{ on := 1, ground := Go.Ground.data }], guard := none }) (v := ?va2_3) rfl (by kernel_rfl) (by kernel_rfl) (by kernel_rfl) (fun _ _ _ h => h) (Or.inl ⟨by rfl, ?ha2_3⟩) hHeld ?ra2_3
              case ha2_3 =>
                intro wS hSw
                (try dsimp only at hSw)
                go_simp
                try with_reducible rfl
              case ra2_3 =>
              simp only [Act.put, List.setIfInBounds_toArray, List.set_cons_zero, List.set_cons_succ]
              refine wpAnyH_take (i := 3) (oi := { dst := some 38, op := Go.Op.load 28 (Go.Operand.tmp 37), type := 28, pos := "l07_ivf.go:25", after := #[{ on := 2, ground := Go.Ground.data }], guard := none }) (v := ?va3_4) rfl (by kernel_rfl) (by kernel_rfl) (by kernel_rfl) (fun _ _ _ h => h) (Or.inl ⟨by rfl, ?ha3_4⟩) hHeld ?ra3_4
              case ha3_4 =>
                intro wS hSw
                have y0 := ((unhide HX).later hSw).c0
                clear hSw
                (try dsimp only at hSw)
                go_simp
                try with_reducible rfl
              case ra3_4 =>
              simp only [Act.put, List.setIfInBounds_toArray, List.set_cons_zero, List.set_cons_succ]
              refine wpAnyH_take (i := 4) (oi := { dst := some 39, op := Go.Op.move (Go.Operand.tmp 4), type := 42, pos := "l07_ivf.go:25", after := #[], guard := none }) (v := ?va4_5) rfl (by kernel_rfl) (by kernel_rfl) (by kernel_rfl) (fun _ _ _ h => h) (Or.inl ⟨by rfl, ?ha4_5⟩) hHeld ?ra4_5
              case ha4_5 =>
                intro wS hSw
                (try dsimp only at hSw)
                go_simp
                try with_reducible rfl
              case ra4_5 =>
              simp only [Act.put, List.setIfInBounds_toArray, List.set_cons_zero, List.set_cons_succ]
              refine wpAnyH_take (i := 5) (oi := { dst := some 40, op := Go.Op.move (Go.Operand.tmp 6), type := 3, pos := "l07_ivf.go:25", after := #[], guard := none }) (v := ?va5_6) rfl (by kernel_rfl) (by kernel_rfl) (by kernel_rfl) (fun _ _ _ h => h) (Or.inl ⟨by rfl, ?ha5_6⟩) hHeld ?ra5_6
              case ha5_6 =>
                intro wS hSw
                (try dsimp only at hSw)
                go_simp
                try with_reducible rfl
              case ra5_6 =>
              simp only [Act.put, List.setIfInBounds_toArray, List.set_cons_zero, List.set_cons_succ]
              refine wpAnyH_take (i := 6) (oi := { dst := some 41, op := Go.Op.indexAddr 42 (Go.Operand.tmp 39) (Go.Operand.tmp 40), type := 0, pos := "l07_ivf.go:25", after := #[{ on := 4, ground := Go.Ground.data }, { on := 5, ground := Go.Ground.data }], guard := none }) (v := ?va6_7) rfl (by kernel_rfl) (by kernel_rfl) (by kernel_rfl) (fun _ _ _ h => h) (Or.inl ⟨by rfl, ?ha6_7⟩) hHeld ?ra6_7
              case ha6_7 =>
                intro wS hSw
                (try dsimp only at hSw)
                go_simp
                try with_reducible rfl
              case ra6_7 =>
              simp only [Act.put, List.setIfInBounds_toArray, List.set_cons_zero, List.set_cons_succ]
              refine wpAnyH_take (i := 7) (oi := { dst := some 42, op := Go.Op.fieldAddr 106 (Go.Operand.tmp 41) 1, type := 0, pos := "l07_ivf.go:25", after := #[{ on := 6, ground := Go.Ground.data }], guard := none }) (v := ?va7_8) rfl (by kernel_rfl) (by kernel_rfl) (by kernel_rfl) (fun _ _ _ h => h) (Or.inl ⟨by rfl, ?ha7_8⟩) hHeld ?ra7_8
              case ha7_8 =>
                intro wS hSw
                (try dsimp only at hSw)
                go_simp
                try with_reducible rfl
              case ra7_8 =>
              simp only [Act.put, List.setIfInBounds_toArray, List.set_cons_zero, List.set_cons_succ]
              refine wpAnyH_take (i := 8) (oi := { dst := some 43, op := Go.Op.load 51 (Go.Operand.tmp 42), type := 51, pos := "l07_ivf.go:25", after := #[{ on := 7, ground := Go.Ground.data }], guard := none }) (v := ?va8_9) rfl (by kernel_rfl) (by kernel_rfl) (by kernel_rfl) (fun _ _ _ h => h) (Or.inl ⟨by rfl, ?ha8_9⟩) hHeld ?ra8_9
              case ha8_9 =>
                intro wS hSw
                have y1 := (hSw.cell (p := ⟨b6, o6 + j * 2 + 1, none⟩) hb6).trans c4
                clear hSw
                (try dsimp only at hSw)
                go_simp
                try with_reducible rfl
              case ra8_9 =>
              simp only [Act.put, List.setIfInBounds_toArray, List.set_cons_zero, List.set_cons_succ]
              refine wpAnyH_take (i := 10) (oi := { dst := some 45, op := Go.Op.move (Go.Operand.tmp 3), type := 3, pos := "l07_ivf.go:25", after := #[], guard := none }) (v := ?va10_10) rfl (by kernel_rfl) (by kernel_rfl) (by kernel_rfl) (fun _ _ _ h => h) (Or.inl ⟨by rfl, ?ha10_10⟩) hHeld ?ra10_10
              case ha10_10 =>
                intro wS hSw
                (try dsimp only at hSw)
                go_simp
                try with_reducible rfl
              case ra10_10 =>
              simp only [Act.put, List.setIfInBounds_toArray, List.set_cons_zero, List.set_cons_succ]
              refine wpAnyH_ready (rs := [9]) (by kernel_rfl) (by simp) ?_
              refine AllReadyH.cons (o := { dst := some 44, op := Go.Op.call { callee := Go.Callee.value (Go.Operand.func 112), args := #[Go.Operand.tmp 38, Go.Operand.tmp 43], argTypes := #[28, 51] }, type := 2, pos := "l07_ivf.go:25", after := #[{ on := 3, ground := Go.Ground.data }, { on := 8, ground := Go.Ground.data }], guard := none }) rfl (fun K hK => ?_) AllReadyH.nil
              go_simp
              go_at_call 112
              refine (unhide LN _ hHeld).mono ?_
              rintro e w3 ⟨rfl, hbw⟩
              try go_wp2_with fail
              refine hK.out _ _ (hHeld.trans (hbw.mono hHeld.size)) (fun hHeld => ?_)
              clear hK K
              try simp only [Act.put, List.setIfInBounds_toArray, List.set_cons_zero, List.set_cons_succ]
              refine wpAnyH_take (i := 11) (oi := { dst := some 46, op := Go.Op.binOp Go.BinOp.neq 2 (Go.Operand.tmp 44) (Go.Operand.tmp 45) 2, type := 4, pos := "l07_ivf.go:25", after := #[{ on := 9, ground := Go.Ground.data }, { on := 10, ground := Go.Ground.data }], guard := none }) (v := ?va11_11) rfl (by kernel_rfl) (by kernel_rfl) (by kernel_rfl) (fun _ _ _ h => h) (Or.inl ⟨by rfl, ?ha11_11⟩) hHeld ?ra11_11
              case ha11_11 =>
                intro wS hSw
                (try dsimp only at hSw)
                go_simp
                try with_reducible rfl
              case ra11_11 =>
              simp only [Act.put, List.setIfInBounds_toArray, List.set_cons_zero, List.set_cons_succ]
              refine wpAnyH_done (by kernel_rfl) ?_ _
              refine NoPanic.normal ?_
              have HB9 := hide hHeld
              clear hHeld
              go_wp2_with fail
              go_roundw
              case rel => exact ⟨j + 1, by omega, by go_num, unhide HAT2, unhide HB9⟩
              case measure => simp [intOf]; omega
            · have hd : (((nr : Nat) : Int) != ((k : Nat) : Int)) = true := by rw [bne_iff_ne]; omega
              have HF1 : Hid (1 = F0) := by
                have := unhide HF
                rw [show listFault x.centers k l.items = 1 by rw [listFault, if_pos (unhide HFT), unhide HBAD (by simpa using he), if_neg (by simp)], if_neg (by decide)] at this
                exact this
              clear HATS HBAD he
              go_wp2_with fail
              refine wp_region_noPanic ?_
              refine wp_region_held_drew (S := fun w' => Below w.heap.size w w') (by kernel_rfl) (unhide HBr).drew (fun hHeld => ?_)
              generalize wr.drew = wD at hHeld ⊢
              refine wpAnyH_take (i := 0) (oi := { dst := some 35, op := Go.Op.move (Go.Operand.tmp 0), type := 89, pos := "l07_ivf.go:25", after := #[], guard := none }) (v := ?vb0_1) rfl (by kernel_rfl) (by kernel_rfl) (by kernel_rfl) (fun _ _ _ h => h) (Or.inl ⟨by rfl, ?hb0_1⟩) hHeld ?rb0_1
              case hb0_1 =>
                intro wS hSw
                (try dsimp only at hSw)
                go_simp
                try with_reducible rfl
              case rb0_1 =>
              simp only [Act.put, List.setIfInBounds_toArray, List.set_cons_zero, List.set_cons_succ]
              refine wpAnyH_take (i := 1) (oi := { dst := some 36, op := Go.Op.nilCheck (Go.Operand.tmp 35), type := 0, pos := "l07_ivf.go:25", after := #[{ on := 0, ground := Go.Ground.data }], guard := none }) (v := ?vb1_2) rfl (by kernel_rfl) (by kernel_rfl) (by kernel_rfl) (fun _ _ _ h => h) (Or.inl ⟨by rfl, ?hb1_2⟩) hHeld ?rb1_2
              case hb1_2 =>
                intro wS hSw
                (try dsimp only at hSw)
                go_simp
                try with_reducible rfl
              case rb1_2 =>
              simp only [Act.put, List.setIfInBounds_toArray, List.set_cons_zero, List.set_cons_succ]
              refine wpAnyH_take (i := 2) (oi := { dst := some 37, op := Go.Op.fieldAddr 31 (Go.Operand.tmp 36) 0, type := 0, pos := "l07_ivf.go:25", after := #[{ on := 1, ground := Go.Ground.data }], guard := none }) (v := ?vb2_3) rfl (by kernel_rfl) (by kernel_rfl) (by kernel_rfl) (fun _ _ _ h => h) (Or.inl ⟨by rfl, ?hb2_3⟩) hHeld ?rb2_3
              case hb2_3 =>
                intro wS hSw
                (try dsimp only at hSw)
                go_simp
                try with_reducible rfl
              case rb2_3 =>
              simp only [Act.put, List.setIfInBounds_toArray, List.set_cons_zero, List.set_cons_succ]
              refine wpAnyH_take (i := 3) (oi := { dst := some 38, op := Go.Op.load 28 (Go.Operand.tmp 37), type := 28, pos := "l07_ivf.go:25", after := #[{ on := 2, ground := Go.Ground.data }], guard := none }) (v := ?vb3_4) rfl (by kernel_rfl) (by kernel_rfl) (by kernel_rfl) (fun _ _ _ h => h) (Or.inl ⟨by rfl, ?hb3_4⟩) hHeld ?rb3_4
              case hb3_4 =>
                intro wS hSw
                have y0 := ((unhide HX).later hSw).c0
                clear hSw
                (try dsimp only at hSw)
                go_simp
                try with_reducible rfl
              case rb3_4 =>
              simp only [Act.put, List.setIfInBounds_toArray, List.set_cons_zero, List.set_cons_succ]
              refine wpAnyH_take (i := 4) (oi := { dst := some 39, op := Go.Op.move (Go.Operand.tmp 4), type := 42, pos := "l07_ivf.go:25", after := #[], guard := none }) (v := ?vb4_5) rfl (by kernel_rfl) (by kernel_rfl) (by kernel_rfl) (fun _ _ _ h => h) (Or.inl ⟨by rfl, ?hb4_5⟩) hHeld ?rb4_5
              case hb4_5 =>
                intro wS hSw
                (try dsimp only at hSw)
                go_simp
                try with_reducible rfl
              case rb4_5 =>
              simp only [Act.put, List.setIfInBounds_toArray, List.set_cons_zero, List.set_cons_succ]
              refine wpAnyH_take (i := 5) (oi := { dst := some 40, op := Go.Op.move (Go.Operand.tmp 6), type := 3, pos := "l07_ivf.go:25", after := #[], guard := none }) (v := ?vb5_6) rfl (by kernel_rfl) (by kernel_rfl) (by kernel_rfl) (fun _ _ _ h => h) (Or.inl ⟨by rfl, ?hb5_6⟩) hHeld ?rb5_6
              case hb5_6 =>
                intro wS hSw
                (try dsimp only at hSw)
                go_simp
                try with_reducible rfl
              case rb5_6 =>
              simp only [Act.put, List.setIfInBounds_toArray, List.set_cons_zero, List.set_cons_succ]
              refine wpAnyH_take (i := 6) (oi := { dst := some 41, op := Go.Op.indexAddr 42 (Go.Operand.tmp 39) (Go.Operand.tmp 40), type := 0, pos := "l07_ivf.go:25", after := #[{ on := 4, ground := Go.Ground.data }, { on := 5, ground := Go.Ground.data }], guard := none }) (v := ?vb6_7) rfl (by kernel_rfl) (by kernel_rfl) (by kernel_rfl) (fun _ _ _ h => h) (Or.inl ⟨by rfl, ?hb6_7⟩) hHeld ?rb6_7
              case hb6_7 =>
                intro wS hSw
                (try dsimp only at hSw)
                go_simp
                try with_reducible rfl
              case rb6_7 =>
              simp only [Act.put, List.setIfInBounds_toArray, List.set_cons_zero, List.set_cons_succ]
              refine wpAnyH_take (i := 7) (oi := { dst := some 42, op := Go.Op.fieldAddr 106 (Go.Operand.tmp 41) 1, type := 0, pos := "l07_ivf.go:25", after := #[{ on := 6, ground := Go.Ground.data }], guard := none }) (v := ?vb7_8) rfl (by kernel_rfl) (by kernel_rfl) (by kernel_rfl) (fun _ _ _ h => h) (Or.inl ⟨by rfl, ?hb7_8⟩) hHeld ?rb7_8
              case hb7_8 =>
                intro wS hSw
                (try dsimp only at hSw)
                go_simp
                try with_reducible rfl
              case rb7_8 =>
              simp only [Act.put, List.setIfInBounds_toArray, List.set_cons_zero, List.set_cons_succ]
              refine wpAnyH_take (i := 8) (oi := { dst := some 43, op := Go.Op.load 51 (Go.Operand.tmp 42), type := 51, pos := "l07_ivf.go:25", after := #[{ on := 7, ground := Go.Ground.data }], guard := none }) (v := ?vb8_9) rfl (by kernel_rfl) (by kernel_rfl) (by kernel_rfl) (fun _ _ _ h => h) (Or.inl ⟨by rfl, ?hb8_9⟩) hHeld ?rb8_9
              case hb8_9 =>
                intro wS hSw
                have y1 := (hSw.cell (p := ⟨b6, o6 + j * 2 + 1, none⟩) hb6).trans c4
                clear hSw
                (try dsimp only at hSw)
                go_simp
                try with_reducible rfl
              case rb8_9 =>
              simp only [Act.put, List.setIfInBounds_toArray, List.set_cons_zero, List.set_cons_succ]
              refine wpAnyH_take (i := 10) (oi := { dst := some 45, op := Go.Op.move (Go.Operand.tmp 3), type := 3, pos := "l07_ivf.go:25", after := #[], guard := none }) (v := ?vb10_10) rfl (by kernel_rfl) (by kernel_rfl) (by kernel_rfl) (fun _ _ _ h => h) (Or.inl ⟨by rfl, ?hb10_10⟩) hHeld ?rb10_10
              case hb10_10 =>
                intro wS hSw
                (try dsimp only at hSw)
                go_simp
                try with_reducible rfl
              case rb10_10 =>
              simp only [Act.put, List.setIfInBounds_toArray, List.set_cons_zero, List.set_cons_succ]
              refine wpAnyH_ready (rs := [9]) (by kernel_rfl) (by simp) ?_
              refine AllReadyH.cons (o := { dst := some 44, op := Go.Op.call { callee := Go.Callee.value (Go.Operand.func 112), args := #[Go.Operand.tmp 38, Go.Operand.tmp 43], argTypes := #[28, 51] }, type := 2, pos := "l07_ivf.go:25", after := #[{ on := 3, ground := Go.Ground.data }, { on := 8, ground := Go.Ground.data }], guard := none }) rfl (fun K hK => ?_) AllReadyH.nil
              go_simp
              go_at_call 112
              refine (unhide LN _ hHeld).mono ?_
              rintro e w3 ⟨rfl, hbw⟩
              try go_wp2_with fail
              refine hK.out _ _ (hHeld.trans (hbw.mono hHeld.size)) (fun hHeld => ?_)
              clear hK K
              try simp only [Act.put, List.setIfInBounds_toArray, List.set_cons_zero, List.set_cons_succ]
              refine wpAnyH_take (i := 11) (oi := { dst := some 46, op := Go.Op.binOp Go.BinOp.neq 2 (Go.Operand.tmp 44) (Go.Operand.tmp 45) 2, type := 4, pos := "l07_ivf.go:25", after := #[{ on := 9, ground := Go.Ground.data }, { on := 10, ground := Go.Ground.data }], guard := none }) (v := ?vb11_11) rfl (by kernel_rfl) (by kernel_rfl) (by kernel_rfl) (fun _ _ _ h => h) (Or.inl ⟨by rfl, ?hb11_11⟩) hHeld ?rb11_11
              case hb11_11 =>
                intro wS hSw
                (try dsimp only at hSw)
                go_simp
                try with_reducible rfl
              case rb11_11 =>
              simp only [Act.put, List.setIfInBounds_toArray, List.set_cons_zero, List.set_cons_succ]
              refine wpAnyH_done (by kernel_rfl) ?_ _
              refine NoPanic.normal ?_
              have HB9 := hide hHeld
              clear hHeld
              go_wp2_with fail
              go_ret
              exact ⟨by rw [← unhide HF1]; rfl, unhide HB9⟩
          · obtain rfl : j = l.items.length := by omega
            rw [List.take_length] at hat
            have HF2 : Hid (listsFrom x.centers (k + 1) (x.lists.drop (k + 1)) = F0) := by
              have := unhide HF
              rw [if_pos (show listFault x.centers k l.items = 0 by rw [listFault, if_pos (unhide HFT), if_pos hat])] at this
              exact this
            have HB9 := hide hBr
            clear hBr hat
            go_wp2_with fail
            go_roundw
            case rel => exact ⟨k + 1, by omega, by go_num, unhide HF2, unhide HB9⟩
            case measure => simp [intOf]; omega
      · have hd : (tableFault l.items != 0) = true := by simpa using hft
        have HF2 : Hid (tableFault l.items = F0) := by
          have := unhide HF
          rw [show listFault x.centers k l.items = tableFault l.items from if_neg hft, if_neg hft] at this
          exact this
        clear hft
        go_wp2_with fail
        go_ret
        exact ⟨by rw [← unhide HF2]; rfl, unhide HB⟩
    · obtain rfl : k = x.lists.length := by omega
      rw [List.drop_length] at hF
      have HF := hide hF
      have HB := hide hB
      clear hF hB
      go_wp2_with fail
      go_ret
      exact ⟨by rw [← unhide HF]; rfl, unhide HB⟩

end Go.Proofs.Ytfgadegpdknocaa

namespace Go.Proofs.Ytfgadegpdknocaa
open Go.RowKit

set_option maxRecDepth 100000 in
set_option maxHeartbeats 4000000 in
theorem specItems7 (b : Nat) (x : DIvf) (ac : Option Addr) (dc : Nat) (al : Option Addr) (dl : Nat) (w : World) (h : IvfAt w b x ac dc al dl) (hl : ∀ l ∈ x.lists, tableFault l.items = 0) (hn : x.lists.length ≤ 6) :
    Calls Try.prog 78 #[.pointer (some ⟨b, 0, none⟩)] w fun e w' => ∃ v', e = .returned v' ∧ (Lay.sl Lay.tItem).LiesIn w' [v'] (allIs x.lists) w.heap.size w'.heap.size ∧ Below w.heap.size w w' := by
  have HX := hide h
  have HL := hide hl
  have HB0 : Hid (Below w.heap.size w (w.alloc (.cells #[] 106))) := (Below.refl _ _).alloc (Nat.le_refl _) _
  have HCN : Hid (∀ k, k ≤ x.lists.length → (allIs (x.lists.take k)).length ≤ 180) := fun k hk => by
    have h1 := allIs_len (x.lists.take k)
    have h2 := countIs_le (ls := x.lists.take k) (fun l hm => (tableFault_zero (hl l (List.mem_of_mem_take hm))).1)
    have h3 : (x.lists.take k).length ≤ 6 := by simp; omega
    omega
  have HVL : Hid (∀ k y, y ∈ allIs (x.lists.take k) → y.vec.length ≤ 100000000) := fun k y hy => by
    obtain ⟨l, hm, hy⟩ := allIs_mem hy
    have := ((tableFault_zero (hl l (List.mem_of_mem_take hm))).2.1 y hy).2
    have := (vecFault_zero this).1
    omega
  clear h hl
  go_enter Try.func78, Try.ntmps78
  go_wp2_with fail
  go_loopw [3, 4] (fun u i wr => ∃ k : Nat, k ≤ x.lists.length ∧ i = .int .i64 k ∧ (Lay.sl Lay.tItem).LiesIn wr [u] (allIs (x.lists.take k)) w.heap.size wr.heap.size ∧ Below w.heap.size w wr) (fun _ i _ => x.lists.length - (intOf i).toNat)
  case atStart => exact ⟨0, Nat.zero_le _, rfl, ⟨[], ⟨some ⟨w.heap.size, 0, none⟩, 0, rfl, by simp [allIs], Or.inl ⟨rfl, rfl⟩⟩, by simp⟩, unhide HB0⟩
  case round =>
    obtain ⟨k, hk, rfl, hO, hB⟩ := hrel
    clear HB0
    have c1 := ((unhide HX).later hB).c1
    by_cases hlt : k < x.lists.length
    · have HLz := hide ((unhide HX).later hB).lists
      obtain ⟨bl, ol, rfl, hbl⟩ := Lay.sl_addr (unhide HLz) (by omega)
      obtain ⟨row, hc, hr⟩ := Lay.row_at (unhide HLz) hlt
      obtain ⟨a5, d5, rfl, R5⟩ := open_IvfList hr
      have c2 : wr.cell? ⟨bl, ol + k, none⟩ = some (.slice a5 (x.lists[k]).items.length d5) := one_cell (hc 0 (by decide))
      have hft := unhide HL x.lists[k] (List.getElem_mem hlt)
      have HSTEP := hide (allIs_step x.lists k hlt)
      have hcn := unhide HCN k hk
      have hvl := unhide HVL k
      have hris := allIs_rising (x.lists.take k)
      have HBL := hide c1
      clear hc hr
      generalize hls : x.lists[k] = l at *
      clear hls
      generalize allIs (x.lists.take k) = out at *
      obtain ⟨hl30, hla, -⟩ := tableFault_zero hft
      have HLA := hide hla
      have HRIS := hide hris
      have HVO := hide hvl
      have HR5 := hide R5
      have HO := hide hO
      have HB := hide hB
      have HC2 := hide c2
      clear hO hB hla hris hvl R5 hft HLz
      rename World => wo
      go_wp2_with fail
      clear c1 c2
      go_loopw [3, 5] (fun u i wr => ∃ j : Nat, j ≤ l.items.length ∧ i = .int .i64 j ∧ (Lay.sl Lay.tItem).LiesIn wr [u] (gatherI out (l.items.take j)) w.heap.size wr.heap.size ∧ Below wo.heap.size wo wr) (fun _ i _ => l.items.length - (intOf i).toNat)
      case atStart => exact ⟨0, Nat.zero_le _, rfl, unhide HO, Below.refl _ _⟩
      case round =>
        obtain ⟨j, hj, rfl, hO, hB⟩ := hrel
        clear HO
        have c1 : wr.cell? ⟨b, 1, none⟩ = some (.slice (some ⟨bl, ol, none⟩) x.lists.length dl) := cell_keep hB (unhide HBL)
        have c2 : wr.cell? ⟨bl, ol + k, none⟩ = some (.slice a5 l.items.length d5) := cell_keep hB (unhide HC2)
        by_cases hlj : j < l.items.length
        · have R5 := (unhide HR5).later hB
          obtain ⟨b6, o6, rfl, hb6⟩ := Lay.sl_addr R5 (by omega)
          obtain ⟨row, hc, hr⟩ := Lay.row_at R5 hlj
          obtain ⟨a7, d7, rfl, R7⟩ := open_Item hr
          have c3 : wr.cell? ⟨b6, o6 + j * 2, none⟩ = some (.int .i64 (l.items[j]).id) := hc 0 (by decide)
          have c4 : wr.cell? ⟨b6, o6 + j * 2 + 1, none⟩ = some (.slice a7 (l.items[j]).vec.length d7) := hc 1 (by decide)
          obtain ⟨hid, hvx⟩ := unhide HLA l.items[j] (List.getElem_mem hlj)
          have HGS := hide (gatherI_step out l.items j hlj)
          have hgl := gatherI_len (unhide HRIS) (l.items.take j)
          have hgr := gatherI_rising (unhide HRIS) (l.items.take j)
          have hgv : ∀ y ∈ gatherI out (l.items.take j), y.vec.length ≤ 100000000 := fun y hy => by
            rcases gatherI_mem hy with h1 | h1
            · exact unhide HVO y h1
            · have := (vecFault_zero (unhide HLA y (List.mem_of_mem_take h1)).2).1
              omega
          have hgl2 : (gatherI out (l.items.take j)).length ≤ 1000000 := by
            have : (l.items.take j).length ≤ 30 := by simp; omega
            omega
          have hv3 := (vecFault_zero hvx).1
          have hw : (Lit.int .i64 (l.items[j]).id).wf = true := by
            simp only [idB, Bool.and_eq_true, decide_eq_true_eq] at hid
            exact wf_of_bd (by omega)
          clear hc hr hgl
          generalize l.items[j] = y at *
          generalize gatherI out (l.items.take j) = cur at *
          have nb : Below wr.heap.size wr (wr.alloc (.cells #[.int .i64 y.id, .slice a7 y.vec.length d7] 106)) := (Below.refl _ _).alloc (Nat.le_refl _) _
          have LS := hide (specSet _ cur y.id y.vec (.slice a7 y.vec.length d7) true _ (hO.reads.later nb) (R7.later nb) hw hgl2 hgv (by omega))
          rw [setM_put hgr] at LS
          have HBn := hide (hB.trans (nb.mono hB.size))
          have hws : w.heap.size ≤ wr.heap.size := Nat.le_trans (unhide HB).size hB.size
          clear hO hB R5 R7 nb hgr hgv hgl2 hid hvx hv3 hw
          go_wp2_with fail
          refine (unhide LS).mono ?_
          rintro e w9 ⟨v9, rfl, hO9, hb9⟩
          have HO9 := hide (hO9.mono (lo' := w.heap.size) (by simp; omega) (Nat.le_refl _))
          have HB9 := hide ((unhide HBn).trans (hb9.mono (unhide HBn).size))
          clear hO9 hb9 LS HBn c1 c2 c3 c4
          go_wp2_with fail
          go_roundw
          case rel => exact ⟨j + 1, by omega, by go_num, by rw [unhide HGS]; exact unhide HO9, unhide HB9⟩
          case measure => simp [intOf]; omega
        · obtain rfl : j = l.items.length := by omega
          rw [List.take_length] at hO
          have HO9 := hide hO
          have HB9 := hide ((unhide HB).trans (hB.mono (unhide HB).size))
          clear hO hB
          go_wp2_with fail
          go_roundw
          case rel => exact ⟨k + 1, by omega, by go_num, by rw [unhide HSTEP]; exact unhide HO9, unhide HB9⟩
          case measure => simp [intOf]; omega
    · obtain rfl : k = x.lists.length := by omega
      rw [List.take_length] at hO
      have HO := hide hO
      have HB := hide hB
      clear hO hB
      go_wp2_with fail
      go_ret
      exact ⟨_, rfl, unhide HO, unhide HB⟩

end Go.Proofs.Ytfgadegpdknocaa

namespace Go.Proofs.Ytfgadegpdknocaa
open Go.RowKit

set_option maxRecDepth 100000 in
set_option maxHeartbeats 4000000 in
theorem specFault7 (b : Nat) (x : DIvf) (ac : Option Addr) (dc : Nat) (al : Option Addr) (dl : Nat) (w : World) (h : IvfAt w b x ac dc al dl) :
    Calls Try.prog 55 #[.pointer (some ⟨b, 0, none⟩)] w fun e w' => e = .returned (.int .i64 (ivfFault x)) ∧ Below w.heap.size w w' := by
  generalize hF0 : ivfFault x = F0
  have HF0 := hide hF0
  have HX := hide h
  have c0 := h.c0
  have c1 := h.c1
  have L1 := hide (specCen _ x.centers w h.cens)
  clear h hF0
  go_enter Try.func55, Try.ntmps55
  go_wp2_with fail
  refine (unhide L1).mono ?_
  rintro e w1 ⟨rfl, hb1⟩
  have HX1 := hide ((unhide HX).later hb1)
  have HB := hide hb1
  clear c0 c1 L1 hb1
  by_cases hcf : centersFault x.centers = 0
  · rw [hcf]
    have c0 := (unhide HX1).c0
    have c1 := (unhide HX1).c1
    have HCF := hide hcf
    by_cases hne : x.lists.length = x.centers.length
    · have hd : ((x.lists.length : Int) != (x.centers.length : Int)) = false := by rw [hne]; simp
      have hn6 : x.lists.length ≤ 6 := by rw [hne]; exact (centersFault_zero hcf).1.2
      have HNE : Hid (x.lists.length = x.centers.length) := hne
      clear hcf hne
      go_wp2_with fail
      go_quiet (fail)
      clear c0 c1 hd
      go_wp2_with fail
      refine (specLists7 b x ac dc al dl _ ((unhide HX1).later (below_drawn (Below.refl _ _) _)) (unhide HCF) (by omega)).mono ?_
      rintro e w3 ⟨rfl, hb3⟩
      have HX3 := hide (((unhide HX1).later (below_drawn (Below.refl _ _) _)).later hb3)
      replace HB := hide ((below_drawn (unhide HB) _).trans (hb3.mono (unhide HB).size))
      clear hb3 HX1
      by_cases hlf : listsFrom x.centers 0 x.lists = 0
      · rw [hlf]
        have HLF := hide hlf
        have HTF := hide (list_facts (x := x) hlf)
        clear hlf
        have HCB : Hid (∀ k, countIs (x.lists.take k) ≤ 180) := fun k => by
          have h1 := countIs_le (ls := x.lists.take k) (fun l hm => (tableFault_zero (unhide HTF l (List.mem_of_mem_take hm))).1)
          have h2 : (x.lists.take k).length ≤ 6 := by simp; omega
          omega
        go_wp2_with fail
        go_loopw [5, 6] (fun n i wr => ∃ k : Nat, k ≤ x.lists.length ∧ i = .int .i64 k ∧ n = .int .i64 (countIs (x.lists.take k) : Nat) ∧ wr = w3) (fun _ i _ => x.lists.length - (intOf i).toNat)
        case atStart => exact ⟨0, Nat.zero_le _, rfl, rfl, rfl⟩
        case round =>
          obtain ⟨k, hk, rfl, rfl, rfl⟩ := hrel
          have c1 := (unhide HX3).c1
          by_cases hlt : k < x.lists.length
          · obtain ⟨bl, ol, rfl, hbl⟩ := Lay.sl_addr (unhide HX3).lists (by omega)
            obtain ⟨row, hc, hr⟩ := Lay.row_at (unhide HX3).lists hlt
            obtain ⟨a5, d5, rfl, -⟩ := open_IvfList hr
            have c2 : wr.cell? ⟨bl, ol + k, none⟩ = some (.slice a5 (x.lists[k]).items.length d5) := one_cell (hc 0 (by decide))
            have hstep := countIs_take x.lists k hlt
            have hcb := unhide HCB (k + 1)
            rw [hstep] at hcb
            have HST := hide hstep
            clear hc hr hstep
            generalize (x.lists[k]).items.length = m at *
            generalize countIs (x.lists.take k) = n at *
            go_wp2_with fail
            go_roundw
            case rel => exact ⟨k + 1, by omega, by go_num, by rw [unhide HST]; go_num, by simp⟩
            case measure => simp [intOf]; omega
          · obtain rfl : k = x.lists.length := by omega
            rw [List.take_length]
            have LI := hide (specItems7 b x ac dc al dl wr (unhide HX3) (unhide HTF) hn6)
            have hc180 := unhide HCB x.lists.length
            rw [List.take_length] at hc180
            go_wp2_with fail
            clear c1
            refine (unhide LI).mono ?_
            rintro e w5 ⟨v5, rfl, hO5, hb5⟩
            obtain ⟨a5, d5, rfl⟩ := open_sl hO5.reads
            replace HB := hide ((unhide HB).trans (hb5.mono (unhide HB).size))
            clear hO5 hb5 LI
            by_cases hal : (allIs x.lists).length = countIs x.lists
            · have hd2 : (((allIs x.lists).length : Int) != ((countIs x.lists : Nat) : Int)) = false := by rw [hal]; simp
              by_cases h30 : countIs x.lists ≤ 30
              · have hd3 : decide ((30 : Int) < ((countIs x.lists : Nat) : Int)) = false := by simp; omega
                have HF1 : Hid (0 = F0) := by
                  have := unhide HF0
                  rw [ivfFault, if_pos (unhide HCF), if_pos (unhide HNE), if_pos (unhide HLF), if_pos hal, if_pos h30] at this
                  exact this
                clear hal h30
                go_wp2_with fail
                go_ret
                exact ⟨by rw [← unhide HF1]; rfl, unhide HB⟩
              · have hd3 : decide ((30 : Int) < ((countIs x.lists : Nat) : Int)) = true := by simp; omega
                have HF1 : Hid (2 = F0) := by
                  have := unhide HF0
                  rw [ivfFault, if_pos (unhide HCF), if_pos (unhide HNE), if_pos (unhide HLF), if_pos hal, if_neg h30] at this
                  exact this
                clear hal h30
                go_wp2_with fail
                go_ret
                exact ⟨by rw [← unhide HF1]; rfl, unhide HB⟩
            · have hd2 : (((allIs x.lists).length : Int) != ((countIs x.lists : Nat) : Int)) = true := by rw [bne_iff_ne]; omega
              have HF1 : Hid (6 = F0) := by
                have := unhide HF0
                rw [ivfFault, if_pos (unhide HCF), if_pos (unhide HNE), if_pos (unhide HLF), if_neg hal] at this
                exact this
              clear hal
              go_wp2_with fail
              go_ret
              exact ⟨by rw [← unhide HF1]; rfl, unhide HB⟩
      · have hd2 : (listsFrom x.centers 0 x.lists != 0) = true := by simpa using hlf
        have HF1 : Hid (listsFrom x.centers 0 x.lists = F0) := by
          have := unhide HF0
          rw [ivfFault, if_pos (unhide HCF), if_pos (unhide HNE), if_neg hlf] at this
          exact this
        clear hlf
        go_wp2_with fail
        go_ret
        exact ⟨by rw [← unhide HF1]; rfl, unhide HB⟩
    · have hd : ((x.lists.length : Int) != (x.centers.length : Int)) = true := by rw [bne_iff_ne]; omega
      have HF1 : Hid (1 = F0) := by
        have := unhide HF0
        rw [ivfFault, if_pos hcf, if_neg hne] at this
        exact this
      clear hcf hne HCF
      go_wp2_with fail
      go_quiet (fail)
      go_wp2_with fail
      go_ret
      exact ⟨by rw [← unhide HF1]; rfl, below_drewN (unhide HB) _⟩
  · have hd : (centersFault x.centers != 0) = true := by simpa using hcf
    have HF1 : Hid (centersFault x.centers = F0) := by
      have := unhide HF0
      rw [ivfFault, if_neg hcf] at this
      exact this
    clear hcf
    go_wp2_with fail
    go_ret
    exact ⟨by rw [← unhide HF1]; rfl, unhide HB⟩

end Go.Proofs.Ytfgadegpdknocaa

namespace Go.Proofs.Ytfgadegpdknocaa
open Go.RowKit

set_option maxRecDepth 10000 in
theorem specAsk7 (b : Nat) (x : DIvf) (ac : Option Addr) (dc : Nat) (al : Option Addr) (dl : Nat) (id : Int) (w : World) (h : IvfAt w b x ac dc al dl) :
    Calls Try.prog 95 #[.pointer (some ⟨b, 0, none⟩), .int .i64 id] w fun e w' => e = .returned (.int .i64 (askedI x id)) ∧ Below w.heap.size w w' := by
  have L := hide (specFault7 b x ac dc al dl w h)
  clear h
  go_enter Try.func95, Try.ntmps95
  go_wp2_with fail
  refine (unhide L).mono ?_
  rintro e w1 ⟨rfl, hb⟩
  have HB := hide hb
  clear hb L
  by_cases hf : ivfFault x = 0
  · rw [hf]
    have e0 : askedI x id = if idB id then 0 else 3 := by rw [askedI, if_pos hf]
    clear hf
    go_wp2_with fail
    refine (idC id _).mono ?_
    rintro e w1 ⟨rfl, rfl⟩
    rw [show (decide (1 ≤ id) && decide (id ≤ 999)) = idB id from rfl]
    cases hid : idB id with
    | false =>
      have HE : Hid (askedI x id = 3) := by show askedI x id = 3; rw [e0, hid]; rfl
      clear e0 hid
      go_wp2_with fail
      go_ret
      exact ⟨by rw [unhide HE]; rfl, unhide HB⟩
    | true =>
      have HE : Hid (askedI x id = 0) := by show askedI x id = 0; rw [e0, hid]; rfl
      clear e0 hid
      go_wp2_with fail
      go_ret
      exact ⟨by rw [unhide HE]; rfl, unhide HB⟩
  · have HE : Hid (askedI x id = ivfFault x) := by show askedI x id = ivfFault x; rw [askedI, if_neg hf]
    have hd : (ivfFault x != 0) = true := by simpa using hf
    clear hf
    go_wp2_with fail
    go_ret
    exact ⟨by rw [unhide HE]; rfl, unhide HB⟩

end Go.Proofs.Ytfgadegpdknocaa

namespace Go.Proofs.Ytfgadegpdknocaa
open Go.RowKit

theorem read_ivfR {w : World} {c : Int} {a1 : Option Addr} {d1 : Nat} {a2 : Option Addr} {d2 : Nat} {x : DIvf} (hc : (Lit.int .i64 c).wf = true) (h : Lay.tIvf.Reads w [.slice a1 x.centers.length d1, .slice a2 x.lists.length d2] x) : Lay.tIvfResult.Reads w [.int .i64 c, .slice a1 x.centers.length d1, .slice a2 x.lists.length d2] ⟨c, x⟩ := by
  obtain ⟨bl, h⟩ := h
  exact ⟨[] ++ bl, [.int .i64 c], [.slice a1 x.centers.length d1, .slice a2 x.lists.length d2], [], bl, rfl, rfl, ⟨rfl, hc, rfl⟩, h⟩
theorem read_ivfCode {w : World} {c : Int} (hc : (Lit.int .i64 c).wf = true) : Lay.tIvfResult.Reads w [.int .i64 c, .slice none 0 0, .slice none 0 0] ⟨c, emptyI⟩ :=
  read_ivfR (x := emptyI) hc ⟨[], lies_Ivf.2 ⟨none, 0, [], none, 0, [], rfl, rfl, ⟨none, 0, rfl, by simp [emptyI], Or.inl ⟨rfl, rfl⟩⟩, ⟨none, 0, rfl, by simp [emptyI], Or.inl ⟨rfl, rfl⟩⟩⟩⟩

end Go.Proofs.Ytfgadegpdknocaa

namespace Go.Proofs.Ytfgadegpdknocaa
open Go.RowKit

def askF (xs : List DItem) (id : Int) : Int := if tableFault xs = 0 then (if idB id then 0 else 3) else tableFault xs
theorem find_first {xs : List DItem} {id : Int} (k : Nat) (hk : k < xs.length) (h : ∀ j (hj : j < xs.length), j < k → xs[j].id ≠ id) (e : xs[k].id = id) : xs.find? (fun x => x.id == id) = some xs[k] := by
  induction xs generalizing k with
  | nil => simp at hk
  | cons x xs ih =>
    match k with
    | 0 => rw [List.find?_cons_of_pos (by simpa using e)]; rfl
    | k + 1 =>
      have h0 : x.id ≠ id := h 0 (by simp) (by omega)
      rw [List.find?_cons_of_neg (by simpa using h0)]
      exact ih k (by simpa using hk) (fun j hj hjk => h (j + 1) (by simpa using hj) (by omega)) (by simpa using e)
theorem has_none {xs : List DItem} {id : Int} (h : ∀ j (hj : j < xs.length), xs[j].id ≠ id) : hasI xs id = false := by
  simp only [hasI, List.any_eq_false, beq_iff_eq]
  intro x hx
  obtain ⟨j, hj, rfl⟩ := List.getElem_of_mem hx
  exact h j hj

/-- Where an item is: its place, or -1. -/
def AtI (xs : List DItem) (id r : Int) : Prop := (r = -1 ∧ hasI xs id = false) ∨ ∃ (k : Nat) (h : k < xs.length), r = k ∧ xs.find? (fun x => x.id == id) = some xs[k]

set_option maxRecDepth 10000 in
set_option maxHeartbeats 1000000 in
theorem specAt_pos (b off cap : Nat) (xs : List DItem) (id : Int) (w : World) (h : (Lay.sl Lay.tItem).Reads w [.slice (some ⟨b, off, none⟩) xs.length cap] xs) :
    Calls Try.prog 96 #[.slice (some ⟨b, off, none⟩) xs.length cap, .int .i64 id] w fun e w' => (∃ r, e = .returned (.int .i64 r) ∧ AtI xs id r) ∧ w' = w := by
  have hbig := h.big
  have H := hide h
  clear h
  go_enter Try.func96, Try.ntmps96
  go_wp2_with fail
  go_loop [5] (fun i => ∃ k : Nat, k ≤ xs.length ∧ i = .int .i64 k ∧ ∀ j (hj : j < xs.length), j < k → xs[j].id ≠ id) (fun i => xs.length - (intOf i).toNat)
  case atStart => exact ⟨0, Nat.zero_le _, rfl, fun j _ hj => by omega⟩
  case round =>
    obtain ⟨k, hk, rfl, hq⟩ := hrel
    have HQ := hide hq
    clear hq
    by_cases hlt : k < xs.length
    · obtain ⟨row, hc, hr⟩ := Lay.row_at (unhide H) hlt
      obtain ⟨a1, d1, rfl, -⟩ := open_Item hr
      have c0 : w.cell? ⟨b, off + k * 2, none⟩ = some (.int .i64 (xs[k]).id) := hc 0 (by decide)
      clear hc hr
      by_cases e : xs[k].id = id
      · have HA : Hid (AtI xs id k) := Or.inr ⟨k, hlt, rfl, find_first k hlt (unhide HQ) e⟩
        have hd : (xs[k].id == id) = true := by simpa using e
        clear e
        go_wp2_with fail
        go_ret
        exact ⟨⟨_, rfl, unhide HA⟩, rfl⟩
      · have hd : (xs[k].id == id) = false := by simpa using e
        have HE := hide e
        clear e
        go_wp2_with fail
        go_round
        case rel =>
          refine ⟨k + 1, by omega, by go_num, fun j hj hjk => ?_⟩
          by_cases hjk2 : j < k
          · exact unhide HQ j hj hjk2
          · obtain rfl : j = k := by omega
            exact unhide HE
        case measure => simp [intOf]; omega
    · have HA : Hid (AtI xs id (-1)) := Or.inl ⟨rfl, has_none fun j hj => unhide HQ j hj (by omega)⟩
      clear H HQ
      go_wp2_with fail
      go_ret
      exact ⟨⟨_, rfl, unhide HA⟩, rfl⟩

/-- l4At of the model. -/
theorem specAt (v : Value) (xs : List DItem) (id : Int) (w : World) (h : (Lay.sl Lay.tItem).Reads w [v] xs) :
    Calls Try.prog 96 #[v, .int .i64 id] w fun e w' => (∃ r, e = .returned (.int .i64 r) ∧ AtI xs id r) ∧ w' = w := by
  obtain ⟨ao, cap, rfl⟩ := open_sl h
  by_cases hp : 0 < xs.length
  · obtain ⟨b, off, rfl, hbl⟩ := Lay.sl_addr h hp
    exact specAt_pos b off cap xs id w h
  · obtain rfl : xs = [] := List.eq_nil_of_length_eq_zero (by omega)
    clear h hp
    go_enter Try.func96, Try.ntmps96
    go_wp2_with fail
    refine wp_loop_rounds 1 ?_
    rw [rounds_succ]
    go_wp2_with fail
    go_ret
    exact ⟨⟨_, rfl, Or.inl ⟨rfl, rfl⟩⟩, rfl⟩

end Go.Proofs.Ytfgadegpdknocaa

namespace Go.Proofs.Ytfgadegpdknocaa
open Go.RowKit

set_option maxRecDepth 100000 in
set_option maxHeartbeats 8000000 in
theorem specAddIvf (cs : List Value) (x : DIvf) (id : Int) (vv : Value) (vec : List Int) (w : World) (h : Lay.tIvf.Reads w cs x) (hv : (Lay.sl Lay.int).Reads w [vv] vec) :
    Calls Try.prog 49 #[.agg cs.toArray, .int .i64 id, vv] w fun e w' => ∃ cs', e = .returned (.agg cs'.toArray) ∧ Lay.tIvfResult.Reads w' cs' (addIvfR x id vec) ∧ Below w.heap.size w w' := by
  obtain ⟨ac, dc, al, dl, rfl, R0, R1⟩ := open_Ivf h
  have HB0 : Below w.heap.size w ((w.alloc (.cells #[.slice ac x.centers.length dc, .slice al x.lists.length dl] 31)).alloc (.cells #[.int .i64 0, .slice none 0 0, .slice none 0 0] 39)) := ((Below.refl _ _).alloc (Nat.le_refl _) _).alloc (by simp) _
  have bx : Box w.heap.size #[.slice ac x.centers.length dc, .slice al x.lists.length dl] 31 ((w.alloc (.cells #[.slice ac x.centers.length dc, .slice al x.lists.length dl] 31)).alloc (.cells #[.int .i64 0, .slice none 0 0, .slice none 0 0] 39)) w.heap.size := (newBox (Nat.le_refl _)).grow _
  have bR : Box w.heap.size #[.int .i64 0, .slice none 0 0, .slice none 0 0] 39 ((w.alloc (.cells #[.slice ac x.centers.length dc, .slice al x.lists.length dl] 31)).alloc (.cells #[.int .i64 0, .slice none 0 0, .slice none 0 0] 39)) (w.heap.size + 1) := newBoxAt (by omega) (by simp)
  have hA := ivfAt_box bx (R0.later HB0) (R1.later HB0)
  have hv0 := hv.later HB0
  obtain ⟨av, dv, rfl⟩ := open_sl hv
  clear hv
  have HR0 := hide R0.liesIn
  have HR1 := hide R1.liesIn
  clear h R0 R1 bx
  go_enter Try.func49, Try.ntmps49
  go_wp2_with fail
  generalize (w.alloc (.cells #[.slice ac x.centers.length dc, .slice al x.lists.length dl] 31)).alloc (.cells #[.int .i64 0, .slice none 0 0, .slice none 0 0] 39) = W0 at *
  refine (specAsk7 w.heap.size x ac dc al dl id W0 hA).mono ?_
  rintro e w1 ⟨rfl, hb⟩
  have HA := hide (hA.later hb)
  have HV := hide (hv0.later hb)
  clear hv0
  replace bR := bR.keep hb
  replace HB0 := HB0.trans (hb.mono HB0.size)
  have z0 : w1.cell? ⟨w.heap.size + 1, 0, none⟩ = some (.int .i64 0) := bR.at 0 _ rfl
  have z1 : w1.cell? ⟨w.heap.size + 1, 1, none⟩ = some (.slice none 0 0) := bR.at 1 _ rfl
  have z2 : w1.cell? ⟨w.heap.size + 1, 2, none⟩ = some (.slice none 0 0) := bR.at 2 _ rfl
  have f0 := bR.soft 0
  have f1 := bR.soft 1
  have f2 := bR.soft 2
  have l0 := bR.lt
  have HB := hide HB0
  have HR := hide bR
  have KA : Hid (∀ W, Below (w.heap.size + 1) w1 W → IvfAt W w.heap.size x ac dc al dl) := fun W hW => ⟨(hW.cell (p := ⟨w.heap.size, 0, none⟩) (by show w.heap.size < w.heap.size + 1; omega)).trans (unhide HA).c0, (hW.cell (p := ⟨w.heap.size, 1, none⟩) (by show w.heap.size < w.heap.size + 1; omega)).trans (unhide HA).c1, (((unhide HR0).later (unhide HB)).below hW (by omega)).reads, (((unhide HR1).later (unhide HB)).below hW (by omega)).reads⟩
  clear hb HB0 bR hA
  by_cases hf : askedI x id = 0
  · obtain ⟨hi0, hid⟩ := askedI_zero hf
    have HG0 : Hid (addIvfR x id vec = if vecFault vec = 0 then (if 30 ≤ (allIs x.lists).length ∧ hasI (allIs x.lists) id = false then ⟨2, emptyI⟩ else ⟨0, buildI x.centers (putI (allIs x.lists) id vec)⟩) else ⟨vecFault vec, emptyI⟩) := by
      show addIvfR x id vec = _
      rw [addIvfR, if_pos hf]
    rw [hf]
    clear hf
    go_wp2_with fail
    refine (modelFault _ vec _ (Lay.ints_reads (unhide HV))).mono ?_
    rintro e w1 ⟨rfl, rfl⟩
    by_cases hvf : vecFault vec = 0
    · rw [hvf]
      rw [if_pos hvf] at HG0
      have HV3 := hide (vecFault_zero hvf).1
      obtain ⟨hl, hn⟩ := ivf_small hi0
      have hrt := all_right hi0
      have hcf := (ivfFault_zero hi0).1
      obtain ⟨s1, s2⟩ := right_less hrt
      have HLI := hide (specItems7 w.heap.size x ac dc al dl w1 (unhide HA) hl hn)
      clear z0 z1 z2 f0 f1 f2 l0
      go_wp2_with fail
      refine (unhide HLI).mono ?_
      clear HLI
      rename World => w0
      rintro e w1 ⟨v7, rfl, hO7, hb⟩
      obtain ⟨a7, d7, rfl⟩ := open_sl hO7.reads
      replace HA := hide ((unhide HA).later hb)
      replace HV := hide ((unhide HV).later hb)
      have hz00 := (unhide HR).lt
      replace HR := hide ((unhide HR).keep hb)
      replace KA : Hid (∀ W, Below (w.heap.size + 1) w1 W → IvfAt W w.heap.size x ac dc al dl) := fun W hW => unhide KA W ((hb.mono (by omega)).trans hW)
      replace HB := hide ((unhide HB).trans (hb.mono (unhide HB).size))
      have HI7 := hide hO7.reads
      clear hb hO7
      have z0 : w1.cell? ⟨w.heap.size + 1, 0, none⟩ = some (.int .i64 0) := (unhide HR).at 0 _ rfl
      have z1 : w1.cell? ⟨w.heap.size + 1, 1, none⟩ = some (.slice none 0 0) := (unhide HR).at 1 _ rfl
      have z2 : w1.cell? ⟨w.heap.size + 1, 2, none⟩ = some (.slice none 0 0) := (unhide HR).at 2 _ rfl
      have f0 := (unhide HR).soft 0
      have f1 := (unhide HR).soft 1
      have f2 := (unhide HR).soft 2
      have l0 := (unhide HR).lt
      obtain ⟨y9, hy9⟩ : ∃ y, buildI x.centers (putI (allIs x.lists) id vec) = y := ⟨_, rfl⟩
      have LA := hide (specAt _ (allIs x.lists) id w1 (unhide HI7))
      have c0 := (unhide HA).c0
      by_cases h30 : (allIs x.lists).length < 30
      · have hd : decide ((30 : Int) ≤ ((allIs x.lists).length : Int)) = false := by simp; omega
        have HG : Hid (addIvfR x id vec = ⟨0, y9⟩) := by
          show addIvfR x id vec = _
          rw [unhide HG0, if_neg (by omega), hy9]
        have hrd := right_put hrt hid hvf (Or.inr h30)
        have LS : Hid (∀ W, Below w1.heap.size w1 W → Calls Try.prog 97 #[.slice a7 (allIs x.lists).length d7, .int .i64 id, .slice av vec.length dv, .bool true] W fun e w' => ∃ a d, e = .returned (.slice a (putI (allIs x.lists) id vec).length d) ∧ (Lay.sl Lay.tItem).Reads w' [.slice a (putI (allIs x.lists) id vec).length d] (putI (allIs x.lists) id vec) ∧ Below W.heap.size W w') := fun W hW => by
          have L := specSet _ (allIs x.lists) id vec _ true W ((unhide HI7).later hW) ((unhide HV).later hW) (id_wf hid) s1 s2 (by have := unhide HV3; omega)
          rw [setM_put (tableFault_zero hrt).2.2] at L
          refine L.mono ?_
          rintro e w' ⟨v', rfl, hO, hb⟩
          obtain ⟨a, d, rfl⟩ := open_sl hO.reads
          exact ⟨a, d, rfl, hO.reads, hb⟩
        have LB : Hid (∀ W a d, Below (w.heap.size + 1) w1 W → (Lay.sl Lay.tItem).Reads W [.slice a (putI (allIs x.lists) id vec).length d] (putI (allIs x.lists) id vec) → Calls Try.prog 62 #[.slice ac x.centers.length dc, .slice a (putI (allIs x.lists) id vec).length d] W fun e w' => ∃ a1 d1 a2 d2, e = .returned (.agg #[.slice a1 y9.centers.length d1, .slice a2 y9.lists.length d2]) ∧ Lay.tIvf.LiesIn w' [.slice a1 y9.centers.length d1, .slice a2 y9.lists.length d2] y9 (W.heap.size + 1) w'.heap.size ∧ Below W.heap.size W w') := fun W a d hW hR => by
          refine (specBuild7 _ x.centers _ (putI (allIs x.lists) id vec) W (unhide KA W hW).cens hR hcf hrd).mono ?_
          rintro e w' ⟨cs', rfl, hO, hb⟩
          rw [hy9] at hO
          obtain ⟨a1, d1, a2, d2, rfl, -, -⟩ := open_Ivf hO.reads
          exact ⟨a1, d1, a2, d2, rfl, hO, hb⟩
        clear hi0 hid hl hn hrt hcf hrd s1 s2 hy9 HA HI7 HV LA hvf HV3 HG0 h30
        generalize (putI (allIs x.lists) id vec) = ds at *
        generalize allIs x.lists = as0 at *
        have hW1 : w.heap.size + 1 ≤ w1.heap.size := by have := (unhide HR).lt; omega
        have hHD : Below (w.heap.size + 1) w1 w1.drew := (Below.refl _ _).drew
        have nb0 : Below w1.heap.size w1 w1.drew := (Below.refl _ _).drew
        clear z0 z1 z2 f0 f1 f2 l0
        go_upto_region 10 with fail
        refine wp_region_noPanic ?_
        refine wp_region_held_drew (S := fun w' => Below (w.heap.size + 1) w1 w') (by kernel_rfl) hHD (fun hHeld => ?_)
        generalize w1.drew = wD at hHeld nb0 ⊢
        refine wpAnyH_take (i := 0) (oi := { dst := some 33, op := Go.Op.fieldAddr 31 (Go.Operand.tmp 3) 0, type := 0, pos := "l07_ivf.go:101", after := #[], guard := none }) (v := ?vd0) rfl (by kernel_rfl) (by kernel_rfl) (by kernel_rfl) (fun _ _ _ h => h) (Or.inl ⟨by rfl, ?hd0⟩) hHeld ?rd0
        case hd0 =>
          intro wS hSw
          (try dsimp only at hSw)
          go_simp
          try with_reducible rfl
        case rd0 =>
        simp only [Act.put, List.setIfInBounds_toArray, List.set_cons_zero, List.set_cons_succ]
        refine wpAnyH_take (i := 1) (oi := { dst := some 34, op := Go.Op.load 28 (Go.Operand.tmp 33), type := 28, pos := "l07_ivf.go:101", after := #[{ on := 0, ground := Go.Ground.data }], guard := none }) (v := ?vd1) rfl (by kernel_rfl) (by kernel_rfl) (by kernel_rfl) (fun _ _ _ h => h) (Or.inl ⟨by rfl, ?hd1⟩) hHeld ?rd1
        case hd1 =>
          intro wS hSw
          have y1 := (hSw.cell (p := ⟨w.heap.size, 0, none⟩) (by show w.heap.size < w.heap.size + 1; omega)).trans c0
          clear hSw
          (try dsimp only at hSw)
          go_simp
          try with_reducible rfl
        case rd1 =>
        simp only [Act.put, List.setIfInBounds_toArray, List.set_cons_zero, List.set_cons_succ]
        refine wpAnyH_take (i := 2) (oi := { dst := some 35, op := Go.Op.move (Go.Operand.tmp 9), type := 42, pos := "l07_ivf.go:101", after := #[], guard := none }) (v := ?vd2) rfl (by kernel_rfl) (by kernel_rfl) (by kernel_rfl) (fun _ _ _ h => h) (Or.inl ⟨by rfl, ?hd2⟩) hHeld ?rd2
        case hd2 =>
          intro wS hSw
          (try dsimp only at hSw)
          go_simp
          try with_reducible rfl
        case rd2 =>
        simp only [Act.put, List.setIfInBounds_toArray, List.set_cons_zero, List.set_cons_succ]
        refine wpAnyH_take (i := 3) (oi := { dst := some 36, op := Go.Op.move (Go.Operand.tmp 1), type := 2, pos := "l07_ivf.go:101", after := #[], guard := none }) (v := ?vd3) rfl (by kernel_rfl) (by kernel_rfl) (by kernel_rfl) (fun _ _ _ h => h) (Or.inl ⟨by rfl, ?hd3⟩) hHeld ?rd3
        case hd3 =>
          intro wS hSw
          (try dsimp only at hSw)
          go_simp
          try with_reducible rfl
        case rd3 =>
        simp only [Act.put, List.setIfInBounds_toArray, List.set_cons_zero, List.set_cons_succ]
        refine wpAnyH_take (i := 4) (oi := { dst := some 37, op := Go.Op.move (Go.Operand.tmp 2), type := 51, pos := "l07_ivf.go:101", after := #[], guard := none }) (v := ?vd4) rfl (by kernel_rfl) (by kernel_rfl) (by kernel_rfl) (fun _ _ _ h => h) (Or.inl ⟨by rfl, ?hd4⟩) hHeld ?rd4
        case hd4 =>
          intro wS hSw
          (try dsimp only at hSw)
          go_simp
          try with_reducible rfl
        case rd4 =>
        simp only [Act.put, List.setIfInBounds_toArray, List.set_cons_zero, List.set_cons_succ]
        refine wpAnyH_ready (rs := [5]) (by kernel_rfl) (by simp) ?_
        refine AllReadyH.cons (o := { dst := some 38, op := Go.Op.call { callee := Go.Callee.value (Go.Operand.func 97), args := #[Go.Operand.tmp 35, Go.Operand.tmp 36, Go.Operand.tmp 37, Go.Operand.const (Go.Value.bool true)], argTypes := #[42, 2, 51, 4] }, type := 42, pos := "l07_ivf.go:101", after := #[{ on := 2, ground := Go.Ground.data }, { on := 3, ground := Go.Ground.data }, { on := 4, ground := Go.Ground.data }], guard := none }) rfl (fun K hK => ?_) AllReadyH.nil
        go_simp
        go_at_call 97
        refine (unhide LS _ nb0).mono ?_
        rintro e w4 ⟨a8, d8, rfl, hO8, hb4⟩
        have nb2 := below_up (Nat.le_refl _) nb0 hb4
        try go_wp2_with fail
        refine hK.out _ _ (below_up hW1 hHeld hb4) (fun hHeld => ?_)
        clear hK K
        try simp only [Act.put, List.setIfInBounds_toArray, List.set_cons_zero, List.set_cons_succ]
        refine wpAnyH_ready (rs := [6]) (by kernel_rfl) (by simp) ?_
        refine AllReadyH.cons (o := { dst := some 39, op := Go.Op.call { callee := Go.Callee.value (Go.Operand.func 62), args := #[Go.Operand.tmp 34, Go.Operand.tmp 38], argTypes := #[28, 42] }, type := 31, pos := "l07_ivf.go:101", after := #[{ on := 1, ground := Go.Ground.data }, { on := 5, ground := Go.Ground.data }, { on := 5, ground := Go.Ground.chain }], guard := none }) rfl (fun K hK => ?_) AllReadyH.nil
        go_simp
        go_at_call 62
        refine (unhide LB _ _ _ hHeld hO8).mono ?_
        rintro e w5 ⟨a1, d1, a2, d2, rfl, hO5, hb5⟩
        have nb3 := below_up (Nat.le_refl _) nb2 hb5
        try go_wp2_with fail
        refine hK.out _ _ (below_up hW1 hHeld hb5) (fun hHeld => ?_)
        clear hK K
        try simp only [Act.put, List.setIfInBounds_toArray, List.set_cons_zero, List.set_cons_succ]
        refine wpAnyH_take (i := 7) (oi := { dst := some 40, op := Go.Op.build 39 #[(1, Go.Operand.tmp 39)], type := 39, pos := "l07_ivf.go:101", after := #[{ on := 6, ground := Go.Ground.data }], guard := none }) (v := ?vd7) rfl (by kernel_rfl) (by kernel_rfl) (by kernel_rfl) (fun _ _ _ h => h) (Or.inl ⟨by rfl, ?hd7⟩) hHeld ?rd7
        case hd7 =>
          intro wS hSw
          (try dsimp only at hSw)
          go_simp
          try with_reducible rfl
        case rd7 =>
        simp only [Act.put, List.setIfInBounds_toArray, List.set_cons_zero, List.set_cons_succ]
        refine wpAnyH_ready (rs := [8]) (by kernel_rfl) (by simp) ?_
        refine AllReadyH.cons (o := { dst := none, op := Go.Op.store 39 (Go.Operand.tmp 6) (Go.Operand.tmp 40), type := 0, pos := "l07_ivf.go:101", after := #[{ on := 7, ground := Go.Ground.data }, { on := 6, ground := Go.Ground.chain }, { on := 0, ground := Go.Ground.phase }, { on := 1, ground := Go.Ground.phase }, { on := 2, ground := Go.Ground.phase }, { on := 3, ground := Go.Ground.phase }, { on := 4, ground := Go.Ground.phase }, { on := 5, ground := Go.Ground.phase }, { on := 6, ground := Go.Ground.phase }, { on := 7, ground := Go.Ground.phase }], guard := none }) rfl (fun K hK => ?_) AllReadyH.nil
        have bR := (unhide HR).keep nb3
        have z0 : w5.cell? ⟨w.heap.size + 1, 0, none⟩ = some (.int .i64 0) := bR.at 0 _ rfl
        have z1 : w5.cell? ⟨w.heap.size + 1, 1, none⟩ = some (.slice none 0 0) := bR.at 1 _ rfl
        have z2 : w5.cell? ⟨w.heap.size + 1, 2, none⟩ = some (.slice none 0 0) := bR.at 2 _ rfl
        have f0 := bR.soft 0
        have f1 := bR.soft 1
        have f2 := bR.soft 2
        have l0 := bR.lt
        go_simp
        refine hK.out _ _ (((hHeld.setCell (by simp) _).setCell (by simp) _).setCell (by simp) _) (fun hHeld => ?_)
        clear hK K
        try simp only [Act.put, List.setIfInBounds_toArray, List.set_cons_zero, List.set_cons_succ]
        refine wpAnyH_done (by kernel_rfl) ?_ _
        refine NoPanic.normal ?_
        have hz9 : w1.heap.size ≤ w4.heap.size := nb2.size
        have hz1 := (unhide HR).lt
        have HB9 := hide ((unhide HB).trans (hHeld.mono (Nat.le_succ _)))
        clear hHeld
        go_wp2_with fail
        refine bodyPost_ret (v := .agg #[.int .i64 0, .slice a1 y9.centers.length d1, .slice a2 y9.lists.length d2]) (by simp [results, Try.results49, go_sem, z0, z1, z2]) rfl ?_
        have hE : Ext (fun c => c = w.heap.size + 1) w5 (((w5.setCell ⟨w.heap.size + 1, 0, none⟩ (.int .i64 0)).setCell ⟨w.heap.size + 1, 1, none⟩ (.slice a1 y9.centers.length d1)).setCell ⟨w.heap.size + 1, 2, none⟩ (.slice a2 y9.lists.length d2)) := (((Ext.refl (fun c => c = w.heap.size + 1) _).setCell ⟨w.heap.size + 1, 0, none⟩ _ rfl).setCell ⟨w.heap.size + 1, 1, none⟩ _ rfl).setCell ⟨w.heap.size + 1, 2, none⟩ _ rfl
        rw [unhide HG]
        exact ⟨[.int .i64 0, .slice a1 y9.centers.length d1, .slice a2 y9.lists.length d2], rfl, read_ivfR (by decide) ((hO5.ext hE (fun c h1 _ h3 => by omega)).reads), unhide HB9⟩
      · have hd : decide ((30 : Int) ≤ ((allIs x.lists).length : Int)) = true := by simp; omega
        go_wp2_with fail
        refine (unhide LA).mono ?_
        rintro e w1 ⟨⟨r, rfl, hA⟩, rfl⟩
        rcases hA with ⟨rfl, hno⟩ | ⟨k, hk, rfl, hfd⟩
        · have HG : Hid (addIvfR x id vec = ⟨2, emptyI⟩) := by
            show addIvfR x id vec = _
            rw [unhide HG0, if_pos ⟨by omega, hno⟩]
          clear hno
          go_wp2_with fail
          refine bodyPost_ret (v := .agg #[.int .i64 (2), .slice none 0 0, .slice none 0 0]) (by simp [results, Try.results49, go_sem, z0, z1, z2]) rfl ?_
          rw [unhide HG]
          exact ⟨[.int .i64 (2), .slice none 0 0, .slice none 0 0], rfl, read_ivfCode (by decide), (((unhide HB).setCell (by simp) _).setCell (by simp) _).setCell (by simp) _⟩
        · have hhas : hasI (allIs x.lists) id = true := by
            obtain ⟨hx, hxi⟩ := find_at hfd
            cases hh : hasI (allIs x.lists) id with
            | true => rfl
            | false => exact absurd hxi (hasI_false hh _ hx)
          have HG : Hid (addIvfR x id vec = ⟨0, y9⟩) := by
            show addIvfR x id vec = _
            rw [unhide HG0, if_neg (by rw [hhas]; simp), hy9]
          have hrd := right_put hrt hid hvf (Or.inl hhas)
          have LS : Hid (∀ W, Below w1.heap.size w1 W → Calls Try.prog 97 #[.slice a7 (allIs x.lists).length d7, .int .i64 id, .slice av vec.length dv, .bool true] W fun e w' => ∃ a d, e = .returned (.slice a (putI (allIs x.lists) id vec).length d) ∧ (Lay.sl Lay.tItem).Reads w' [.slice a (putI (allIs x.lists) id vec).length d] (putI (allIs x.lists) id vec) ∧ Below W.heap.size W w') := fun W hW => by
            have L := specSet _ (allIs x.lists) id vec _ true W ((unhide HI7).later hW) ((unhide HV).later hW) (id_wf hid) s1 s2 (by have := unhide HV3; omega)
            rw [setM_put (tableFault_zero hrt).2.2] at L
            refine L.mono ?_
            rintro e w' ⟨v', rfl, hO, hb⟩
            obtain ⟨a, d, rfl⟩ := open_sl hO.reads
            exact ⟨a, d, rfl, hO.reads, hb⟩
          have LB : Hid (∀ W a d, Below (w.heap.size + 1) w1 W → (Lay.sl Lay.tItem).Reads W [.slice a (putI (allIs x.lists) id vec).length d] (putI (allIs x.lists) id vec) → Calls Try.prog 62 #[.slice ac x.centers.length dc, .slice a (putI (allIs x.lists) id vec).length d] W fun e w' => ∃ a1 d1 a2 d2, e = .returned (.agg #[.slice a1 y9.centers.length d1, .slice a2 y9.lists.length d2]) ∧ Lay.tIvf.LiesIn w' [.slice a1 y9.centers.length d1, .slice a2 y9.lists.length d2] y9 (W.heap.size + 1) w'.heap.size ∧ Below W.heap.size W w') := fun W a d hW hR => by
            refine (specBuild7 _ x.centers _ (putI (allIs x.lists) id vec) W (unhide KA W hW).cens hR hcf hrd).mono ?_
            rintro e w' ⟨cs', rfl, hO, hb⟩
            rw [hy9] at hO
            obtain ⟨a1, d1, a2, d2, rfl, -, -⟩ := open_Ivf hO.reads
            exact ⟨a1, d1, a2, d2, rfl, hO, hb⟩
          have hd2 : decide ((k : Int) < 0) = false := by simp
          clear hi0 hid hl hn hrt hcf hrd s1 s2 hy9 HA HI7 HV LA hvf HV3 HG0 h30 hhas hfd hk
          generalize (putI (allIs x.lists) id vec) = ds at *
          generalize allIs x.lists = as0 at *
          have hW1 : w.heap.size + 1 ≤ w1.heap.size := by have := (unhide HR).lt; omega
          have hHD : Below (w.heap.size + 1) w1 w1.drew := (Below.refl _ _).drew
          have nb0 : Below w1.heap.size w1 w1.drew := (Below.refl _ _).drew
          clear z0 z1 z2 f0 f1 f2 l0
          go_upto_region 10 with fail
          refine wp_region_noPanic ?_
          refine wp_region_held_drew (S := fun w' => Below (w.heap.size + 1) w1 w') (by kernel_rfl) hHD (fun hHeld => ?_)
          generalize w1.drew = wD at hHeld nb0 ⊢
          refine wpAnyH_take (i := 0) (oi := { dst := some 33, op := Go.Op.fieldAddr 31 (Go.Operand.tmp 3) 0, type := 0, pos := "l07_ivf.go:101", after := #[], guard := none }) (v := ?ve0) rfl (by kernel_rfl) (by kernel_rfl) (by kernel_rfl) (fun _ _ _ h => h) (Or.inl ⟨by rfl, ?he0⟩) hHeld ?re0
          case he0 =>
            intro wS hSw
            (try dsimp only at hSw)
            go_simp
            try with_reducible rfl
          case re0 =>
          simp only [Act.put, List.setIfInBounds_toArray, List.set_cons_zero, List.set_cons_succ]
          refine wpAnyH_take (i := 1) (oi := { dst := some 34, op := Go.Op.load 28 (Go.Operand.tmp 33), type := 28, pos := "l07_ivf.go:101", after := #[{ on := 0, ground := Go.Ground.data }], guard := none }) (v := ?ve1) rfl (by kernel_rfl) (by kernel_rfl) (by kernel_rfl) (fun _ _ _ h => h) (Or.inl ⟨by rfl, ?he1⟩) hHeld ?re1
          case he1 =>
            intro wS hSw
            have y1 := (hSw.cell (p := ⟨w.heap.size, 0, none⟩) (by show w.heap.size < w.heap.size + 1; omega)).trans c0
            clear hSw
            (try dsimp only at hSw)
            go_simp
            try with_reducible rfl
          case re1 =>
          simp only [Act.put, List.setIfInBounds_toArray, List.set_cons_zero, List.set_cons_succ]
          refine wpAnyH_take (i := 2) (oi := { dst := some 35, op := Go.Op.move (Go.Operand.tmp 9), type := 42, pos := "l07_ivf.go:101", after := #[], guard := none }) (v := ?ve2) rfl (by kernel_rfl) (by kernel_rfl) (by kernel_rfl) (fun _ _ _ h => h) (Or.inl ⟨by rfl, ?he2⟩) hHeld ?re2
          case he2 =>
            intro wS hSw
            (try dsimp only at hSw)
            go_simp
            try with_reducible rfl
          case re2 =>
          simp only [Act.put, List.setIfInBounds_toArray, List.set_cons_zero, List.set_cons_succ]
          refine wpAnyH_take (i := 3) (oi := { dst := some 36, op := Go.Op.move (Go.Operand.tmp 1), type := 2, pos := "l07_ivf.go:101", after := #[], guard := none }) (v := ?ve3) rfl (by kernel_rfl) (by kernel_rfl) (by kernel_rfl) (fun _ _ _ h => h) (Or.inl ⟨by rfl, ?he3⟩) hHeld ?re3
          case he3 =>
            intro wS hSw
            (try dsimp only at hSw)
            go_simp
            try with_reducible rfl
          case re3 =>
          simp only [Act.put, List.setIfInBounds_toArray, List.set_cons_zero, List.set_cons_succ]
          refine wpAnyH_take (i := 4) (oi := { dst := some 37, op := Go.Op.move (Go.Operand.tmp 2), type := 51, pos := "l07_ivf.go:101", after := #[], guard := none }) (v := ?ve4) rfl (by kernel_rfl) (by kernel_rfl) (by kernel_rfl) (fun _ _ _ h => h) (Or.inl ⟨by rfl, ?he4⟩) hHeld ?re4
          case he4 =>
            intro wS hSw
            (try dsimp only at hSw)
            go_simp
            try with_reducible rfl
          case re4 =>
          simp only [Act.put, List.setIfInBounds_toArray, List.set_cons_zero, List.set_cons_succ]
          refine wpAnyH_ready (rs := [5]) (by kernel_rfl) (by simp) ?_
          refine AllReadyH.cons (o := { dst := some 38, op := Go.Op.call { callee := Go.Callee.value (Go.Operand.func 97), args := #[Go.Operand.tmp 35, Go.Operand.tmp 36, Go.Operand.tmp 37, Go.Operand.const (Go.Value.bool true)], argTypes := #[42, 2, 51, 4] }, type := 42, pos := "l07_ivf.go:101", after := #[{ on := 2, ground := Go.Ground.data }, { on := 3, ground := Go.Ground.data }, { on := 4, ground := Go.Ground.data }], guard := none }) rfl (fun K hK => ?_) AllReadyH.nil
          go_simp
          go_at_call 97
          refine (unhide LS _ nb0).mono ?_
          rintro e w4 ⟨a8, d8, rfl, hO8, hb4⟩
          have nb2 := below_up (Nat.le_refl _) nb0 hb4
          try go_wp2_with fail
          refine hK.out _ _ (below_up hW1 hHeld hb4) (fun hHeld => ?_)
          clear hK K
          try simp only [Act.put, List.setIfInBounds_toArray, List.set_cons_zero, List.set_cons_succ]
          refine wpAnyH_ready (rs := [6]) (by kernel_rfl) (by simp) ?_
          refine AllReadyH.cons (o := { dst := some 39, op := Go.Op.call { callee := Go.Callee.value (Go.Operand.func 62), args := #[Go.Operand.tmp 34, Go.Operand.tmp 38], argTypes := #[28, 42] }, type := 31, pos := "l07_ivf.go:101", after := #[{ on := 1, ground := Go.Ground.data }, { on := 5, ground := Go.Ground.data }, { on := 5, ground := Go.Ground.chain }], guard := none }) rfl (fun K hK => ?_) AllReadyH.nil
          go_simp
          go_at_call 62
          refine (unhide LB _ _ _ hHeld hO8).mono ?_
          rintro e w5 ⟨a1, d1, a2, d2, rfl, hO5, hb5⟩
          have nb3 := below_up (Nat.le_refl _) nb2 hb5
          try go_wp2_with fail
          refine hK.out _ _ (below_up hW1 hHeld hb5) (fun hHeld => ?_)
          clear hK K
          try simp only [Act.put, List.setIfInBounds_toArray, List.set_cons_zero, List.set_cons_succ]
          refine wpAnyH_take (i := 7) (oi := { dst := some 40, op := Go.Op.build 39 #[(1, Go.Operand.tmp 39)], type := 39, pos := "l07_ivf.go:101", after := #[{ on := 6, ground := Go.Ground.data }], guard := none }) (v := ?ve7) rfl (by kernel_rfl) (by kernel_rfl) (by kernel_rfl) (fun _ _ _ h => h) (Or.inl ⟨by rfl, ?he7⟩) hHeld ?re7
          case he7 =>
            intro wS hSw
            (try dsimp only at hSw)
            go_simp
            try with_reducible rfl
          case re7 =>
          simp only [Act.put, List.setIfInBounds_toArray, List.set_cons_zero, List.set_cons_succ]
          refine wpAnyH_ready (rs := [8]) (by kernel_rfl) (by simp) ?_
          refine AllReadyH.cons (o := { dst := none, op := Go.Op.store 39 (Go.Operand.tmp 6) (Go.Operand.tmp 40), type := 0, pos := "l07_ivf.go:101", after := #[{ on := 7, ground := Go.Ground.data }, { on := 6, ground := Go.Ground.chain }, { on := 0, ground := Go.Ground.phase }, { on := 1, ground := Go.Ground.phase }, { on := 2, ground := Go.Ground.phase }, { on := 3, ground := Go.Ground.phase }, { on := 4, ground := Go.Ground.phase }, { on := 5, ground := Go.Ground.phase }, { on := 6, ground := Go.Ground.phase }, { on := 7, ground := Go.Ground.phase }], guard := none }) rfl (fun K hK => ?_) AllReadyH.nil
          have bR := (unhide HR).keep nb3
          have z0 : w5.cell? ⟨w.heap.size + 1, 0, none⟩ = some (.int .i64 0) := bR.at 0 _ rfl
          have z1 : w5.cell? ⟨w.heap.size + 1, 1, none⟩ = some (.slice none 0 0) := bR.at 1 _ rfl
          have z2 : w5.cell? ⟨w.heap.size + 1, 2, none⟩ = some (.slice none 0 0) := bR.at 2 _ rfl
          have f0 := bR.soft 0
          have f1 := bR.soft 1
          have f2 := bR.soft 2
          have l0 := bR.lt
          go_simp
          refine hK.out _ _ (((hHeld.setCell (by simp) _).setCell (by simp) _).setCell (by simp) _) (fun hHeld => ?_)
          clear hK K
          try simp only [Act.put, List.setIfInBounds_toArray, List.set_cons_zero, List.set_cons_succ]
          refine wpAnyH_done (by kernel_rfl) ?_ _
          refine NoPanic.normal ?_
          have hz9 : w1.heap.size ≤ w4.heap.size := nb2.size
          have hz1 := (unhide HR).lt
          have HB9 := hide ((unhide HB).trans (hHeld.mono (Nat.le_succ _)))
          clear hHeld
          go_wp2_with fail
          refine bodyPost_ret (v := .agg #[.int .i64 0, .slice a1 y9.centers.length d1, .slice a2 y9.lists.length d2]) (by simp [results, Try.results49, go_sem, z0, z1, z2]) rfl ?_
          have hE : Ext (fun c => c = w.heap.size + 1) w5 (((w5.setCell ⟨w.heap.size + 1, 0, none⟩ (.int .i64 0)).setCell ⟨w.heap.size + 1, 1, none⟩ (.slice a1 y9.centers.length d1)).setCell ⟨w.heap.size + 1, 2, none⟩ (.slice a2 y9.lists.length d2)) := (((Ext.refl (fun c => c = w.heap.size + 1) _).setCell ⟨w.heap.size + 1, 0, none⟩ _ rfl).setCell ⟨w.heap.size + 1, 1, none⟩ _ rfl).setCell ⟨w.heap.size + 1, 2, none⟩ _ rfl
          rw [unhide HG]
          exact ⟨[.int .i64 0, .slice a1 y9.centers.length d1, .slice a2 y9.lists.length d2], rfl, read_ivfR (by decide) ((hO5.ext hE (fun c h1 _ h3 => by omega)).reads), unhide HB9⟩
    · have HG : Hid (addIvfR x id vec = ⟨vecFault vec, emptyI⟩) := by
        show addIvfR x id vec = _
        rw [unhide HG0, if_neg hvf]
      have hd : (vecFault vec != 0) = true := by simpa using hvf
      clear hvf HG0 HV
      go_wp2_with fail
      refine bodyPost_ret (v := .agg #[.int .i64 (vecFault vec), .slice none 0 0, .slice none 0 0]) (by simp [results, Try.results49, go_sem, z0, z1, z2]) rfl ?_
      rw [unhide HG]
      exact ⟨[.int .i64 (vecFault vec), .slice none 0 0, .slice none 0 0], rfl, read_ivfCode (vcode_wf vec), (((unhide HB).setCell (by simp) _).setCell (by simp) _).setCell (by simp) _⟩
  · have HG : Hid (addIvfR x id vec = ⟨askedI x id, emptyI⟩) := if_neg hf
    have hd : (askedI x id != 0) = true := by simpa using hf
    clear hf HA HV
    go_wp2_with fail
    refine bodyPost_ret (v := .agg #[.int .i64 (askedI x id), .slice none 0 0, .slice none 0 0]) (by simp [results, Try.results49, go_sem, z0, z1, z2]) rfl ?_
    rw [unhide HG]
    exact ⟨[.int .i64 (askedI x id), .slice none 0 0, .slice none 0 0], rfl, read_ivfCode (askedI_wf x id), (((unhide HB).setCell (by simp) _).setCell (by simp) _).setCell (by simp) _⟩

end Go.Proofs.Ytfgadegpdknocaa

namespace Go.Proofs.Ytfgadegpdknocaa
open Go.RowKit

def sameI (x y : DItem) : Bool := x.id == y.id && decide (x.vec = y.vec)
def sameIs : List DItem → List DItem → Bool
  | [], [] => true
  | x :: xs, y :: ys => sameI x y && sameIs xs ys
  | _, _ => false
theorem sameIs_len {xs ys : List DItem} (h : xs.length ≠ ys.length) : sameIs xs ys = false := by
  induction xs generalizing ys with
  | nil => match ys, h with | y :: ys, _ => rfl
  | cons x xs ih =>
    match ys, h with
    | [], _ => rfl
    | y :: ys, h => rw [sameIs, ih (by simpa using h), Bool.and_false]
theorem sameIs_at {xs ys : List DItem} (k : Nat) (h1 : k < xs.length) (h2 : k < ys.length) (h : sameI xs[k] ys[k] = false) : sameIs xs ys = false := by
  induction xs generalizing ys k with
  | nil => simp at h1
  | cons x xs ih =>
    match ys, k with
    | y :: ys, 0 => rw [sameIs, show sameI x y = false by simpa using h, Bool.false_and]
    | y :: ys, k + 1 => rw [sameIs, ih k (by simpa using h1) (by simpa using h2) (by simpa using h), Bool.and_false]
theorem sameIs_all {xs ys : List DItem} (hl : xs.length = ys.length) (h : ∀ k (h1 : k < xs.length) (h2 : k < ys.length), sameI xs[k] ys[k] = true) : sameIs xs ys = true := by
  induction xs generalizing ys with
  | nil => match ys, hl with | [], _ => rfl
  | cons x xs ih =>
    match ys, hl with
    | y :: ys, hl =>
      rw [sameIs, show sameI x y = true from h 0 (by simp) (by simp), ih (by simpa using hl) fun k h1 h2 => h (k + 1) (by simpa using h1) (by simpa using h2), Bool.true_and]
theorem sameIs_refl_self (x : DItem) : sameI x x = true := by simp [sameI]

end Go.Proofs.Ytfgadegpdknocaa

namespace Go.Proofs.Ytfgadegpdknocaa
open Go.RowKit

theorem ne_at_slEqual {ps qs : List Int} {k : Nat} (h : ps.getD k 0 ≠ qs.getD k 0) : decide (ps = qs) = false := by
  simp only [decide_eq_false_iff_not]
  rintro rfl
  exact h rfl
theorem eq_all_slEqual {ps qs : List Int} (hl : ps.length = qs.length) (h : ∀ j, j < ps.length → ps.getD j 0 = qs.getD j 0) : decide (ps = qs) = true := by
  simp only [decide_eq_true_eq]
  refine List.ext_getElem hl fun j h1 h2 => ?_
  have := h j h1
  simpa [List.getD, h1, h2] using this

set_option maxHeartbeats 800000 in
theorem slEqual_pos (b off cap b2 off2 cap2 : Nat) (ps qs : List Int) (w : World) (hl : ps.length = qs.length) (hn : ps.length ≤ 9223372036854775807) (hc : ∀ j, j < ps.length → w.cell? ⟨b, off + j, none⟩ = some (.int .i64 (ps.getD j 0)))
    (hc2 : ∀ j, j < ps.length → w.cell? ⟨b2, off2 + j, none⟩ = some (.int .i64 (qs.getD j 0))) :
    Calls Try.prog 137 #[.slice (some ⟨b, off, none⟩) ps.length cap, .slice (some ⟨b2, off2, none⟩) ps.length cap2] w fun e w' => e = .returned (.bool (decide (ps = qs))) ∧ Below w.heap.size w w' := by
  have HL := hide hl
  clear hl
  go_enter Try.func137, Try.ntmps137
  go_wp2
  go_loopw [13] (fun i wr => ∃ k : Nat, k ≤ ps.length ∧ i = .int .i64 k ∧ Below w.heap.size w wr ∧ ∀ j, j < k → ps.getD j 0 = qs.getD j 0) (fun i _ => ps.length - (intOf i).toNat)
  case atStart => exact ⟨0, Nat.zero_le _, rfl, Below.refl _ _, fun j hj => by omega⟩
  case round =>
    obtain ⟨k, hk, rfl, hB, hq⟩ := hrel
    by_cases hlt : k < ps.length
    · have hcx : wr.cell? ⟨b, off + k, none⟩ = some (.int .i64 (ps.getD k 0)) := (hB.cell (World.block_lt_of_cell? _ _ (hc k hlt))).trans (hc k hlt)
      have hcy : wr.cell? ⟨b2, off2 + k, none⟩ = some (.int .i64 (qs.getD k 0)) := (hB.cell (World.block_lt_of_cell? _ _ (hc2 k hlt))).trans (hc2 k hlt)
      have HQ := hide hq
      have HB := hide hB
      clear hc hc2 hq hB
      by_cases he : ps.getD k 0 = qs.getD k 0
      · have HE := hide he
        rw [← he] at hcy
        clear he
        generalize ps.getD k 0 = x at hcx hcy
        have hxx : (x != x) = false := by simp
        go_wp2
        go_quiet (fail)
        go_wp2
        go_roundw
        case rel =>
          refine ⟨k + 1, by omega, by go_num, below_drewN (unhide HB) _, fun j hj => ?_⟩
          by_cases hjk : j < k
          · exact unhide HQ j hjk
          · obtain rfl : j = k := by omega
            exact unhide HE
        case measure => simp [intOf]; omega
      · have HN := hide (ne_at_slEqual he)
        have hxy : (ps.getD k 0 != qs.getD k 0) = true := by rw [bne_iff_ne]; exact he
        clear he
        generalize ps.getD k 0 = x at hcx hxy
        generalize qs.getD k 0 = y at hcy hxy
        go_wp2
        go_quiet (fail)
        go_wp2
        go_ret
        exact ⟨by rw [unhide HN]; rfl, below_drewN (unhide HB) _⟩
    · obtain rfl : k = ps.length := by omega
      have HN := hide (eq_all_slEqual (unhide HL) hq)
      have HB := hide hB
      clear hc hc2 hq hB
      go_wp2
      go_ret
      exact ⟨by rw [unhide HN]; rfl, unhide HB⟩
set_option maxHeartbeats 400000 in
theorem slEqual_len (ao ao2 : Option Addr) (n m cap cap2 : Nat) (w : World) (h : n ≠ m) :
    Calls Try.prog 137 #[.slice ao n cap, .slice ao2 m cap2] w fun e w' => e = .returned (.bool false) ∧ Below w.heap.size w w' := by
  have hd : ((n : Int) != (m : Int)) = true := by rw [bne_iff_ne]; omega
  go_enter Try.func137, Try.ntmps137
  go_wp2
  go_ret
  exact ⟨rfl, Below.refl _ _⟩
theorem slEqual_zero (ao ao2 : Option Addr) (cap cap2 : Nat) (w : World) :
    Calls Try.prog 137 #[.slice ao 0 cap, .slice ao2 0 cap2] w fun e w' => e = .returned (.bool true) ∧ Below w.heap.size w w' := by
  go_enter Try.func137, Try.ntmps137
  go_wp2
  refine wp_loop_rounds 1 ?_
  rw [rounds_succ]
  go_wp2
  go_ret
  exact ⟨rfl, Below.refl _ _⟩
/-- Whether two lists of numbers are the same. -/
theorem slEqual (v v2 : Value) (ps qs : List Int) (w : World) (h : IsInts w v ps) (h2 : IsInts w v2 qs) (hn : ps.length ≤ 9223372036854775807) :
    Calls Try.prog 137 #[v, v2] w fun e w' => e = .returned (.bool (decide (ps = qs))) ∧ Below w.heap.size w w' := by
  obtain ⟨ao, cap, rfl, hwf, hc⟩ := h
  obtain ⟨ao2, cap2, rfl, _, hc2⟩ := h2
  by_cases hl : ps.length = qs.length
  · by_cases hp : 0 < ps.length
    · obtain ⟨b, off, rfl, hc1⟩ := hc hp
      obtain ⟨b2, off2, rfl, hc3⟩ := hc2 (by omega)
      rw [← hl] at hc3 ⊢
      exact slEqual_pos b off cap b2 off2 cap2 ps qs w hl hn hc1 hc3
    · obtain rfl : ps = [] := List.eq_nil_of_length_eq_zero (by omega)
      obtain rfl : qs = [] := List.eq_nil_of_length_eq_zero (by simpa using hl.symm)
      exact slEqual_zero ao ao2 cap cap2 w
  · rw [show decide (ps = qs) = false by simp only [decide_eq_false_iff_not]; rintro rfl; exact hl rfl]
    exact slEqual_len ao ao2 _ _ cap cap2 w hl

end Go.Proofs.Ytfgadegpdknocaa

namespace Go.Proofs.Ytfgadegpdknocaa
open Go.RowKit

set_option maxRecDepth 10000 in
set_option maxHeartbeats 2000000 in
theorem sameItem (cs cs2 : List Value) (x y : DItem) (w : World) (h : Lay.tItem.Reads w cs x) (h2 : Lay.tItem.Reads w cs2 y) :
    Calls Try.prog 100 #[.agg cs.toArray, .agg cs2.toArray] w fun e w' => e = .returned (.bool (sameI x y)) ∧ Below w.heap.size w w' := by
  obtain ⟨a1, d1, rfl, R1⟩ := open_Item h
  obtain ⟨a1z, d1z, rfl, R1z⟩ := open_Item h2
  clear h h2
  have HB : Hid (Below w.heap.size w ((w.alloc (.cells #[.int .i64 x.id, .slice a1 x.vec.length d1] 106)).alloc (.cells #[.int .i64 y.id, .slice a1z y.vec.length d1z] 106))) := ((Below.refl _ _).alloc (Nat.le_refl _) _).alloc (by simp) _
  cases e0 : (x.id == y.id) with
  | false =>
    have HS : Hid (sameI x y = false) := by
      show sameI x y = false
      simp [sameI, e0]
    go_enter Try.func100, Try.ntmps100
    go_wp2_with fail
    go_ret
    exact ⟨by rw [unhide HS]; rfl, unhide HB⟩
  | true =>
    have HS : Hid (sameI x y = decide (x.vec = y.vec)) := by
      show sameI x y = decide (x.vec = y.vec)
      simp [sameI, e0]
    have L := hide (slEqual _ _ x.vec y.vec _ ((Lay.ints_reads R1).later (unhide HB)) ((Lay.ints_reads R1z).later (unhide HB)) R1.big)
    clear R1 R1z
    go_enter Try.func100, Try.ntmps100
    go_wp2_with fail
    refine (unhide L).mono ?_
    rintro e w1 ⟨rfl, hb⟩
    have HB1 := hide ((unhide HB).trans (hb.mono (unhide HB).size))
    clear hb L HB
    go_wp2_with fail
    go_ret
    exact ⟨by rw [unhide HS]; rfl, unhide HB1⟩

set_option maxRecDepth 10000 in
set_option maxHeartbeats 2000000 in
theorem equalFuncT_pos (b off cap b2 off2 cap2 : Nat) (xs ys : List DItem) (w : World) (hl : xs.length = ys.length) (h : (Lay.sl Lay.tItem).Reads w [.slice (some ⟨b, off, none⟩) xs.length cap] xs) (h2 : (Lay.sl Lay.tItem).Reads w [.slice (some ⟨b2, off2, none⟩) ys.length cap2] ys) (hbl : b < w.heap.size) (hbl2 : b2 < w.heap.size) :
    Calls Try.prog 99 #[.slice (some ⟨b, off, none⟩) xs.length cap, .slice (some ⟨b2, off2, none⟩) xs.length cap2, .func (.func 100) #[] #[]] w fun e w' => e = .returned (.bool (sameIs xs ys)) ∧ Below w.heap.size w w' := by
  have hbig := h.big
  have H := hide h
  have H2 := hide h2
  have HL := hide hl
  clear h h2 hl
  go_enter Try.func99, Try.ntmps99
  go_wp2_with fail
  go_loopw [17] (fun i wr => ∃ k : Nat, k ≤ xs.length ∧ i = .int .i64 k ∧ (∀ j (h1 : j < xs.length) (h2 : j < ys.length), j < k → sameI xs[j] ys[j] = true) ∧ Below w.heap.size w wr) (fun i _ => xs.length - (intOf i).toNat)
  case atStart => exact ⟨0, Nat.zero_le _, rfl, fun j _ _ hj => by omega, Below.refl _ _⟩
  case round =>
    obtain ⟨k, hk, rfl, hq, hB⟩ := hrel
    by_cases hlt : k < xs.length
    · have hlt2 : k < ys.length := by have := unhide HL; omega
      obtain ⟨row, hc, hr⟩ := Lay.row_at (unhide H) hlt
      obtain ⟨rowz, hcz, hrz⟩ := Lay.row_at (unhide H2) hlt2
      replace hr := hr.later hB
      replace hrz := hrz.later hB
      have hr2 := hr
      obtain ⟨a1, d1, rfl, -⟩ := open_Item hr2
      have hrz2 := hrz
      obtain ⟨a1z, d1z, rfl, -⟩ := open_Item hrz2
      have c0 : wr.cell? ⟨b, off + k * 2, none⟩ = some (.int .i64 (xs[k]).id) := (hB.cell (p := ⟨b, off + k * 2, none⟩) hbl).trans (hc 0 (by decide))
      have c1 : wr.cell? ⟨b, off + k * 2 + 1, none⟩ = some (.slice a1 (xs[k]).vec.length d1) := (hB.cell (p := ⟨b, off + k * 2 + 1, none⟩) hbl).trans (hc 1 (by decide))
      have c0z : wr.cell? ⟨b2, off2 + k * 2, none⟩ = some (.int .i64 (ys[k]).id) := (hB.cell (p := ⟨b2, off2 + k * 2, none⟩) hbl2).trans (hcz 0 (by decide))
      have c1z : wr.cell? ⟨b2, off2 + k * 2 + 1, none⟩ = some (.slice a1z (ys[k]).vec.length d1z) := (hB.cell (p := ⟨b2, off2 + k * 2 + 1, none⟩) hbl2).trans (hcz 1 (by decide))
      have l1 : b < wr.heap.size := Nat.lt_of_lt_of_le hbl hB.size
      have l2 : b2 < wr.heap.size := Nat.lt_of_lt_of_le hbl2 hB.size
      have HQ := hide hq
      have HB := hide hB
      have HR := hide hr
      have HRZ := hide hrz
      have HX : Hid (sameI xs[k] ys[k] = false → sameIs xs ys = false) := sameIs_at k hlt hlt2
      have HY : Hid (sameI xs[k] ys[k] = true → ∀ j (h1 : j < xs.length) (h2 : j < ys.length), j < k + 1 → sameI xs[j] ys[j] = true) := by
        intro h j h1 h2 hj
        by_cases hjk : j < k
        · exact unhide HQ j h1 h2 hjk
        · obtain rfl : j = k := by omega
          exact h
      clear hq hB hr hrz hc hcz HQ
      generalize hx : xs[k] = x at *
      generalize hy : ys[k] = y at *
      clear hx hy
      have nb : Below wr.heap.size wr ((wr.alloc (.cells #[.int .i64 x.id, .slice a1 x.vec.length d1] 106)).alloc (.cells #[.int .i64 y.id, .slice a1z y.vec.length d1z] 106)) := ((Below.refl _ _).alloc (Nat.le_refl _) _).alloc (by simp) _
      have L := hide (sameItem _ _ x y _ ((unhide HR).later nb) ((unhide HRZ).later nb))
      replace HB := hide ((unhide HB).trans (nb.mono (unhide HB).size))
      clear nb HR HRZ
      go_wp2_with fail
      refine (unhide L).mono ?_
      rintro e w3 ⟨rfl, hb⟩
      replace HB := hide ((unhide HB).trans (hb.mono (unhide HB).size))
      clear hb L c0 c1 c0z c1z
      cases hs : sameI x y with
      | true =>
        have HZ := hide (unhide HY hs)
        clear hs HX HY
        go_wp2_with fail
        go_roundw
        case rel => exact ⟨k + 1, by omega, by go_num, unhide HZ, unhide HB⟩
        case measure => simp [intOf]; omega
      | false =>
        have HZ := hide (unhide HX hs)
        clear hs HX HY
        go_wp2_with fail
        go_ret
        exact ⟨by rw [unhide HZ]; rfl, unhide HB⟩
    · have HZ := hide (sameIs_all (unhide HL) fun j h1 h2 => hq j h1 h2 (by omega))
      have HB := hide hB
      clear hq hB
      go_wp2_with fail
      go_ret
      exact ⟨by rw [unhide HZ]; rfl, unhide HB⟩

theorem equalFuncT_len (ao ao2 : Option Addr) (n m cap cap2 : Nat) (f : Value) (w : World) (h : n ≠ m) :
    Calls Try.prog 99 #[.slice ao n cap, .slice ao2 m cap2, f] w fun e w' => e = .returned (.bool false) ∧ Below w.heap.size w w' := by
  have hd : ((n : Int) != (m : Int)) = true := by rw [bne_iff_ne]; omega
  go_enter Try.func99, Try.ntmps99
  go_wp2_with fail
  go_ret
  exact ⟨rfl, Below.refl _ _⟩
theorem equalFuncT_zero (ao ao2 : Option Addr) (cap cap2 : Nat) (f : Value) (w : World) :
    Calls Try.prog 99 #[.slice ao 0 cap, .slice ao2 0 cap2, f] w fun e w' => e = .returned (.bool true) ∧ Below w.heap.size w w' := by
  go_enter Try.func99, Try.ntmps99
  go_wp2_with fail
  refine wp_loop_rounds 1 ?_
  rw [rounds_succ]
  go_wp2_with fail
  go_ret
  exact ⟨rfl, Below.refl _ _⟩

/-- SameTables of the program. -/
theorem implSameT (v v2 : Value) (xs ys : List DItem) (w : World) (h : (Lay.sl Lay.tItem).Reads w [v] xs) (h2 : (Lay.sl Lay.tItem).Reads w [v2] ys) :
    Calls Try.prog 51 #[v, v2] w fun e w' => e = .returned (.bool (sameIs xs ys)) ∧ Below w.heap.size w w' := by
  obtain ⟨ao, cap, rfl⟩ := open_sl h
  obtain ⟨ao2, cap2, rfl⟩ := open_sl h2
  have L : Hid (Calls Try.prog 99 #[.slice ao xs.length cap, .slice ao2 ys.length cap2, .func (.func 100) #[] #[]] w fun e w' => e = .returned (.bool (sameIs xs ys)) ∧ Below w.heap.size w w') := by
    show Calls Try.prog 99 #[.slice ao xs.length cap, .slice ao2 ys.length cap2, .func (.func 100) #[] #[]] w fun e w' => e = .returned (.bool (sameIs xs ys)) ∧ Below w.heap.size w w'
    by_cases hl : xs.length = ys.length
    · by_cases hp : 0 < xs.length
      · obtain ⟨b, off, rfl, hbl⟩ := Lay.sl_addr h hp
        obtain ⟨b2, off2, rfl, hbl2⟩ := Lay.sl_addr h2 (by omega)
        rw [← hl]
        exact equalFuncT_pos b off cap b2 off2 cap2 xs ys w hl h (by rw [← hl] at h2 ⊢; exact h2) hbl hbl2
      · obtain rfl : xs = [] := List.eq_nil_of_length_eq_zero (by omega)
        obtain rfl : ys = [] := List.eq_nil_of_length_eq_zero (by simpa using hl.symm)
        exact equalFuncT_zero ao ao2 cap cap2 _ w
    · rw [sameIs_len hl]
      exact equalFuncT_len ao ao2 _ _ cap cap2 _ w hl
  clear h h2
  go_enter Try.func51, Try.ntmps51
  go_wp2_with fail
  refine (unhide L).mono ?_
  rintro e w1 ⟨rfl, hb⟩
  have HB := hide hb
  clear hb L
  go_wp2_with fail
  go_ret
  exact ⟨rfl, unhide HB⟩

end Go.Proofs.Ytfgadegpdknocaa
