/-
  Texts of this proof in one: ItemLaw, SzIvfList, SzIvfListS, SzIvf, ToCenter, ToCenterS, ToIvfList, ToIvfListS.
  Their conditions stand in their theorems.
-/
import Derived.Test.YtfgadegpdknocaaGreatChecked
import Derived.Test.YtfgadegpdknocaaGreatIs01
import Derived.Test.YtfgadegpdknocaaGreatIs02
import Derived.WalkKit
import Derived.Deep.RegionHeld3

namespace Go.Proofs.YtfgadegpdknocaaGreat
open Go.RowKit

theorem szsum_Item (x : DItem) : Lay.tItem.sz x = (Lay.sl Lay.int).sz x.vec := by
  show 0 + ((Lay.sl Lay.int).sz x.vec) = (Lay.sl Lay.int).sz x.vec
  omega
set_option maxRecDepth 10000 in
set_option maxHeartbeats 1000000 in
theorem sz_Item (cs : List Value) (x : DItem) (l : Nat) (w : World) (h : Lay.tItem.Reads w cs x) (hl : l ≤ 1048576) :
    Calls Tryz.prog 142 #[.agg cs.toArray, .int .i64 l] w fun e w' => e = .returned (.int .i64 (szR l (Lay.tItem.sz x))) ∧ Below w.heap.size w w' := by
  obtain ⟨a1, d1, rfl, R1⟩ := open_Item h
  clear h
  have HB0 : Below w.heap.size w (w.alloc (.cells #[.int .i64 x.id, .slice a1 x.vec.length d1] 180)) := (Below.refl _ _).alloc (Nat.le_refl _) _
  have bA : Box w.heap.size #[.int .i64 x.id, .slice a1 x.vec.length d1] 180 (w.alloc (.cells #[.int .i64 x.id, .slice a1 x.vec.length d1] 180)) w.heap.size := newBox (Nat.le_refl _)
  have HV := hide (szsum_Item x)
  go_enter Tryz.func142, Tryz.ntmps142
  go_wp2_with fail
  generalize w.alloc (.cells #[.int .i64 x.id, .slice a1 x.vec.length d1] 180) = W0 at *
  replace R1 := R1.later HB0
  refine (sz_Int64S _ x.vec (l) _ R1 (by omega)).mono ?_
  rintro e w1 ⟨rfl, hb⟩
  replace HB0 := HB0.trans (hb.mono HB0.size)
  replace bA := bA.keep hb
  clear hb R1
  by_cases hs0 : (Lay.sl Lay.int).sz x.vec ≤ l
  · rw [szR_ok hs0]
    have hq : decide (((l - (Lay.sl Lay.int).sz x.vec : Nat) : Int) < 0) = false := by simp
    have HX := hide HB0
    have HA := hide bA
    clear HB0 bA
    go_wp2_with fail
    clear hq
    go_ret
    refine ⟨?_, unhide HX⟩
    rw [unhide HV, szR_ok (by omega), show l - ((Lay.sl Lay.int).sz x.vec) = l - (Lay.sl Lay.int).sz x.vec by omega]
    rfl
  · rw [szR_many (by omega)]
    have HX := hide HB0
    clear HB0 bA
    go_wp2_with fail
    go_ret
    refine ⟨?_, unhide HX⟩
    rw [unhide HV, szR_many (by omega)]
    rfl

end Go.Proofs.YtfgadegpdknocaaGreat

namespace Go.Proofs.YtfgadegpdknocaaGreat
open Go.RowKit

set_option maxRecDepth 10000 in
set_option maxHeartbeats 1000000 in
theorem sz_ItemS (v : Value) (xs : List DItem) (l : Nat) (w : World) (h : (Lay.sl Lay.tItem).Reads w [v] xs) (hl : l ≤ 1048576) :
    Calls Tryz.prog 120 #[v, .int .i64 l] w fun e w' => e = .returned (.int .i64 (szR l ((Lay.sl Lay.tItem).sz xs))) ∧ Below w.heap.size w w' := by
  have hbig := h.big
  obtain ⟨ao, cap, rfl⟩ := open_sl h
  have HV : Hid ((Lay.sl Lay.tItem).sz xs = xs.length + cntAll Lay.tItem.sz xs) := rfl
  by_cases hn : xs.length ≤ l
  · have e1 : (l : Int) - (xs.length : Int) = ((l - xs.length : Nat) : Int) := by omega
    have e2 : decide (((l - xs.length : Nat) : Int) < 0) = false := by simp
    by_cases hp : 0 < xs.length
    · obtain ⟨b, off, rfl, hbl⟩ := Lay.sl_addr h hp
      have H := hide h
      clear h
      go_enter Tryz.func120, Tryz.ntmps120
      go_wp2_with fail
      go_loopw [1, 5] (fun lf i wr => ∃ k s : Nat, k ≤ xs.length ∧ i = .int .i64 k ∧ s = cntAll Lay.tItem.sz (xs.take k) ∧ xs.length + s ≤ l ∧ lf = .int .i64 ((l - (xs.length + s) : Nat) : Int) ∧ Below w.heap.size w wr) (fun _ i _ => xs.length - (intOf i).toNat)
      case atStart => exact ⟨0, 0, Nat.zero_le _, rfl, rfl, by omega, by simp, Below.refl _ _⟩
      case round =>
        obtain ⟨k, s, hk, rfl, hs, hsl, rfl, hB⟩ := hrel
        have HS := hide hs
        clear hs e1 e2
        by_cases hlt : k < xs.length
        · obtain ⟨row, hc, hr⟩ := Lay.row_at (unhide H) hlt
          replace hr := hr.later hB
          have hr2 := hr
          obtain ⟨a1, d1, rfl, -⟩ := open_Item hr2
          have c0 : wr.cell? ⟨b, off + k * 2, none⟩ = some (.int .i64 (xs[k]).id) := (hB.cell (p := ⟨b, off + k * 2, none⟩) hbl).trans (hc 0 (by decide))
          have c1 : wr.cell? ⟨b, off + k * 2 + 1, none⟩ = some (.slice a1 (xs[k]).vec.length d1) := (hB.cell (p := ⟨b, off + k * 2 + 1, none⟩) hbl).trans (hc 1 (by decide))
          have HB := hide hB
          have HR := hide hr
          have HT := hide (Lay.cntAll_take (f := Lay.tItem.sz) hlt)
          have HL := hide (Lay.cntAll_take_le (f := Lay.tItem.sz) (xs := xs) (k := k + 1))
          clear hB hr hc
          generalize hxk : xs[k] = x at *
          clear hxk
          go_wp2_with fail
          refine (sz_Item _ x (l - (xs.length + s)) wr (unhide HR) (by omega)).mono ?_
          rintro e w2 ⟨rfl, hb⟩
          replace HB := hide ((unhide HB).trans (hb.mono (unhide HB).size))
          clear hb HR c0 c1
          have ht := unhide HT
          rw [← unhide HS] at ht
          have hle := unhide HL
          rw [ht] at hle
          have HQ := hide ht
          by_cases hq : xs.length + s + Lay.tItem.sz x ≤ l
          · rw [szR_ok (by omega)]
            have e3 : l - (xs.length + s) - Lay.tItem.sz x = l - (xs.length + (s + Lay.tItem.sz x)) := by omega
            rw [e3]
            have e4 : decide (((l - (xs.length + (s + Lay.tItem.sz x)) : Nat) : Int) < 0) = false := by simp
            clear ht hle e3
            generalize hz : s + Lay.tItem.sz x = s2 at *
            have hs2 : xs.length + s2 ≤ l := by omega
            clear hz hq
            go_wp2_with fail
            go_roundw
            case rel => exact ⟨k + 1, s2, by omega, by go_num, (unhide HQ).symm, hs2, rfl, unhide HB⟩
            case measure => simp [intOf]; omega
          · rw [szR_many (by omega)]
            have HN : Hid (l < xs.length + cntAll Lay.tItem.sz xs) := by
              show l < xs.length + cntAll Lay.tItem.sz xs
              omega
            clear ht hle
            go_wp2_with fail
            go_ret
            refine ⟨?_, unhide HB⟩
            rw [unhide HV, szR_many (unhide HN)]
            rfl
        · obtain rfl : k = xs.length := by omega
          have HE : Hid (s = cntAll Lay.tItem.sz xs) := by
            have := unhide HS
            rw [List.take_length] at this
            exact this
          have HB := hide hB
          clear hB HS
          go_wp2_with fail
          go_ret
          refine ⟨?_, unhide HB⟩
          rw [unhide HV, ← unhide HE, szR_ok hsl]
          rfl
    · obtain rfl : xs = [] := List.eq_nil_of_length_eq_zero (by omega)
      clear h hp
      rw [unhide HV]
      simp only [List.length_nil, cntAll, Nat.add_zero, Nat.sub_zero] at *
      rw [szR_ok (Nat.zero_le _)]
      have e3 : decide ((l : Int) < 0) = false := by simp
      go_enter Tryz.func120, Tryz.ntmps120
      go_wp2_with fail
      refine wp_loop_rounds 1 ?_
      rw [rounds_succ]
      go_wp2_with fail
      go_ret
      exact ⟨by simp, Below.refl _ _⟩
  · have HN : Hid (szR l ((Lay.sl Lay.tItem).sz xs) = -1) := szR_many (by rw [unhide HV]; omega)
    rw [unhide HN]
    have e2 : decide ((l : Int) - (xs.length : Int) < 0) = true := by simp; omega
    clear h HV HN
    generalize xs.length = n at *
    go_enter Tryz.func120, Tryz.ntmps120
    go_wp2_with fail
    go_ret
    exact ⟨rfl, Below.refl _ _⟩

end Go.Proofs.YtfgadegpdknocaaGreat

namespace Go.Proofs.YtfgadegpdknocaaGreat
open Go.RowKit

set_option maxRecDepth 10000 in
set_option maxHeartbeats 2000000 in
theorem to_Item (cs : List Value) (x : DItem) (w : World) (h : Lay.tItem.Reads w cs x) (hn : Lay.tItem.sz x ≤ 1048576) :
    Calls Tryz.prog 143 #[.agg cs.toArray] w fun e w' => ∃ cs', e = .returned (.agg cs'.toArray) ∧ Lay.tItem.OwnIn w' cs' x w.heap.size w'.heap.size ∧ Below w.heap.size w w' := by
  have h0 := h
  obtain ⟨bl, hl⟩ := h0
  obtain ⟨-, -, -, -, -, f0, -⟩ := lies_Item.1 hl
  clear hl
  obtain ⟨a1, d1, rfl, R1⟩ := open_Item h
  clear h
  rw [szsum_Item] at hn
  have HF := hide f0
  clear f0
  have HB0 : Below w.heap.size w (((w.alloc (.cells #[.int .i64 x.id, .slice a1 x.vec.length d1] 180)).alloc (.cells #[.int .i64 0, .slice none 0 0] 133)).alloc (.cells #[.int .i64 x.id, .slice none 0 0] 133)) := (((Below.refl _ _).alloc (Nat.le_refl _) _).alloc (by simp) _).alloc (by simp; omega) _
  have bA : Box w.heap.size #[.int .i64 x.id, .slice a1 x.vec.length d1] 180 (((w.alloc (.cells #[.int .i64 x.id, .slice a1 x.vec.length d1] 180)).alloc (.cells #[.int .i64 0, .slice none 0 0] 133)).alloc (.cells #[.int .i64 x.id, .slice none 0 0] 133)) w.heap.size := ((newBox (Nat.le_refl _)).grow _).grow _
  have bR : Box w.heap.size #[.int .i64 0, .slice none 0 0] 133 (((w.alloc (.cells #[.int .i64 x.id, .slice a1 x.vec.length d1] 180)).alloc (.cells #[.int .i64 0, .slice none 0 0] 133)).alloc (.cells #[.int .i64 x.id, .slice none 0 0] 133)) (w.heap.size + 1) := (newBoxAt (by omega) (by simp)).grow _
  have bX : Box w.heap.size #[.int .i64 x.id, .slice none 0 0] 133 (((w.alloc (.cells #[.int .i64 x.id, .slice a1 x.vec.length d1] 180)).alloc (.cells #[.int .i64 0, .slice none 0 0] 133)).alloc (.cells #[.int .i64 x.id, .slice none 0 0] 133)) (w.heap.size + 2) := newBoxAt (by omega) (by simp)
  have hz0 : w.heap.size + 3 ≤ (((w.alloc (.cells #[.int .i64 x.id, .slice a1 x.vec.length d1] 180)).alloc (.cells #[.int .i64 0, .slice none 0 0] 133)).alloc (.cells #[.int .i64 x.id, .slice none 0 0] 133)).heap.size := by simp
  go_enter Tryz.func143, Tryz.ntmps143
  go_wp2_with fail
  generalize ((w.alloc (.cells #[.int .i64 x.id, .slice a1 x.vec.length d1] 180)).alloc (.cells #[.int .i64 0, .slice none 0 0] 133)).alloc (.cells #[.int .i64 x.id, .slice none 0 0] 133) = W0 at *
  replace R1 := R1.later HB0
  refine (to_Int64S _ x.vec W0 R1 (by omega)).mono ?_
  rintro e w1 ⟨v1, rfl, O1, hb⟩
  have Z0 : W0.heap.size ≤ w1.heap.size := hb.size
  replace HB0 := HB0.trans (hb.mono HB0.size)
  replace bA := bA.keep hb
  replace bR := bR.keep hb
  replace bX := bX.keep hb
  clear hb R1
  obtain ⟨a1z, d1z, rfl⟩ := open_sl O1.reads
  have q0 := bX.at 0 _ rfl
  have q1 := bX.at 1 _ rfl
  have qf := bX.soft
  have ql := bX.lt
  have pl := bA.lt
  have r0 := bR.at 0 _ rfl
  have r1 := bR.at 1 _ rfl
  have rf := bR.soft
  have rl := bR.lt
  simp only [List.getElem_toArray, List.getElem_cons_zero, List.getElem_cons_succ] at q0 q1 r0 r1
  have hA := hide bA
  have hR := hide bR
  have hX := hide bX
  have hB := hide HB0
  clear bA bR bX HB0
  have hO1 := hide O1
  clear O1
  go_wp2_with fail
  refine bodyPost_ret (v := .agg #[.int .i64 x.id, .slice a1z x.vec.length d1z]) (by simp [results, Tryz.results143, go_sem, r0, r1]) rfl ?_
  have E : Ext (fun q => q = w.heap.size + 2 ∨ q = w.heap.size + 1) w1 _ := ext_setL (ext_setL (Ext.refl _ _) (w.heap.size + 2) [(1, .slice a1z x.vec.length d1z)] (Or.inl rfl)) (w.heap.size + 1) [(0, .int .i64 x.id), (1, .slice a1z x.vec.length d1z)] (Or.inr rfl)
  obtain f0 := unhide HF
  have own : Lay.tItem.OwnIn _ [.int .i64 x.id, .slice a1z x.vec.length d1z] x w.heap.size w1.heap.size := (Lay.ownIn_pair (Lay.ownIn_int (lo := w.heap.size) (hi := w.heap.size) f0) ((unhide hO1).ext E (fun k h1 h2 h3 => by omega)) (by omega) (by omega) (by omega))
  have hsz := E.size
  have told := Lay.toldOwn (w := w) own (by omega) (by omega) ((unhide hB).trans (E.below (unhide hB).size (fun k h1 h2 => by omega)))
  exact told

end Go.Proofs.YtfgadegpdknocaaGreat

namespace Go.Proofs.YtfgadegpdknocaaGreat
open Go.RowKit

theorem infoItem : (Tryz.prog.info? 133).map (fun i => (i.zero, i.size, decide (i.bytes ≤ 1000))) = some (some (.agg #[.int .i64 0, .slice none 0 0]), 2, true) := by kernel_rfl
set_option maxRecDepth 10000 in
set_option maxHeartbeats 2000000 in
theorem to_ItemS (v : Value) (xs : List DItem) (w : World) (h : (Lay.sl Lay.tItem).Reads w [v] xs) (hn : (Lay.sl Lay.tItem).sz xs ≤ 1048576) :
    Calls Tryz.prog 121 #[v] w fun e w' => ∃ v', e = .returned v' ∧ (Lay.sl Lay.tItem).OwnIn w' [v'] xs w.heap.size w'.heap.size ∧ Below w.heap.size w w' := by
  have hbig := h.big
  obtain ⟨ao, cap, rfl⟩ := open_sl h
  have hlen : xs.length ≤ 1048576 := Nat.le_trans Lay.sz_len hn
  obtain ⟨i0, hi, hz0, hz1, hz2⟩ : ∃ i, Tryz.prog.info? 133 = some i ∧ i.zero = some (.agg #[.int .i64 0, .slice none 0 0]) ∧ i.size = 2 ∧ i.bytes ≤ 1000 := by
    have := infoItem
    cases hq : Tryz.prog.info? 133 with
    | none => rw [hq] at this; simp at this
    | some i =>
      rw [hq] at this
      simp only [Option.map_some, Option.some.injEq, Prod.mk.injEq, decide_eq_true_eq] at this
      exact ⟨i, rfl, this.1, this.2.1, this.2.2⟩
  have H := hide h
  have HN := hide hn
  clear h hn
  go_enter Tryz.func121, Tryz.ntmps121
  go_wp2_with (at_make; refine wpList_make_full _ rfl _ _ 57 rfl w.heap.size 133 i0 _ 2 Tryz.underlying57 hi hz0 hz1 _ _ _ _ xs.length rfl rfl rfl rfl ?c1 ?c2 ?c3 ?_)
  case c1 => have := Nat.mul_le_mul hz2 hlen; omega
  case c2 => unfold maxLen; omega
  case c3 => exact Nat.le_refl _
  intro w1 hown1 hgrow1
  have hB1 : Below w.heap.size w w1 := (Below.refl _ _).grown hgrow1 (Nat.le_refl _) (by simp)
  clear hgrow1 hi hz0 hz1 hz2
  have HO1 := hide hown1
  have HB1 := hide hB1
  clear hown1 hB1
  go_wp2_with fail
  go_loopw [4] (fun i wr => ∃ (k : Nat) (rows : List (List Value)) (Q : List Value) (hi : Nat), k ≤ xs.length ∧ i = .int .i64 k ∧ wr.ownsRow w.heap.size 133 2 (.slice (some ⟨w.heap.size, 0, none⟩) xs.length xs.length) xs.length (rows.flatten ++ Q) ∧ Q.length = (xs.length - k) * 2 ∧ Lay.Subs Lay.tItem wr rows (xs.take k) (w.heap.size + 1) hi ∧ hi ≤ wr.heap.size ∧ w.heap.size < hi ∧ Below w.heap.size w wr) (fun i _ => xs.length - (intOf i).toNat)
  case atStart =>
    have hl := ((unhide HO1).lt w.heap.size rfl).2
    exact ⟨0, [], _, w1.heap.size, Nat.zero_le _, rfl, by simpa using unhide HO1, by have := (unhide HO1).1; simpa using this, Lay.subs_nil, Nat.le_refl _, hl, unhide HB1⟩
  case round =>
    obtain ⟨k, rows, Q, hi, hk, rfl, hown, hQ, hsub, hhi, hlo, hB⟩ := hrel
    clear HO1 HB1
    by_cases hlt : k < xs.length
    · obtain ⟨b, off, rfl, hbl⟩ := Lay.sl_addr (unhide H) (by omega)
      obtain ⟨row, hc, hr⟩ := Lay.row_at (unhide H) hlt
      replace hr := hr.later hB
      have hr2 := hr
      obtain ⟨a1, d1, rfl, -⟩ := open_Item hr2
      have c0 : wr.cell? ⟨b, off + k * 2, none⟩ = some (.int .i64 (xs[k]).id) := (hB.cell (p := ⟨b, off + k * 2, none⟩) hbl).trans (hc 0 (by decide))
      have c1 : wr.cell? ⟨b, off + k * 2 + 1, none⟩ = some (.slice a1 (xs[k]).vec.length d1) := (hB.cell (p := ⟨b, off + k * 2 + 1, none⟩) hbl).trans (hc 1 (by decide))
      have hrl : rows.flatten.length = k * 2 := by have := (Lay.subs_len hsub).1; rw [List.length_take, Nat.min_eq_left hk] at this; exact this
      have hsz := Nat.le_trans (Lay.sz_elem (A := Lay.tItem) hlt) (unhide HN)
      have HT : Hid (xs.take (k + 1) = xs.take k ++ [xs[k]]) := List.take_succ_eq_append_getElem hlt
      have HB := hide hB
      have HR := hide hr
      have HO := hide hown
      have HS := hide hsub
      have HQ := hide hQ
      clear hB hr hc hown hsub hQ
      generalize hxk : xs[k] = x at *
      clear hxk
      go_wp2_with fail
      refine (to_Item _ x wr (unhide HR) hsz).mono ?_
      rintro e w2 ⟨cs2, rfl, O, hb⟩
      have o2 := own_below (unhide HO) hb
      replace HS := hide (Lay.subs_snoc (Lay.subs_ext (unhide HS) (ext_of_below hb nowhere) (fun _ _ _ h => h)) O (by omega) (by omega) (Nat.le_trans hhi hb.size))
      have hb2 := (unhide HB).trans (hb.mono (unhide HB).size)
      have hz := hb.size
      have orr := O.reads
      obtain ⟨a1z, d1z, rfl, -⟩ := open_Item orr
      clear hb HR HB HO O c0 c1
      have hQ := unhide HQ
      have hl5 : (rows.flatten ++ Q).length = xs.length * 2 := o2.1
      obtain ⟨u0, g0⟩ : ∃ u, w2.cell? ⟨w.heap.size, k * 2, none⟩ = some u := by
        rw [o2.cellAt (k * 2) (by omega)]
        exact ⟨_, List.getElem?_eq_getElem (by omega)⟩
      have t0 := o2.frozenAt (k * 2)
      obtain ⟨u1, g1⟩ : ∃ u, w2.cell? ⟨w.heap.size, k * 2 + 1, none⟩ = some u := by
        rw [o2.cellAt (k * 2 + 1) (by omega)]
        exact ⟨_, List.getElem?_eq_getElem (by omega)⟩
      have t1 := o2.frozenAt (k * 2 + 1)
      have o3 := own_setAll o2 (k * 2) [.int .i64 x.id, .slice a1z x.vec.length d1z]
      rw [show k * 2 = rows.flatten.length from hrl.symm, setFrom_app _ _ _ (by rw [hQ]; simp; have : 1 * 2 ≤ (xs.length - k) * 2 := Nat.mul_le_mul_right _ (by omega); omega), hrl] at o3
      have E : Ext (fun q => q = w.heap.size) w2 (setAll w2 w.heap.size (k * 2) [.int .i64 x.id, .slice a1z x.vec.length d1z]) := ext_setAll _ (Ext.refl _ _) _ _ _ rfl
      replace HS := hide (Lay.subs_ext (unhide HS) E (fun q h1 h2 h3 => by omega))
      have HB := hide (below_setAll hb2 w.heap.size (k * 2) [.int .i64 x.id, .slice a1z x.vec.length d1z] (Nat.le_refl _))
      have HZ : Hid ((setAll w2 w.heap.size (k * 2) [.int .i64 x.id, .slice a1z x.vec.length d1z]).heap.size = w2.heap.size) := size_setAll _ _ _ _
      have HO : Hid ((setAll w2 w.heap.size (k * 2) [.int .i64 x.id, .slice a1z x.vec.length d1z]).ownsRow w.heap.size 133 2 (.slice (some ⟨w.heap.size, 0, none⟩) xs.length xs.length) xs.length ((rows ++ [([.int .i64 x.id, .slice a1z x.vec.length d1z] : List Value)]).flatten ++ Q.drop 2)) := by
        show (setAll w2 w.heap.size (k * 2) [.int .i64 x.id, .slice a1z x.vec.length d1z]).ownsRow w.heap.size 133 2 (.slice (some ⟨w.heap.size, 0, none⟩) xs.length xs.length) xs.length ((rows ++ [([.int .i64 x.id, .slice a1z x.vec.length d1z] : List Value)]).flatten ++ Q.drop 2)
        rw [List.flatten_append]
        simpa using o3
      have hl2 := (o2.lt w.heap.size rfl).2
      clear o3 o2 E hb2 hl5
      have hQ2 : Hid ((Q.drop 2).length = (xs.length - (k + 1)) * 2) := by
        show (Q.drop 2).length = (xs.length - (k + 1)) * 2
        rw [List.length_drop, hQ, show xs.length - k = xs.length - (k + 1) + 1 by omega, Nat.add_mul]
        omega
      clear hQ HQ
      go_wp2_with fail
      go_roundw
      case rel => exact ⟨k + 1, rows ++ [([.int .i64 x.id, .slice a1z x.vec.length d1z] : List Value)], Q.drop 2, w2.heap.size, by omega, by go_num, unhide HO, unhide hQ2, (by rw [unhide HT]; exact unhide HS), Nat.le_of_eq (unhide HZ).symm, by omega, unhide HB⟩
      case measure => simp [intOf]; omega
    · obtain rfl : k = xs.length := by omega
      have e0 : Q = [] := List.eq_nil_of_length_eq_zero (by rw [hQ]; simp)
      subst e0
      rw [List.append_nil] at hown
      rw [List.take_length] at hsub
      have HO := hide (Lay.subs_done (A := Lay.tItem) hown hsub (by omega) hhi hbig)
      have HB := hide hB
      clear hown hsub hB
      go_wp2_with fail
      go_ret
      exact ⟨_, rfl, unhide HO, unhide HB⟩

end Go.Proofs.YtfgadegpdknocaaGreat

namespace Go.Proofs.YtfgadegpdknocaaGreat
open Go.RowKit

set_option maxRecDepth 10000 in
set_option maxHeartbeats 1000000 in
theorem eq_Item (cs cs2 : List Value) (x : DItem) (w : World) (h : Lay.tItem.Reads w cs x) (h2 : Lay.tItem.Reads w cs2 x) :
    Calls Tryz.prog 148 #[.agg cs.toArray, .agg cs2.toArray] w fun e w' => e = .returned (.bool true) ∧ Below w.heap.size w w' := by
  obtain ⟨a1, d1, rfl, R1⟩ := open_Item h
  obtain ⟨a1z, d1z, rfl, R1z⟩ := open_Item h2
  clear h h2
  have e0 : (x.id != x.id) = false := by simp
  have HB0 : Below w.heap.size w ((w.alloc (.cells #[.int .i64 x.id, .slice a1 x.vec.length d1] 133)).alloc (.cells #[.int .i64 x.id, .slice a1z x.vec.length d1z] 133)) := ((Below.refl _ _).alloc (Nat.le_refl _) _).alloc (by simp) _
  have bA : Box w.heap.size #[.int .i64 x.id, .slice a1 x.vec.length d1] 133 ((w.alloc (.cells #[.int .i64 x.id, .slice a1 x.vec.length d1] 133)).alloc (.cells #[.int .i64 x.id, .slice a1z x.vec.length d1z] 133)) w.heap.size := (newBox (Nat.le_refl _)).grow _
  have bC : Box w.heap.size #[.int .i64 x.id, .slice a1z x.vec.length d1z] 133 ((w.alloc (.cells #[.int .i64 x.id, .slice a1 x.vec.length d1] 133)).alloc (.cells #[.int .i64 x.id, .slice a1z x.vec.length d1z] 133)) (w.heap.size + 1) := newBoxAt (by omega) (by simp)
  go_enter Tryz.func148, Tryz.ntmps148
  go_wp2_with fail
  generalize (w.alloc (.cells #[.int .i64 x.id, .slice a1 x.vec.length d1] 133)).alloc (.cells #[.int .i64 x.id, .slice a1z x.vec.length d1z] 133) = W0 at *
  replace R1 := R1.later HB0
  replace R1z := R1z.later HB0
  refine (eq_Int64S _ _ x.vec _ R1 R1z).mono ?_
  rintro e w1 ⟨rfl, hb⟩
  replace bA := bA.keep hb
  replace bC := bC.keep hb
  replace HB0 := HB0.trans (hb.mono HB0.size)
  clear hb
  have HB := hide HB0
  have HA := hide bA
  have HC := hide bC
  clear HB0 bA bC
  go_wp2_with fail
  go_ret
  exact ⟨rfl, unhide HB⟩

end Go.Proofs.YtfgadegpdknocaaGreat

namespace Go.Proofs.YtfgadegpdknocaaGreat
open Go.RowKit

set_option maxRecDepth 100000 in
set_option maxHeartbeats 2000000 in
theorem eq_ItemS (v v2 : Value) (xs : List DItem) (w : World) (h : (Lay.sl Lay.tItem).Reads w [v] xs) (h2 : (Lay.sl Lay.tItem).Reads w [v2] xs) :
    Calls Tryz.prog 128 #[v, v2] w fun e w' => e = .returned (.bool true) ∧ Below w.heap.size w w' := by
  have hbig := h.big
  obtain ⟨ao, cap, rfl⟩ := open_sl h
  obtain ⟨ao2, cap2, rfl⟩ := open_sl h2
  by_cases hp : 0 < xs.length
  · obtain ⟨b, off, rfl, hbl⟩ := Lay.sl_addr h hp
    obtain ⟨b2, off2, rfl, hbl2⟩ := Lay.sl_addr h2 hp
    have H := hide h
    have H2 := hide h2
    clear h h2
    go_enter Tryz.func128, Tryz.ntmps128
    go_wp2_with fail
    go_loopw [5] (fun i wr => ∃ k : Nat, k ≤ xs.length ∧ i = .int .i64 k ∧ Below w.heap.size w wr) (fun i _ => xs.length - (intOf i).toNat)
    case atStart => exact ⟨0, Nat.zero_le _, rfl, Below.refl _ _⟩
    case round =>
      obtain ⟨k, hk, rfl, hB⟩ := hrel
      by_cases hlt : k < xs.length
      · obtain ⟨row, hc, hr⟩ := Lay.row_at (unhide H) hlt
        obtain ⟨rowz, hcz, hrz⟩ := Lay.row_at (unhide H2) hlt
        have hr2 := hr
        obtain ⟨a1, d1, rfl, -⟩ := open_Item hr2
        have hrz2 := hrz
        obtain ⟨a1z, d1z, rfl, -⟩ := open_Item hrz2
        have c0 : w.cell? ⟨b, off + k * 2, none⟩ = some (.int .i64 (xs[k]).id) := ((Below.refl w.heap.size w).cell (p := ⟨b, off + k * 2, none⟩) hbl).trans (hc 0 (by decide))
        have c1 : w.cell? ⟨b, off + k * 2 + 1, none⟩ = some (.slice a1 (xs[k]).vec.length d1) := ((Below.refl w.heap.size w).cell (p := ⟨b, off + k * 2 + 1, none⟩) hbl).trans (hc 1 (by decide))
        have c0z : w.cell? ⟨b2, off2 + k * 2, none⟩ = some (.int .i64 (xs[k]).id) := ((Below.refl w.heap.size w).cell (p := ⟨b2, off2 + k * 2, none⟩) hbl2).trans (hcz 0 (by decide))
        have c1z : w.cell? ⟨b2, off2 + k * 2 + 1, none⟩ = some (.slice a1z (xs[k]).vec.length d1z) := ((Below.refl w.heap.size w).cell (p := ⟨b2, off2 + k * 2 + 1, none⟩) hbl2).trans (hcz 1 (by decide))
        clear hc hcz
        have HR := hide hr
        have HRZ := hide hrz
        clear hr hrz
        have HB := hide hB
        clear hB
        generalize hxk : xs[k] = x at *
        clear hxk
        have i1 : (0 : Int) ≤ (k : Int) := by omega
        have i2 : (k : Int) < (xs.length : Int) := by omega
        go_wp2_with fail
        refine wp_region_noPanic ?_
        refine wp_region_held_drew (S := fun w' => Below w.heap.size w w') (by kernel_rfl) (unhide HB).drew (fun hHeld => ?_)
        generalize wr.drew = wD at hHeld ⊢
        refine wpAnyH_take (i := 0) (oi := { dst := some 17, op := Go.Op.move (Go.Operand.tmp 0), type := 57, pos := "exact.go:466", after := #[], guard := none }) (v := ?v0) rfl (by kernel_rfl) (by kernel_rfl) (by kernel_rfl) (fun _ _ _ h => h) (Or.inl ⟨by rfl, ?h0⟩) hHeld ?r0
        case h0 =>
          intro wS hSw
          (try dsimp only at hSw)
          go_simp
          try with_reducible rfl
        case r0 =>
        simp only [Act.put, List.setIfInBounds_toArray, List.set_cons_zero, List.set_cons_succ]
        refine wpAnyH_take (i := 1) (oi := { dst := some 18, op := Go.Op.move (Go.Operand.tmp 5), type := 3, pos := "exact.go:466", after := #[], guard := none }) (v := ?v1) rfl (by kernel_rfl) (by kernel_rfl) (by kernel_rfl) (fun _ _ _ h => h) (Or.inl ⟨by rfl, ?h1⟩) hHeld ?r1
        case h1 =>
          intro wS hSw
          (try dsimp only at hSw)
          go_simp
          try with_reducible rfl
        case r1 =>
        simp only [Act.put, List.setIfInBounds_toArray, List.set_cons_zero, List.set_cons_succ]
        refine wpAnyH_take (i := 2) (oi := { dst := some 19, op := Go.Op.indexAddr 57 (Go.Operand.tmp 17) (Go.Operand.tmp 18), type := 0, pos := "exact.go:466", after := #[{ on := 0, ground := Go.Ground.data }, { on := 1, ground := Go.Ground.data }], guard := none }) (v := ?v2) rfl (by kernel_rfl) (by kernel_rfl) (by kernel_rfl) (fun _ _ _ h => h) (Or.inl ⟨by rfl, ?h2⟩) hHeld ?r2
        case h2 =>
          intro wS hSw
          (try dsimp only at hSw)
          go_simp
          try with_reducible rfl
        case r2 =>
        simp only [Act.put, List.setIfInBounds_toArray, List.set_cons_zero, List.set_cons_succ]
        refine wpAnyH_take (i := 3) (oi := { dst := some 20, op := Go.Op.load 133 (Go.Operand.tmp 19), type := 133, pos := "exact.go:466", after := #[{ on := 2, ground := Go.Ground.data }], guard := none }) (v := ?v3) rfl (by kernel_rfl) (by kernel_rfl) (by kernel_rfl) (fun _ _ _ h => h) (Or.inl ⟨by rfl, ?h3⟩) hHeld ?r3
        case h3 =>
          intro wS hSw
          have y0 := (hSw.cell (p := ⟨b, off + k * 2, none⟩) hbl).trans c0
          have y1 := (hSw.cell (p := ⟨b, off + k * 2 + 1, none⟩) hbl).trans c1
          clear hSw
          (try dsimp only at hSw)
          go_simp
          try with_reducible rfl
        case r3 =>
        simp only [Act.put, List.setIfInBounds_toArray, List.set_cons_zero, List.set_cons_succ]
        refine wpAnyH_take (i := 4) (oi := { dst := some 21, op := Go.Op.move (Go.Operand.tmp 1), type := 57, pos := "exact.go:466", after := #[], guard := none }) (v := ?v4) rfl (by kernel_rfl) (by kernel_rfl) (by kernel_rfl) (fun _ _ _ h => h) (Or.inl ⟨by rfl, ?h4⟩) hHeld ?r4
        case h4 =>
          intro wS hSw
          (try dsimp only at hSw)
          go_simp
          try with_reducible rfl
        case r4 =>
        simp only [Act.put, List.setIfInBounds_toArray, List.set_cons_zero, List.set_cons_succ]
        refine wpAnyH_take (i := 5) (oi := { dst := some 22, op := Go.Op.move (Go.Operand.tmp 5), type := 3, pos := "exact.go:466", after := #[], guard := none }) (v := ?v5) rfl (by kernel_rfl) (by kernel_rfl) (by kernel_rfl) (fun _ _ _ h => h) (Or.inl ⟨by rfl, ?h5⟩) hHeld ?r5
        case h5 =>
          intro wS hSw
          (try dsimp only at hSw)
          go_simp
          try with_reducible rfl
        case r5 =>
        simp only [Act.put, List.setIfInBounds_toArray, List.set_cons_zero, List.set_cons_succ]
        refine wpAnyH_take (i := 6) (oi := { dst := some 23, op := Go.Op.indexAddr 57 (Go.Operand.tmp 21) (Go.Operand.tmp 22), type := 0, pos := "exact.go:466", after := #[{ on := 4, ground := Go.Ground.data }, { on := 5, ground := Go.Ground.data }], guard := none }) (v := ?v6) rfl (by kernel_rfl) (by kernel_rfl) (by kernel_rfl) (fun _ _ _ h => h) (Or.inl ⟨by rfl, ?h6⟩) hHeld ?r6
        case h6 =>
          intro wS hSw
          (try dsimp only at hSw)
          go_simp
          try with_reducible rfl
        case r6 =>
        simp only [Act.put, List.setIfInBounds_toArray, List.set_cons_zero, List.set_cons_succ]
        refine wpAnyH_take (i := 7) (oi := { dst := some 24, op := Go.Op.load 133 (Go.Operand.tmp 23), type := 133, pos := "exact.go:466", after := #[{ on := 6, ground := Go.Ground.data }], guard := none }) (v := ?v7) rfl (by kernel_rfl) (by kernel_rfl) (by kernel_rfl) (fun _ _ _ h => h) (Or.inl ⟨by rfl, ?h7⟩) hHeld ?r7
        case h7 =>
          intro wS hSw
          have y0z := (hSw.cell (p := ⟨b2, off2 + k * 2, none⟩) hbl2).trans c0z
          have y1z := (hSw.cell (p := ⟨b2, off2 + k * 2 + 1, none⟩) hbl2).trans c1z
          clear hSw
          (try dsimp only at hSw)
          go_simp
          try with_reducible rfl
        case r7 =>
        simp only [Act.put, List.setIfInBounds_toArray, List.set_cons_zero, List.set_cons_succ]
        refine wpAnyH_ready (rs := [8]) (by kernel_rfl) (by simp) ?_
        refine AllReadyH.cons (o := { dst := some 25, op := Go.Op.call { callee := Go.Callee.value (Go.Operand.func 148), args := #[Go.Operand.tmp 20, Go.Operand.tmp 24], argTypes := #[133, 133] }, type := 4, pos := "exact.go:466", after := #[{ on := 3, ground := Go.Ground.data }, { on := 7, ground := Go.Ground.data }], guard := none }) rfl (fun K hK => ?_) AllReadyH.nil
        go_simp
        go_at_call 148
        refine (eq_Item _ _ x _ ((unhide HR).later hHeld) ((unhide HRZ).later hHeld)).mono ?_
        rintro e w3 ⟨rfl, hbw⟩
        try go_wp2_with fail
        refine hK.out _ _ (hHeld.trans (hbw.mono hHeld.size)) (fun hHeld => ?_)
        clear hK K
        try simp only [Act.put, List.setIfInBounds_toArray, List.set_cons_zero, List.set_cons_succ]
        refine wpAnyH_take (i := 9) (oi := { dst := some 26, op := Go.Op.unOp Go.UnOp.not 4 (Go.Operand.tmp 25), type := 4, pos := "exact.go:466", after := #[{ on := 8, ground := Go.Ground.data }], guard := none }) (v := ?v9) rfl (by kernel_rfl) (by kernel_rfl) (by kernel_rfl) (fun _ _ _ h => h) (Or.inl ⟨by rfl, ?h9⟩) hHeld ?r9
        case h9 =>
          intro wS hSw
          (try dsimp only at hSw)
          go_simp
          try with_reducible rfl
        case r9 =>
        simp only [Act.put, List.setIfInBounds_toArray, List.set_cons_zero, List.set_cons_succ]
        refine wpAnyH_done (by kernel_rfl) ?_ _
        refine NoPanic.normal ?_
        have HB3 := hide hHeld
        clear hHeld c0 c0z c1 c1z HB
        go_wp2_with fail
        go_roundw
        case rel => exact ⟨k + 1, by omega, by go_num, unhide HB3⟩
        case measure => simp [intOf]; omega
      · have HB := hide hB
        clear hB
        go_wp2_with fail
        go_ret
        exact ⟨rfl, unhide HB⟩
  · obtain rfl : xs = [] := List.eq_nil_of_length_eq_zero (by omega)
    clear h h2 hp
    simp only [List.length_nil] at *
    go_enter Tryz.func128, Tryz.ntmps128
    go_wp2_with fail
    refine wp_loop_rounds 1 ?_
    rw [rounds_succ]
    go_wp2_with fail
    go_ret
    exact ⟨rfl, Below.refl _ _⟩

end Go.Proofs.YtfgadegpdknocaaGreat

namespace Go.Proofs.YtfgadegpdknocaaGreat
open Go.RowKit

theorem szsum_IvfList (x : DIvfList) : Lay.tIvfList.sz x = (Lay.sl Lay.tItem).sz x.items := by
  show (Lay.sl Lay.tItem).sz x.items = (Lay.sl Lay.tItem).sz x.items
  omega
set_option maxRecDepth 10000 in
set_option maxHeartbeats 1000000 in
theorem sz_IvfList (cs : List Value) (x : DIvfList) (l : Nat) (w : World) (h : Lay.tIvfList.Reads w cs x) (hl : l ≤ 1048576) :
    Calls Tryz.prog 82 #[.agg cs.toArray, .int .i64 l] w fun e w' => e = .returned (.int .i64 (szR l (Lay.tIvfList.sz x))) ∧ Below w.heap.size w w' := by
  obtain ⟨a0, d0, rfl, R0⟩ := open_IvfList h
  clear h
  have HB0 : Below w.heap.size w (w.alloc (.cells #[.slice a0 x.items.length d0] 131)) := (Below.refl _ _).alloc (Nat.le_refl _) _
  have bA : Box w.heap.size #[.slice a0 x.items.length d0] 131 (w.alloc (.cells #[.slice a0 x.items.length d0] 131)) w.heap.size := newBox (Nat.le_refl _)
  have HV := hide (szsum_IvfList x)
  go_enter Tryz.func82, Tryz.ntmps82
  go_wp2_with fail
  generalize w.alloc (.cells #[.slice a0 x.items.length d0] 131) = W0 at *
  replace R0 := R0.later HB0
  refine (sz_ItemS _ x.items (l) _ R0 (by omega)).mono ?_
  rintro e w1 ⟨rfl, hb⟩
  replace HB0 := HB0.trans (hb.mono HB0.size)
  replace bA := bA.keep hb
  clear hb R0
  by_cases hs0 : (Lay.sl Lay.tItem).sz x.items ≤ l
  · rw [szR_ok hs0]
    have hq : decide (((l - (Lay.sl Lay.tItem).sz x.items : Nat) : Int) < 0) = false := by simp
    have HX := hide HB0
    have HA := hide bA
    clear HB0 bA
    go_wp2_with fail
    clear hq
    go_ret
    refine ⟨?_, unhide HX⟩
    rw [unhide HV, szR_ok (by omega), show l - ((Lay.sl Lay.tItem).sz x.items) = l - (Lay.sl Lay.tItem).sz x.items by omega]
    rfl
  · rw [szR_many (by omega)]
    have HX := hide HB0
    clear HB0 bA
    go_wp2_with fail
    go_ret
    refine ⟨?_, unhide HX⟩
    rw [unhide HV, szR_many (by omega)]
    rfl

end Go.Proofs.YtfgadegpdknocaaGreat

namespace Go.Proofs.YtfgadegpdknocaaGreat
open Go.RowKit

set_option maxRecDepth 10000 in
set_option maxHeartbeats 1000000 in
theorem sz_IvfListS (v : Value) (xs : List DIvfList) (l : Nat) (w : World) (h : (Lay.sl Lay.tIvfList).Reads w [v] xs) (hl : l ≤ 1048576) :
    Calls Tryz.prog 36 #[v, .int .i64 l] w fun e w' => e = .returned (.int .i64 (szR l ((Lay.sl Lay.tIvfList).sz xs))) ∧ Below w.heap.size w w' := by
  have hbig := h.big
  obtain ⟨ao, cap, rfl⟩ := open_sl h
  have HV : Hid ((Lay.sl Lay.tIvfList).sz xs = xs.length + cntAll Lay.tIvfList.sz xs) := rfl
  by_cases hn : xs.length ≤ l
  · have e1 : (l : Int) - (xs.length : Int) = ((l - xs.length : Nat) : Int) := by omega
    have e2 : decide (((l - xs.length : Nat) : Int) < 0) = false := by simp
    by_cases hp : 0 < xs.length
    · obtain ⟨b, off, rfl, hbl⟩ := Lay.sl_addr h hp
      have H := hide h
      clear h
      go_enter Tryz.func36, Tryz.ntmps36
      go_wp2_with fail
      go_loopw [1, 5] (fun lf i wr => ∃ k s : Nat, k ≤ xs.length ∧ i = .int .i64 k ∧ s = cntAll Lay.tIvfList.sz (xs.take k) ∧ xs.length + s ≤ l ∧ lf = .int .i64 ((l - (xs.length + s) : Nat) : Int) ∧ Below w.heap.size w wr) (fun _ i _ => xs.length - (intOf i).toNat)
      case atStart => exact ⟨0, 0, Nat.zero_le _, rfl, rfl, by omega, by simp, Below.refl _ _⟩
      case round =>
        obtain ⟨k, s, hk, rfl, hs, hsl, rfl, hB⟩ := hrel
        have HS := hide hs
        clear hs e1 e2
        by_cases hlt : k < xs.length
        · obtain ⟨row, hc, hr⟩ := Lay.row_at (unhide H) hlt
          replace hr := hr.later hB
          have hr2 := hr
          obtain ⟨a0, d0, rfl, -⟩ := open_IvfList hr2
          have c0 : wr.cell? ⟨b, off + k, none⟩ = some (.slice a0 (xs[k]).items.length d0) := (hB.cell (p := ⟨b, off + k, none⟩) hbl).trans (by have q1 : w.cell? ⟨b, off + k * 1 + 0, none⟩ = some (.slice a0 (xs[k]).items.length d0) := hc 0 (by decide); rw [Nat.mul_one, Nat.add_zero] at q1; exact q1)
          have HB := hide hB
          have HR := hide hr
          have HT := hide (Lay.cntAll_take (f := Lay.tIvfList.sz) hlt)
          have HL := hide (Lay.cntAll_take_le (f := Lay.tIvfList.sz) (xs := xs) (k := k + 1))
          clear hB hr hc
          generalize hxk : xs[k] = x at *
          clear hxk
          go_wp2_with fail
          refine (sz_IvfList _ x (l - (xs.length + s)) wr (unhide HR) (by omega)).mono ?_
          rintro e w2 ⟨rfl, hb⟩
          replace HB := hide ((unhide HB).trans (hb.mono (unhide HB).size))
          clear hb HR c0
          have ht := unhide HT
          rw [← unhide HS] at ht
          have hle := unhide HL
          rw [ht] at hle
          have HQ := hide ht
          by_cases hq : xs.length + s + Lay.tIvfList.sz x ≤ l
          · rw [szR_ok (by omega)]
            have e3 : l - (xs.length + s) - Lay.tIvfList.sz x = l - (xs.length + (s + Lay.tIvfList.sz x)) := by omega
            rw [e3]
            have e4 : decide (((l - (xs.length + (s + Lay.tIvfList.sz x)) : Nat) : Int) < 0) = false := by simp
            clear ht hle e3
            generalize hz : s + Lay.tIvfList.sz x = s2 at *
            have hs2 : xs.length + s2 ≤ l := by omega
            clear hz hq
            go_wp2_with fail
            go_roundw
            case rel => exact ⟨k + 1, s2, by omega, by go_num, (unhide HQ).symm, hs2, rfl, unhide HB⟩
            case measure => simp [intOf]; omega
          · rw [szR_many (by omega)]
            have HN : Hid (l < xs.length + cntAll Lay.tIvfList.sz xs) := by
              show l < xs.length + cntAll Lay.tIvfList.sz xs
              omega
            clear ht hle
            go_wp2_with fail
            go_ret
            refine ⟨?_, unhide HB⟩
            rw [unhide HV, szR_many (unhide HN)]
            rfl
        · obtain rfl : k = xs.length := by omega
          have HE : Hid (s = cntAll Lay.tIvfList.sz xs) := by
            have := unhide HS
            rw [List.take_length] at this
            exact this
          have HB := hide hB
          clear hB HS
          go_wp2_with fail
          go_ret
          refine ⟨?_, unhide HB⟩
          rw [unhide HV, ← unhide HE, szR_ok hsl]
          rfl
    · obtain rfl : xs = [] := List.eq_nil_of_length_eq_zero (by omega)
      clear h hp
      rw [unhide HV]
      simp only [List.length_nil, cntAll, Nat.add_zero, Nat.sub_zero] at *
      rw [szR_ok (Nat.zero_le _)]
      have e3 : decide ((l : Int) < 0) = false := by simp
      go_enter Tryz.func36, Tryz.ntmps36
      go_wp2_with fail
      refine wp_loop_rounds 1 ?_
      rw [rounds_succ]
      go_wp2_with fail
      go_ret
      exact ⟨by simp, Below.refl _ _⟩
  · have HN : Hid (szR l ((Lay.sl Lay.tIvfList).sz xs) = -1) := szR_many (by rw [unhide HV]; omega)
    rw [unhide HN]
    have e2 : decide ((l : Int) - (xs.length : Int) < 0) = true := by simp; omega
    clear h HV HN
    generalize xs.length = n at *
    go_enter Tryz.func36, Tryz.ntmps36
    go_wp2_with fail
    go_ret
    exact ⟨rfl, Below.refl _ _⟩

end Go.Proofs.YtfgadegpdknocaaGreat

namespace Go.Proofs.YtfgadegpdknocaaGreat
open Go.RowKit

theorem szsum_Ivf (x : DIvf) : Lay.tIvf.sz x = (Lay.sl Lay.tCenter).sz x.centers + (Lay.sl Lay.tIvfList).sz x.lists := by
  show (Lay.sl Lay.tCenter).sz x.centers + ((Lay.sl Lay.tIvfList).sz x.lists) = (Lay.sl Lay.tCenter).sz x.centers + (Lay.sl Lay.tIvfList).sz x.lists
  omega
set_option maxRecDepth 10000 in
set_option maxHeartbeats 1000000 in
theorem sz_Ivf (cs : List Value) (x : DIvf) (l : Nat) (w : World) (h : Lay.tIvf.Reads w cs x) (hl : l ≤ 1048576) :
    Calls Tryz.prog 7 #[.agg cs.toArray, .int .i64 l] w fun e w' => e = .returned (.int .i64 (szR l (Lay.tIvf.sz x))) ∧ Below w.heap.size w w' := by
  obtain ⟨a0, d0, a1, d1, rfl, R0, R1⟩ := open_Ivf h
  clear h
  have HB0 : Below w.heap.size w (w.alloc (.cells #[.slice a0 x.centers.length d0, .slice a1 x.lists.length d1] 25)) := (Below.refl _ _).alloc (Nat.le_refl _) _
  have bA : Box w.heap.size #[.slice a0 x.centers.length d0, .slice a1 x.lists.length d1] 25 (w.alloc (.cells #[.slice a0 x.centers.length d0, .slice a1 x.lists.length d1] 25)) w.heap.size := newBox (Nat.le_refl _)
  have HV := hide (szsum_Ivf x)
  go_enter Tryz.func7, Tryz.ntmps7
  go_wp2_with fail
  generalize w.alloc (.cells #[.slice a0 x.centers.length d0, .slice a1 x.lists.length d1] 25) = W0 at *
  replace R0 := R0.later HB0
  replace R1 := R1.later HB0
  refine (sz_CenterS _ x.centers (l) _ R0 (by omega)).mono ?_
  rintro e w1 ⟨rfl, hb⟩
  replace HB0 := HB0.trans (hb.mono HB0.size)
  replace bA := bA.keep hb
  replace R1 := R1.later hb
  clear hb R0
  by_cases hs0 : (Lay.sl Lay.tCenter).sz x.centers ≤ l
  · rw [szR_ok hs0]
    have hq : decide (((l - (Lay.sl Lay.tCenter).sz x.centers : Nat) : Int) < 0) = false := by simp
    have p1 := bA.at 1 _ rfl
    have HX := hide HB0
    have HA := hide bA
    clear HB0 bA
    have P1 := hide R1
    clear R1
    go_wp2_with fail
    clear hq
    have HB0 := unhide HX
    have bA := unhide HA
    clear HX HA
    have R1 := unhide P1
    clear P1
    clear p1
    refine (sz_IvfListS _ x.lists (l - (Lay.sl Lay.tCenter).sz x.centers) _ R1 (by omega)).mono ?_
    rintro e w2 ⟨rfl, hb⟩
    replace HB0 := HB0.trans (hb.mono HB0.size)
    replace bA := bA.keep hb
    clear hb R1
    by_cases hs1 : (Lay.sl Lay.tIvfList).sz x.lists ≤ l - (Lay.sl Lay.tCenter).sz x.centers
    · rw [szR_ok hs1]
      have hq : decide (((l - (Lay.sl Lay.tCenter).sz x.centers - (Lay.sl Lay.tIvfList).sz x.lists : Nat) : Int) < 0) = false := by simp
      have HX := hide HB0
      have HA := hide bA
      clear HB0 bA
      go_wp2_with fail
      clear hq
      go_ret
      refine ⟨?_, unhide HX⟩
      rw [unhide HV, szR_ok (by omega), show l - ((Lay.sl Lay.tCenter).sz x.centers + (Lay.sl Lay.tIvfList).sz x.lists) = l - (Lay.sl Lay.tCenter).sz x.centers - (Lay.sl Lay.tIvfList).sz x.lists by omega]
      rfl
    · rw [szR_many (by omega)]
      have HX := hide HB0
      clear HB0 bA
      go_wp2_with fail
      go_ret
      refine ⟨?_, unhide HX⟩
      rw [unhide HV, szR_many (by omega)]
      rfl
  · rw [szR_many (by omega)]
    have HX := hide HB0
    clear HB0 bA
    go_wp2_with fail
    go_ret
    refine ⟨?_, unhide HX⟩
    rw [unhide HV, szR_many (by omega)]
    rfl

end Go.Proofs.YtfgadegpdknocaaGreat

namespace Go.Proofs.YtfgadegpdknocaaGreat
open Go.RowKit

set_option maxRecDepth 10000 in
set_option maxHeartbeats 2000000 in
theorem to_Center (cs : List Value) (x : DCenter) (w : World) (h : Lay.tCenter.Reads w cs x) (hn : Lay.tCenter.sz x ≤ 1048576) :
    Calls Tryz.prog 88 #[.agg cs.toArray] w fun e w' => ∃ cs', e = .returned (.agg cs'.toArray) ∧ Lay.tCenter.OwnIn w' cs' x w.heap.size w'.heap.size ∧ Below w.heap.size w w' := by
  obtain ⟨a0, d0, rfl, R0⟩ := open_Center h
  clear h
  rw [szsum_Center] at hn
  have HB0 : Below w.heap.size w (((w.alloc (.cells #[.slice a0 x.vec.length d0] 127)).alloc (.cells #[.slice none 0 0] 134)).alloc (.cells #[.slice none 0 0] 134)) := (((Below.refl _ _).alloc (Nat.le_refl _) _).alloc (by simp) _).alloc (by simp; omega) _
  have bA : Box w.heap.size #[.slice a0 x.vec.length d0] 127 (((w.alloc (.cells #[.slice a0 x.vec.length d0] 127)).alloc (.cells #[.slice none 0 0] 134)).alloc (.cells #[.slice none 0 0] 134)) w.heap.size := ((newBox (Nat.le_refl _)).grow _).grow _
  have bR : Box w.heap.size #[.slice none 0 0] 134 (((w.alloc (.cells #[.slice a0 x.vec.length d0] 127)).alloc (.cells #[.slice none 0 0] 134)).alloc (.cells #[.slice none 0 0] 134)) (w.heap.size + 1) := (newBoxAt (by omega) (by simp)).grow _
  have bX : Box w.heap.size #[.slice none 0 0] 134 (((w.alloc (.cells #[.slice a0 x.vec.length d0] 127)).alloc (.cells #[.slice none 0 0] 134)).alloc (.cells #[.slice none 0 0] 134)) (w.heap.size + 2) := newBoxAt (by omega) (by simp)
  have hz0 : w.heap.size + 3 ≤ (((w.alloc (.cells #[.slice a0 x.vec.length d0] 127)).alloc (.cells #[.slice none 0 0] 134)).alloc (.cells #[.slice none 0 0] 134)).heap.size := by simp
  go_enter Tryz.func88, Tryz.ntmps88
  go_wp2_with fail
  generalize ((w.alloc (.cells #[.slice a0 x.vec.length d0] 127)).alloc (.cells #[.slice none 0 0] 134)).alloc (.cells #[.slice none 0 0] 134) = W0 at *
  replace R0 := R0.later HB0
  refine (to_Int64S _ x.vec W0 R0 (by omega)).mono ?_
  rintro e w1 ⟨v0, rfl, O0, hb⟩
  have Z0 : W0.heap.size ≤ w1.heap.size := hb.size
  replace HB0 := HB0.trans (hb.mono HB0.size)
  replace bA := bA.keep hb
  replace bR := bR.keep hb
  replace bX := bX.keep hb
  clear hb R0
  obtain ⟨a0z, d0z, rfl⟩ := open_sl O0.reads
  have q0 := bX.at 0 _ rfl
  have qf := bX.soft
  have ql := bX.lt
  have pl := bA.lt
  have r0 := bR.at 0 _ rfl
  have rf := bR.soft
  have rl := bR.lt
  simp only [List.getElem_toArray, List.getElem_cons_zero] at q0 r0
  have hA := hide bA
  have hR := hide bR
  have hX := hide bX
  have hB := hide HB0
  clear bA bR bX HB0
  have hO0 := hide O0
  clear O0
  go_wp2_with fail
  refine bodyPost_ret (v := .agg #[.slice a0z x.vec.length d0z]) (by simp [results, Tryz.results88, go_sem, r0]) rfl ?_
  have E : Ext (fun q => q = w.heap.size + 2 ∨ q = w.heap.size + 1) w1 _ := ext_setL (ext_setL (Ext.refl _ _) (w.heap.size + 2) [(0, .slice a0z x.vec.length d0z)] (Or.inl rfl)) (w.heap.size + 1) [(0, .slice a0z x.vec.length d0z)] (Or.inr rfl)
  have own : Lay.tCenter.OwnIn _ [.slice a0z x.vec.length d0z] x W0.heap.size w1.heap.size := ((unhide hO0).ext E (fun k h1 h2 h3 => by omega))
  have hsz := E.size
  have told := Lay.toldOwn (w := w) own (by omega) (by omega) ((unhide hB).trans (E.below (unhide hB).size (fun k h1 h2 => by omega)))
  exact told

end Go.Proofs.YtfgadegpdknocaaGreat

namespace Go.Proofs.YtfgadegpdknocaaGreat
open Go.RowKit

theorem infoCenter : (Tryz.prog.info? 134).map (fun i => (i.zero, i.size, decide (i.bytes ≤ 1000))) = some (some (.agg #[.slice none 0 0]), 1, true) := by kernel_rfl
set_option maxRecDepth 10000 in
set_option maxHeartbeats 2000000 in
theorem to_CenterS (v : Value) (xs : List DCenter) (w : World) (h : (Lay.sl Lay.tCenter).Reads w [v] xs) (hn : (Lay.sl Lay.tCenter).sz xs ≤ 1048576) :
    Calls Tryz.prog 43 #[v] w fun e w' => ∃ v', e = .returned v' ∧ (Lay.sl Lay.tCenter).OwnIn w' [v'] xs w.heap.size w'.heap.size ∧ Below w.heap.size w w' := by
  have hbig := h.big
  obtain ⟨ao, cap, rfl⟩ := open_sl h
  have hlen : xs.length ≤ 1048576 := Nat.le_trans Lay.sz_len hn
  obtain ⟨i0, hi, hz0, hz1, hz2⟩ : ∃ i, Tryz.prog.info? 134 = some i ∧ i.zero = some (.agg #[.slice none 0 0]) ∧ i.size = 1 ∧ i.bytes ≤ 1000 := by
    have := infoCenter
    cases hq : Tryz.prog.info? 134 with
    | none => rw [hq] at this; simp at this
    | some i =>
      rw [hq] at this
      simp only [Option.map_some, Option.some.injEq, Prod.mk.injEq, decide_eq_true_eq] at this
      exact ⟨i, rfl, this.1, this.2.1, this.2.2⟩
  have H := hide h
  have HN := hide hn
  clear h hn
  go_enter Tryz.func43, Tryz.ntmps43
  go_wp2_with (at_make; refine wpList_make_full _ rfl _ _ 28 rfl w.heap.size 134 i0 _ 1 Tryz.underlying28 hi hz0 hz1 _ _ _ _ xs.length rfl rfl rfl rfl ?c1 ?c2 ?c3 ?_)
  case c1 => have := Nat.mul_le_mul hz2 hlen; omega
  case c2 => unfold maxLen; omega
  case c3 => exact Nat.le_refl _
  intro w1 hown1 hgrow1
  have hB1 : Below w.heap.size w w1 := (Below.refl _ _).grown hgrow1 (Nat.le_refl _) (by simp)
  clear hgrow1 hi hz0 hz1 hz2
  have HO1 := hide hown1
  have HB1 := hide hB1
  clear hown1 hB1
  go_wp2_with fail
  go_loopw [4] (fun i wr => ∃ (k : Nat) (rows : List (List Value)) (Q : List Value) (hi : Nat), k ≤ xs.length ∧ i = .int .i64 k ∧ wr.ownsRow w.heap.size 134 1 (.slice (some ⟨w.heap.size, 0, none⟩) xs.length xs.length) xs.length (rows.flatten ++ Q) ∧ Q.length = (xs.length - k) * 1 ∧ Lay.Subs Lay.tCenter wr rows (xs.take k) (w.heap.size + 1) hi ∧ hi ≤ wr.heap.size ∧ w.heap.size < hi ∧ Below w.heap.size w wr) (fun i _ => xs.length - (intOf i).toNat)
  case atStart =>
    have hl := ((unhide HO1).lt w.heap.size rfl).2
    exact ⟨0, [], _, w1.heap.size, Nat.zero_le _, rfl, by simpa using unhide HO1, by have := (unhide HO1).1; simpa using this, Lay.subs_nil, Nat.le_refl _, hl, unhide HB1⟩
  case round =>
    obtain ⟨k, rows, Q, hi, hk, rfl, hown, hQ, hsub, hhi, hlo, hB⟩ := hrel
    clear HO1 HB1
    by_cases hlt : k < xs.length
    · obtain ⟨b, off, rfl, hbl⟩ := Lay.sl_addr (unhide H) (by omega)
      obtain ⟨row, hc, hr⟩ := Lay.row_at (unhide H) hlt
      replace hr := hr.later hB
      have hr2 := hr
      obtain ⟨a0, d0, rfl, -⟩ := open_Center hr2
      have c0 : wr.cell? ⟨b, off + k, none⟩ = some (.slice a0 (xs[k]).vec.length d0) := (hB.cell (p := ⟨b, off + k, none⟩) hbl).trans (by have q1 : w.cell? ⟨b, off + k * 1 + 0, none⟩ = some (.slice a0 (xs[k]).vec.length d0) := hc 0 (by decide); rw [Nat.mul_one, Nat.add_zero] at q1; exact q1)
      have hrl : rows.flatten.length = k * 1 := by have := (Lay.subs_len hsub).1; rw [List.length_take, Nat.min_eq_left hk] at this; exact this
      rw [Nat.mul_one] at hrl
      have hsz := Nat.le_trans (Lay.sz_elem (A := Lay.tCenter) hlt) (unhide HN)
      have HT : Hid (xs.take (k + 1) = xs.take k ++ [xs[k]]) := List.take_succ_eq_append_getElem hlt
      have HB := hide hB
      have HR := hide hr
      have HO := hide hown
      have HS := hide hsub
      have HQ := hide hQ
      clear hB hr hc hown hsub hQ
      generalize hxk : xs[k] = x at *
      clear hxk
      go_wp2_with fail
      refine (to_Center _ x wr (unhide HR) hsz).mono ?_
      rintro e w2 ⟨cs2, rfl, O, hb⟩
      have o2 := own_below (unhide HO) hb
      replace HS := hide (Lay.subs_snoc (Lay.subs_ext (unhide HS) (ext_of_below hb nowhere) (fun _ _ _ h => h)) O (by omega) (by omega) (Nat.le_trans hhi hb.size))
      have hb2 := (unhide HB).trans (hb.mono (unhide HB).size)
      have hz := hb.size
      have orr := O.reads
      obtain ⟨a0z, d0z, rfl, -⟩ := open_Center orr
      clear hb HR HB HO O c0
      have hQ := unhide HQ
      have hl5 : (rows.flatten ++ Q).length = xs.length * 1 := o2.1
      obtain ⟨u0, g0⟩ : ∃ u, w2.cell? ⟨w.heap.size, k, none⟩ = some u := by
        rw [o2.cellAt (k) (by omega)]
        exact ⟨_, List.getElem?_eq_getElem (by omega)⟩
      have t0 := o2.frozenAt (k)
      have o3 := own_setAll o2 (k) [.slice a0z x.vec.length d0z]
      rw [show k = rows.flatten.length from hrl.symm, setFrom_app _ _ _ (by rw [hQ]; simp; have : 1 * 1 ≤ (xs.length - k) * 1 := Nat.mul_le_mul_right _ (by omega); omega), hrl] at o3
      have E : Ext (fun q => q = w.heap.size) w2 (setAll w2 w.heap.size (k) [.slice a0z x.vec.length d0z]) := ext_setAll _ (Ext.refl _ _) _ _ _ rfl
      replace HS := hide (Lay.subs_ext (unhide HS) E (fun q h1 h2 h3 => by omega))
      have HB := hide (below_setAll hb2 w.heap.size (k) [.slice a0z x.vec.length d0z] (Nat.le_refl _))
      have HZ : Hid ((setAll w2 w.heap.size (k) [.slice a0z x.vec.length d0z]).heap.size = w2.heap.size) := size_setAll _ _ _ _
      have HO : Hid ((setAll w2 w.heap.size (k) [.slice a0z x.vec.length d0z]).ownsRow w.heap.size 134 1 (.slice (some ⟨w.heap.size, 0, none⟩) xs.length xs.length) xs.length ((rows ++ [([.slice a0z x.vec.length d0z] : List Value)]).flatten ++ Q.drop 1)) := by
        show (setAll w2 w.heap.size (k) [.slice a0z x.vec.length d0z]).ownsRow w.heap.size 134 1 (.slice (some ⟨w.heap.size, 0, none⟩) xs.length xs.length) xs.length ((rows ++ [([.slice a0z x.vec.length d0z] : List Value)]).flatten ++ Q.drop 1)
        rw [List.flatten_append]
        simpa using o3
      have hl2 := (o2.lt w.heap.size rfl).2
      clear o3 o2 E hb2 hl5
      have hQ2 : Hid ((Q.drop 1).length = (xs.length - (k + 1)) * 1) := by
        show (Q.drop 1).length = (xs.length - (k + 1)) * 1
        rw [List.length_drop, hQ, show xs.length - k = xs.length - (k + 1) + 1 by omega, Nat.add_mul]
        omega
      clear hQ HQ
      go_wp2_with fail
      go_roundw
      case rel => exact ⟨k + 1, rows ++ [([.slice a0z x.vec.length d0z] : List Value)], Q.drop 1, w2.heap.size, by omega, by go_num, unhide HO, unhide hQ2, (by rw [unhide HT]; exact unhide HS), Nat.le_of_eq (unhide HZ).symm, by omega, unhide HB⟩
      case measure => simp [intOf]; omega
    · obtain rfl : k = xs.length := by omega
      have e0 : Q = [] := List.eq_nil_of_length_eq_zero (by rw [hQ]; simp)
      subst e0
      rw [List.append_nil] at hown
      rw [List.take_length] at hsub
      have HO := hide (Lay.subs_done (A := Lay.tCenter) hown hsub (by omega) hhi hbig)
      have HB := hide hB
      clear hown hsub hB
      go_wp2_with fail
      go_ret
      exact ⟨_, rfl, unhide HO, unhide HB⟩

end Go.Proofs.YtfgadegpdknocaaGreat

namespace Go.Proofs.YtfgadegpdknocaaGreat
open Go.RowKit

set_option maxRecDepth 10000 in
set_option maxHeartbeats 2000000 in
theorem to_IvfList (cs : List Value) (x : DIvfList) (w : World) (h : Lay.tIvfList.Reads w cs x) (hn : Lay.tIvfList.sz x ≤ 1048576) :
    Calls Tryz.prog 89 #[.agg cs.toArray] w fun e w' => ∃ cs', e = .returned (.agg cs'.toArray) ∧ Lay.tIvfList.OwnIn w' cs' x w.heap.size w'.heap.size ∧ Below w.heap.size w w' := by
  obtain ⟨a0, d0, rfl, R0⟩ := open_IvfList h
  clear h
  rw [szsum_IvfList] at hn
  have HB0 : Below w.heap.size w (((w.alloc (.cells #[.slice a0 x.items.length d0] 131)).alloc (.cells #[.slice none 0 0] 104)).alloc (.cells #[.slice none 0 0] 104)) := (((Below.refl _ _).alloc (Nat.le_refl _) _).alloc (by simp) _).alloc (by simp; omega) _
  have bA : Box w.heap.size #[.slice a0 x.items.length d0] 131 (((w.alloc (.cells #[.slice a0 x.items.length d0] 131)).alloc (.cells #[.slice none 0 0] 104)).alloc (.cells #[.slice none 0 0] 104)) w.heap.size := ((newBox (Nat.le_refl _)).grow _).grow _
  have bR : Box w.heap.size #[.slice none 0 0] 104 (((w.alloc (.cells #[.slice a0 x.items.length d0] 131)).alloc (.cells #[.slice none 0 0] 104)).alloc (.cells #[.slice none 0 0] 104)) (w.heap.size + 1) := (newBoxAt (by omega) (by simp)).grow _
  have bX : Box w.heap.size #[.slice none 0 0] 104 (((w.alloc (.cells #[.slice a0 x.items.length d0] 131)).alloc (.cells #[.slice none 0 0] 104)).alloc (.cells #[.slice none 0 0] 104)) (w.heap.size + 2) := newBoxAt (by omega) (by simp)
  have hz0 : w.heap.size + 3 ≤ (((w.alloc (.cells #[.slice a0 x.items.length d0] 131)).alloc (.cells #[.slice none 0 0] 104)).alloc (.cells #[.slice none 0 0] 104)).heap.size := by simp
  go_enter Tryz.func89, Tryz.ntmps89
  go_wp2_with fail
  generalize ((w.alloc (.cells #[.slice a0 x.items.length d0] 131)).alloc (.cells #[.slice none 0 0] 104)).alloc (.cells #[.slice none 0 0] 104) = W0 at *
  replace R0 := R0.later HB0
  refine (to_ItemS _ x.items W0 R0 (by omega)).mono ?_
  rintro e w1 ⟨v0, rfl, O0, hb⟩
  have Z0 : W0.heap.size ≤ w1.heap.size := hb.size
  replace HB0 := HB0.trans (hb.mono HB0.size)
  replace bA := bA.keep hb
  replace bR := bR.keep hb
  replace bX := bX.keep hb
  clear hb R0
  obtain ⟨a0z, d0z, rfl⟩ := open_sl O0.reads
  have q0 := bX.at 0 _ rfl
  have qf := bX.soft
  have ql := bX.lt
  have pl := bA.lt
  have r0 := bR.at 0 _ rfl
  have rf := bR.soft
  have rl := bR.lt
  simp only [List.getElem_toArray, List.getElem_cons_zero] at q0 r0
  have hA := hide bA
  have hR := hide bR
  have hX := hide bX
  have hB := hide HB0
  clear bA bR bX HB0
  have hO0 := hide O0
  clear O0
  go_wp2_with fail
  refine bodyPost_ret (v := .agg #[.slice a0z x.items.length d0z]) (by simp [results, Tryz.results89, go_sem, r0]) rfl ?_
  have E : Ext (fun q => q = w.heap.size + 2 ∨ q = w.heap.size + 1) w1 _ := ext_setL (ext_setL (Ext.refl _ _) (w.heap.size + 2) [(0, .slice a0z x.items.length d0z)] (Or.inl rfl)) (w.heap.size + 1) [(0, .slice a0z x.items.length d0z)] (Or.inr rfl)
  have own : Lay.tIvfList.OwnIn _ [.slice a0z x.items.length d0z] x W0.heap.size w1.heap.size := ((unhide hO0).ext E (fun k h1 h2 h3 => by omega))
  have hsz := E.size
  have told := Lay.toldOwn (w := w) own (by omega) (by omega) ((unhide hB).trans (E.below (unhide hB).size (fun k h1 h2 => by omega)))
  exact told

end Go.Proofs.YtfgadegpdknocaaGreat

namespace Go.Proofs.YtfgadegpdknocaaGreat
open Go.RowKit

theorem infoIvfList : (Tryz.prog.info? 104).map (fun i => (i.zero, i.size, decide (i.bytes ≤ 1000))) = some (some (.agg #[.slice none 0 0]), 1, true) := by kernel_rfl
set_option maxRecDepth 10000 in
set_option maxHeartbeats 2000000 in
theorem to_IvfListS (v : Value) (xs : List DIvfList) (w : World) (h : (Lay.sl Lay.tIvfList).Reads w [v] xs) (hn : (Lay.sl Lay.tIvfList).sz xs ≤ 1048576) :
    Calls Tryz.prog 44 #[v] w fun e w' => ∃ v', e = .returned v' ∧ (Lay.sl Lay.tIvfList).OwnIn w' [v'] xs w.heap.size w'.heap.size ∧ Below w.heap.size w w' := by
  have hbig := h.big
  obtain ⟨ao, cap, rfl⟩ := open_sl h
  have hlen : xs.length ≤ 1048576 := Nat.le_trans Lay.sz_len hn
  obtain ⟨i0, hi, hz0, hz1, hz2⟩ : ∃ i, Tryz.prog.info? 104 = some i ∧ i.zero = some (.agg #[.slice none 0 0]) ∧ i.size = 1 ∧ i.bytes ≤ 1000 := by
    have := infoIvfList
    cases hq : Tryz.prog.info? 104 with
    | none => rw [hq] at this; simp at this
    | some i =>
      rw [hq] at this
      simp only [Option.map_some, Option.some.injEq, Prod.mk.injEq, decide_eq_true_eq] at this
      exact ⟨i, rfl, this.1, this.2.1, this.2.2⟩
  have H := hide h
  have HN := hide hn
  clear h hn
  go_enter Tryz.func44, Tryz.ntmps44
  go_wp2_with (at_make; refine wpList_make_full _ rfl _ _ 29 rfl w.heap.size 104 i0 _ 1 Tryz.underlying29 hi hz0 hz1 _ _ _ _ xs.length rfl rfl rfl rfl ?c1 ?c2 ?c3 ?_)
  case c1 => have := Nat.mul_le_mul hz2 hlen; omega
  case c2 => unfold maxLen; omega
  case c3 => exact Nat.le_refl _
  intro w1 hown1 hgrow1
  have hB1 : Below w.heap.size w w1 := (Below.refl _ _).grown hgrow1 (Nat.le_refl _) (by simp)
  clear hgrow1 hi hz0 hz1 hz2
  have HO1 := hide hown1
  have HB1 := hide hB1
  clear hown1 hB1
  go_wp2_with fail
  go_loopw [4] (fun i wr => ∃ (k : Nat) (rows : List (List Value)) (Q : List Value) (hi : Nat), k ≤ xs.length ∧ i = .int .i64 k ∧ wr.ownsRow w.heap.size 104 1 (.slice (some ⟨w.heap.size, 0, none⟩) xs.length xs.length) xs.length (rows.flatten ++ Q) ∧ Q.length = (xs.length - k) * 1 ∧ Lay.Subs Lay.tIvfList wr rows (xs.take k) (w.heap.size + 1) hi ∧ hi ≤ wr.heap.size ∧ w.heap.size < hi ∧ Below w.heap.size w wr) (fun i _ => xs.length - (intOf i).toNat)
  case atStart =>
    have hl := ((unhide HO1).lt w.heap.size rfl).2
    exact ⟨0, [], _, w1.heap.size, Nat.zero_le _, rfl, by simpa using unhide HO1, by have := (unhide HO1).1; simpa using this, Lay.subs_nil, Nat.le_refl _, hl, unhide HB1⟩
  case round =>
    obtain ⟨k, rows, Q, hi, hk, rfl, hown, hQ, hsub, hhi, hlo, hB⟩ := hrel
    clear HO1 HB1
    by_cases hlt : k < xs.length
    · obtain ⟨b, off, rfl, hbl⟩ := Lay.sl_addr (unhide H) (by omega)
      obtain ⟨row, hc, hr⟩ := Lay.row_at (unhide H) hlt
      replace hr := hr.later hB
      have hr2 := hr
      obtain ⟨a0, d0, rfl, -⟩ := open_IvfList hr2
      have c0 : wr.cell? ⟨b, off + k, none⟩ = some (.slice a0 (xs[k]).items.length d0) := (hB.cell (p := ⟨b, off + k, none⟩) hbl).trans (by have q1 : w.cell? ⟨b, off + k * 1 + 0, none⟩ = some (.slice a0 (xs[k]).items.length d0) := hc 0 (by decide); rw [Nat.mul_one, Nat.add_zero] at q1; exact q1)
      have hrl : rows.flatten.length = k * 1 := by have := (Lay.subs_len hsub).1; rw [List.length_take, Nat.min_eq_left hk] at this; exact this
      rw [Nat.mul_one] at hrl
      have hsz := Nat.le_trans (Lay.sz_elem (A := Lay.tIvfList) hlt) (unhide HN)
      have HT : Hid (xs.take (k + 1) = xs.take k ++ [xs[k]]) := List.take_succ_eq_append_getElem hlt
      have HB := hide hB
      have HR := hide hr
      have HO := hide hown
      have HS := hide hsub
      have HQ := hide hQ
      clear hB hr hc hown hsub hQ
      generalize hxk : xs[k] = x at *
      clear hxk
      go_wp2_with fail
      refine (to_IvfList _ x wr (unhide HR) hsz).mono ?_
      rintro e w2 ⟨cs2, rfl, O, hb⟩
      have o2 := own_below (unhide HO) hb
      replace HS := hide (Lay.subs_snoc (Lay.subs_ext (unhide HS) (ext_of_below hb nowhere) (fun _ _ _ h => h)) O (by omega) (by omega) (Nat.le_trans hhi hb.size))
      have hb2 := (unhide HB).trans (hb.mono (unhide HB).size)
      have hz := hb.size
      have orr := O.reads
      obtain ⟨a0z, d0z, rfl, -⟩ := open_IvfList orr
      clear hb HR HB HO O c0
      have hQ := unhide HQ
      have hl5 : (rows.flatten ++ Q).length = xs.length * 1 := o2.1
      obtain ⟨u0, g0⟩ : ∃ u, w2.cell? ⟨w.heap.size, k, none⟩ = some u := by
        rw [o2.cellAt (k) (by omega)]
        exact ⟨_, List.getElem?_eq_getElem (by omega)⟩
      have t0 := o2.frozenAt (k)
      have o3 := own_setAll o2 (k) [.slice a0z x.items.length d0z]
      rw [show k = rows.flatten.length from hrl.symm, setFrom_app _ _ _ (by rw [hQ]; simp; have : 1 * 1 ≤ (xs.length - k) * 1 := Nat.mul_le_mul_right _ (by omega); omega), hrl] at o3
      have E : Ext (fun q => q = w.heap.size) w2 (setAll w2 w.heap.size (k) [.slice a0z x.items.length d0z]) := ext_setAll _ (Ext.refl _ _) _ _ _ rfl
      replace HS := hide (Lay.subs_ext (unhide HS) E (fun q h1 h2 h3 => by omega))
      have HB := hide (below_setAll hb2 w.heap.size (k) [.slice a0z x.items.length d0z] (Nat.le_refl _))
      have HZ : Hid ((setAll w2 w.heap.size (k) [.slice a0z x.items.length d0z]).heap.size = w2.heap.size) := size_setAll _ _ _ _
      have HO : Hid ((setAll w2 w.heap.size (k) [.slice a0z x.items.length d0z]).ownsRow w.heap.size 104 1 (.slice (some ⟨w.heap.size, 0, none⟩) xs.length xs.length) xs.length ((rows ++ [([.slice a0z x.items.length d0z] : List Value)]).flatten ++ Q.drop 1)) := by
        show (setAll w2 w.heap.size (k) [.slice a0z x.items.length d0z]).ownsRow w.heap.size 104 1 (.slice (some ⟨w.heap.size, 0, none⟩) xs.length xs.length) xs.length ((rows ++ [([.slice a0z x.items.length d0z] : List Value)]).flatten ++ Q.drop 1)
        rw [List.flatten_append]
        simpa using o3
      have hl2 := (o2.lt w.heap.size rfl).2
      clear o3 o2 E hb2 hl5
      have hQ2 : Hid ((Q.drop 1).length = (xs.length - (k + 1)) * 1) := by
        show (Q.drop 1).length = (xs.length - (k + 1)) * 1
        rw [List.length_drop, hQ, show xs.length - k = xs.length - (k + 1) + 1 by omega, Nat.add_mul]
        omega
      clear hQ HQ
      go_wp2_with fail
      go_roundw
      case rel => exact ⟨k + 1, rows ++ [([.slice a0z x.items.length d0z] : List Value)], Q.drop 1, w2.heap.size, by omega, by go_num, unhide HO, unhide hQ2, (by rw [unhide HT]; exact unhide HS), Nat.le_of_eq (unhide HZ).symm, by omega, unhide HB⟩
      case measure => simp [intOf]; omega
    · obtain rfl : k = xs.length := by omega
      have e0 : Q = [] := List.eq_nil_of_length_eq_zero (by rw [hQ]; simp)
      subst e0
      rw [List.append_nil] at hown
      rw [List.take_length] at hsub
      have HO := hide (Lay.subs_done (A := Lay.tIvfList) hown hsub (by omega) hhi hbig)
      have HB := hide hB
      clear hown hsub hB
      go_wp2_with fail
      go_ret
      exact ⟨_, rfl, unhide HO, unhide HB⟩

end Go.Proofs.YtfgadegpdknocaaGreat
