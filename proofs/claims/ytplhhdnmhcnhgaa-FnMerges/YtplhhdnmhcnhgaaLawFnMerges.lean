/-
  The law FnMerges answers true at every slice of bytes, and writes nothing that was there.
  No condition.
-/
import Derived.Test.YtplhhdnmhcnhgaaDrawBent
import Derived.Test.YtplhhdnmhcnhgaaImplBest
import Derived.Test.YtplhhdnmhcnhgaaImplAdd
import Derived.Test.YtplhhdnmhcnhgaaImplMerge
import Derived.Test.YtplhhdnmhcnhgaaImplRank
import Derived.Test.YtplhhdnmhcnhgaaLwHits
import Derived.Test.YtplhhdnmhcnhgaaLawMerge
import Derived.Test.YtplhhdnmhcnhgaaBig
import Derived.Test.YtplhhdnmhcnhgaaBox
import Derived.Test.YtplhhdnmhcnhgaaHitsFld
import Derived.Deep.RegionHeld3
namespace Go.Proofs.Ytplhhdnmhcnhgaa
open Go.RowKit

theorem mergeCode_zero {a b : List (Int × Int)} {k : Int} (h : mergeCode a b k = 0) : kB k = true ∧ hitsFault a = 0 ∧ hitsFault b = 0 := by
  unfold mergeCode at h
  split at h
  · next hk =>
    split at h
    · next ha => exact ⟨hk, ha, h⟩
    · next ha => exact absurd h ha
  · omega
/-- What stands in 'one' behind j hits of b. -/
def oneOf (a b : List (Int × Int)) (k j : Nat) : List (Int × Int) := if j = 0 then a else best k (a ++ b.take j)
theorem oneOf_ok {a b : List (Int × Int)} {k j : Nat} (hk : k ≤ 20) (ha : hitsFault a = 0) (hb : hitsFault b = 0) : hitsFault (oneOf a b k j) = 0 := by
  unfold oneOf
  split
  · exact ha
  · refine hitsFault_of (Nat.le_trans (best_len _ _) hk) (fun x hx => ?_) (best_sorted _ _)
    rcases List.mem_append.1 (best_mem hx) with h | h
    · exact (hitsFault_zero ha).2.1 x h
    · exact (hitsFault_zero hb).2.1 x (List.mem_of_mem_take h)
theorem oneOf_step {a b : List (Int × Int)} {k j : Nat} {x y : Int} (ha : hitsFault a = 0) (h : b[j]? = some (x, y)) : (ins (oneOf a b k j) (x, y)).take k = oneOf a b k (j + 1) := by
  have hj := at_some h
  have ht : b.take (j + 1) = b.take j ++ [(x, y)] := by
    rw [List.take_succ_eq_append_getElem hj]
    congr 2
    simpa [hj] using h
  have hr : oneOf a b k (j + 1) = (ins (allOf (a ++ b.take j)) (x, y)).take k := by
    rw [oneOf, if_neg (by omega), best_eq, ht, ← List.append_assoc, ← ins_allOf]
  rw [hr, oneOf]
  split
  · next h0 =>
    subst h0
    rw [List.take_zero, List.append_nil, allOf_of_sorted (hitsFault_zero ha).2.2]
  · rw [best_eq, ins_take]
theorem rankFrom_at {l : List (Int × Int)} {i q : Nat} {x y : Int} (h : l[q]? = some (x, y)) : ∃ r : Nat, rankFrom l i x = (0, (r : Int)) ∧ r ≤ i + q := by
  induction l generalizing i q with
  | nil => simp at h
  | cons p l ih =>
    unfold rankFrom
    by_cases hp : p.1 = x
    · exact ⟨i, by rw [if_pos hp], by omega⟩
    · rw [if_neg hp]
      cases q with
      | zero =>
        simp at h
        rw [h] at hp
        exact absurd rfl hp
      | succ q =>
        obtain ⟨r, h1, h2⟩ := ih (i := i + 1) (q := q) (by simpa using h)
        exact ⟨r, h1, by omega⟩
theorem rankOf_at {l : List (Int × Int)} {q : Nat} {x y : Int} (hf : hitsFault l = 0) (h : l[q]? = some (x, y)) : ∃ r : Nat, rankOf l x = (0, (r : Int)) ∧ r ≤ q := by
  obtain ⟨r, h1, h2⟩ := rankFrom_at (i := 0) h
  exact ⟨r, by rw [rankOf, if_pos hf, h1], by omega⟩

theorem merge_all {a b ms : List (Int × Int)} {k : Nat} (hk : kB k = true) (ha : hitsFault a = 0) (hb : hitsFault b = 0) (hm : ms = best k (a ++ b)) :
    (mergeCode a b k = 0 ∧ mergeList a b k = ms) ∧ (mergeCode b a k = 0 ∧ mergeList b a k = ms) ∧ (bestCode (a ++ b) k = 0 ∧ bestList (a ++ b) k = ms) := by
  have e1 : mergeCode a b k = 0 := by simp [mergeCode, hk, ha, hb]
  have e2 : mergeCode b a k = 0 := by simp [mergeCode, hk, ha, hb]
  have la := (hitsFault_zero ha).1
  have lb := (hitsFault_zero hb).1
  have hall : (a ++ b).all oneB = true := by
    rw [List.all_eq_true]
    intro x hx
    rcases List.mem_append.1 hx with h | h
    · exact (hitsFault_zero ha).2.1 x h
    · exact (hitsFault_zero hb).2.1 x h
  have e3 : bestCode (a ++ b) k = 0 := by
    rw [bestCode, if_pos hk, if_neg (by simp; omega), if_pos hall]
  refine ⟨⟨e1, ?_⟩, ⟨e2, ?_⟩, ⟨e3, ?_⟩⟩
  · rw [mergeList, if_pos e1, hm]
    rfl
  · rw [mergeList, if_pos e2, hm]
    exact best_congr _ (fun x => by simp [or_comm])
  · rw [bestList, if_pos e3, hm]
    rfl

/-- append of hits as a step of a region that draws its order. -/
theorem step_append_hits {ops : Array Oper} {o : Oper} {a : Act} {w : World} {K : Act → World → Prop} {Q : Exit → Act → World → Prop} {E : Prop} (s x : Operand)
    (ho : o.op = .call { callee := .builtin .append, args := #[s, x], argTypes := #[24, 24] }) (hw : Region.wanted o (yielded ops a.tmps) = true)
    (base : Nat) (v : Value) (n : Nat) (hs : List (Int × Int)) (hv : a.eval s = v) (hown : w.ownsRow base 31 2 v n (cells2 hs)) (X : Value) (ks : List (Int × Int)) (hX : a.eval x = X) (hx : IsHits w X ks)
    (hn : n + ks.length ≤ 100000000) (hbase : base ≤ w.heap.size)
    (h : ∀ v' w', w'.ownsRow base 31 2 v' (n + ks.length) (cells2 (hs ++ ks)) → w.grownBy w' v.ownBlock → K (a.put o.dst v') w') :
    if Region.wanted o (yielded ops a.tmps) = true then Oper.wp Try.prog o a w K Q else E := by
  rw [if_pos hw]
  obtain ⟨v', w', hr, h2, h3, -⟩ := run_append_hits base o.type v n hs hown X ks hx hn hbase
  unfold Oper.wp execOp
  simp only [ho, resolve, invoke, builtin, Sem.run_bind, Sem.run_pure, Result.andThen_ok, List.map_toArray, List.map_cons, List.map_nil, hv, hX, hr]
  exact h v' w' h2 h3

theorem lawMerges_many (ao : Option Addr) (len cap : Nat) (w : World) (hn : 1048576 < len) :
    Calls Try.prog 4 #[.slice ao len cap] w fun e w' => e = .returned (.bool true) ∧ Below w.heap.size w w' := by
  go_enter Try.func4, Try.ntmps4
  go_wp2_with fail
  refine (big_yes ao len cap w hn).mono ?_
  rintro e w' ⟨rfl, rfl⟩
  go_wp2_with fail
  go_ret
  exact ⟨rfl, Below.refl _ _⟩

set_option maxRecDepth 100000 in
set_option maxHeartbeats 4000000 in
theorem lawMerges_few (ao : Option Addr) (len cap : Nat) (w : World) (hn : len ≤ 1048576) (hcode : IsCode w.heap.size w (.slice ao len cap)) :
    Calls Try.prog 4 #[.slice ao len cap] w fun e w' => e = .returned (.bool true) ∧ Below w.heap.size w w' := by
  have HC := hide hcode
  clear hcode
  go_enter Try.func4, Try.ntmps4
  go_wp2_with fail
  refine (big_no ao len cap w hn).mono ?_
  rintro e w ⟨rfl, rfl⟩
  go_wp2_with fail
  refine (drawMergeHits ao len cap w (unhide HC)).mono ?_
  rintro e w1 ⟨u, v, az, bz, k, rfl, hla, hlb, hk, hia, hib, hb⟩
  have hu : ∃ au cu, u = .slice au az.length cu := by obtain ⟨av, cv, h, -⟩ := hia; exact ⟨av, cv, h⟩
  have hv : ∃ av cv, v = .slice av bz.length cv := by obtain ⟨av, cv, h, -⟩ := hib; exact ⟨av, cv, h⟩
  obtain ⟨au, cu, rfl⟩ := hu
  obtain ⟨av, cv, rfl⟩ := hv
  have HB1 := hide hb
  have HIA := hide hia
  have HIB := hide hib
  clear hb hia hib HC hk
  go_wp2_with fail
  refine (implMerge _ _ az bz k w1 (unhide HIA) (unhide HIB)).mono ?_
  rintro e w2 ⟨r, rfl, ho, hb2⟩
  obtain ⟨a1, c1, rfl⟩ := own_shape ho
  have hml := mergeList_len (a := az) (b := bz) (n := k)
  have hmwf : ∀ m ∈ mergeList az bz k, Wf2 m := fun m hm => (mergeList_mem hm).elim (fun h => (unhide HIA).wf m h) (fun h => (unhide HIB).wf m h)
  obtain ⟨c, hcc⟩ : ∃ c, c = mergeCode az bz k := ⟨_, rfl⟩
  obtain ⟨ms, hms⟩ : ∃ ms, ms = mergeList az bz k := ⟨_, rfl⟩
  rw [← hms] at ho hml hmwf
  rw [← hcc, ← hms]
  simp only [intsRes]
  have nb : Below w2.heap.size w2 (w2.alloc (.cells #[.int .i64 c, .slice a1 ms.length c1] 28)) := (Below.refl _ _).alloc (Nat.le_refl _) _
  obtain ⟨k0, k1⟩ := new_cells (w := w2) (T := 28) (x := .int .i64 c) (y := .slice a1 ms.length c1)
  have P0 := hide (((unhide HIA).later hb2).later nb)
  have P2 := hide (((unhide HIB).later hb2).later nb)
  have P1 := hide ((isHits_row hmwf ho).later nb)
  have HBA := hide (below_keep2 (below_keep2 (unhide HB1) hb2) nb)
  have HCC := hide hcc
  have HMS := hide hms
  have HMWF := hide hmwf
  clear ho hb2 nb hcc hms hmwf HIA HIB HB1
  by_cases hc0 : c = 0
  · subst hc0
    obtain ⟨hkb, hfa, hfb⟩ := mergeCode_zero (unhide HCC).symm
    have hkk : 0 ≤ k ∧ k ≤ 20 := by simpa [kB] using hkb
    obtain ⟨kk, rfl⟩ : ∃ kk : Nat, k = kk := ⟨k.toNat, by omega⟩
    have hbk : ms = best kk (az ++ bz) := by rw [unhide HMS]; simp [mergeList, ← unhide HCC]
    have HKB := hide hkb
    have HFA := hide hfa
    have HFB := hide hfb
    have HBK := hide hbk
    clear hkb hfa hfb hbk HCC HMS
    go_wp2_with fail
    generalize hwa : w2.alloc (.cells #[.int .i64 0, .slice a1 ms.length c1] 28) = wa at *
    generalize w2.heap.size = s0 at *
    clear hwa
    have keep : Hid (∀ W, Below wa.heap.size wa W → IsHits W (.slice au az.length cu) az ∧ IsHits W (.slice av bz.length cv) bz ∧ IsHits W (.slice a1 ms.length c1) ms ∧ W.cell? ⟨s0, 1, none⟩ = some (.slice a1 ms.length c1)) := fun W hW =>
      ⟨(unhide P0).later hW, (unhide P2).later hW, (unhide P1).later hW, cell_keep hW k1⟩
    clear P0 P1 P2 k0 k1
    go_loopw [7, 8] (fun v i wr => ∃ (j cp : Nat) (a : Option Addr), j ≤ bz.length ∧ i = .int .i64 j ∧ v = .slice a (oneOf az bz kk j).length cp ∧ IsHits wr v (oneOf az bz kk j) ∧ Below wa.heap.size wa wr)
      (fun _ i _ => bz.length - (intOf i).toNat)
    case atStart => exact ⟨0, cu, au, Nat.zero_le _, rfl, rfl, (unhide keep wa (Below.refl _ _)).1, Below.refl _ _⟩
    case round =>
    obtain ⟨j, cp, a, hj, rfl, rfl, hone, hB⟩ := hrel
    by_cases hlt : j < bz.length
    · obtain ⟨x, y, hxy⟩ : ∃ x y, bz[j]? = some (x, y) := ⟨bz[j].1, bz[j].2, by simp [hlt]⟩
      have hxm := List.mem_of_getElem? hxy
      have hwh : Wf2 (x, y) := (unhide keep wr hB).2.1.wf _ hxm
      obtain ⟨_, _, e1, -, -, -, hcc⟩ := (unhide keep wr hB).2.1
      simp only [Value.slice.injEq] at e1
      obtain ⟨rfl, -, rfl⟩ := e1
      obtain ⟨b, off, rfl, hcd⟩ := hcc (by omega)
      obtain ⟨p1, p2⟩ := hcd j x y hxy
      have L := implAdd (.slice a (oneOf az bz kk j).length cp) (oneOf az bz kk j) x y kk wr hone hwh
      have ec : addCode (oneOf az bz kk j) (x, y) kk = 0 := by simp [addCode, unhide HKB, oneOf_ok (b := bz) (j := j) (k := kk) (by omega) (unhide HFA) (unhide HFB), (hitsFault_zero (unhide HFB)).2.1 _ hxm]
      have el : addList (oneOf az bz kk j) (x, y) kk = oneOf az bz kk (j + 1) := by
        rw [addList, if_pos ec]
        exact oneOf_step (k := kk) (unhide HFA) hxy
      rw [ec, el] at L
      have hw2 : ∀ p ∈ oneOf az bz kk (j + 1), Wf2 p := fun p hp => by
        rw [← el, addList, if_pos ec] at hp
        rcases ins_mem.1 (List.mem_of_mem_take hp) with h | h
        · exact h ▸ hwh
        · exact hone.wf p h
      have HW2 := hide hw2
      have HB := hide hB
      clear hxy hxm hwh hcc hcd hone ec el hw2 hB
      generalize (oneOf az bz kk j).length = n0 at *
      go_wp2_with fail
      refine L.mono ?_
      rintro e w3 ⟨r, rfl, ho, hb3⟩
      obtain ⟨a3, c3, rfl⟩ := own_shape ho
      simp only [intsRes]
      have nb : Below w3.heap.size w3 (w3.alloc (.cells #[.int .i64 0, .slice a3 (oneOf az bz kk (j + 1)).length c3] 28)) := (Below.refl _ _).alloc (Nat.le_refl _) _
      obtain ⟨q0, q1⟩ := new_cells (w := w3) (T := 28) (x := .int .i64 0) (y := .slice a3 (oneOf az bz kk (j + 1)).length c3)
      have I4 := hide ((isHits_row (unhide HW2) ho).later nb)
      have B4 := hide (below_keep2 (below_keep2 (unhide HB) hb3) nb)
      have hz3 : wr.heap.size ≤ w3.heap.size := hb3.size
      clear L ho hb3 nb HB HW2 p1 p2
      obtain ⟨N2, hN2⟩ : ∃ N2, N2 = (oneOf az bz kk (j + 1)).length := ⟨_, rfl⟩
      have HN2 := hide hN2
      rw [← hN2] at q0 q1 I4 B4 ⊢
      clear hN2
      go_wp2_with fail
      go_roundw
      case rel =>
        refine ⟨j + 1, c3, a3, by omega, by go_num, by rw [unhide HN2], ?_, unhide B4⟩
        exact unhide I4
      case measure => simp [intOf]; omega
    · obtain rfl : j = bz.length := by omega
      have hl1 : bz.length ≠ 0 → oneOf az bz kk bz.length = ms := fun h => by
        rw [oneOf, if_neg h, List.take_length, unhide HBK]
      obtain ⟨l1, hll⟩ : ∃ l1, l1 = oneOf az bz kk bz.length := ⟨_, rfl⟩
      rw [← hll] at hl1 hone ⊢
      obtain ⟨n1, hn1⟩ : ∃ n1, n1 = l1.length := ⟨_, rfl⟩
      rw [← hn1] at hone ⊢
      have HL1 := hide hl1
      have hmf : hitsFault ms = 0 := by
        rw [unhide HBK]
        refine hitsFault_of (Nat.le_trans (best_len _ _) (by omega)) (fun x hx => ?_) (best_sorted _ _)
        rcases List.mem_append.1 (best_mem hx) with h | h
        · exact (hitsFault_zero (unhide HFA)).2.1 x h
        · exact (hitsFault_zero (unhide HFB)).2.1 x h
      have HMF := hide hmf
      obtain ⟨wq, hwq⟩ : ∃ wq, wq = wr := ⟨_, rfl⟩
      subst hwq
      have keep2 : Hid (∀ W, Below wq.heap.size wq W → IsHits W (.slice au az.length cu) az ∧ IsHits W (.slice av bz.length cv) bz ∧ IsHits W (.slice a1 ms.length c1) ms ∧ IsHits W (.slice a n1 cp) l1 ∧ W.cell? ⟨s0, 1, none⟩ = some (.slice a1 ms.length c1)) := fun W hW => by
        obtain ⟨q1, q2, q3, q4⟩ := unhide keep W (below_keep2 hB hW)
        exact ⟨q1, q2, q3, hone.later hW, q4⟩
      have HBR := hide (below_keep2 (unhide HBA) hB)
      clear hone hB keep HBA hll hn1 hl1 hmf hj hlt
      go_wp2_with fail
      go_loopw [10] (fun i wy => ∃ j : Nat, j ≤ ms.length ∧ i = .int .i64 j ∧ Below wq.heap.size wq wy) (fun i _ => ms.length - (intOf i).toNat)
      case atStart => exact ⟨0, Nat.zero_le _, rfl, Below.refl _ _⟩
      case round =>
      obtain ⟨j, hj, rfl, hBy⟩ := hrel
      by_cases hlt : j < ms.length
      · obtain ⟨-, -, i3, -, z1⟩ := unhide keep2 wq (Below.refl _ _)
        obtain ⟨x, y, hxy⟩ : ∃ x y, ms[j]? = some (x, y) := ⟨ms[j].1, ms[j].2, by simp [hlt]⟩
        obtain ⟨r, hr, hrj⟩ := rankOf_at (unhide HMF) hxy
        obtain ⟨_, _, e1, -, -, -, hcc⟩ := i3
        simp only [Value.slice.injEq] at e1
        obtain ⟨rfl, -, rfl⟩ := e1
        obtain ⟨b, off, rfl, hcd⟩ := hcc (by omega)
        obtain ⟨p1, p2⟩ := hcd j x y hxy
        have F : Hid (∀ W, Below wq.heap.size wq W → W.cell? ⟨s0, 1, none⟩ = some (.slice (some ⟨b, off, none⟩) ms.length c1) ∧ W.cell? ⟨b, off + j * 2, none⟩ = some (.int .i64 x)) := fun W hW => ⟨cell_keep hW z1, cell_keep hW p1⟩
        have LR : Hid (∀ W, Below wq.heap.size wq W → Calls Try.prog 22 #[.slice (some ⟨b, off, none⟩) ms.length c1, .int .i64 x] W fun e w' => e = .returned (.agg #[.int .i64 0, .int .i64 r]) ∧ Below wq.heap.size wq w' ∧ ∀ s, Box wq.heap.size #[.int .i64 0, .int .i64 0] 40 W s → Box wq.heap.size #[.int .i64 0, .int .i64 0] 40 w' s) := fun W hW => by
          have := implRank_all _ ms x W (unhide keep2 W hW).2.2.1
          rw [hr] at this
          exact this.mono fun e w' ⟨h1, h2⟩ => ⟨h1, below_keep2 hW h2, fun s hs => hs.keep h2⟩
        have hd1 : decide ((j : Int) < (ms.length : Int)) = true := decide_eq_true (by omega)
        have hd2 : decide ((j : Int) < (r : Int)) = false := decide_eq_false (by omega)
        have hd3 : ((0 : Int) != 0) = false := by decide
        have HBY := hide hBy
        have g3 : (j : Int) < (ms.length : Int) := by omega
        have g5 : (0 : Int) ≤ (j : Int) := by omega
        obtain ⟨zr, pr⟩ := unhide F wr hBy
        clear hcc hcd hxy hr p1 p2 hBy z1
        go_upto_region 18 with fail
        go_cut [11] from 61 to 69 (fun s11 wx => ∃ s : Nat, s11 = .pointer (some ⟨s, 0, none⟩) ∧ wx.cell? ⟨s, 0, none⟩ = some (.int .i64 0) ∧ wx.cell? ⟨s, 1, none⟩ = some (.int .i64 r) ∧ Below wq.heap.size wq wx)
        case first =>
          clear keep2
          first
            | go_region_held3 (fun w' => w'.cell? ⟨s0, 1, none⟩ = some (.slice (some ⟨b, off, none⟩) ms.length c1) ∧ w'.cell? ⟨b, off + j * 2, none⟩ = some (.int .i64 x))
                (first
                  | exact unhide F _ (unhide HBY).drew
                  | exact unhide F _ ((unhide HBY).alloc (unhide HBY).size _).drew
                  | exact unhide F _ ((unhide HBY).alloc (unhide HBY).size _)
                  | exact unhide F _ hb3
                  | exact unhide F _ (hb3.alloc hb3.size _)
                  | exact unhide F _ ((hb3.setCell (by simpa using hq.1) _).setCell (by simpa using hq.1) _)
                  | go_keep)
                (first
                  | (go_at_call 22; refine (unhide LR _ (by first | exact (unhide HBY).drew | exact (unhide HBY) | exact ((unhide HBY).alloc (unhide HBY).size _).drew | exact ((unhide HBY).alloc (unhide HBY).size _) | exact (unhide HBY).drew.alloc (unhide HBY).size _)).mono ?_; rintro e w3 ⟨rfl, hb3, hk3⟩; (first | have hq := hk3 _ (newBox (unhide HBY).size) | have hq := hk3 _ (newBox (unhide HBY).size).drew | skip); (first | (obtain ⟨y0, y1, y2, y3⟩ := hq.two) | skip)))
            | fail
          all_goals
            go_wp2_with fail
            go_meet
            first
              | exact ⟨_, rfl, (new_cells (w := w3) (T := 40)).1, (new_cells (w := w3) (T := 40)).2, hb3.alloc hb3.size _⟩
              | exact ⟨_, rfl, by simp [go_sem, y0], by simp [go_sem, y1], (hb3.setCell (by simpa using hq.1) _).setCell (by simpa using hq.1) _⟩
        case rest =>
        obtain ⟨s, rfl, y0, y1, hbc⟩ := hcut
        have HBC := hide hbc
        clear hbc zr pr LR F
        go_wp2_with fail
        go_roundw
        case rel => exact ⟨j + 1, by omega, by go_num, unhide HBC⟩
        case measure => simp [intOf]; omega
      · obtain rfl : j = ms.length := by omega
        have HBT := hide hBy
        obtain ⟨-, -, -, -, z1⟩ := unhide keep2 wr hBy
        have hab : (mergeCode az bz kk = 0 ∧ mergeList az bz kk = ms) ∧ (mergeCode bz az kk = 0 ∧ mergeList bz az kk = ms) ∧ (bestCode (az ++ bz) kk = 0 ∧ bestList (az ++ bz) kk = ms) := merge_all (unhide HKB) (unhide HFA) (unhide HFB) (unhide HBK)
        have hmm : ms.length ≤ 20 := hml
        have L1 : Hid (∀ W, Below wq.heap.size wq W → Calls Try.prog 20 #[.slice au az.length cu, .slice av bz.length cv, .int .i64 kk] W fun e w' => ∃ (a2 : Option Addr) (c2 : Nat), e = .returned (.agg #[.int .i64 0, .slice a2 ms.length c2]) ∧ IsHits w' (.slice a2 ms.length c2) ms ∧ Below wq.heap.size wq w') := fun W hW => by
          refine (modelMerge _ _ az bz kk W (unhide keep2 W hW).1 (unhide keep2 W hW).2.1).mono ?_
          rintro e w' ⟨r, rfl, ho, hb⟩
          rw [hab.1.2] at ho
          obtain ⟨a2, c2, rfl⟩ := own_shape ho
          rw [hab.1.1]
          exact ⟨a2, c2, rfl, isHits_row (unhide HMWF) ho, below_keep2 hW hb⟩
        have L2 : Hid (∀ W, Below wq.heap.size wq W → Calls Try.prog 19 #[.slice av bz.length cv, .slice au az.length cu, .int .i64 kk] W fun e w' => ∃ (a2 : Option Addr) (c2 : Nat), e = .returned (.agg #[.int .i64 0, .slice a2 ms.length c2]) ∧ IsHits w' (.slice a2 ms.length c2) ms ∧ Below wq.heap.size wq w') := fun W hW => by
          refine (implMerge _ _ bz az kk W (unhide keep2 W hW).2.1 (unhide keep2 W hW).1).mono ?_
          rintro e w' ⟨r, rfl, ho, hb⟩
          rw [hab.2.1.2] at ho
          obtain ⟨a2, c2, rfl⟩ := own_shape ho
          rw [hab.2.1.1]
          exact ⟨a2, c2, rfl, isHits_row (unhide HMWF) ho, below_keep2 hW hb⟩
        have L4 : Hid (∀ W v, Below wq.heap.size wq W → IsHits W v (az ++ bz) → Calls Try.prog 13 #[v, .int .i64 kk] W fun e w' => ∃ (a2 : Option Addr) (c2 : Nat), e = .returned (.agg #[.int .i64 0, .slice a2 ms.length c2]) ∧ IsHits w' (.slice a2 ms.length c2) ms ∧ Below wq.heap.size wq w') := fun W v hW hv => by
          refine (implBest_all _ (az ++ bz) kk W hv).mono ?_
          rintro e w' ⟨r, rfl, ho, hb⟩
          rw [hab.2.2.2] at ho
          obtain ⟨a2, c2, rfl⟩ := own_shape ho
          rw [hab.2.2.1]
          exact ⟨a2, c2, rfl, isHits_row (unhide HMWF) ho, below_keep2 hW hb⟩
        have L3 : Hid (∀ W u v, Below wq.heap.size wq W → IsHits W u ms → IsHits W v ms → Calls Try.prog 17 #[u, v] W fun e w' => e = .returned (.bool true) ∧ Below wq.heap.size wq w') := fun W u v hW h1 h2 => (lwHits u v ms W h1 h2 (by omega)).mono fun e w' ⟨q1, q2⟩ => ⟨q1, below_keep2 hW q2⟩
        have K2 : Hid (∀ W, Below wq.heap.size wq W → IsHits W (.slice a1 ms.length c1) ms) := fun W hW => (unhide keep2 W hW).2.2.1
        have KA : Hid (∀ W, Below wq.heap.size wq W → IsHits W (.slice au az.length cu) az) := fun W hW => (unhide keep2 W hW).1
        have KB : Hid (∀ W, Below wq.heap.size wq W → IsHits W (.slice av bz.length cv) bz) := fun W hW => (unhide keep2 W hW).2.1
        have KZ : Hid (∀ W, Below wq.heap.size wq W → W.cell? ⟨s0, 1, none⟩ = some (.slice a1 ms.length c1)) := fun W hW => (unhide keep2 W hW).2.2.2.2
        have KO : Hid (bz.length ≠ 0 → ∀ W, Below wq.heap.size wq W → IsHits W (.slice a n1 cp) ms) := fun hb W hW => (unhide HL1 hb) ▸ (unhide keep2 W hW).2.2.2.1
        have hwab : ∀ p ∈ az ++ bz, Wf2 p := fun p hp => by
          rcases List.mem_append.1 hp with h | h
          · exact (unhide keep2 wq (Below.refl _ _)).1.wf p h
          · exact (unhide keep2 wq (Below.refl _ _)).2.1.wf p h
        have HWAB := hide hwab
        have hf1 := fun a cp => fieldHits1 0 a ms.length cp
        clear hBy keep2 hab HFA HFB HBK HKB HMWF hlt HL1 HMF hwab hml hmm hj
        generalize ms.length = N at *
        by_cases hbz : bz.length = 0
        · obtain rfl : bz = [] := List.eq_nil_of_length_eq_zero hbz
          clear hbz KO
          simp only [List.length_nil, List.append_nil] at *
          go_wp2_with fail
          refine wp_region_noPanic ?_
          refine wp_region_held_drew (S := fun w' => Below wq.heap.size wq w' ∧ w'.cell? ⟨s0, 1, none⟩ = some (.slice a1 N c1)) (by kernel_rfl) ⟨(unhide HBT).drew, unhide KZ _ (unhide HBT).drew⟩ (fun hHeld => ?_)
          refine wpAnyH_take (i := 0) (oi := { dst := some 79, op := Go.Op.fieldAddr 28 (Go.Operand.tmp 6) 1, type := 0, pos := "laws.go:155", after := #[], guard := none }) (v := ?v0) rfl (by kernel_rfl) (by kernel_rfl) (by kernel_rfl) (fun _ _ _ h => h) (Or.inl ⟨by rfl, ?h0⟩) hHeld ?r0
          case h0 =>
            intro w hSw
            (try dsimp only at hSw)
            go_simp
            try with_reducible rfl
          case r0 =>
          simp only [Act.put, List.setIfInBounds_toArray, List.set_cons_zero, List.set_cons_succ]
          refine wpAnyH_take (i := 1) (oi := { dst := some 80, op := Go.Op.load 24 (Go.Operand.tmp 79), type := 24, pos := "laws.go:155", after := #[{ on := 0, ground := Go.Ground.data }], guard := none }) (v := ?v1) rfl (by kernel_rfl) (by kernel_rfl) (by kernel_rfl) (fun _ _ _ h => h) (Or.inl ⟨by rfl, ?h1⟩) hHeld ?r1
          case h1 =>
            intro w hSw
            (try dsimp only at hSw)
            go_simp
            try with_reducible rfl
          case r1 =>
          simp only [Act.put, List.setIfInBounds_toArray, List.set_cons_zero, List.set_cons_succ]
          refine wpAnyH_take (i := 2) (oi := { dst := some 81, op := Go.Op.move (Go.Operand.tmp 3), type := 24, pos := "laws.go:155", after := #[], guard := none }) (v := ?v2) rfl (by kernel_rfl) (by kernel_rfl) (by kernel_rfl) (fun _ _ _ h => h) (Or.inl ⟨by rfl, ?h2⟩) hHeld ?r2
          case h2 =>
            intro w hSw
            (try dsimp only at hSw)
            go_simp
            try with_reducible rfl
          case r2 =>
          simp only [Act.put, List.setIfInBounds_toArray, List.set_cons_zero, List.set_cons_succ]
          refine wpAnyH_take (i := 3) (oi := { dst := some 82, op := Go.Op.move (Go.Operand.tmp 4), type := 24, pos := "laws.go:155", after := #[], guard := none }) (v := ?v3) rfl (by kernel_rfl) (by kernel_rfl) (by kernel_rfl) (fun _ _ _ h => h) (Or.inl ⟨by rfl, ?h3⟩) hHeld ?r3
          case h3 =>
            intro w hSw
            (try dsimp only at hSw)
            go_simp
            try with_reducible rfl
          case r3 =>
          simp only [Act.put, List.setIfInBounds_toArray, List.set_cons_zero, List.set_cons_succ]
          refine wpAnyH_take (i := 4) (oi := { dst := some 83, op := Go.Op.move (Go.Operand.tmp 5), type := 2, pos := "laws.go:155", after := #[], guard := none }) (v := ?v4) rfl (by kernel_rfl) (by kernel_rfl) (by kernel_rfl) (fun _ _ _ h => h) (Or.inl ⟨by rfl, ?h4⟩) hHeld ?r4
          case h4 =>
            intro w hSw
            (try dsimp only at hSw)
            go_simp
            try with_reducible rfl
          case r4 =>
          simp only [Act.put, List.setIfInBounds_toArray, List.set_cons_zero, List.set_cons_succ]
          refine wpAnyH_ready (rs := [5]) (by kernel_rfl) (by simp) ?_
          refine AllReadyH.cons (o := { dst := some 84, op := Go.Op.call { callee := Go.Callee.value (Go.Operand.func 20), args := #[Go.Operand.tmp 81, Go.Operand.tmp 82, Go.Operand.tmp 83], argTypes := #[24, 24, 2] }, type := 28, pos := "laws.go:155", after := #[{ on := 2, ground := Go.Ground.data }, { on := 3, ground := Go.Ground.data }, { on := 4, ground := Go.Ground.data }], guard := none }) rfl (fun K hK => ?_) AllReadyH.nil
          go_simp
          go_at_call 20
          refine (unhide L1 _ hHeld.1).mono ?_
          rintro e w3 ⟨a4, c4, rfl, hi4, hbw⟩
          try go_wp2_with fail
          refine hK.out _ _ ⟨hbw, unhide KZ _ hbw⟩ (fun hHeld => ?_)
          clear hK K
          try simp only [Act.put, List.setIfInBounds_toArray, List.set_cons_zero, List.set_cons_succ]
          refine wpAnyH_take (i := 6) (oi := { dst := some 85, op := Go.Op.field 28 (Go.Operand.tmp 84) 1, type := 24, pos := "laws.go:155", after := #[{ on := 5, ground := Go.Ground.data }], guard := none }) (v := ?v6) rfl (by kernel_rfl) (by kernel_rfl) (by kernel_rfl) (fun _ _ _ h => h) (Or.inl ⟨by rfl, ?h6⟩) hHeld ?r6
          case h6 =>
            intro w hSw
            (try dsimp only at hSw)
            go_simp
            try with_reducible rfl
          case r6 =>
          simp only [Act.put, List.setIfInBounds_toArray, List.set_cons_zero, List.set_cons_succ]
          refine wpAnyH_ready (rs := [7]) (by kernel_rfl) (by simp) ?_
          refine AllReadyH.cons (o := { dst := some 86, op := Go.Op.call { callee := Go.Callee.value (Go.Operand.func 17), args := #[Go.Operand.tmp 80, Go.Operand.tmp 85], argTypes := #[24, 24] }, type := 4, pos := "laws.go:155", after := #[{ on := 1, ground := Go.Ground.data }, { on := 6, ground := Go.Ground.data }, { on := 5, ground := Go.Ground.chain }], guard := none }) rfl (fun K hK => ?_) AllReadyH.nil
          go_simp
          go_at_call 17
          refine (unhide L3 _ _ _ hHeld.1 (unhide K2 _ hHeld.1) hi4).mono ?_
          rintro e w3 ⟨rfl, hbw⟩
          try go_wp2_with fail
          refine hK.out _ _ ⟨hbw, unhide KZ _ hbw⟩ (fun hHeld => ?_)
          clear hK K
          try simp only [Act.put, List.setIfInBounds_toArray, List.set_cons_zero, List.set_cons_succ]
          refine wpAnyH_take (i := 8) (oi := { dst := some 87, op := Go.Op.move (Go.Operand.tmp 86), type := 4, pos := "laws.go:155", after := #[{ on := 7, ground := Go.Ground.data }, { on := 7, ground := Go.Ground.chain }], guard := none }) (v := ?v8) rfl (by kernel_rfl) (by kernel_rfl) (by kernel_rfl) (fun _ _ _ h => h) (Or.inl ⟨by rfl, ?h8⟩) hHeld ?r8
          case h8 =>
            intro w hSw
            (try dsimp only at hSw)
            go_simp
            try with_reducible rfl
          case r8 =>
          simp only [Act.put, List.setIfInBounds_toArray, List.set_cons_zero, List.set_cons_succ]
          refine wpAnyH_take (i := 9) (oi := { dst := some 88, op := Go.Op.fieldAddr 28 (Go.Operand.tmp 6) 1, type := 0, pos := "laws.go:155", after := #[{ on := 8, ground := Go.Ground.guard }], guard := some (8, true) }) (v := ?v9) rfl (by kernel_rfl) (by kernel_rfl) (by kernel_rfl) (fun _ _ _ h => h) (Or.inl ⟨by rfl, ?h9⟩) hHeld ?r9
          case h9 =>
            intro w hSw
            (try dsimp only at hSw)
            go_simp
            try with_reducible rfl
          case r9 =>
          simp only [Act.put, List.setIfInBounds_toArray, List.set_cons_zero, List.set_cons_succ]
          refine wpAnyH_take (i := 10) (oi := { dst := some 89, op := Go.Op.load 24 (Go.Operand.tmp 88), type := 24, pos := "laws.go:155", after := #[{ on := 9, ground := Go.Ground.data }, { on := 8, ground := Go.Ground.guard }], guard := some (8, true) }) (v := ?v10) rfl (by kernel_rfl) (by kernel_rfl) (by kernel_rfl) (fun _ _ _ h => h) (Or.inl ⟨by rfl, ?h10⟩) hHeld ?r10
          case h10 =>
            intro w hSw
            (try dsimp only at hSw)
            go_simp
            try with_reducible rfl
          case r10 =>
          simp only [Act.put, List.setIfInBounds_toArray, List.set_cons_zero, List.set_cons_succ]
          refine wpAnyH_take (i := 12) (oi := { dst := some 91, op := Go.Op.move (Go.Operand.tmp 3), type := 24, pos := "laws.go:155", after := #[{ on := 8, ground := Go.Ground.guard }], guard := some (8, true) }) (v := ?v12) rfl (by kernel_rfl) (by kernel_rfl) (by kernel_rfl) (fun _ _ _ h => h) (Or.inl ⟨by rfl, ?h12⟩) hHeld ?r12
          case h12 =>
            intro w hSw
            (try dsimp only at hSw)
            go_simp
            try with_reducible rfl
          case r12 =>
          simp only [Act.put, List.setIfInBounds_toArray, List.set_cons_zero, List.set_cons_succ]
          refine wpAnyH_take (i := 14) (oi := { dst := some 93, op := Go.Op.move (Go.Operand.tmp 4), type := 24, pos := "laws.go:155", after := #[{ on := 8, ground := Go.Ground.guard }], guard := some (8, true) }) (v := ?v14) rfl (by kernel_rfl) (by kernel_rfl) (by kernel_rfl) (fun _ _ _ h => h) (Or.inl ⟨by rfl, ?h14⟩) hHeld ?r14
          case h14 =>
            intro w hSw
            (try dsimp only at hSw)
            go_simp
            try with_reducible rfl
          case r14 =>
          simp only [Act.put, List.setIfInBounds_toArray, List.set_cons_zero, List.set_cons_succ]
          refine wpAnyH_take (i := 16) (oi := { dst := some 95, op := Go.Op.move (Go.Operand.tmp 5), type := 2, pos := "laws.go:155", after := #[{ on := 8, ground := Go.Ground.guard }], guard := some (8, true) }) (v := ?v16) rfl (by kernel_rfl) (by kernel_rfl) (by kernel_rfl) (fun _ _ _ h => h) (Or.inl ⟨by rfl, ?h16⟩) hHeld ?r16
          case h16 =>
            intro w hSw
            (try dsimp only at hSw)
            go_simp
            try with_reducible rfl
          case r16 =>
          simp only [Act.put, List.setIfInBounds_toArray, List.set_cons_zero, List.set_cons_succ]
          refine wpAnyH_ready (rs := [11]) (by kernel_rfl) (by simp) ?_
          refine AllReadyH.cons (o := { dst := some 90, op := Go.Op.buildSlice 24 0 #[], type := 24, pos := "laws.go:155", after := #[{ on := 8, ground := Go.Ground.guard }], guard := some (8, true) }) rfl (fun K hK => ?_) AllReadyH.nil
          go_simp
          refine hK.out _ _ ⟨hbw.alloc hbw.size _, unhide KZ _ (hbw.alloc hbw.size _)⟩ (fun hHeld => ?_)
          clear hK K
          try simp only [Act.put, List.setIfInBounds_toArray, List.set_cons_zero, List.set_cons_succ]
          refine wpAnyH_ready (rs := [13]) (by kernel_rfl) (by simp) ?_
          refine AllReadyH.cons (o := { dst := some 92, op := Go.Op.call { callee := Go.Callee.builtin Go.Builtin.append, args := #[Go.Operand.tmp 90, Go.Operand.tmp 91], argTypes := #[24, 24] }, type := 24, pos := "laws.go:155", after := #[{ on := 11, ground := Go.Ground.data }, { on := 12, ground := Go.Ground.data }, { on := 8, ground := Go.Ground.chain }, { on := 8, ground := Go.Ground.guard }], guard := some (8, true) }) rfl (fun K hK => ?_) AllReadyH.nil
          refine step_append_hits _ _ rfl rfl w3.heap.size (.slice (some ⟨w3.heap.size, 0, none⟩) 0 0) 0 [] rfl (World.ownsRow_lit w3 #[] 0 (Nat.le_refl _) (by unfold maxLen; omega) rfl) (.slice au az.length cu) az rfl (unhide KA _ hHeld.1) (by omega) (by simp) ?_
          intro v7 w7 o7 g7
          have hz7 := hbw.size
          replace hbw := (hbw.alloc hbw.size _).grown g7 (by simp; omega) (fun k hk => by simp [Value.ownBlock] at hk; omega)
          have o7' : w7.ownsRow w3.heap.size 31 2 v7 az.length (cells2 az) := (by simpa using o7)
          have hz8 : w3.heap.size ≤ w7.heap.size := (by have := g7.size; simp at this; omega)
          refine hK.out _ _ ⟨hbw, unhide KZ _ hbw⟩ (fun hHeld => ?_)
          clear hK K
          try simp only [Act.put, List.setIfInBounds_toArray, List.set_cons_zero, List.set_cons_succ]
          refine wpAnyH_ready (rs := [15]) (by kernel_rfl) (by simp) ?_
          refine AllReadyH.cons (o := { dst := some 94, op := Go.Op.call { callee := Go.Callee.builtin Go.Builtin.append, args := #[Go.Operand.tmp 92, Go.Operand.tmp 93], argTypes := #[24, 24] }, type := 24, pos := "laws.go:155", after := #[{ on := 13, ground := Go.Ground.data }, { on := 14, ground := Go.Ground.data }, { on := 13, ground := Go.Ground.chain }, { on := 8, ground := Go.Ground.guard }], guard := some (8, true) }) rfl (fun K hK => ?_) AllReadyH.nil
          refine step_append_hits _ _ rfl rfl w3.heap.size v7 az.length az rfl o7' (.slice av 0 cv) [] rfl (unhide KB _ hHeld.1) (by simp; omega) hz8 ?_
          intro v8 w8 o8 g8
          have ho8 := o7'.lt
          replace hbw := hbw.grown g8 hbw.size (fun k hk => by have := (ho8 k hk).1; omega)
          have hi8 : IsHits w8 v8 az := isHits_row (unhide HWAB) (by simpa using o8)
          refine hK.out _ _ ⟨hbw, unhide KZ _ hbw⟩ (fun hHeld => ?_)
          clear hK K
          try simp only [Act.put, List.setIfInBounds_toArray, List.set_cons_zero, List.set_cons_succ]
          refine wpAnyH_ready (rs := [17]) (by kernel_rfl) (by simp) ?_
          refine AllReadyH.cons (o := { dst := some 96, op := Go.Op.call { callee := Go.Callee.value (Go.Operand.func 13), args := #[Go.Operand.tmp 94, Go.Operand.tmp 95], argTypes := #[24, 2] }, type := 28, pos := "laws.go:155", after := #[{ on := 15, ground := Go.Ground.data }, { on := 16, ground := Go.Ground.data }, { on := 15, ground := Go.Ground.chain }, { on := 8, ground := Go.Ground.guard }], guard := some (8, true) }) rfl (fun K hK => ?_) AllReadyH.nil
          go_simp
          go_at_call 13
          refine (unhide L4 _ _ hHeld.1 hi8).mono ?_
          rintro e w3 ⟨a5, c5, rfl, hi5, hbw⟩
          try go_wp2_with fail
          refine hK.out _ _ ⟨hbw, unhide KZ _ hbw⟩ (fun hHeld => ?_)
          clear hK K
          try simp only [Act.put, List.setIfInBounds_toArray, List.set_cons_zero, List.set_cons_succ]
          refine wpAnyH_take (i := 18) (oi := { dst := some 97, op := Go.Op.field 28 (Go.Operand.tmp 96) 1, type := 24, pos := "laws.go:155", after := #[{ on := 17, ground := Go.Ground.data }, { on := 8, ground := Go.Ground.guard }], guard := some (8, true) }) (v := ?v18) rfl (by kernel_rfl) (by kernel_rfl) (by kernel_rfl) (fun _ _ _ h => h) (Or.inl ⟨by rfl, ?h18⟩) hHeld ?r18
          case h18 =>
            intro w hSw
            (try dsimp only at hSw)
            go_simp
            try with_reducible rfl
          case r18 =>
          simp only [Act.put, List.setIfInBounds_toArray, List.set_cons_zero, List.set_cons_succ]
          refine wpAnyH_ready (rs := [19]) (by kernel_rfl) (by simp) ?_
          refine AllReadyH.cons (o := { dst := some 98, op := Go.Op.call { callee := Go.Callee.value (Go.Operand.func 17), args := #[Go.Operand.tmp 89, Go.Operand.tmp 97], argTypes := #[24, 24] }, type := 4, pos := "laws.go:155", after := #[{ on := 10, ground := Go.Ground.data }, { on := 18, ground := Go.Ground.data }, { on := 17, ground := Go.Ground.chain }, { on := 8, ground := Go.Ground.guard }], guard := some (8, true) }) rfl (fun K hK => ?_) AllReadyH.nil
          go_simp
          go_at_call 17
          refine (unhide L3 _ _ _ hHeld.1 (unhide K2 _ hHeld.1) hi5).mono ?_
          rintro e w3 ⟨rfl, hbw⟩
          try go_wp2_with fail
          refine hK.out _ _ ⟨hbw, unhide KZ _ hbw⟩ (fun hHeld => ?_)
          clear hK K
          try simp only [Act.put, List.setIfInBounds_toArray, List.set_cons_zero, List.set_cons_succ]
          refine wpAnyH_take (i := 20) (oi := { dst := some 99, op := Go.Op.pick (Go.Operand.tmp 87) (Go.Operand.tmp 98) (Go.Operand.const (Go.Value.bool false)), type := 4, pos := "laws.go:155", after := #[{ on := 8, ground := Go.Ground.data }, { on := 19, ground := Go.Ground.data }], guard := none }) (v := ?v20) rfl (by kernel_rfl) (by kernel_rfl) (by kernel_rfl) (fun _ _ _ h => h) (Or.inl ⟨by rfl, ?h20⟩) hHeld ?r20
          case h20 =>
            intro w hSw
            (try dsimp only at hSw)
            go_simp
            try with_reducible rfl
          case r20 =>
          simp only [Act.put, List.setIfInBounds_toArray, List.set_cons_zero, List.set_cons_succ]
          refine wpAnyH_take (i := 21) (oi := { dst := some 100, op := Go.Op.move (Go.Operand.tmp 99), type := 4, pos := "laws.go:155", after := #[{ on := 20, ground := Go.Ground.data }, { on := 19, ground := Go.Ground.chain }], guard := none }) (v := ?v21) rfl (by kernel_rfl) (by kernel_rfl) (by kernel_rfl) (fun _ _ _ h => h) (Or.inl ⟨by rfl, ?h21⟩) hHeld ?r21
          case h21 =>
            intro w hSw
            (try dsimp only at hSw)
            go_simp
            try with_reducible rfl
          case r21 =>
          simp only [Act.put, List.setIfInBounds_toArray, List.set_cons_zero, List.set_cons_succ]
          refine wpAnyH_take (i := 22) (oi := { dst := some 101, op := Go.Op.fieldAddr 28 (Go.Operand.tmp 6) 1, type := 0, pos := "laws.go:155", after := #[{ on := 21, ground := Go.Ground.guard }], guard := some (21, true) }) (v := ?v22) rfl (by kernel_rfl) (by kernel_rfl) (by kernel_rfl) (fun _ _ _ h => h) (Or.inl ⟨by rfl, ?h22⟩) hHeld ?r22
          case h22 =>
            intro w hSw
            (try dsimp only at hSw)
            go_simp
            try with_reducible rfl
          case r22 =>
          simp only [Act.put, List.setIfInBounds_toArray, List.set_cons_zero, List.set_cons_succ]
          refine wpAnyH_take (i := 23) (oi := { dst := some 102, op := Go.Op.load 24 (Go.Operand.tmp 101), type := 24, pos := "laws.go:155", after := #[{ on := 22, ground := Go.Ground.data }, { on := 21, ground := Go.Ground.guard }], guard := some (21, true) }) (v := ?v23) rfl (by kernel_rfl) (by kernel_rfl) (by kernel_rfl) (fun _ _ _ h => h) (Or.inl ⟨by rfl, ?h23⟩) hHeld ?r23
          case h23 =>
            intro w hSw
            (try dsimp only at hSw)
            go_simp
            try with_reducible rfl
          case r23 =>
          simp only [Act.put, List.setIfInBounds_toArray, List.set_cons_zero, List.set_cons_succ]
          refine wpAnyH_take (i := 24) (oi := { dst := some 103, op := Go.Op.move (Go.Operand.tmp 4), type := 24, pos := "laws.go:155", after := #[{ on := 21, ground := Go.Ground.guard }], guard := some (21, true) }) (v := ?v24) rfl (by kernel_rfl) (by kernel_rfl) (by kernel_rfl) (fun _ _ _ h => h) (Or.inl ⟨by rfl, ?h24⟩) hHeld ?r24
          case h24 =>
            intro w hSw
            (try dsimp only at hSw)
            go_simp
            try with_reducible rfl
          case r24 =>
          simp only [Act.put, List.setIfInBounds_toArray, List.set_cons_zero, List.set_cons_succ]
          refine wpAnyH_take (i := 25) (oi := { dst := some 104, op := Go.Op.move (Go.Operand.tmp 3), type := 24, pos := "laws.go:155", after := #[{ on := 21, ground := Go.Ground.guard }], guard := some (21, true) }) (v := ?v25) rfl (by kernel_rfl) (by kernel_rfl) (by kernel_rfl) (fun _ _ _ h => h) (Or.inl ⟨by rfl, ?h25⟩) hHeld ?r25
          case h25 =>
            intro w hSw
            (try dsimp only at hSw)
            go_simp
            try with_reducible rfl
          case r25 =>
          simp only [Act.put, List.setIfInBounds_toArray, List.set_cons_zero, List.set_cons_succ]
          refine wpAnyH_take (i := 26) (oi := { dst := some 105, op := Go.Op.move (Go.Operand.tmp 5), type := 2, pos := "laws.go:155", after := #[{ on := 21, ground := Go.Ground.guard }], guard := some (21, true) }) (v := ?v26) rfl (by kernel_rfl) (by kernel_rfl) (by kernel_rfl) (fun _ _ _ h => h) (Or.inl ⟨by rfl, ?h26⟩) hHeld ?r26
          case h26 =>
            intro w hSw
            (try dsimp only at hSw)
            go_simp
            try with_reducible rfl
          case r26 =>
          simp only [Act.put, List.setIfInBounds_toArray, List.set_cons_zero, List.set_cons_succ]
          refine wpAnyH_ready (rs := [27]) (by kernel_rfl) (by simp) ?_
          refine AllReadyH.cons (o := { dst := some 106, op := Go.Op.call { callee := Go.Callee.value (Go.Operand.func 19), args := #[Go.Operand.tmp 103, Go.Operand.tmp 104, Go.Operand.tmp 105], argTypes := #[24, 24, 2] }, type := 28, pos := "laws.go:155", after := #[{ on := 24, ground := Go.Ground.data }, { on := 25, ground := Go.Ground.data }, { on := 26, ground := Go.Ground.data }, { on := 21, ground := Go.Ground.chain }, { on := 21, ground := Go.Ground.guard }], guard := some (21, true) }) rfl (fun K hK => ?_) AllReadyH.nil
          go_simp
          go_at_call 19
          refine (unhide L2 _ hHeld.1).mono ?_
          rintro e w3 ⟨a6, c6, rfl, hi6, hbw⟩
          try go_wp2_with fail
          refine hK.out _ _ ⟨hbw, unhide KZ _ hbw⟩ (fun hHeld => ?_)
          clear hK K
          try simp only [Act.put, List.setIfInBounds_toArray, List.set_cons_zero, List.set_cons_succ]
          refine wpAnyH_take (i := 28) (oi := { dst := some 107, op := Go.Op.field 28 (Go.Operand.tmp 106) 1, type := 24, pos := "laws.go:155", after := #[{ on := 27, ground := Go.Ground.data }, { on := 21, ground := Go.Ground.guard }], guard := some (21, true) }) (v := ?v28) rfl (by kernel_rfl) (by kernel_rfl) (by kernel_rfl) (fun _ _ _ h => h) (Or.inl ⟨by rfl, ?h28⟩) hHeld ?r28
          case h28 =>
            intro w hSw
            (try dsimp only at hSw)
            go_simp
            try with_reducible rfl
          case r28 =>
          simp only [Act.put, List.setIfInBounds_toArray, List.set_cons_zero, List.set_cons_succ]
          refine wpAnyH_ready (rs := [29]) (by kernel_rfl) (by simp) ?_
          refine AllReadyH.cons (o := { dst := some 108, op := Go.Op.call { callee := Go.Callee.value (Go.Operand.func 17), args := #[Go.Operand.tmp 102, Go.Operand.tmp 107], argTypes := #[24, 24] }, type := 4, pos := "laws.go:155", after := #[{ on := 23, ground := Go.Ground.data }, { on := 28, ground := Go.Ground.data }, { on := 27, ground := Go.Ground.chain }, { on := 21, ground := Go.Ground.guard }], guard := some (21, true) }) rfl (fun K hK => ?_) AllReadyH.nil
          go_simp
          go_at_call 17
          refine (unhide L3 _ _ _ hHeld.1 (unhide K2 _ hHeld.1) hi6).mono ?_
          rintro e w3 ⟨rfl, hbw⟩
          try go_wp2_with fail
          refine hK.out _ _ ⟨hbw, unhide KZ _ hbw⟩ (fun hHeld => ?_)
          clear hK K
          try simp only [Act.put, List.setIfInBounds_toArray, List.set_cons_zero, List.set_cons_succ]
          refine wpAnyH_take (i := 30) (oi := { dst := some 109, op := Go.Op.pick (Go.Operand.tmp 100) (Go.Operand.tmp 108) (Go.Operand.const (Go.Value.bool false)), type := 4, pos := "laws.go:155", after := #[{ on := 21, ground := Go.Ground.data }, { on := 29, ground := Go.Ground.data }], guard := none }) (v := ?v30) rfl (by kernel_rfl) (by kernel_rfl) (by kernel_rfl) (fun _ _ _ h => h) (Or.inl ⟨by rfl, ?h30⟩) hHeld ?r30
          case h30 =>
            intro w hSw
            (try dsimp only at hSw)
            go_simp
            try with_reducible rfl
          case r30 =>
          simp only [Act.put, List.setIfInBounds_toArray, List.set_cons_zero, List.set_cons_succ]
          refine wpAnyH_take (i := 31) (oi := { dst := some 110, op := Go.Op.move (Go.Operand.tmp 109), type := 4, pos := "laws.go:155", after := #[{ on := 30, ground := Go.Ground.data }, { on := 29, ground := Go.Ground.chain }], guard := none }) (v := ?v31) rfl (by kernel_rfl) (by kernel_rfl) (by kernel_rfl) (fun _ _ _ h => h) (Or.inl ⟨by rfl, ?h31⟩) hHeld ?r31
          case h31 =>
            intro w hSw
            (try dsimp only at hSw)
            go_simp
            try with_reducible rfl
          case r31 =>
          simp only [Act.put, List.setIfInBounds_toArray, List.set_cons_zero, List.set_cons_succ]
          refine wpAnyH_take (i := 32) (oi := { dst := some 111, op := Go.Op.move (Go.Operand.tmp 4), type := 24, pos := "laws.go:155", after := #[{ on := 31, ground := Go.Ground.guard }], guard := some (31, true) }) (v := ?v32) rfl (by kernel_rfl) (by kernel_rfl) (by kernel_rfl) (fun _ _ _ h => h) (Or.inl ⟨by rfl, ?h32⟩) hHeld ?r32
          case h32 =>
            intro w hSw
            (try dsimp only at hSw)
            go_simp
            try with_reducible rfl
          case r32 =>
          simp only [Act.put, List.setIfInBounds_toArray, List.set_cons_zero, List.set_cons_succ]
          refine wpAnyH_take (i := 33) (oi := { dst := some 112, op := Go.Op.call { callee := Go.Callee.builtin Go.Builtin.len, args := #[Go.Operand.tmp 111], argTypes := #[24] }, type := 3, pos := "laws.go:155", after := #[{ on := 32, ground := Go.Ground.data }, { on := 31, ground := Go.Ground.guard }], guard := some (31, true) }) (v := ?v33) rfl (by kernel_rfl) (by kernel_rfl) (by kernel_rfl) (fun _ _ _ h => h) (Or.inl ⟨by rfl, ?h33⟩) hHeld ?r33
          case h33 =>
            intro w hSw
            (try dsimp only at hSw)
            go_simp
            try with_reducible rfl
          case r33 =>
          simp only [Act.put, List.setIfInBounds_toArray, List.set_cons_zero, List.set_cons_succ]
          refine wpAnyH_take (i := 34) (oi := { dst := some 113, op := Go.Op.binOp Go.BinOp.eql 3 (Go.Operand.tmp 112) (Go.Operand.const (Go.Value.int Go.IntKind.i64 0)) 3, type := 4, pos := "laws.go:155", after := #[{ on := 33, ground := Go.Ground.data }, { on := 31, ground := Go.Ground.guard }], guard := some (31, true) }) (v := ?v34) rfl (by kernel_rfl) (by kernel_rfl) (by kernel_rfl) (fun _ _ _ h => h) (Or.inl ⟨by rfl, ?h34⟩) hHeld ?r34
          case h34 =>
            intro w hSw
            (try dsimp only at hSw)
            go_simp
            try with_reducible rfl
          case r34 =>
          simp only [Act.put, List.setIfInBounds_toArray, List.set_cons_zero, List.set_cons_succ]
          refine wpAnyH_take (i := 35) (oi := { dst := some 114, op := Go.Op.move (Go.Operand.tmp 113), type := 4, pos := "laws.go:155", after := #[{ on := 34, ground := Go.Ground.data }, { on := 31, ground := Go.Ground.chain }, { on := 31, ground := Go.Ground.guard }], guard := some (31, true) }) (v := ?v35) rfl (by kernel_rfl) (by kernel_rfl) (by kernel_rfl) (fun _ _ _ h => h) (Or.inl ⟨by rfl, ?h35⟩) hHeld ?r35
          case h35 =>
            intro w hSw
            (try dsimp only at hSw)
            go_simp
            try with_reducible rfl
          case r35 =>
          simp only [Act.put, List.setIfInBounds_toArray, List.set_cons_zero, List.set_cons_succ]
          refine wpAnyH_take (i := 36) (oi := { dst := some 115, op := Go.Op.move (Go.Operand.tmp 7), type := 24, pos := "laws.go:155", after := #[{ on := 35, ground := Go.Ground.guard }], guard := some (35, false) }) (v := undef) rfl (by kernel_rfl) (by kernel_rfl) (by kernel_rfl) (fun _ _ _ h => h) (Or.inr ⟨by rfl, rfl⟩) hHeld ?_
          simp only [Act.put, List.setIfInBounds_toArray, List.set_cons_zero, List.set_cons_succ]
          refine wpAnyH_take (i := 37) (oi := { dst := some 116, op := Go.Op.fieldAddr 28 (Go.Operand.tmp 6) 1, type := 0, pos := "laws.go:155", after := #[{ on := 35, ground := Go.Ground.guard }], guard := some (35, false) }) (v := undef) rfl (by kernel_rfl) (by kernel_rfl) (by kernel_rfl) (fun _ _ _ h => h) (Or.inr ⟨by rfl, rfl⟩) hHeld ?_
          simp only [Act.put, List.setIfInBounds_toArray, List.set_cons_zero, List.set_cons_succ]
          refine wpAnyH_take (i := 38) (oi := { dst := some 117, op := Go.Op.load 24 (Go.Operand.tmp 116), type := 24, pos := "laws.go:155", after := #[{ on := 37, ground := Go.Ground.data }, { on := 35, ground := Go.Ground.guard }], guard := some (35, false) }) (v := undef) rfl (by kernel_rfl) (by kernel_rfl) (by kernel_rfl) (fun _ _ _ h => h) (Or.inr ⟨by rfl, rfl⟩) hHeld ?_
          simp only [Act.put, List.setIfInBounds_toArray, List.set_cons_zero, List.set_cons_succ]
          refine wpAnyH_take (i := 39) (oi := { dst := some 118, op := Go.Op.call { callee := Go.Callee.value (Go.Operand.func 17), args := #[Go.Operand.tmp 115, Go.Operand.tmp 117], argTypes := #[24, 24] }, type := 4, pos := "laws.go:155", after := #[{ on := 36, ground := Go.Ground.data }, { on := 38, ground := Go.Ground.data }, { on := 35, ground := Go.Ground.chain }, { on := 35, ground := Go.Ground.guard }], guard := some (35, false) }) (v := undef) rfl (by kernel_rfl) (by kernel_rfl) (by kernel_rfl) (fun _ _ _ h => h) (Or.inr ⟨by rfl, rfl⟩) hHeld ?_
          simp only [Act.put, List.setIfInBounds_toArray, List.set_cons_zero, List.set_cons_succ]
          refine wpAnyH_take (i := 40) (oi := { dst := some 119, op := Go.Op.pick (Go.Operand.tmp 114) (Go.Operand.const (Go.Value.bool true)) (Go.Operand.tmp 118), type := 4, pos := "laws.go:155", after := #[{ on := 35, ground := Go.Ground.data }, { on := 39, ground := Go.Ground.data }, { on := 31, ground := Go.Ground.guard }], guard := some (31, true) }) (v := ?v40) rfl (by kernel_rfl) (by kernel_rfl) (by kernel_rfl) (fun _ _ _ h => h) (Or.inl ⟨by rfl, ?h40⟩) hHeld ?r40
          case h40 =>
            intro w hSw
            (try dsimp only at hSw)
            go_simp
            try with_reducible rfl
          case r40 =>
          simp only [Act.put, List.setIfInBounds_toArray, List.set_cons_zero, List.set_cons_succ]
          refine wpAnyH_take (i := 41) (oi := { dst := some 120, op := Go.Op.pick (Go.Operand.tmp 110) (Go.Operand.tmp 119) (Go.Operand.const (Go.Value.bool false)), type := 4, pos := "laws.go:155", after := #[{ on := 31, ground := Go.Ground.data }, { on := 40, ground := Go.Ground.data }], guard := none }) (v := ?v41) rfl (by kernel_rfl) (by kernel_rfl) (by kernel_rfl) (fun _ _ _ h => h) (Or.inl ⟨by rfl, ?h41⟩) hHeld ?r41
          case h41 =>
            intro w hSw
            (try dsimp only at hSw)
            go_simp
            try with_reducible rfl
          case r41 =>
          simp only [Act.put, List.setIfInBounds_toArray, List.set_cons_zero, List.set_cons_succ]
          refine wpAnyH_take (i := 42) (oi := { dst := some 2, op := Go.Op.assign (Go.Operand.tmp 120), type := 4, pos := "laws.go:155", after := #[{ on := 41, ground := Go.Ground.data }, { on := 39, ground := Go.Ground.chain }, { on := 0, ground := Go.Ground.phase }, { on := 1, ground := Go.Ground.phase }, { on := 2, ground := Go.Ground.phase }, { on := 3, ground := Go.Ground.phase }, { on := 4, ground := Go.Ground.phase }, { on := 5, ground := Go.Ground.phase }, { on := 6, ground := Go.Ground.phase }, { on := 7, ground := Go.Ground.phase }, { on := 8, ground := Go.Ground.phase }, { on := 9, ground := Go.Ground.phase }, { on := 10, ground := Go.Ground.phase }, { on := 11, ground := Go.Ground.phase }, { on := 12, ground := Go.Ground.phase }, { on := 13, ground := Go.Ground.phase }, { on := 14, ground := Go.Ground.phase }, { on := 15, ground := Go.Ground.phase }, { on := 16, ground := Go.Ground.phase }, { on := 17, ground := Go.Ground.phase }, { on := 18, ground := Go.Ground.phase }, { on := 19, ground := Go.Ground.phase }, { on := 20, ground := Go.Ground.phase }, { on := 21, ground := Go.Ground.phase }, { on := 22, ground := Go.Ground.phase }, { on := 23, ground := Go.Ground.phase }, { on := 24, ground := Go.Ground.phase }, { on := 25, ground := Go.Ground.phase }, { on := 26, ground := Go.Ground.phase }, { on := 27, ground := Go.Ground.phase }, { on := 28, ground := Go.Ground.phase }, { on := 29, ground := Go.Ground.phase }, { on := 30, ground := Go.Ground.phase }, { on := 31, ground := Go.Ground.phase }, { on := 32, ground := Go.Ground.phase }, { on := 33, ground := Go.Ground.phase }, { on := 34, ground := Go.Ground.phase }, { on := 35, ground := Go.Ground.phase }, { on := 36, ground := Go.Ground.phase }, { on := 37, ground := Go.Ground.phase }, { on := 38, ground := Go.Ground.phase }, { on := 39, ground := Go.Ground.phase }, { on := 40, ground := Go.Ground.phase }, { on := 41, ground := Go.Ground.phase }], guard := none }) (v := ?v42) rfl (by kernel_rfl) (by kernel_rfl) (by kernel_rfl) (fun _ _ _ h => h) (Or.inl ⟨by rfl, ?h42⟩) hHeld ?r42
          case h42 =>
            intro w hSw
            (try dsimp only at hSw)
            go_simp
            try with_reducible rfl
          case r42 =>
          simp only [Act.put, List.setIfInBounds_toArray, List.set_cons_zero, List.set_cons_succ]
          refine wpAnyH_done (by kernel_rfl) ?_ _
          refine NoPanic.normal ?_
          have BW : Hid (Below wq.heap.size wq w3) := hbw
          go_wp2_with fail
          go_ret
          exact ⟨rfl, below_keep2 (unhide HBR) (unhide BW)⟩
        · have hb0 : ((bz.length : Int) == 0) = false := by rw [beq_eq_false_iff_ne]; omega
          go_wp2_with fail
          first
            | go_region_held3 (fun w' => Below wq.heap.size wq w' ∧ w'.cell? ⟨s0, 1, none⟩ = some (.slice a1 N c1))
                (first
                  | exact ⟨hbw, unhide KZ _ hbw⟩
                  | exact ⟨hbw.alloc hbw.size _, unhide KZ _ (hbw.alloc hbw.size _)⟩
                  | exact ⟨(unhide HBT).drew, unhide KZ _ (unhide HBT).drew⟩
                  | go_keep)
                (first
                  | (go_at_call 20; refine (unhide L1 _ ?_).mono ?_; (go_split_ands; assumption); rintro e w3 ⟨a4, c4, rfl, hi4, hbw⟩)
                  | (go_at_call 19; refine (unhide L2 _ ?_).mono ?_; (go_split_ands; assumption); rintro e w3 ⟨a6, c6, rfl, hi6, hbw⟩)
                  | (go_at_call 13; refine (unhide L4 _ _ ?_ ?_).mono ?_; (go_split_ands; assumption); (first | exact hi8 | exact hi8.later (Below.refl _ _).drew); rintro e w3 ⟨a5, c5, rfl, hi5, hbw⟩)
                  | (go_at_call 17; refine (unhide L3 _ _ _ ?_ ?_ ?_).mono ?_; (go_split_ands; assumption); (first | exact (unhide K2 _ (by go_split_ands; assumption)) | exact (unhide KO hbz _ (by go_split_ands; assumption))); (first | exact hi6 | exact hi6.later (Below.refl _ _).drew  | exact hi5 | exact hi5.later (Below.refl _ _).drew  | exact hi4 | exact hi4.later (Below.refl _ _).drew  | exact (unhide K2 _ (by go_split_ands; assumption))); rintro e w3 ⟨rfl, hbw⟩)
                  | (refine step_append_hits _ _ rfl rfl w3.heap.size (.slice (some ⟨w3.heap.size, 0, none⟩) 0 0) 0 [] rfl (World.ownsRow_lit w3 #[] 0 (Nat.le_refl _) (by unfold maxLen; omega) rfl) (.slice au az.length cu) az rfl (unhide KA _ (by go_split_ands; assumption)) (by omega) (by simp) ?_; intro v7 w7 o7 g7; have hz7 := hbw.size; replace hbw := (hbw.alloc hbw.size _).grown g7 (by simp; omega) (fun k hk => by simp [Value.ownBlock] at hk; omega); have o7' : w7.ownsRow w3.heap.size 31 2 v7 az.length (cells2 az) := (by simpa using o7); have hz8 : w3.heap.size ≤ w7.heap.size := (by have := g7.size; simp at this; omega))
                  | (refine step_append_hits _ _ rfl rfl w3.heap.size v7 az.length az rfl o7' (.slice av bz.length cv) bz rfl (unhide KB _ (by go_split_ands; assumption)) (by first | omega | (simp; omega)) hz8 ?_; intro v8 w8 o8 g8; have ho8 := o7'.lt; replace hbw := hbw.grown g8 hbw.size (fun k hk => by have := (ho8 k hk).1; omega); have hi8 : IsHits w8 v8 (az ++ bz) := isHits_row (unhide HWAB) (by rw [List.length_append]; exact o8)))
            | fail
          have BW : Hid (Below wq.heap.size wq w3) := by
            show Below wq.heap.size wq w3
            first | assumption | (go_split_ands; assumption)
          go_wp2_with fail
          go_ret
          exact ⟨rfl, below_keep2 (unhide HBR) (unhide BW)⟩
  · have hne : (c != 0) = true := by rw [bne_iff_ne]; exact hc0
    have heq : (c == c) = true := by simp
    go_wp2_with fail
    generalize hwa : w2.alloc (.cells #[.int .i64 c, .slice a1 ms.length c1] 28) = wa at *
    generalize w2.heap.size = s0 at *
    clear hwa
    have hs0 := World.block_lt_of_cell? _ _ k0
    have LM : Hid (∀ W, Below wa.heap.size wa W → Calls Try.prog 20 #[.slice au az.length cu, .slice av bz.length cv, .int .i64 k] W fun e w' => ∃ (a : Option Addr) (n cp : Nat), e = .returned (.agg #[.int .i64 c, .slice a n cp]) ∧ Below W.heap.size W w') := fun W hW => by
      refine (modelMerge _ _ az bz k W ((unhide P0).later hW) ((unhide P2).later hW)).mono ?_
      rintro e w' ⟨r, rfl, ho, hb⟩
      obtain ⟨a, cp, rfl⟩ := own_shape ho
      rw [← unhide HCC]
      exact ⟨a, _, cp, rfl, hb⟩
    have hf0 := fun a n cp => fieldHits0 c a n cp
    clear hc0 k1 P0 P1 P2
    go_region_held3 (fun w' => Below wa.heap.size wa w' ∧ w'.cell? ⟨s0, 0, none⟩ = some (.int .i64 c))
      (first
        | exact ⟨(Below.refl _ _).drew, k0⟩
        | (refine ⟨below_step ?_ hb3, cell_keep hb3 ?_⟩ <;> (first | assumption | (go_split_ands; assumption)))
        | go_keep)
      (first
        | (go_at_call 20; refine (unhide LM _ ?_).mono ?_; (go_split_ands; assumption); rintro e w3 ⟨a, n, cp, rfl, hb3⟩))
    go_wp2_with fail
    go_ret
    refine ⟨rfl, below_keep2 (unhide HBA) ?_⟩
    first | assumption | (go_split_ands; assumption)

/-- FnMerges. -/
theorem lawFnMerges (a : Option Addr) (len cap : Nat) (zs : List Int) (w : World) (h : (a = none ∧ len = 0 ∧ cap = 0 ∧ zs = []) ∨
    ∃ x, a = some x ∧ len ≤ cap ∧ cap ≤ maxLen ∧ zs.length = cap ∧ (∀ i, i < zs.length → w.cell? (x.add i) = some (.int .u8 (zs.getD i 0))) ∧ ∀ n ∈ zs, (Lit.int .u8 n).wf = true) :
    Calls Try.prog 4 #[.slice a len cap] w fun e w' => e = .returned (.bool true) ∧ Below w.heap.size w w' := by
  by_cases hn : len ≤ 1048576
  · exact lawMerges_few a len cap w hn (isCode_of_row h hn)
  · exact lawMerges_many a len cap w (by omega)

end Go.Proofs.Ytplhhdnmhcnhgaa
