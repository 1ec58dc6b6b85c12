/-
  Texts of this proof in one: ImplNewC, ChainFew, LawNewC.
  Their conditions stand in their theorems.
-/
import Derived.Test.YtapfgdpfincfiaaCn03
import Derived.Test.YtapfgdpfincfiaaCn02
import Derived.OwnWalk

namespace Go.Proofs.Ytapfgdpfincfiaa
open Go.RowKit

theorem upToC_at (n k : Nat) (h : k < n) : (upToC n).getD k 0 = (k : Int) + 1 := by simp [upToC, List.getD, h]

set_option maxRecDepth 100000 in
set_option maxHeartbeats 2000000 in
theorem implNewChain_ok (n : Nat) (w : World) (h1 : 1 ≤ n) (h5 : n ≤ 5) :
    Calls Try.prog 15 #[.int .i64 (n : Int)] w fun e w' => ∃ cs, e = .returned (.agg cs.toArray) ∧ Lay.tChainResult.OwnIn w' cs ⟨0, ⟨1, upToC n⟩⟩ w.heap.size w'.heap.size ∧ Below w.heap.size w w' := by
  have HB : Hid (Below w.heap.size w (w.alloc (.cells #[.int .i64 0, .int .i64 0, .slice none 0 0] 32))) := (Below.refl _ _).alloc (Nat.le_refl _) _
  have HR : Hid (Box 0 #[.int .i64 0, .int .i64 0, .slice none 0 0] 32 (w.alloc (.cells #[.int .i64 0, .int .i64 0, .slice none 0 0] 32)) w.heap.size) := newBox (Nat.zero_le _)
  have hcn : (decide (1 ≤ (n : Int)) && decide ((n : Int) ≤ 5)) = true := by simp; omega
  obtain ⟨i0, hi, hz0, hz1, hz2⟩ := info_parts info2
  go_enter Try.func15, Try.ntmps15
  go_wp2_with fail
  generalize w.alloc (.cells #[.int .i64 0, .int .i64 0, .slice none 0 0] 32) = W0 at *
  refine (isNodeCountC (n : Int) W0).mono ?_
  rintro e w1 ⟨rfl, q1⟩
  subst w1
  rw [hcn]
  clear hcn
  have hw1 := (unhide HR).lt
  go_wp2_with (at_make; refine wpList_make_full _ rfl _ _ 22 rfl W0.heap.size 2 i0 (.int .i64 0) 1 Try.underlying22 hi hz0 hz1 _ _ _ _ n rfl rfl rfl rfl ?c1 ?c2 ?c3 ?_)
  case c1 => rw [hz2]; omega
  case c2 => unfold maxLen; omega
  case c3 => exact Nat.le_refl _
  intro w2 hown1 hgrow1
  have hB1 : Below W0.heap.size W0 w2 := (Below.refl _ _).grown hgrow1 (Nat.le_refl _) (by simp)
  rw [toList_madeCells_one] at hown1
  have HO1 := hide hown1
  have HB1 := hide hB1
  clear hgrow1 hi hz0 hz1 hz2 hown1 hB1
  go_wp2_with fail
  go_loopw [12] (fun i wr => ∃ k : Nat, k ≤ n ∧ i = .int .i64 k ∧ wr.ownsRow W0.heap.size 2 1 (.slice (some ⟨W0.heap.size, 0, none⟩) n n) n (((upToC n).take k).map (Value.int .i64) ++ List.replicate (n - k) (Value.int .i64 0)) ∧ Below W0.heap.size W0 wr) (fun i _ => n - (intOf i).toNat)
  case atStart => exact ⟨0, Nat.zero_le _, rfl, by simpa using unhide HO1, unhide HB1⟩
  case round =>
    obtain ⟨k, hk, rfl, hown, hB⟩ := hrel
    clear HO1 HB1
    by_cases hlt : k < n
    · have hcd : ∃ u, wr.cell? ⟨W0.heap.size, k, none⟩ = some u := by
        rw [hown.cellAt k (by omega)]
        exact ⟨_, List.getElem?_eq_getElem (by simp [upToC_len]; omega)⟩
      obtain ⟨u, hcd⟩ := hcd
      have hfz := hown.frozenAt k
      have hlg := (hown.lt W0.heap.size rfl).2
      have hst := hown.stored k (.int .i64 ((upToC n).getD k 0))
      have hsf := set_fill (upToC n) k (by rw [upToC_len]; exact hlt)
      rw [upToC_len] at hsf
      rw [hsf, upToC_at n k hlt] at hst
      have HO3 := hide hst.1
      have HB3 : Hid (Below W0.heap.size W0 (wr.setCell ⟨W0.heap.size, k, none⟩ (.int .i64 ((k : Int) + 1)))) := hB.setCell (by simp) _
      have hdl : decide ((k : Int) < (n : Int)) = true := by simp; omega
      clear hst hsf hown hB
      go_wp2_with fail
      go_roundw
      case rel => exact ⟨k + 1, by omega, by go_num, unhide HO3, unhide HB3⟩
      case measure => simp [intOf]; omega
    · obtain rfl : k = n := by omega
      have hdl : decide ((k : Int) < (k : Int)) = false := by simp
      have e1 : (upToC k).take k = upToC k := by conv => lhs; arg 1; rw [← upToC_len k]
                                                 exact List.take_length
      rw [e1, Nat.sub_self, List.replicate_zero, List.append_nil] at hown
      have hO := own_intsC (upToC_wf k (by omega)) (by rw [upToC_len]; omega) (by rw [upToC_len]; exact hown)
      have bR := (unhide HR).keep hB
      have z0 : wr.cell? ⟨w.heap.size, 0, none⟩ = some (.int .i64 0) := bR.at 0 _ rfl
      have z1 : wr.cell? ⟨w.heap.size, 1, none⟩ = some (.int .i64 0) := bR.at 1 _ rfl
      have z2 : wr.cell? ⟨w.heap.size, 2, none⟩ = some (.slice none 0 0) := bR.at 2 _ rfl
      have ff := bR.soft
      have l0 := bR.lt
      have HB9 := hide ((unhide HB).trans (hB.mono (unhide HB).size))
      have HO9 := hide hO
      clear hown hB hO bR e1
      go_wp2_with fail
      refine bodyPost_ret (v := .agg #[.int .i64 0, .int .i64 1, (.slice (some ⟨W0.heap.size, 0, none⟩) k k)]) (by simp [results, Try.results15, go_sem, z0, z1, z2]) rfl ?_
      have hE : Ext (fun c => c = w.heap.size) wr (((wr.setCell ⟨w.heap.size, 0, none⟩ (.int .i64 0)).setCell ⟨w.heap.size, 1, none⟩ (.int .i64 1)).setCell ⟨w.heap.size, 2, none⟩ (.slice (some ⟨W0.heap.size, 0, none⟩) k k)) := (((Ext.refl (fun c => c = w.heap.size) _).setCell ⟨w.heap.size, 0, none⟩ _ rfl).setCell ⟨w.heap.size, 1, none⟩ _ rfl).setCell ⟨w.heap.size, 2, none⟩ _ rfl
      exact ⟨[.int .i64 0, .int .i64 1, (.slice (some ⟨W0.heap.size, 0, none⟩) k k)], rfl, own_chainR (x := ⟨1, upToC k⟩) (by decide) (by show (Lit.int .i64 1).wf = true; decide) (((unhide HO9).ext hE (fun c h1 _ h3 => by omega)).mono (by omega) (by simp)), (((unhide HB9).setCell (by simp) _).setCell (by simp) _).setCell (by simp) _⟩

set_option maxRecDepth 10000 in
theorem implNewChain (n : Int) (w : World) :
    Calls Try.prog 15 #[.int .i64 n] w fun e w' => ∃ cs, e = .returned (.agg cs.toArray) ∧ Lay.tChainResult.OwnIn w' cs (newChainR n) w.heap.size w'.heap.size ∧ Below w.heap.size w w' := by
  by_cases hn : 1 ≤ n ∧ n ≤ 5
  · obtain ⟨m, rfl⟩ : ∃ m : Nat, n = (m : Int) := ⟨n.toNat, by omega⟩
    have HV : newChainR (m : Int) = ⟨0, ⟨1, upToC m⟩⟩ := by rw [newChainR, if_pos hn]; rfl
    rw [HV]
    exact implNewChain_ok m w (by omega) (by omega)
  · have HV : newChainR n = badChain 3 := by rw [newChainR, if_neg hn]
    rw [HV]
    have d1 : (decide (1 ≤ n) && decide (n ≤ 5)) = false := by
      cases h : (decide (1 ≤ n) && decide (n ≤ 5))
      · rfl
      · exact absurd (by simpa using h) hn
    have HB : Hid (Below w.heap.size w (w.alloc (.cells #[.int .i64 0, .int .i64 0, .slice none 0 0] 32))) := (Below.refl _ _).alloc (Nat.le_refl _) _
    have HR : Hid (Box 0 #[.int .i64 0, .int .i64 0, .slice none 0 0] 32 (w.alloc (.cells #[.int .i64 0, .int .i64 0, .slice none 0 0] 32)) w.heap.size) := newBox (Nat.zero_le _)
    clear HV hn
    go_enter Try.func15, Try.ntmps15
    go_wp2_with fail
    generalize w.alloc (.cells #[.int .i64 0, .int .i64 0, .slice none 0 0] 32) = W0 at *
    refine (isNodeCountC n W0).mono ?_
    rintro e w1 ⟨rfl, q1⟩
    subst w1
    rw [d1]
    have bR := unhide HR
    have z0 := Box.at bR 0 _ rfl
    have z1 := Box.at bR 1 _ rfl
    have z2 := Box.at bR 2 _ rfl
    simp only [List.getElem_toArray, List.getElem_cons_zero, List.getElem_cons_succ] at z0 z1 z2
    have ff := Box.soft bR
    have l0 := Box.lt bR
    have HB2 := hide (below_setAll (unhide HB) w.heap.size 0 [.int .i64 3, .int .i64 0, .slice none 0 0] (Nat.le_refl _))
    clear d1 bR HR HB
    go_wp2_with fail
    refine bodyPost_ret (v := .agg #[.int .i64 3, .int .i64 0, .slice none 0 0]) (by simp [results, Try.results15, go_sem, z0, z1, z2]) rfl ?_
    exact ⟨_, rfl, own_badChain (by decide), unhide HB2⟩
end Go.Proofs.Ytapfgdpfincfiaa

namespace Go.Proofs.Ytapfgdpfincfiaa
open Go.RowKit

theorem ints_cnt (l : List Int) : cntAll Lay.int.cnt l = l.length := by
  induction l with
  | nil => rfl
  | cons y ys ih => simp only [cntAll, List.length_cons, ih]; show 1 + ys.length = _; omega
theorem chain_few (y : DChainResult) (hl : y.chain.ids.length ≤ 1000) : Lay.tChainResult.vcnt y ≤ 100000000 := by
  rw [vcnt_ChainResult, vcnt_Chain]
  show cntAll Lay.int.cnt y.chain.ids ≤ 100000000
  rw [ints_cnt]
  omega
theorem badChain_few (c : Int) : Lay.tChainResult.vcnt (badChain c) ≤ 100000000 := chain_few _ (by simp [badChain, noChain])
theorem newChainR_few (n : Int) : Lay.tChainResult.vcnt (newChainR n) ≤ 100000000 := by
  unfold newChainR
  split
  · refine chain_few _ ?_
    show (upToC n.toNat).length ≤ 1000
    rw [upToC_len]
    omega
  · exact badChain_few _
theorem cutR_few (x : DChain) (id : Int) : Lay.tChainResult.vcnt (cutR x id) ≤ 100000000 := by
  unfold cutR
  split
  · rename_i h
    have hl := (chainFault_zero h).len
    split
    · exact badChain_few _
    · split
      · exact badChain_few _
      · split
        · exact badChain_few _
        · refine chain_few _ ?_
          show (x.ids.filter fun z => z != id).length ≤ 1000
          have := List.length_filter_le (fun z => z != id) x.ids
          omega
  · exact badChain_few _
theorem joinR_few (x : DChain) (id : Int) : Lay.tChainResult.vcnt (joinR x id) ≤ 100000000 := by
  unfold joinR
  split
  · rename_i h
    have hl := (chainFault_zero h).len
    split
    · split
      · exact badChain_few _
      · split
        · exact badChain_few _
        · refine chain_few _ ?_
          show (x.ids ++ [id]).length ≤ 1000
          simp
          omega
    · exact badChain_few _
  · exact badChain_few _
end Go.Proofs.Ytapfgdpfincfiaa

namespace Go.Proofs.Ytapfgdpfincfiaa
open Go.RowKit

theorem lawNewChain (n : Int) (w : World) :
    Calls Try.prog 4 #[.int .i64 n] w fun e w' => e = .returned (.bool true) ∧ Below w.heap.size w w' := by
  refine lawx_NewChain n (newChainR n) w (fun W => (specNewChain n W).mono fun e w' q => ?_) (fun W => implNewChain n W) (newChainR_few n)
  obtain ⟨cs, q1, q2, q3⟩ := q
  exact ⟨cs, q1, q2.reads, q3⟩

end Go.Proofs.Ytapfgdpfincfiaa
