/-
  The law FnExactSearchTable answers true at every list of items, every query and every k, and writes nothing that was there.
  No condition.
-/
import Derived.Test.YteekfapjfpkidaaLawXSearchTable
import Derived.Test.YteekfapjfpkidaaImplSearch
import Derived.Test.YteekfapjfpkidaaSpecSearch
namespace Go.Proofs.Yteekfapjfpkidaa
open Go.RowKit

theorem cnt_hits (hs : List DHit) : cntAll Lay.tHit.cnt hs = 2 * hs.length := by
  induction hs with
  | nil => rfl
  | cons h hs ih =>
    have e : Lay.tHit.cnt h = 2 := rfl
    simp only [cntAll, ih, e, List.length_cons]
    omega
theorem searchR_few (xs : List DItem) (q : List Int) (k : Int) : Lay.tHitsResult.vcnt (searchR xs q k) ≤ 100000000 := by
  rw [vcnt_HitsResult]
  show cntAll Lay.tHit.cnt (searchR xs q k).hits ≤ 100000000
  rw [cnt_hits]
  unfold searchR
  split
  · split
    · split
      · rename_i hk
        have hkb : 0 ≤ k ∧ k ≤ 20 := by simpa [kB] using hk
        have := best_len k.toNat ((hitsL xs q).map pairH)
        simp only [List.length_map]
        omega
      · exact Nat.zero_le _
    · exact Nat.zero_le _
  · exact Nat.zero_le _
theorem lawSearch (v : Value) (xs : List DItem) (vq : Value) (q : List Int) (k : Int) (w : World) (h : (Lay.sl Lay.tItem).Reads w [v] xs) (hq : (Lay.sl Lay.int).Reads w [vq] q) :
    Calls Try.prog 5 #[v, vq, .int .i64 k] w fun e w' => e = .returned (.bool true) ∧ Below w.heap.size w w' := by
  by_cases hm : q.length ≤ 1048576
  · have hm2 : (Lay.sl Lay.int).sz q ≤ 1048576 := by rw [sz_ints]; exact hm
    by_cases hn : (Lay.sl Lay.tItem).sz xs ≤ 1048576
    · exact lawx_SearchTable v xs vq q k (searchR xs q k) w h hq hm2 hn (fun W a b ha hb => specSearch a xs b q k W ha hb) (fun W a b ha hb => implSearch a xs b q k W ha hb) (searchR_few xs q k)
    · exact lawover_SearchTable v xs vq q k w h hq hm2 (by omega)
  · obtain ⟨ao, cap, rfl⟩ := open_sl h
    obtain ⟨ao2, cap2, rfl⟩ := open_sl hq
    exact lawmany_SearchTable_1 ao _ cap ao2 _ cap2 (.int .i64 k) w (by omega)

end Go.Proofs.Yteekfapjfpkidaa
