/-
  The model's MergeHits and RankOf: code, hits and place in plain words; nothing old is written.
  No condition.
-/
import Derived.Test.YtplhhdnmhcnhgaaHitOps2
namespace Go.Proofs.Ytplhhdnmhcnhgaa
open Go.RowKit

def mergeCode (a b : List (Int × Int)) (k : Int) : Int := if kB k then (if hitsFault a = 0 then hitsFault b else hitsFault a) else 3
def mergeList (a b : List (Int × Int)) (k : Int) : List (Int × Int) := if mergeCode a b k = 0 then best k.toNat (a ++ b) else []

set_option maxRecDepth 100000 in
set_option maxHeartbeats 1000000 in
theorem modelMerge (u v : Value) (a b : List (Int × Int)) (k : Int) (w : World) (ha : IsHits w u a) (hb : IsHits w v b) :
    Calls Try.prog 20 #[u, v, .int .i64 k] w fun e w' => Told w w' e (mergeCode a b k) (mergeList a b k) := by
  have HA := hide ha
  have HV := hide hb
  have bb : Below w.heap.size w (w.alloc (.cells #[.int .i64 0, .slice none 0 0] 28)) := (Below.refl _ _).alloc (Nat.le_refl _) _
  have RV : Hid (∀ W, Below (w.alloc (.cells #[.int .i64 0, .slice none 0 0] 28)).heap.size (w.alloc (.cells #[.int .i64 0, .slice none 0 0] 28)) W → W.cell? ⟨w.heap.size, 0, none⟩ = some (.int .i64 0) ∧ W.cell? ⟨w.heap.size, 1, none⟩ = some (.slice none 0 0) ∧ (∀ o, W.frozen? ⟨w.heap.size, o, none⟩ = false) ∧ w.heap.size < W.heap.size) := fun W hW => resVar hW
  have HBB := hide bb
  clear ha hb bb
  go_enter Try.func20, Try.ntmps20
  go_wp2_with fail
  have hs1 : (w.alloc (.cells #[.int .i64 0, .slice none 0 0] 28)).heap.size = w.heap.size + 1 := by simp
  generalize hwb : w.alloc (.cells #[.int .i64 0, .slice none 0 0] 28) = wb at *
  have HS1 := hide hs1
  clear hwb hs1
  refine (l2K k _).mono ?_
  rintro e w1 ⟨rfl, rfl⟩
  cases hk : kB k with
  | false =>
    have e0 : mergeCode a b k = 3 := by simp [mergeCode, hk]
    have e1 : mergeList a b k = [] := by simp [mergeList, e0]
    have hk' : (decide ((0 : Int) ≤ k) && decide (k ≤ 20)) = false := hk
    rw [hk']
    have E0 := hide e0
    have E1 := hide e1
    obtain ⟨z0, z1, z2, z3⟩ := unhide RV w1 (Below.refl _ _)
    clear hk hk' e0 e1 RV
    go_wp2_with fail
    refine bodyPost_ret (v := intsRes 3 (.slice none 0 0)) (by simp [results, Try.results20, go_sem, intsRes, z0, z1]) rfl ?_
    rw [unhide E0, unhide E1]
    exact told_nil (((unhide HBB).setCell (by simp) _).setCell (by simp) _)
  | true =>
    have hk' : (decide ((0 : Int) ≤ k) && decide (k ≤ 20)) = true := hk
    rw [hk']
    have HK := hide hk
    clear hk hk'
    go_wp2_with fail
    refine (l2Fault u a _ ((unhide HA).later (unhide HBB))).mono ?_
    rintro e w2 ⟨rfl, hb2⟩
    have HB2 := hide hb2
    have HBW2 := hide (below_keep2 (unhide HBB) hb2)
    clear hb2
    by_cases hf : hitsFault a = 0
    · rw [hf]
      have HF := hide hf
      clear hf
      go_wp2_with fail
      refine (l2Fault v b _ ((unhide HV).later (unhide HBW2))).mono ?_
      rintro e w3 ⟨rfl, hb3⟩
      have HB3 := hide (below_keep2 (unhide HB2) hb3)
      have HBW3 := hide (below_keep2 (unhide HBW2) hb3)
      clear hb3
      by_cases hg : hitsFault b = 0
      · rw [hg]
        have hkk : 0 ≤ k ∧ k ≤ 20 := by simpa [kB] using unhide HK
        obtain ⟨m, rfl⟩ : ∃ m : Nat, k = m := ⟨k.toNat, by omega⟩
        have e0 : mergeCode a b m = 0 := by simp [mergeCode, unhide HK, unhide HF, hg]
        have e1 : mergeList a b m = best m (a ++ b) := by simp [mergeList, e0]
        have E0 := hide e0
        have E1 := hide e1
        have la := (hitsFault_zero (unhide HF)).1
        have lb := (hitsFault_zero hg).1
        have hsz := (unhide RV w3 (unhide HB3)).2.2.2
        have O1 : (w3.alloc (.cells #[] 31)).ownsRow (w.heap.size + 1) 31 2 (.slice (some ⟨w3.heap.size, 0, none⟩) 0 0) 0 (cells2 []) := World.ownsRow_lit w3 #[] 0 hsz (by unfold maxLen; omega) rfl
        have b4 : Below w.heap.size w (w3.alloc (.cells #[] 31)) := (unhide HBW3).alloc (by omega) _
        have b4' : Below w1.heap.size w1 (w3.alloc (.cells #[] 31)) := (unhide HB3).alloc (unhide HB3).size _
        have X1 := (unhide HA).later b4
        have HB4 := hide b4
        have HB4' := hide b4'
        clear b4 b4' hg e0 e1
        go_wp2_with (at_builtin; refine wpList_append_row rfl _ _ rfl (w.heap.size + 1) w3.heap.size 0 0 [] rfl O1 _ a rfl X1 a.length ?o1 ?o2 ?o3 ?_)
        case o1 => omega
        case o2 => omega
        case o3 => simp; omega
        intro g1 cp1 w4 O2 G1 A1
        have b5 : Below w.heap.size w w4 := (unhide HB4).grown G1 (by simp; omega) (fun k hk => by simp at hk; omega)
        have b5' : Below w1.heap.size w1 w4 := (unhide HB4').grown G1 (by have := unhide HS1; simp; omega) (fun k hk => by have := unhide HS1; simp at hk; omega)
        have X2 := (unhide HV).later b5
        have hg1 := (O2.lt g1 rfl).1
        have hsz4 : w.heap.size + 1 ≤ w4.heap.size := by have := G1.size; simp at this; omega
        have HB5 := hide b5
        have HB5' := hide b5'
        clear O1 X1 G1 A1 b5 b5' HB4 HB4' hsz
        go_wp2_with (at_builtin; refine wpList_append_row rfl _ _ rfl (w.heap.size + 1) g1 a.length cp1 a rfl O2 _ b rfl X2 (a.length + b.length) ?o4 ?o5 ?o6 ?_)
        case o4 => rfl
        case o5 => omega
        case o6 => omega
        intro g2 cp2 w5 O3 G2 A2
        have b6 : Below w.heap.size w w5 := (unhide HB5).grown G2 (by omega) (fun k hk => by simp at hk; omega)
        have b6' : Below w1.heap.size w1 w5 := (unhide HB5').grown G2 (by have := unhide HS1; omega) (fun k hk => by have := unhide HS1; simp at hk; omega)
        have hlab : (a ++ b).length = a.length + b.length := by simp
        have hwab : ∀ p ∈ a ++ b, Wf2 p := fun p hp => by
          rcases List.mem_append.1 hp with h | h
          · exact (unhide HA).wf p h
          · exact (unhide HV).wf p h
        have X3 : IsHits w5 (.slice (some ⟨g2, 0, none⟩) (a.length + b.length) cp2) (a ++ b) := by
          rw [← hlab] at O3 ⊢
          exact isHits_row hwab O3
        have L := l2Best (.slice (some ⟨g2, 0, none⟩) (a.length + b.length) cp2) (a ++ b) m w5 X3 (by omega) (by omega)
        have HB6 := hide b6
        have HB6' := hide b6'
        have hsz5 : w.heap.size + 1 ≤ w5.heap.size := by have := G2.size; omega
        clear O2 O3 X2 G2 A2 b6 b6' HB5 HB5' hlab hwab X3 hkk
        go_wp2_with fail
        refine L.mono ?_
        rintro e w6 ⟨g, cp, rfl, hown, hb6⟩
        have b7 := below_keep2 (unhide HB6') hb6
        obtain ⟨z0, z1, z2, z3⟩ := unhide RV w6 b7
        have HBW6 := hide (below_keep2 (unhide HB6) hb6)
        have HO2 := hide (own_mono hsz5 hown)
        generalize hln : (best m (a ++ b)).length = n at *
        clear L hown hb6 b7 RV
        go_wp2_with fail
        refine bodyPost_ret (v := intsRes 0 (.slice (some ⟨g, 0, none⟩) n cp)) (by simp [results, Try.results20, go_sem, intsRes, z0, z1]) rfl ?_
        rw [unhide E0, unhide E1]
        refine ⟨_, rfl, ?_, ((unhide HBW6).setCell (by simp) _).setCell (by simp) _⟩
        rw [hln]
        exact own_mono (Nat.le_succ _) (own_set (base := w.heap.size + 1) (own_set (base := w.heap.size + 1) (unhide HO2) (by simp) _) (by simp) _)
      · have e0 : mergeCode a b k = hitsFault b := by simp [mergeCode, unhide HK, unhide HF]
        have e1 : mergeList a b k = [] := by simp [mergeList, e0, hg]
        have E0 := hide e0
        have E1 := hide e1
        have hd : (hitsFault b != 0) = true := by simpa using hg
        obtain ⟨z0, z1, z2, z3⟩ := unhide RV w3 (unhide HB3)
        clear hg e0 e1 RV
        generalize hitsFault b = F at *
        go_wp2_with fail
        refine bodyPost_ret (v := intsRes F (.slice none 0 0)) (by simp [results, Try.results20, go_sem, intsRes, z0, z1]) rfl ?_
        rw [unhide E0, unhide E1]
        exact told_nil (((unhide HBW3).setCell (by simp) _).setCell (by simp) _)
    · have e0 : mergeCode a b k = hitsFault a := by simp [mergeCode, unhide HK, hf]
      have e1 : mergeList a b k = [] := by simp [mergeList, e0, hf]
      have E0 := hide e0
      have E1 := hide e1
      have hd : (hitsFault a != 0) = true := by simpa using hf
      obtain ⟨z0, z1, z2, z3⟩ := unhide RV w2 (unhide HB2)
      clear hf e0 e1 RV
      generalize hitsFault a = F at *
      go_wp2_with fail
      refine bodyPost_ret (v := intsRes F (.slice none 0 0)) (by simp [results, Try.results20, go_sem, intsRes, z0, z1]) rfl ?_
      rw [unhide E0, unhide E1]
      exact told_nil (((unhide HBW2).setCell (by simp) _).setCell (by simp) _)


/-- The place of an id in a list. -/
def rankFrom : List (Int × Int) → Nat → Int → Int × Int
  | [], _, _ => (4, 0)
  | h :: r, i, id => if h.1 = id then (0, i) else rankFrom r (i + 1) id
def rankOf (hs : List (Int × Int)) (id : Int) : Int × Int := if hitsFault hs = 0 then rankFrom hs 0 id else (hitsFault hs, 0)

set_option maxRecDepth 100000 in
set_option maxHeartbeats 1000000 in
theorem modelRank (v : Value) (hs : List (Int × Int)) (id : Int) (w : World) (h : IsHits w v hs) :
    Calls Try.prog 34 #[v, .int .i64 id] w fun e w' => e = .returned (intRes (rankOf hs id).1 (rankOf hs id).2) ∧ Below w.heap.size w w' := by
  have h' := h
  obtain ⟨ao, cap, rfl, h1, h2, hwf, hc⟩ := h'
  have HH := hide h
  have bb : Below w.heap.size w (w.alloc (.cells #[.int .i64 0, .int .i64 0] 40)) := (Below.refl _ _).alloc (Nat.le_refl _) _
  have RV : Hid (∀ W, Below (w.alloc (.cells #[.int .i64 0, .int .i64 0] 40)).heap.size (w.alloc (.cells #[.int .i64 0, .int .i64 0] 40)) W → W.cell? ⟨w.heap.size, 0, none⟩ = some (.int .i64 0) ∧ W.cell? ⟨w.heap.size, 1, none⟩ = some (.int .i64 0) ∧ (∀ o, W.frozen? ⟨w.heap.size, o, none⟩ = false) ∧ w.heap.size < W.heap.size) := fun W hW => by
    refine ⟨(hW.cell (p := ⟨w.heap.size, 0, none⟩) (by simp)).trans (by simp [go_sem]), (hW.cell (p := ⟨w.heap.size, 1, none⟩) (by simp)).trans (by simp [go_sem]), fun o => (hW.frozen (p := ⟨w.heap.size, o, none⟩) (by simp)).trans (by simp [go_sem]), ?_⟩
    have := hW.size
    simp at this
    omega
  have HBB := hide bb
  clear h hwf h1 h2 bb
  go_enter Try.func34, Try.ntmps34
  go_wp2_with fail
  generalize hwb : w.alloc (.cells #[.int .i64 0, .int .i64 0] 40) = wb at *
  clear hwb
  refine (l2Fault _ hs _ ((unhide HH).later (unhide HBB))).mono ?_
  rintro e w2 ⟨rfl, hb2⟩
  have HB2 := hide hb2
  have HBW2 := hide (below_keep2 (unhide HBB) hb2)
  clear hb2 HH
  by_cases hf : hitsFault hs = 0
  · have e0 : rankOf hs id = rankFrom hs 0 id := by simp [rankOf, hf]
    have hl20 := (hitsFault_zero hf).1
    have E0 := hide e0
    rw [hf]
    clear hf e0
    go_wp2_with fail
    go_loopw [6] (fun i wr => ∃ j : Nat, j ≤ hs.length ∧ i = .int .i64 j ∧ rankFrom (hs.drop j) j id = rankOf hs id ∧ wr = w2) (fun i _ => hs.length - (intOf i).toNat)
    case atStart => exact ⟨0, Nat.zero_le _, rfl, (unhide E0).symm, rfl⟩
    case round =>
      obtain ⟨j, hj, rfl, hr, hwr⟩ := hrel
      subst hwr
      by_cases hlt : j < hs.length
      · obtain ⟨x, y, hxy⟩ : ∃ x y, hs[j]? = some (x, y) := ⟨hs[j].1, hs[j].2, by simp [hlt]⟩
        obtain ⟨b, off, rfl, hc1⟩ := hc (by omega)
        have c1 := ((unhide HBW2).cell (World.block_lt_of_cell? _ _ (hc1 j x y hxy).1)).trans (hc1 j x y hxy).1
        rw [drop_at hxy] at hr
        unfold rankFrom at hr
        by_cases he : x = id
        · have d1 : (x == id) = true := by simpa using he
          rw [if_pos he] at hr
          have HR := hide hr
          obtain ⟨z0, z1, z2, z3⟩ := unhide RV wr (unhide HB2)
          clear hc hc1 hxy hr he RV
          go_wp2_with fail
          refine bodyPost_ret (v := intRes 0 (j : Int)) (by simp [results, Try.results34, go_sem, intRes, z0, z1]) rfl ?_
          rw [← unhide HR]
          exact ⟨rfl, ((unhide HBW2).setCell (by simp) _).setCell (by simp) _⟩
        · have d1 : (x == id) = false := by simpa using he
          rw [if_neg he] at hr
          have HR := hide hr
          clear hc1 hxy hr he
          go_wp2_with fail
          go_roundw
          case rel => exact ⟨j + 1, by omega, by go_num, unhide HR, trivial⟩
          case measure => simp [intOf]; omega
      · obtain rfl : j = hs.length := by omega
        rw [List.drop_length] at hr
        have HR := hide hr
        obtain ⟨z0, z1, z2, z3⟩ := unhide RV wr (unhide HB2)
        clear hc hr RV
        go_wp2_with fail
        refine bodyPost_ret (v := intRes 4 0) (by simp [results, Try.results34, go_sem, intRes, z0, z1]) rfl ?_
        rw [← unhide HR]
        exact ⟨rfl, ((unhide HBW2).setCell (by simp) _).setCell (by simp) _⟩
  · have e0 : rankOf hs id = (hitsFault hs, 0) := by simp [rankOf, hf]
    have E0 := hide e0
    have hd : (hitsFault hs != 0) = true := by simpa using hf
    obtain ⟨z0, z1, z2, z3⟩ := unhide RV w2 (unhide HB2)
    clear hf e0 RV hc
    generalize hitsFault hs = F at *
    go_wp2_with fail
    refine bodyPost_ret (v := intRes F 0) (by simp [results, Try.results34, go_sem, intRes, z0, z1]) rfl ?_
    rw [unhide E0]
    exact ⟨rfl, ((unhide HBW2).setCell (by simp) _).setCell (by simp) _⟩

end Go.Proofs.Ytplhhdnmhcnhgaa
