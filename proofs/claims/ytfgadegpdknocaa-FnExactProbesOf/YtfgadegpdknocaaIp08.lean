/-
  Texts of this proof in one: SearchPlain, ProbePlain, SortPlain, ImplPlaces, ImplIter, IvfAt, PlPlain, AppInt, AppCenter, AppIvfList, AppItem, ImplTellExt, IvfTwo.
  Their conditions stand in their theorems.
-/
import Derived.Test.YtfgadegpdknocaaIp02
import Derived.Test.YtfgadegpdknocaaIp01
import Derived.Test.YtfgadegpdknocaaIp07
import Derived.Test.YtfgadegpdknocaaIp06
import Derived.Test.YtfgadegpdknocaaChecked
import Derived.Deep.AppendLies

namespace Go.Proofs.Ytfgadegpdknocaa
open Go.RowKit

def hitOf (q : List Int) (x : DItem) : DHit := ⟨x.id, score3 q x.vec⟩
def pairH (h : DHit) : Int × Int := (h.id, h.score)
def dhit (p : Int × Int) : DHit := ⟨p.1, p.2⟩
def hitsL (xs : List DItem) (q : List Int) : List DHit := xs.map (hitOf q)
def searchR (xs : List DItem) (q : List Int) (k : Int) : DHitsResult :=
  if tableFault xs = 0 then (if vecFault q = 0 then (if kB k then ⟨0, (best k.toNat ((hitsL xs q).map pairH)).map dhit⟩ else ⟨3, []⟩) else ⟨vecFault q, []⟩) else ⟨tableFault xs, []⟩
theorem dhit_pair (h : DHit) : dhit (pairH h) = h := rfl
theorem cells2_map (hs : List DHit) : cells2 (hs.map pairH) = (hs.map fun h => [Value.int .i64 h.id, .int .i64 h.score]).flatten := by
  induction hs with
  | nil => rfl
  | cons h hs ih =>
    rw [List.map_cons, List.map_cons, List.flatten_cons, ← ih]
    rfl
/-- Rows of hits. -/
theorem grow_hits {w : World} {base T : Nat} {v : Value} {rows : List (List Value)} {hs : List DHit} {bls : List (List Nat)} (h : Grow Lay.tHit w base T v rows hs bls) : w.ownsRow base T 2 v (hs.map pairH).length (cells2 (hs.map pairH)) ∧ ∀ p ∈ hs.map pairH, Wf2 p := by
  have hrow : ∀ j (h1 : j < hs.length) (h2 : j < rows.length), rows[j] = [.int .i64 hs[j].id, .int .i64 hs[j].score] ∧ (Lit.int .i64 hs[j].id).wf = true ∧ (Lit.int .i64 hs[j].score).wf = true := by
    intro j h1 h2
    obtain ⟨e, -, w0, w1⟩ := lies_Hit.1 (h.lies j h1 h2 (by have := h.nbls; omega))
    exact ⟨e, w0, w1⟩
  have e : rows = hs.map fun h => [Value.int .i64 h.id, .int .i64 h.score] := by
    apply List.ext_getElem (by simp [h.nrows])
    intro j h1 h2
    rw [(hrow j (by have := h.nrows; omega) h1).1]
    simp
  refine ⟨?_, ?_⟩
  · rw [List.length_map, cells2_map, ← e]
    exact h.own
  · intro p hp
    obtain ⟨d, hd, rfl⟩ := List.mem_map.1 hp
    obtain ⟨j, hj, rfl⟩ := List.getElem_of_mem hd
    exact (hrow j hj (by have := h.nrows; omega)).2
/-- A row of hits of the call's own, as data. -/
theorem own_hits {w : World} {base T : Nat} {v : Value} {ps : List (Int × Int)} (h : w.ownsRow base T 2 v ps.length (cells2 ps)) (hw : ∀ p ∈ ps, Wf2 p) (hn : ps.length ≤ 9223372036854775807) : (Lay.sl Lay.tHit).OwnIn w [v] (ps.map dhit) base w.heap.size := by
  have hl : (ps.map dhit).length = ps.length := List.length_map _
  have e : cells2 ps = ((ps.map dhit).map fun h => [Value.int .i64 h.id, .int .i64 h.score]).flatten := by
    rw [← cells2_map, List.map_map]
    congr 1
    exact (List.map_id ps).symm
  have G : Grow Lay.tHit w base T v ((ps.map dhit).map fun h => [Value.int .i64 h.id, .int .i64 h.score]) (ps.map dhit) (List.replicate ps.length []) := by
    refine ⟨by rw [hl, ← e]; exact h, by simp, by simp, fun j h1 h2 h3 => ?_, by simp⟩
    have hj : j < ps.length := by simpa using h1
    have hq := hw ps[j] (List.getElem_mem hj)
    refine lies_Hit.2 ⟨by simp, by simp, ?_, ?_⟩
    · simpa [dhit] using hq.1
    · simpa [dhit] using hq.2
  exact G.toOwn (by rw [hl]; exact hn) (by simp) (by simp)
theorem score3_bd {q v : List Int} (h1 : vecFault q = 0) (h2 : vecFault v = 0) : 0 ≤ score3 q v ∧ score3 q v ≤ 12000000 := by
  obtain ⟨hl, -⟩ := vecFault_zero h1
  obtain ⟨hl2, -⟩ := vecFault_zero h2
  match q, hl, v, hl2 with
  | [x, y, z], _, [a, b, c], _ =>
    obtain ⟨⟨x1, x2⟩, ⟨y1, y2⟩, ⟨z1, z2⟩⟩ := fault3 h1
    obtain ⟨⟨a1, a2⟩, ⟨b1, b2⟩, ⟨c1, c2⟩⟩ := fault3 h2
    have m1 := sq_bd x a x1 x2 a1 a2
    have m2 := sq_bd y b y1 y2 b1 b2
    have m3 := sq_bd z c z1 z2 c1 c2
    show 0 ≤ (x - a) * (x - a) + (y - b) * (y - b) + (z - c) * (z - c) ∧ (x - a) * (x - a) + (y - b) * (y - b) + (z - c) * (z - c) ≤ 12000000
    omega
/-- The hits of a right table are right, and few. -/
theorem hits_right {xs : List DItem} {q : List Int} (h : tableFault xs = 0) (hq : vecFault q = 0) : ((hitsL xs q).map pairH).length ≤ 30 ∧ ∀ p ∈ (hitsL xs q).map pairH, oneB p = true := by
  obtain ⟨hl, ha, -⟩ := tableFault_zero h
  refine ⟨by simp [hitsL]; exact hl, fun p hp => ?_⟩
  obtain ⟨d, hd, rfl⟩ := List.mem_map.1 hp
  obtain ⟨x, hx, rfl⟩ := List.mem_map.1 hd
  obtain ⟨hi, hv⟩ := ha x hx
  have hs := score3_bd hq hv
  simp only [idB, Bool.and_eq_true, decide_eq_true_eq] at hi
  rw [show pairH (hitOf q x) = (x.id, score3 q x.vec) from rfl]
  simp only [oneB, Bool.and_eq_true, decide_eq_true_eq]
  omega
theorem best_code {xs : List DItem} {q : List Int} {k : Int} (h : tableFault xs = 0) (hq : vecFault q = 0) (hk : kB k = true) : bestCode ((hitsL xs q).map pairH) k = 0 ∧ bestList ((hitsL xs q).map pairH) k = best k.toNat ((hitsL xs q).map pairH) := by
  obtain ⟨h1, h2⟩ := hits_right h hq
  have e : bestCode ((hitsL xs q).map pairH) k = 0 := by
    rw [bestCode, hk, if_pos rfl, if_neg (by omega), if_pos (List.all_eq_true.2 h2)]
  exact ⟨e, by rw [bestList, if_pos e]⟩
theorem own_hitsR {w : World} {c : Int} {v : Value} {hs : List DHit} {lo hi : Nat} (hc : (Lit.int .i64 c).wf = true) (h : (Lay.sl Lay.tHit).OwnIn w [v] hs lo hi) : Lay.tHitsResult.OwnIn w [.int .i64 c, v] ⟨c, hs⟩ lo hi := by
  obtain ⟨bl, ⟨l, n, f⟩, i⟩ := h
  exact ⟨bl, ⟨⟨[.int .i64 c], [v], [], bl, rfl, by simp, ⟨rfl, hc, rfl⟩, l⟩, n, f⟩, i⟩
theorem own_codeHits {w : World} {c : Int} {lo hi : Nat} (hc : (Lit.int .i64 c).wf = true) : Lay.tHitsResult.OwnIn w [.int .i64 c, .slice none 0 0] ⟨c, []⟩ lo hi := own_hitsR hc ⟨[], ⟨⟨none, 0, rfl, by simp, Or.inl ⟨rfl, rfl⟩⟩, by simp, by simp⟩, by simp⟩
theorem vec3q {zs : List Int} (h : vecFault zs = 0) : ∃ p q r, zs = [p, q, r] := by
  have hl := (vecFault_zero h).1
  match zs, hl with
  | [p, q, r], _ => exact ⟨p, q, r, rfl⟩
theorem best_wf {ps : List (Int × Int)} {k : Nat} (h : ∀ p ∈ ps, Wf2 p) : ∀ p ∈ best k ps, Wf2 p := fun p hp => h p (best_mem hp)
theorem oneB_wf {p : Int × Int} (h : oneB p = true) : Wf2 p := by
  simp only [oneB, Bool.and_eq_true, decide_eq_true_eq] at h
  exact ⟨wf_of_bd (by omega), wf_of_bd (by omega)⟩

end Go.Proofs.Ytfgadegpdknocaa

namespace Go.Proofs.Ytfgadegpdknocaa
open Go.RowKit

def probeL (cs : List DCenter) (q : List Int) (k : Nat) : List DHit := (List.range k).map fun (i : Nat) => ⟨(i : Int), score3 (cs.getD i ⟨[]⟩).vec q⟩
def probesI (cs : List DCenter) (q : List Int) (n : Nat) : List Int := (best n ((probeL cs q cs.length).map pairH)).map Prod.fst
theorem probeL_step (cs : List DCenter) (q : List Int) (k : Nat) (h : k < cs.length) : probeL cs q (k + 1) = probeL cs q k ++ [⟨k, score3 cs[k].vec q⟩] := by
  have e : cs.getD k ⟨[]⟩ = cs[k] := by simp [List.getD, List.getElem?_eq_getElem h]
  rw [probeL, List.range_succ, List.map_append, List.map_cons, e]
  rfl
theorem probeL_len (cs : List DCenter) (q : List Int) (k : Nat) : (probeL cs q k).length = k := by simp [probeL]
def nB (n : Int) : Bool := decide (0 ≤ n) && decide (n ≤ 6)
def probesR (x : DIvf) (q : List Int) (n : Int) : DIntsResult :=
  if ivfFault x = 0 then (if vecFault q = 0 then (if nB n then ⟨0, probesI x.centers q n.toNat⟩ else ⟨3, []⟩) else ⟨vecFault q, []⟩) else ⟨ivfFault x, []⟩
theorem probe_wf {cs : List DCenter} {q : List Int} {n : Nat} (h6 : cs.length ≤ 1000) : ∀ z ∈ probesI cs q n, (Lit.int .i64 z).wf = true := by
  intro z hz
  obtain ⟨p, hp, rfl⟩ := List.mem_map.1 hz
  obtain ⟨d, hd, rfl⟩ := List.mem_map.1 (best_mem hp)
  obtain ⟨i, hi, rfl⟩ := List.mem_map.1 hd
  have := List.mem_range.1 hi
  exact wf_of_bd (by show _ ≤ (i : Int) ∧ (i : Int) ≤ _; omega)
theorem probe_len (cs : List DCenter) (q : List Int) (n : Nat) : (probesI cs q n).length ≤ n := by
  rw [probesI, List.length_map]
  exact best_len _ _
/-- All hits of the lists named. -/
def probedH (x : DIvf) (q : List Int) (ps : List Int) : List (Int × Int) := (ps.map fun p => (hitsL (x.lists.getD p.toNat ⟨[]⟩).items q).map pairH).flatten
def searchIvfR (x : DIvf) (q : List Int) (k n : Int) : DHitsResult :=
  if ivfFault x = 0 then (if vecFault q = 0 then (if kB k && nB n then ⟨0, (best k.toNat (probedH x q (probesI x.centers q n.toNat))).map dhit⟩ else ⟨3, []⟩) else ⟨vecFault q, []⟩) else ⟨ivfFault x, []⟩
theorem probedH_step (x : DIvf) (q : List Int) (ps : List Int) (j m : Nat) (h : j < ps.length) (e : ps[j] = (m : Int)) (hm : m < x.lists.length) : probedH x q (ps.take (j + 1)) = probedH x q (ps.take j) ++ (hitsL x.lists[m].items q).map pairH := by
  have e2 : x.lists.getD (ps[j]).toNat ⟨[]⟩ = x.lists[m] := by rw [e]; simp [List.getD, List.getElem?_eq_getElem hm]
  rw [probedH, List.take_succ_eq_append_getElem h, List.map_append, List.flatten_append, List.map_cons, e2]
  simp [probedH]
theorem probedH_right {x : DIvf} {q : List Int} (hx : ∀ l ∈ x.lists, tableFault l.items = 0) (hq : vecFault q = 0) (ps : List Int) : (probedH x q ps).length ≤ 30 * ps.length ∧ ∀ p ∈ probedH x q ps, oneB p = true := by
  have h1 : ∀ m : Nat, ((hitsL (x.lists.getD m ⟨[]⟩).items q).map pairH).length ≤ 30 ∧ ∀ p ∈ (hitsL (x.lists.getD m ⟨[]⟩).items q).map pairH, oneB p = true := fun m => by
    by_cases hm : m < x.lists.length
    · have e : x.lists.getD m ⟨[]⟩ = x.lists[m] := by simp [List.getD, List.getElem?_eq_getElem hm]
      rw [e]
      exact hits_right (hx _ (List.getElem_mem hm)) hq
    · have e : x.lists.getD m ⟨[]⟩ = ⟨[]⟩ := by simp [List.getD, List.getElem?_eq_none (Nat.le_of_not_lt hm)]
      rw [e]
      simp [hitsL]
  induction ps with
  | nil => simp [probedH]
  | cons p ps ih =>
    have e : probedH x q (p :: ps) = (hitsL (x.lists.getD p.toNat ⟨[]⟩).items q).map pairH ++ probedH x q ps := by simp [probedH]
    rw [e]
    refine ⟨?_, fun y hy => ?_⟩
    · have := (h1 p.toNat).1
      rw [List.length_append, List.length_cons]
      omega
    · rcases List.mem_append.1 hy with hy | hy
      · exact (h1 p.toNat).2 y hy
      · exact ih.2 y hy
theorem probe_at {cs : List DCenter} {q : List Int} {n : Nat} {z : Int} (h : z ∈ probesI cs q n) : ∃ m : Nat, z = m ∧ m < cs.length := by
  obtain ⟨p, hp, rfl⟩ := List.mem_map.1 h
  obtain ⟨d, hd, rfl⟩ := List.mem_map.1 (best_mem hp)
  obtain ⟨i, hi, rfl⟩ := List.mem_map.1 hd
  exact ⟨i, rfl, List.mem_range.1 hi⟩

end Go.Proofs.Ytfgadegpdknocaa

namespace Go.Proofs.Ytfgadegpdknocaa
open Go.RowKit

/-- A place's hit. -/
def hitAt (cs : List DCenter) (q : List Int) (p : Nat) : Int × Int := ((p : Int), score3 (cs.getD p ⟨[]⟩).vec q)
theorem probeL_hits (cs : List DCenter) (q : List Int) (k : Nat) : (probeL cs q k).map pairH = (List.range k).map (hitAt cs q) := by
  rw [probeL, List.map_map]
  rfl
/-- Places in order, all of them: their first n are those that are looked at. -/
theorem places_probes {cs : List DCenter} {q : List Int} {d : List Nat} (hs : Sorted (d.map (hitAt cs q))) (hm : ∀ p, p ∈ d ↔ p < cs.length) (n : Nat) : (d.take n).map (fun p : Nat => (p : Int)) = probesI cs q n := by
  have e : allOf ((probeL cs q cs.length).map pairH) = d.map (hitAt cs q) := by
    refine sorted_ext (allOf_sorted _) hs fun x => ?_
    rw [allOf_mem, probeL_hits, List.mem_map, List.mem_map]
    constructor
    · rintro ⟨p, hp, rfl⟩
      exact ⟨p, (hm p).2 (List.mem_range.1 hp), rfl⟩
    · rintro ⟨p, hp, rfl⟩
      exact ⟨p, List.mem_range.2 ((hm p).1 hp), rfl⟩
  rw [probesI, best_eq, e, ← List.map_take, List.map_map]
  rfl
/-- The outer loop's state: the first i places in order, the others as they were. -/
def InsO (h : Nat → Int × Int) (n i : Nat) (d : List Nat) : Prop :=
  ∃ P : List Nat, P.length = i ∧ Sorted (P.map h) ∧ (∀ p, p ∈ P ↔ p < i) ∧ d = P ++ (List.range n).drop i
/-- The inner loop's state: place i stands at j, behind it what is farther. -/
def InsI (h : Nat → Int × Int) (n i j : Nat) (d : List Nat) : Prop :=
  ∃ L R : List Nat, L.length = j ∧ L.length + R.length = i ∧ Sorted ((L ++ R).map h) ∧ (∀ p, p ∈ L ++ R ↔ p < i) ∧ (∀ r ∈ R, (h i).2 < (h r).2) ∧ d = L ++ i :: (R ++ (List.range n).drop (i + 1))
theorem insO_start (h : Nat → Int × Int) {n : Nat} (hn : 0 < n) : InsO h n 1 (List.range n) := by
  refine ⟨[0], rfl, List.pairwise_singleton _ _, fun p => ?_, ?_⟩
  · rw [List.mem_singleton]; omega
  · cases n with
    | zero => omega
    | succ n => rw [List.range_succ_eq_map]; rfl
theorem InsO.inner {h : Nat → Int × Int} {n i : Nat} {d : List Nat} (hi : i < n) (o : InsO h n i d) : InsI h n i i d := by
  obtain ⟨P, h1, h2, h3, rfl⟩ := o
  refine ⟨P, [], h1, by simpa using h1, by simpa using h2, by simpa using h3, by simp, ?_⟩
  rw [List.drop_eq_getElem_cons (by simpa using hi)]
  simp
theorem InsI.len {h : Nat → Int × Int} {n i j : Nat} {d : List Nat} (hi : i < n) (o : InsI h n i j d) : d.length = n ∧ j ≤ i := by
  obtain ⟨L, R, h1, h2, -, -, -, rfl⟩ := o
  simp
  omega
theorem InsO.len {h : Nat → Int × Int} {n i : Nat} {d : List Nat} (hi : i ≤ n) (o : InsO h n i d) : d.length = n := by
  obtain ⟨P, h1, -, -, rfl⟩ := o
  simp
  omega
theorem InsO.below {h : Nat → Int × Int} {n i : Nat} {d : List Nat} (hi : i ≤ n) (o : InsO h n i d) : ∀ p ∈ d, p < n := by
  obtain ⟨P, -, -, h3, rfl⟩ := o
  intro p hp
  rcases List.mem_append.1 hp with hp | hp
  · have := (h3 p).1 hp; omega
  · exact List.mem_range.1 (List.mem_of_mem_drop hp)
theorem InsI.below {h : Nat → Int × Int} {n i j : Nat} {d : List Nat} (hi : i < n) (o : InsI h n i j d) : ∀ p ∈ d, p < n := by
  obtain ⟨L, R, -, -, -, h4, -, rfl⟩ := o
  intro p hp
  rcases List.mem_append.1 hp with hp | hp
  · have := (h4 p).1 (List.mem_append.2 (Or.inl hp)); omega
  · rcases List.mem_cons.1 hp with rfl | hp
    · exact hi
    · rcases List.mem_append.1 hp with hp | hp
      · have := (h4 p).1 (List.mem_append.2 (Or.inr hp)); omega
      · exact List.mem_range.1 (List.mem_of_mem_drop hp)
/-- What stands at j and ahead of it. -/
theorem InsI.at {h : Nat → Int × Int} {n i j : Nat} {d : List Nat} (o : InsI h n i j d) : d[j]? = some i := by
  obtain ⟨L, R, h1, -, -, -, -, rfl⟩ := o
  rw [List.getElem?_append_right (by omega), h1, Nat.sub_self]
  rfl
theorem InsI.swap {h : Nat → Int × Int} {n i j p : Nat} {d : List Nat} (o : InsI h n i (j + 1) d) (hp : d[j]? = some p) (hlt : (h i).2 < (h p).2) : InsI h n i j ((d.set (j + 1) p).set j i) := by
  obtain ⟨L, R, h1, h2, h3, h4, h5, rfl⟩ := o
  obtain ⟨K, z, rfl⟩ : ∃ K z, L = K ++ [z] := ⟨L.dropLast, L.getLast (by intro e; rw [e] at h1; cases h1), (List.dropLast_concat_getLast _).symm⟩
  have hK : K.length = j := by simpa using h1
  have hz : z = p := by
    rw [List.append_assoc, List.getElem?_append_right (by omega), hK, Nat.sub_self] at hp
    simpa using hp
  subst hz
  refine ⟨K, z :: R, hK, ?_, ?_, ?_, ?_, ?_⟩
  · simp at h2 ⊢; omega
  · simpa using h3
  · intro p; rw [← h4 p]; simp
  · intro r hr
    rcases List.mem_cons.1 hr with rfl | hr
    · exact hlt
    · exact h5 r hr
  · rw [List.append_assoc, List.set_append_right _ _ (by omega), List.set_append_right _ _ (by omega), hK, Nat.sub_self, Nat.add_sub_cancel_left]
    rfl
theorem InsI.stop {h : Nat → Int × Int} {n i j : Nat} {d : List Nat} (hf : ∀ p, (h p).1 = (p : Int)) (o : InsI h n i j d) (hs : ∀ p, 0 < j → d[j - 1]? = some p → (h p).2 ≤ (h i).2) : InsO h n (i + 1) d := by
  obtain ⟨L, R, h1, h2, h3, h4, h5, rfl⟩ := o
  have hL : ∀ l ∈ L, bet (h l) (h i) = true := by
    intro l hl
    obtain ⟨K, z, rfl⟩ : ∃ K z, L = K ++ [z] := ⟨L.dropLast, L.getLast (by intro e; rw [e] at hl; cases hl), (List.dropLast_concat_getLast _).symm⟩
    have hj : j = K.length + 1 := by rw [← h1]; simp
    have hz : (h z).2 ≤ (h i).2 := hs z (by omega) (by
      rw [hj, Nat.add_sub_cancel, List.append_assoc, List.getElem?_append_right (Nat.le_refl _), Nat.sub_self]
      rfl)
    have li : l < i := (h4 l).1 (List.mem_append.2 (Or.inl hl))
    have hlz : (h l).2 ≤ (h z).2 := by
      rcases List.mem_append.1 hl with hl | hl
      · have h6 : Sorted ((K ++ [z]).map h) := by rw [List.map_append] at h3; exact (List.pairwise_append.1 h3).1
        rw [List.map_append] at h6
        have := (List.pairwise_append.1 h6).2.2 (h l) (List.mem_map_of_mem hl) (h z) (by simp)
        rw [bet_iff] at this
        omega
      · rw [List.mem_singleton.1 hl]; exact Int.le_refl _
    rw [bet_iff, hf, hf]
    omega
  have hR : ∀ r ∈ R, bet (h i) (h r) = true := fun r hr => by rw [bet_iff]; exact Or.inl (h5 r hr)
  refine ⟨L ++ i :: R, by simp; omega, ?_, fun p => ?_, by simp⟩
  · rw [List.map_append] at h3
    obtain ⟨q1, q2, q3⟩ := List.pairwise_append.1 h3
    rw [List.map_append, List.map_cons]
    refine List.pairwise_append.2 ⟨q1, List.Pairwise.cons (fun y hy => ?_) q2, fun y hy z hz => ?_⟩
    · obtain ⟨r, hr, rfl⟩ := List.mem_map.1 hy
      exact hR r hr
    · rcases List.mem_cons.1 hz with rfl | hz
      · obtain ⟨l, hl, rfl⟩ := List.mem_map.1 hy
        exact hL l hl
      · exact q3 y hy z hz
  · have := h4 p
    rw [List.mem_append] at this
    rw [List.mem_append, List.mem_cons]
    constructor
    · rintro (hp | rfl | hp)
      · have := this.1 (Or.inl hp); omega
      · omega
      · have := this.1 (Or.inr hp); omega
    · intro hp
      by_cases e : p = i
      · exact Or.inr (Or.inl e)
      · rcases this.2 (by omega) with h | h
        · exact Or.inl h
        · exact Or.inr (Or.inr h)
theorem insO_end {h : Nat → Int × Int} {n : Nat} {d : List Nat} (o : InsO h n n d) : Sorted (d.map h) ∧ (∀ p, p ∈ d ↔ p < n) ∧ d.length = n := by
  obtain ⟨P, h1, h2, h3, rfl⟩ := o
  rw [List.drop_eq_nil_of_le (by simp), List.append_nil]
  exact ⟨h2, h3, h1⟩

end Go.Proofs.Ytfgadegpdknocaa

namespace Go.Proofs.Ytfgadegpdknocaa
open Go.RowKit

/-- Places as cells. -/
def plV (d : List Nat) : List Value := d.map fun p : Nat => Value.int .i64 (p : Int)
theorem plV_len (d : List Nat) : (plV d).length = d.length := by simp [plV]
theorem plV_at {d : List Nat} {j p : Nat} (h : d[j]? = some p) : (plV d)[j]? = some (.int .i64 (p : Int)) := by simp [plV, h]
/-- The first k places are written, the others are 0. -/
def upTo (n k : Nat) : List Nat := (List.range n).map fun i => if i < k then i else 0
theorem upTo_zero (n : Nat) : plV (upTo n 0) = List.replicate n (.int .i64 0) := by
  rw [plV, upTo, List.map_map]
  refine List.ext_getElem (by simp) fun i h1 h2 => by simp
theorem upTo_set {n k : Nat} : (plV (upTo n k)).set k (.int .i64 (k : Int)) = plV (upTo n (k + 1)) := by
  refine List.ext_getElem (by simp [plV, upTo]) fun i h1 h2 => ?_
  rw [List.getElem_set]
  by_cases e : k = i
  · subst e
    simp [plV, upTo]
  · rw [if_neg e]
    simp only [plV, upTo, List.getElem_map, List.getElem_range]
    by_cases h3 : i < k
    · rw [if_pos h3, if_pos (by omega)]
    · rw [if_neg h3, if_neg (by omega)]
theorem upTo_all (n : Nat) : upTo n n = List.range n := by
  refine List.ext_getElem (by simp [upTo]) fun i h1 h2 => ?_
  have : i < n := by simpa using h2
  simp [upTo, this]

set_option maxRecDepth 100000 in
set_option maxHeartbeats 2000000 in
theorem implPlaces (ao : Option Addr) (n cap : Nat) (w : World) (hn : n ≤ 1000) :
    Calls Try.prog 138 #[.slice ao n cap] w fun e w' => e = .returned (.slice (some ⟨w.heap.size, 0, none⟩) n n) ∧ w'.ownsRow w.heap.size 2 1 (.slice (some ⟨w.heap.size, 0, none⟩) n n) n (plV (List.range n)) ∧ Below w.heap.size w w' := by
  obtain ⟨i0, hi, hz0, hz1, hz2⟩ := info_parts info2
  go_enter Try.func138, Try.ntmps138
  go_wp2_with (at_make; refine wpList_make_full _ rfl _ _ 51 rfl w.heap.size 2 i0 (.int .i64 0) 1 Try.underlying51 hi hz0 hz1 _ _ _ _ n rfl rfl rfl rfl ?c1 ?c2 ?c3 ?_)
  case c1 => rw [hz2]; omega
  case c2 => unfold maxLen; omega
  case c3 => exact Nat.le_refl _
  intro w2 hown1 hgrow1
  have hB1 : Below w.heap.size w w2 := (Below.refl _ _).grown hgrow1 (Nat.le_refl _) (by simp)
  rw [toList_madeCells_one] at hown1
  have HO1 := hide hown1
  have HB1 := hide hB1
  clear hgrow1 hi hz0 hz1 hz2 hown1 hB1
  go_wp2_with fail
  go_loopw [10] (fun i wr => ∃ k : Nat, k ≤ n ∧ i = .int .i64 k ∧ wr.ownsRow w.heap.size 2 1 (.slice (some ⟨w.heap.size, 0, none⟩) n n) n (plV (upTo n k)) ∧ Below w.heap.size w wr) (fun i _ => n - (intOf i).toNat)
  case atStart => exact ⟨0, Nat.zero_le _, rfl, by rw [upTo_zero]; exact unhide HO1, unhide HB1⟩
  case round =>
    obtain ⟨k, hk, rfl, hown, hB⟩ := hrel
    clear HO1 HB1
    by_cases hlt : k < n
    · have hcd : ∃ u, wr.cell? ⟨w.heap.size, k, none⟩ = some u := by
        rw [hown.cellAt k (by have : (plV (upTo n k)).length = n * 1 := hown.1; omega)]
        exact ⟨_, List.getElem?_eq_getElem (by simp [plV, upTo]; omega)⟩
      obtain ⟨u, hcd⟩ := hcd
      have hfz := hown.frozenAt k
      have hlg := (hown.lt w.heap.size rfl).2
      have hst := hown.stored k (.int .i64 (k : Int))
      rw [upTo_set] at hst
      have HO3 := hide hst.1
      have HB3 : Hid (Below w.heap.size w (wr.setCell ⟨w.heap.size, k, none⟩ (.int .i64 (k : Int)))) := hB.setCell (by simp) _
      clear hst hown hB
      go_wp2_with fail
      go_roundw
      case rel => exact ⟨k + 1, by omega, by go_num, unhide HO3, unhide HB3⟩
      case measure => simp [intOf]; omega
    · obtain rfl : k = n := by omega
      rw [upTo_all] at hown
      have HO := hide hown
      have HB := hide hB
      clear hown hB
      go_wp2_with fail
      go_ret
      exact ⟨rfl, unhide HO, unhide HB⟩

end Go.Proofs.Ytfgadegpdknocaa

namespace Go.Proofs.Ytfgadegpdknocaa
open Go.RowKit Go.Shelf
attribute [local go_sem] Oper.semAt_some

/-- A place of a list. -/
abbrev Pl (m : Nat) := { j : Nat // j < m }
/-- What the iterator reads: the lists' row in the index's box, and the places. -/
structure ItAt (W : World) (Bx bL oL m dL : Nat) (ia : Nat → Option Addr) (il ic : Nat → Nat) (bP oP : Nat) (zs : List (Pl m)) : Prop where
  box : W.cell? ⟨Bx, 1, none⟩ = some (.slice (some ⟨bL, oL, none⟩) m dL)
  lists : ∀ j, j < m → W.cell? ⟨bL, oL + j, none⟩ = some (.slice (ia j) (il j) (ic j))
  places : ∀ i (h : i < zs.length), W.cell? ⟨bP, oP + i, none⟩ = some (.int .i64 (zs[i].1 : Int))
theorem ItAt.keep {W W' : World} {Bx bL oL m dL : Nat} {ia : Nat → Option Addr} {il ic : Nat → Nat} {bP oP : Nat} {zs : List (Pl m)} (h : ItAt W Bx bL oL m dL ia il ic bP oP zs) (h1 : W'.heap[Bx]? = W.heap[Bx]?) (h2 : W'.heap[bL]? = W.heap[bL]?) (h3 : W'.heap[bP]? = W.heap[bP]?) : ItAt W' Bx bL oL m dL ia il ic bP oP zs :=
  ⟨(cell_of_heap h1 1).trans h.box, fun j hj => (cell_of_heap h2 _).trans (h.lists j hj), fun i hi => (cell_of_heap h3 _).trans (h.places i hi)⟩
theorem take_pre {α : Type} {zs : List α} {k : Nat} : zs.take k <+: zs := List.take_prefix k zs

set_option maxRecDepth 100000 in
set_option maxHeartbeats 2000000 in
theorem listsAt1 (l n Bp Bx bL oL m dL cP : Nat) (ia : Nat → Option Addr) (il ic : Nat → Nat) (bP oP : Nat) (zs : List (Pl m)) (N : Nat) (S : Nat → Prop) (hzs : zs.length ≤ 1000)
    (k1 : Bx < N ∧ ¬ S Bx) (k2 : bL < N ∧ ¬ S bL) (k3 : bP < N ∧ ¬ S bP) (J Jx : List (Pl m) → World → Prop)
    (hY : ∀ pre x W, J pre W → pre.length < zs.length → YieldAt Fence.wide (n - 1) Try.prog l #[.agg #[.int .i64 (x.1 : Int), .slice (ia x.1) (il x.1) (ic x.1)]] W fun e W' =>
      (e = .returned (.bool true) ∧ J (pre ++ [x]) W' ∧ KpS N S W W') ∨ (e = .returned (.bool false) ∧ Jx (pre ++ [x]) W'))
    (W : World) (hbp : W.cell? ⟨Bp, 0, none⟩ = some (.slice (some ⟨bP, oP, none⟩) zs.length cP)) (hit : ItAt W Bx bL oL m dL ia il ic bP oP zs) (h0 : J [] W) :
    CallsIn Fence.wide n Try.prog 141 #[.func (.yield l) #[] #[], .pointer (some ⟨Bp, 0, none⟩), .pointer (some ⟨Bx, 0, none⟩)] W fun e W' => (∃ v, e = .returned v) ∧
      ((∃ ys, ys = zs ∧ J ys W') ∨ (∃ pre, pre <+: zs ∧ Jx pre W')) := by
  refine callsIn_of_wp Try.func141 rfl trivial ?_ rfl
  simp only [Try.ntmps141, List.size_toArray, List.length_cons, List.length_nil, Nat.reduceAdd, Nat.reduceSub, Array.replicate_succ, Array.replicate_zero, List.push_toArray, List.append_toArray, List.nil_append, List.cons_append]
  have HIT := hide hit
  clear hit
  gi_wp2
  clear hbp
  gi_loopw [8] (fun i wr => ∃ k : Nat, k ≤ zs.length ∧ i = .int .i64 k ∧ J (zs.take k) wr ∧ ItAt wr Bx bL oL m dL ia il ic bP oP zs) (fun i _ => zs.length - (intOf i).toNat)
  case atStart => exact ⟨0, Nat.zero_le _, rfl, h0, unhide HIT⟩
  case round =>
    obtain ⟨k, hk, rfl, hJ, hit⟩ := hrel
    clear HIT h0
    by_cases hlt : k < zs.length
    · have cb := hit.box
      have cp := hit.places k hlt
      have cl := hit.lists zs[k].1 zs[k].2
      have hx2 := zs[k].2
      have htk : zs.take (k + 1) = zs.take k ++ [zs[k]] := List.take_succ_eq_append_getElem hlt
      obtain ⟨fn, tmps, assign, body, hy, hR⟩ := hY (zs.take k) zs[k] wr hJ (by rw [List.length_take]; omega)
      generalize zs[k] = x at *
      obtain ⟨q, hq⟩ := x
      dsimp only at hy cp cl hx2
      have HTK := hide htk
      have HIT := hide hit
      clear htk hit hJ
      gi_wp2
      refine ⟨fun h => by simp [Fence.wide] at h, hR.mono ?_⟩
      rintro e W3 (⟨rfl, hJ3, hk3⟩ | ⟨rfl, hJx3⟩)
      · have it3 := (unhide HIT).keep (hk3.2 Bx k1.1 k1.2) (hk3.2 bL k2.1 k2.2) (hk3.2 bP k3.1 k3.2)
        clear cb cp cl
        gi_wp2
        go_roundw
        case rel => exact ⟨k + 1, by omega, by go_num, by rw [unhide HTK]; exact hJ3, it3⟩
        case measure => simp [intOf]; omega
      · clear cb cp cl
        gi_wp2
        refine bodyPost_ret (results_none rfl _ _ _) rfl ?_
        exact ⟨⟨_, rfl⟩, .inr ⟨_, by rw [← unhide HTK]; exact take_pre, hJx3⟩⟩
    · obtain rfl : k = zs.length := by omega
      rw [List.take_length] at hJ
      clear hit
      gi_wp2
      go_end0
      exact ⟨⟨_, rfl⟩, .inl ⟨_, rfl, hJ⟩⟩

/-- What listsAt hands back tells the lists at those places, all or the first ones. -/
theorem listsAt_stops (n Bp Bx bL oL m dL cP : Nat) (ia : Nat → Option Addr) (il ic : Nat → Nat) (bP oP : Nat) (zs : List (Pl m)) (N : Nat) (S : Nat → Prop) (hzs : zs.length ≤ 1000)
    (k1 : Bx < N ∧ ¬ S Bx) (k2 : bL < N ∧ ¬ S bL) (k3 : bP < N ∧ ¬ S bP) (w : World) (l0 : Bp < w.heap.size) (hN : N ≤ w.heap.size) (hbp : w.cell? ⟨Bp, 0, none⟩ = some (.slice (some ⟨bP, oP, none⟩) zs.length cP)) (hit : ItAt w Bx bL oL m dL ia il ic bP oP zs) :
    SeqStopsK Fence.wide n Try.prog 141 #[.pointer (some ⟨Bp, 0, none⟩), .pointer (some ⟨Bx, 0, none⟩)] (fun x : Pl m => #[.agg #[.int .i64 (x.1 : Int), .slice (ia x.1) (il x.1) (ic x.1)]]) (KpS N S) (fun ys => ys = zs) (fun pre => pre <+: zs) zs.length w :=
  fun l J Jx W hW _ _ hY h0 => listsAt1 l n Bp Bx bL oL m dL cP ia il ic bP oP zs N S hzs k1 k2 k3 J Jx hY W ((hW.cell (p := ⟨Bp, 0, none⟩) l0).trans hbp) (hit.keep (hW.block _ (by omega)) (hW.block _ (by omega)) (hW.block _ (by omega))) h0

/-- listsAt: the index and the places are boxed; the function value captures the boxes. -/
theorem implListsAt (cv lv : Value) (ap : Option Addr) (np cp : Nat) (w : World) (h1 : ∃ a n c, cv = .slice a n c) (h2 : ∃ a n c, lv = .slice a n c) :
    Calls Try.prog 123 #[.agg #[cv, lv], .slice ap np cp] w fun e w' => e = .returned (.func (.func 141) #[] #[.pointer (some ⟨w.heap.size + 1, 0, none⟩), .pointer (some ⟨w.heap.size, 0, none⟩)]) ∧ w' = (w.alloc (.cells #[cv, lv] 31)).alloc (.cells #[.slice ap np cp] 51) := by
  obtain ⟨a1, n1, c1, rfl⟩ := h1
  obtain ⟨a2, n2, c2, rfl⟩ := h2
  go_enter Try.func123, Try.ntmps123
  go_wp2_with fail
  go_ret
  exact ⟨rfl, rfl⟩

end Go.Proofs.Ytfgadegpdknocaa

namespace Go.Proofs.Ytfgadegpdknocaa
open Go.RowKit

theorem one_cell {w : World} {b off k : Nat} {u : Option Value} (h : w.cell? ⟨b, off + k * Lay.tIvfList.n + 0, none⟩ = u) : w.cell? ⟨b, off + k, none⟩ = u := by
  have q : w.cell? ⟨b, off + k * 1 + 0, none⟩ = u := h
  rw [Nat.mul_one, Nat.add_zero] at q
  exact q
structure IvfAt (w : World) (b : Nat) (x : DIvf) (ac : Option Addr) (dc : Nat) (al : Option Addr) (dl : Nat) : Prop where
  c0 : w.cell? ⟨b, 0, none⟩ = some (.slice ac x.centers.length dc)
  c1 : w.cell? ⟨b, 1, none⟩ = some (.slice al x.lists.length dl)
  cens : (Lay.sl Lay.tCenter).Reads w [.slice ac x.centers.length dc] x.centers
  lists : (Lay.sl Lay.tIvfList).Reads w [.slice al x.lists.length dl] x.lists
theorem IvfAt.later {w w' : World} {b : Nat} {x : DIvf} {ac : Option Addr} {dc : Nat} {al : Option Addr} {dl : Nat} (h : IvfAt w b x ac dc al dl) (hb : Below w.heap.size w w') : IvfAt w' b x ac dc al dl :=
  ⟨cell_keep hb h.c0, cell_keep hb h.c1, h.cens.later hb, h.lists.later hb⟩
theorem ivfAt_box {lo : Nat} {w : World} {b T : Nat} {x : DIvf} {ac : Option Addr} {dc : Nat} {al : Option Addr} {dl : Nat} (h : Box lo #[.slice ac x.centers.length dc, .slice al x.lists.length dl] T w b) (h1 : (Lay.sl Lay.tCenter).Reads w [.slice ac x.centers.length dc] x.centers) (h2 : (Lay.sl Lay.tIvfList).Reads w [.slice al x.lists.length dl] x.lists) : IvfAt w b x ac dc al dl :=
  ⟨h.at 0 _ rfl, h.at 1 _ rfl, h1, h2⟩

end Go.Proofs.Ytfgadegpdknocaa

namespace Go.Proofs.Ytfgadegpdknocaa
open Go.RowKit

/-- What is wrong with an index, but for what stands in two lists, and how much it is in all. -/
def formF (x : DIvf) : Int := if centersFault x.centers = 0 then (if x.lists.length = x.centers.length then listsFrom x.centers 0 x.lists else 1) else centersFault x.centers
/-- All places. -/
def allPl (m : Nat) : List (Pl m) := (List.range m).pmap (fun j h => ⟨j, h⟩) (fun _ h => List.mem_range.1 h)
theorem allPl_len (m : Nat) : (allPl m).length = m := by simp [allPl]
theorem allPl_at (m i : Nat) (h : i < (allPl m).length) : (allPl m)[i].1 = i := by simp [allPl]
/-- What is wrong with one list. -/
def faultAt (x : DIvf) (p : Nat) : Int := listFault x.centers p (x.lists.getD p ⟨[]⟩).items
theorem faultAt_eq (x : DIvf) {p : Nat} (h : p < x.lists.length) : faultAt x p = listFault x.centers p x.lists[p].items := by
  unfold faultAt
  simp [List.getD, List.getElem?_eq_getElem h]
theorem listsFrom_all {cs : List DCenter} {i : Nat} {ls : List DIvfList} (h : ∀ j (hj : j < ls.length), listFault cs (i + j) ls[j].items = 0) : listsFrom cs i ls = 0 := by
  induction ls generalizing i with
  | nil => rfl
  | cons l ls ih =>
    rw [listsFrom]
    have h0 := h 0 (by simp)
    simp only [Nat.add_zero, List.getElem_cons_zero] at h0
    rw [if_pos h0]
    refine ih fun j hj => ?_
    have := h (j + 1) (by simpa using hj)
    simpa [Nat.add_comm, Nat.add_left_comm] using this
theorem listsFrom_at {cs : List DCenter} {i k : Nat} {ls : List DIvfList} (hk : k < ls.length) (h : ∀ j (hj : j < k), listFault cs (i + j) (ls[j]'(by omega)).items = 0) (hn : listFault cs (i + k) ls[k].items ≠ 0) : listsFrom cs i ls = listFault cs (i + k) ls[k].items := by
  induction ls generalizing i k with
  | nil => simp at hk
  | cons l ls ih =>
    rw [listsFrom]
    match k with
    | 0 =>
      simp only [Nat.add_zero, List.getElem_cons_zero] at hn ⊢
      rw [if_neg hn]
    | k + 1 =>
      have h0 := h 0 (by omega)
      simp only [Nat.add_zero, List.getElem_cons_zero] at h0
      rw [if_pos h0]
      have e : i + (k + 1) = i + 1 + k := by omega
      have hk2 : k < ls.length := by simpa using hk
      rw [List.getElem_cons_succ, e] at hn ⊢
      refine ih hk2 (fun j hj => ?_) hn
      have := h (j + 1) (by omega)
      have e2 : i + (j + 1) = i + 1 + j := by omega
      rw [List.getElem_cons_succ, e2] at this
      exact this
theorem form_all {x : DIvf} (hc : centersFault x.centers = 0) (hl : x.lists.length = x.centers.length) (h : ∀ p ∈ allPl x.lists.length, faultAt x p.1 = 0) : formF x = 0 := by
  rw [formF, if_pos hc, if_pos hl]
  refine listsFrom_all fun j hj => ?_
  have hj2 : j < (allPl x.lists.length).length := by rw [allPl_len]; exact hj
  have := h _ (List.getElem_mem hj2)
  rw [allPl_at, faultAt_eq x hj] at this
  rw [Nat.zero_add]
  exact this
theorem pre_at {m : Nat} {pre : List (Pl m)} {p : Pl m} (h : pre ++ [p] <+: allPl m) : p.1 = pre.length ∧ ∀ j (hj : j < pre.length), pre[j].1 = j := by
  have hlen := h.length_le
  rw [List.length_append, List.length_singleton] at hlen
  have key : ∀ j (hj : j < (pre ++ [p]).length), (pre ++ [p])[j].1 = j := fun j hj => by
    have e := h.getElem hj
    rw [e]
    exact allPl_at m j _
  constructor
  · have := key pre.length (by simp)
    simpa using this
  · intro j hj
    have := key j (by simp; omega)
    rw [List.getElem_append_left hj] at this
    exact this
theorem form_at {x : DIvf} {pre : List (Pl x.lists.length)} {p : Pl x.lists.length} (hc : centersFault x.centers = 0) (hl : x.lists.length = x.centers.length) (hp : pre ++ [p] <+: allPl x.lists.length) (h : ∀ q ∈ pre, faultAt x q.1 = 0) (hn : faultAt x p.1 ≠ 0) : formF x = faultAt x p.1 := by
  obtain ⟨h1, h2⟩ := pre_at hp
  rw [formF, if_pos hc, if_pos hl]
  have hk : p.1 < x.lists.length := p.2
  rw [faultAt_eq x hk] at hn ⊢
  have := listsFrom_at (cs := x.centers) (i := 0) (ls := x.lists) (k := p.1) hk (fun j hj => ?_) (by rw [Nat.zero_add]; exact hn)
  · rw [Nat.zero_add] at this
    exact this
  · have hj2 : j < pre.length := by omega
    have h3 := h _ (List.getElem_mem hj2)
    rw [h2 j hj2, faultAt_eq x (by omega)] at h3
    rw [Nat.zero_add]
    exact h3
/-- The items of list j. -/
def itsL (ls : List DIvfList) (j : Nat) : List DItem := (ls.getD j ⟨[]⟩).items
theorem itsL_eq {ls : List DIvfList} {j : Nat} (h : j < ls.length) : itsL ls j = ls[j].items := by simp [itsL, List.getD, List.getElem?_eq_getElem h]
theorem lists_at {w : World} {al : Option Addr} {dl : Nat} {ls : List DIvfList} (h : (Lay.sl Lay.tIvfList).Reads w [.slice al ls.length dl] ls) (hp : 0 < ls.length) : ∃ (bL oL : Nat) (ia : Nat → Option Addr) (ic : Nat → Nat), al = some ⟨bL, oL, none⟩ ∧ bL < w.heap.size ∧
    ∀ j, j < ls.length → w.cell? ⟨bL, oL + j, none⟩ = some (.slice (ia j) (itsL ls j).length (ic j)) ∧ (Lay.sl Lay.tItem).Reads w [.slice (ia j) (itsL ls j).length (ic j)] (itsL ls j) := by
  obtain ⟨bL, oL, rfl, hbl⟩ := Lay.sl_addr h hp
  have key : ∀ j : Nat, ∃ q : Option Addr × Nat, j < ls.length → w.cell? ⟨bL, oL + j, none⟩ = some (.slice q.1 (itsL ls j).length q.2) ∧ (Lay.sl Lay.tItem).Reads w [.slice q.1 (itsL ls j).length q.2] (itsL ls j) := fun j => by
    by_cases hj : j < ls.length
    · obtain ⟨row, hc, hr⟩ := Lay.row_at h hj
      obtain ⟨a5, d5, rfl, R5⟩ := open_IvfList hr
      refine ⟨(a5, d5), fun _ => ?_⟩
      rw [itsL_eq hj]
      exact ⟨one_cell (hc 0 (by decide)), R5⟩
    · exact ⟨(none, 0), fun h => absurd h hj⟩
  obtain ⟨f, hf⟩ := Classical.axiomOfChoice key
  exact ⟨bL, oL, fun j => (f j).1, fun j => (f j).2, rfl, hbl, hf⟩

end Go.Proofs.Ytfgadegpdknocaa

namespace Go.Proofs.Ytfgadegpdknocaa
open Go.RowKit

theorem grown_alloc {w w' : World} {o : Obj} {r : Option Nat} (h : (w.alloc o).grownBy w' r) : w.grownBy w' r := grown_trans (World.grownBy_alloc w o r) h

/-- At an operation of a plain region: 'append(s, q)', q laid into a block of its own first. -/
theorem wpList_append_int {w1 : World} {base : Nat} {v : Value} {n : Nat} {xs : List Value} (hown : w1.ownsRow base 2 1 v n xs) (q : Int) {ops : Array Oper} {rest : List Oper} {o : Oper} {a : Act} {Q : Exit → Act → World → Prop} (hgd : o.guard = none) (s x : Operand)
    (ho : o.op = .call { callee := .builtin .append, args := #[s, x], argTypes := #[51, 51] }) (hs : a.eval s = v) (hx : a.eval x = .slice (some ⟨w1.heap.size, 0, none⟩) 1 1)
    (hn : n ≤ 100000000) (hbase : base ≤ w1.heap.size)
    (h : ∀ g cap w', w'.ownsRow base 2 1 (.slice (some ⟨g, 0, none⟩) (n + 1) cap) (n + 1) (xs ++ [.int .i64 q]) → w1.grownBy w' v.ownBlock → Below base w1 w' → g < w'.heap.size → w1.heap.size < w'.heap.size → wpList Try.prog ops Q rest (a.put o.dst (.slice (some ⟨g, 0, none⟩) (n + 1) cap)) w') :
    wpList Try.prog ops Q (o :: rest) a (w1.alloc (.cells #[.int .i64 q] 2)) := by
  obtain ⟨i0, hi0, hz0, hz1, hz2⟩ := info_parts info2
  refine wpList_append_lies _ hgd s x 51 ho base 2 i0 _ 1 8 Try.underlying51 hi0 hz0 hz1 hz2 rfl (by omega) v n xs hs (hown.alloc _) ⟨w1.heap.size, 0, none⟩ 1 1 [.int .i64 q] hx rfl (World.news_of_block (cs := #[.int .i64 q]) (t := 2) (fr := (0, 0)) (heap_alloc_new w1 _)) (by simp [Value.oneCell']) (by omega) (by unfold maxLen; omega) (by omega) (by simp; omega) (w1.heap.size + 1) (by simp) ?_
  intro g cap w' h2 h3 _ h5
  have hg := grown_alloc h3
  have hsz := h3.size
  simp only [World.size_alloc] at hsz
  exact h g cap w' h2 hg ((Below.refl _ _).grown hg hbase (fun j hj => (hown.lt j hj).1)) h5 (by omega)

end Go.Proofs.Ytfgadegpdknocaa

namespace Go.Proofs.Ytfgadegpdknocaa
open Go.RowKit

theorem infoAppCenter : (Try.prog.info? 104).map (fun i => (i.zero, i.size, i.bytes)) = some (some (.agg #[.slice none 0 0]), 1, 24) := by kernel_rfl
theorem one_Center {w : World} {row : List Value} {x : DCenter} {bl : List Nat} (h : Lay.tCenter.lies w row x bl) : (∀ u ∈ row, u.oneCell' = true) ∧ row.length = 1 * 1 := by
  obtain ⟨_, _, _, rfl, -⟩ := lies_Center.1 h
  simp [Value.oneCell']

/-- At an operation of a plain region: the new one lies in a block of its own. -/
theorem wpList_append_Center {w1 : World} {base : Nat} {v : Value} {rows : List (List Value)} {xs : List DCenter} {bls : List (List Nat)} (hG : Grow Lay.tCenter w1 base 104 v rows xs bls) {row : List Value} {x : DCenter} {bl : List Nat} (hl : Lay.tCenter.lies w1 row x bl) (hbl : ∀ b ∈ bl, v.ownBlock ≠ some b) {ops : Array Oper} {rest : List Oper} {o : Oper} {a : Act} {Q : Exit → Act → World → Prop} (hgd : o.guard = none) (s y : Operand)
    (ho : o.op = .call { callee := .builtin .append, args := #[s, y], argTypes := #[28, 28] }) (hs : a.eval s = v) (hy : a.eval y = .slice (some ⟨w1.heap.size, 0, none⟩) 1 1) (hn : xs.length + 1 ≤ 100000000) (hbase : base ≤ w1.heap.size)
    (h : ∀ g cap w', Grow Lay.tCenter w' base 104 (.slice (some ⟨g, 0, none⟩) (xs.length + 1) cap) (rows ++ [row]) (xs ++ [x]) (bls ++ [bl]) → Below base w1 w' → Ext (fun q => v.ownBlock = some q) w1 w' → g < w'.heap.size → w1.heap.size ≤ w'.heap.size → (v.ownBlock = some g ∨ w1.heap.size ≤ g) → wpList Try.prog ops Q rest (a.put o.dst (.slice (some ⟨g, 0, none⟩) (xs.length + 1) cap)) w') :
    wpList Try.prog ops Q (o :: rest) a (w1.alloc (.cells row.toArray 104)) := by
  obtain ⟨i0, hi0, hz0, hz1, hz2⟩ := info_parts infoAppCenter
  obtain ⟨h1, hlen⟩ := one_Center hl
  refine wpList_append_lies _ hgd s y 28 ho base 104 i0 _ 1 24 Try.underlying28 hi0 hz0 hz1 hz2 rfl (by omega) v xs.length rows.flatten hs (hG.own.alloc _) ⟨w1.heap.size, 0, none⟩ 1 1 row hy hlen (World.news_of_block (cs := row.toArray) (t := 104) (fr := (0, 0)) (heap_alloc_new w1 _)) h1 (by omega) (by unfold maxLen; omega) (by omega) (by simp; omega) (w1.alloc (.cells row.toArray 104)).heap.size rfl ?_
  intro g cap w' h2 h3 h4 h5
  have hg := grown_alloc h3
  have hbw : Below base w1 w' := (Below.refl _ _).grown hg hbase (fun j hj => (hG.own.lt j hj).1)
  have hor : v.ownBlock = some g ∨ w1.heap.size ≤ g := by
    rcases h4 with h4 | h4
    · exact Or.inl h4
    · exact Or.inr (by rw [h4]; simp)
  exact h g cap w' (hG.snoc hl hbl h2 hg hor) hbw ⟨hbw.os, hbw.tape, hbw.output, hbw.size, fun k hk hn => hg.block k hk (fun e => hn e.symm)⟩ h5 hbw.size hor

/-- At a step of a region that draws its order. -/
theorem step_append_Center {w1 : World} {base : Nat} {v : Value} {rows : List (List Value)} {xs : List DCenter} {bls : List (List Nat)} (hG : Grow Lay.tCenter w1 base 104 v rows xs bls) {row : List Value} {x : DCenter} {bl : List Nat} (hl : Lay.tCenter.lies w1 row x bl) (hbl : ∀ b ∈ bl, v.ownBlock ≠ some b) {ops : Array Oper} {o : Oper} {a : Act} {K : Act → World → Prop} {Q : Exit → Act → World → Prop} {E : Prop} (hgd : o.guard = none) (s y : Operand)
    (ho : o.op = .call { callee := .builtin .append, args := #[s, y], argTypes := #[28, 28] }) (hs : a.eval s = v) (hy : a.eval y = .slice (some ⟨w1.heap.size, 0, none⟩) 1 1) (hn : xs.length + 1 ≤ 100000000) (hbase : base ≤ w1.heap.size)
    (h : ∀ g cap w', Grow Lay.tCenter w' base 104 (.slice (some ⟨g, 0, none⟩) (xs.length + 1) cap) (rows ++ [row]) (xs ++ [x]) (bls ++ [bl]) → Below base w1 w' → Ext (fun q => v.ownBlock = some q) w1 w' → g < w'.heap.size → w1.heap.size ≤ w'.heap.size → (v.ownBlock = some g ∨ w1.heap.size ≤ g) → K (a.put o.dst (.slice (some ⟨g, 0, none⟩) (xs.length + 1) cap)) w') :
    if Region.wanted o (yielded ops a.tmps) = true then Oper.wp Try.prog o a (w1.alloc (.cells row.toArray 104)) K Q else E := by
  obtain ⟨i0, hi0, hz0, hz1, hz2⟩ := info_parts infoAppCenter
  obtain ⟨h1, hlen⟩ := one_Center hl
  refine step_append_lies _ hgd s y 28 ho base 104 i0 _ 1 24 Try.underlying28 hi0 hz0 hz1 hz2 rfl (by omega) v xs.length rows.flatten hs (hG.own.alloc _) ⟨w1.heap.size, 0, none⟩ 1 1 row hy hlen (World.news_of_block (cs := row.toArray) (t := 104) (fr := (0, 0)) (heap_alloc_new w1 _)) h1 (by omega) (by unfold maxLen; omega) (by omega) (by simp; omega) (w1.alloc (.cells row.toArray 104)).heap.size rfl ?_
  intro g cap w' h2 h3 h4 h5
  have hg := grown_alloc h3
  have hbw : Below base w1 w' := (Below.refl _ _).grown hg hbase (fun j hj => (hG.own.lt j hj).1)
  have hor : v.ownBlock = some g ∨ w1.heap.size ≤ g := by
    rcases h4 with h4 | h4
    · exact Or.inl h4
    · exact Or.inr (by rw [h4]; simp)
  exact h g cap w' (hG.snoc hl hbl h2 hg hor) hbw ⟨hbw.os, hbw.tape, hbw.output, hbw.size, fun k hk hn => hg.block k hk (fun e => hn e.symm)⟩ h5 hbw.size hor

end Go.Proofs.Ytfgadegpdknocaa

namespace Go.Proofs.Ytfgadegpdknocaa
open Go.RowKit

theorem infoAppIvfList : (Try.prog.info? 147).map (fun i => (i.zero, i.size, i.bytes)) = some (some (.agg #[.slice none 0 0]), 1, 24) := by kernel_rfl
theorem one_IvfList {w : World} {row : List Value} {x : DIvfList} {bl : List Nat} (h : Lay.tIvfList.lies w row x bl) : (∀ u ∈ row, u.oneCell' = true) ∧ row.length = 1 * 1 := by
  obtain ⟨_, _, _, rfl, -⟩ := lies_IvfList.1 h
  simp [Value.oneCell']

/-- At an operation of a plain region: the new one lies in a block of its own. -/
theorem wpList_append_IvfList {w1 : World} {base : Nat} {v : Value} {rows : List (List Value)} {xs : List DIvfList} {bls : List (List Nat)} (hG : Grow Lay.tIvfList w1 base 147 v rows xs bls) {row : List Value} {x : DIvfList} {bl : List Nat} (hl : Lay.tIvfList.lies w1 row x bl) (hbl : ∀ b ∈ bl, v.ownBlock ≠ some b) {ops : Array Oper} {rest : List Oper} {o : Oper} {a : Act} {Q : Exit → Act → World → Prop} (hgd : o.guard = none) (s y : Operand)
    (ho : o.op = .call { callee := .builtin .append, args := #[s, y], argTypes := #[29, 29] }) (hs : a.eval s = v) (hy : a.eval y = .slice (some ⟨w1.heap.size, 0, none⟩) 1 1) (hn : xs.length + 1 ≤ 100000000) (hbase : base ≤ w1.heap.size)
    (h : ∀ g cap w', Grow Lay.tIvfList w' base 147 (.slice (some ⟨g, 0, none⟩) (xs.length + 1) cap) (rows ++ [row]) (xs ++ [x]) (bls ++ [bl]) → Below base w1 w' → Ext (fun q => v.ownBlock = some q) w1 w' → g < w'.heap.size → w1.heap.size ≤ w'.heap.size → (v.ownBlock = some g ∨ w1.heap.size ≤ g) → wpList Try.prog ops Q rest (a.put o.dst (.slice (some ⟨g, 0, none⟩) (xs.length + 1) cap)) w') :
    wpList Try.prog ops Q (o :: rest) a (w1.alloc (.cells row.toArray 147)) := by
  obtain ⟨i0, hi0, hz0, hz1, hz2⟩ := info_parts infoAppIvfList
  obtain ⟨h1, hlen⟩ := one_IvfList hl
  refine wpList_append_lies _ hgd s y 29 ho base 147 i0 _ 1 24 Try.underlying29 hi0 hz0 hz1 hz2 rfl (by omega) v xs.length rows.flatten hs (hG.own.alloc _) ⟨w1.heap.size, 0, none⟩ 1 1 row hy hlen (World.news_of_block (cs := row.toArray) (t := 147) (fr := (0, 0)) (heap_alloc_new w1 _)) h1 (by omega) (by unfold maxLen; omega) (by omega) (by simp; omega) (w1.alloc (.cells row.toArray 147)).heap.size rfl ?_
  intro g cap w' h2 h3 h4 h5
  have hg := grown_alloc h3
  have hbw : Below base w1 w' := (Below.refl _ _).grown hg hbase (fun j hj => (hG.own.lt j hj).1)
  have hor : v.ownBlock = some g ∨ w1.heap.size ≤ g := by
    rcases h4 with h4 | h4
    · exact Or.inl h4
    · exact Or.inr (by rw [h4]; simp)
  exact h g cap w' (hG.snoc hl hbl h2 hg hor) hbw ⟨hbw.os, hbw.tape, hbw.output, hbw.size, fun k hk hn => hg.block k hk (fun e => hn e.symm)⟩ h5 hbw.size hor

/-- At a step of a region that draws its order. -/
theorem step_append_IvfList {w1 : World} {base : Nat} {v : Value} {rows : List (List Value)} {xs : List DIvfList} {bls : List (List Nat)} (hG : Grow Lay.tIvfList w1 base 147 v rows xs bls) {row : List Value} {x : DIvfList} {bl : List Nat} (hl : Lay.tIvfList.lies w1 row x bl) (hbl : ∀ b ∈ bl, v.ownBlock ≠ some b) {ops : Array Oper} {o : Oper} {a : Act} {K : Act → World → Prop} {Q : Exit → Act → World → Prop} {E : Prop} (hgd : o.guard = none) (s y : Operand)
    (ho : o.op = .call { callee := .builtin .append, args := #[s, y], argTypes := #[29, 29] }) (hs : a.eval s = v) (hy : a.eval y = .slice (some ⟨w1.heap.size, 0, none⟩) 1 1) (hn : xs.length + 1 ≤ 100000000) (hbase : base ≤ w1.heap.size)
    (h : ∀ g cap w', Grow Lay.tIvfList w' base 147 (.slice (some ⟨g, 0, none⟩) (xs.length + 1) cap) (rows ++ [row]) (xs ++ [x]) (bls ++ [bl]) → Below base w1 w' → Ext (fun q => v.ownBlock = some q) w1 w' → g < w'.heap.size → w1.heap.size ≤ w'.heap.size → (v.ownBlock = some g ∨ w1.heap.size ≤ g) → K (a.put o.dst (.slice (some ⟨g, 0, none⟩) (xs.length + 1) cap)) w') :
    if Region.wanted o (yielded ops a.tmps) = true then Oper.wp Try.prog o a (w1.alloc (.cells row.toArray 147)) K Q else E := by
  obtain ⟨i0, hi0, hz0, hz1, hz2⟩ := info_parts infoAppIvfList
  obtain ⟨h1, hlen⟩ := one_IvfList hl
  refine step_append_lies _ hgd s y 29 ho base 147 i0 _ 1 24 Try.underlying29 hi0 hz0 hz1 hz2 rfl (by omega) v xs.length rows.flatten hs (hG.own.alloc _) ⟨w1.heap.size, 0, none⟩ 1 1 row hy hlen (World.news_of_block (cs := row.toArray) (t := 147) (fr := (0, 0)) (heap_alloc_new w1 _)) h1 (by omega) (by unfold maxLen; omega) (by omega) (by simp; omega) (w1.alloc (.cells row.toArray 147)).heap.size rfl ?_
  intro g cap w' h2 h3 h4 h5
  have hg := grown_alloc h3
  have hbw : Below base w1 w' := (Below.refl _ _).grown hg hbase (fun j hj => (hG.own.lt j hj).1)
  have hor : v.ownBlock = some g ∨ w1.heap.size ≤ g := by
    rcases h4 with h4 | h4
    · exact Or.inl h4
    · exact Or.inr (by rw [h4]; simp)
  exact h g cap w' (hG.snoc hl hbl h2 hg hor) hbw ⟨hbw.os, hbw.tape, hbw.output, hbw.size, fun k hk hn => hg.block k hk (fun e => hn e.symm)⟩ h5 hbw.size hor

end Go.Proofs.Ytfgadegpdknocaa

namespace Go.Proofs.Ytfgadegpdknocaa
open Go.RowKit

theorem infoAppItem : (Try.prog.info? 106).map (fun i => (i.zero, i.size, i.bytes)) = some (some (.agg #[.int .i64 0, .slice none 0 0]), 2, 32) := by kernel_rfl
theorem one_Item {w : World} {row : List Value} {x : DItem} {bl : List Nat} (h : Lay.tItem.lies w row x bl) : (∀ u ∈ row, u.oneCell' = true) ∧ row.length = 1 * 2 := by
  obtain ⟨_, _, _, rfl, -⟩ := lies_Item.1 h
  simp [Value.oneCell']

/-- At an operation of a plain region: the new one lies in a block of its own. -/
theorem wpList_append_Item {w1 : World} {base : Nat} {v : Value} {rows : List (List Value)} {xs : List DItem} {bls : List (List Nat)} (hG : Grow Lay.tItem w1 base 106 v rows xs bls) {row : List Value} {x : DItem} {bl : List Nat} (hl : Lay.tItem.lies w1 row x bl) (hbl : ∀ b ∈ bl, v.ownBlock ≠ some b) {ops : Array Oper} {rest : List Oper} {o : Oper} {a : Act} {Q : Exit → Act → World → Prop} (hgd : o.guard = none) (s y : Operand)
    (ho : o.op = .call { callee := .builtin .append, args := #[s, y], argTypes := #[42, 42] }) (hs : a.eval s = v) (hy : a.eval y = .slice (some ⟨w1.heap.size, 0, none⟩) 1 1) (hn : xs.length + 1 ≤ 100000000) (hbase : base ≤ w1.heap.size)
    (h : ∀ g cap w', Grow Lay.tItem w' base 106 (.slice (some ⟨g, 0, none⟩) (xs.length + 1) cap) (rows ++ [row]) (xs ++ [x]) (bls ++ [bl]) → Below base w1 w' → Ext (fun q => v.ownBlock = some q) w1 w' → g < w'.heap.size → w1.heap.size ≤ w'.heap.size → (v.ownBlock = some g ∨ w1.heap.size ≤ g) → wpList Try.prog ops Q rest (a.put o.dst (.slice (some ⟨g, 0, none⟩) (xs.length + 1) cap)) w') :
    wpList Try.prog ops Q (o :: rest) a (w1.alloc (.cells row.toArray 106)) := by
  obtain ⟨i0, hi0, hz0, hz1, hz2⟩ := info_parts infoAppItem
  obtain ⟨h1, hlen⟩ := one_Item hl
  refine wpList_append_lies _ hgd s y 42 ho base 106 i0 _ 2 32 Try.underlying42 hi0 hz0 hz1 hz2 rfl (by omega) v xs.length rows.flatten hs (hG.own.alloc _) ⟨w1.heap.size, 0, none⟩ 1 1 row hy hlen (World.news_of_block (cs := row.toArray) (t := 106) (fr := (0, 0)) (heap_alloc_new w1 _)) h1 (by omega) (by unfold maxLen; omega) (by omega) (by simp; omega) (w1.alloc (.cells row.toArray 106)).heap.size rfl ?_
  intro g cap w' h2 h3 h4 h5
  have hg := grown_alloc h3
  have hbw : Below base w1 w' := (Below.refl _ _).grown hg hbase (fun j hj => (hG.own.lt j hj).1)
  have hor : v.ownBlock = some g ∨ w1.heap.size ≤ g := by
    rcases h4 with h4 | h4
    · exact Or.inl h4
    · exact Or.inr (by rw [h4]; simp)
  exact h g cap w' (hG.snoc hl hbl h2 hg hor) hbw ⟨hbw.os, hbw.tape, hbw.output, hbw.size, fun k hk hn => hg.block k hk (fun e => hn e.symm)⟩ h5 hbw.size hor

/-- At a step of a region that draws its order. -/
theorem step_append_Item {w1 : World} {base : Nat} {v : Value} {rows : List (List Value)} {xs : List DItem} {bls : List (List Nat)} (hG : Grow Lay.tItem w1 base 106 v rows xs bls) {row : List Value} {x : DItem} {bl : List Nat} (hl : Lay.tItem.lies w1 row x bl) (hbl : ∀ b ∈ bl, v.ownBlock ≠ some b) {ops : Array Oper} {o : Oper} {a : Act} {K : Act → World → Prop} {Q : Exit → Act → World → Prop} {E : Prop} (hgd : o.guard = none) (s y : Operand)
    (ho : o.op = .call { callee := .builtin .append, args := #[s, y], argTypes := #[42, 42] }) (hs : a.eval s = v) (hy : a.eval y = .slice (some ⟨w1.heap.size, 0, none⟩) 1 1) (hn : xs.length + 1 ≤ 100000000) (hbase : base ≤ w1.heap.size)
    (h : ∀ g cap w', Grow Lay.tItem w' base 106 (.slice (some ⟨g, 0, none⟩) (xs.length + 1) cap) (rows ++ [row]) (xs ++ [x]) (bls ++ [bl]) → Below base w1 w' → Ext (fun q => v.ownBlock = some q) w1 w' → g < w'.heap.size → w1.heap.size ≤ w'.heap.size → (v.ownBlock = some g ∨ w1.heap.size ≤ g) → K (a.put o.dst (.slice (some ⟨g, 0, none⟩) (xs.length + 1) cap)) w') :
    if Region.wanted o (yielded ops a.tmps) = true then Oper.wp Try.prog o a (w1.alloc (.cells row.toArray 106)) K Q else E := by
  obtain ⟨i0, hi0, hz0, hz1, hz2⟩ := info_parts infoAppItem
  obtain ⟨h1, hlen⟩ := one_Item hl
  refine step_append_lies _ hgd s y 42 ho base 106 i0 _ 2 32 Try.underlying42 hi0 hz0 hz1 hz2 rfl (by omega) v xs.length rows.flatten hs (hG.own.alloc _) ⟨w1.heap.size, 0, none⟩ 1 1 row hy hlen (World.news_of_block (cs := row.toArray) (t := 106) (fr := (0, 0)) (heap_alloc_new w1 _)) h1 (by omega) (by unfold maxLen; omega) (by omega) (by simp; omega) (w1.alloc (.cells row.toArray 106)).heap.size rfl ?_
  intro g cap w' h2 h3 h4 h5
  have hg := grown_alloc h3
  have hbw : Below base w1 w' := (Below.refl _ _).grown hg hbase (fun j hj => (hG.own.lt j hj).1)
  have hor : v.ownBlock = some g ∨ w1.heap.size ≤ g := by
    rcases h4 with h4 | h4
    · exact Or.inl h4
    · exact Or.inr (by rw [h4]; simp)
  exact h g cap w' (hG.snoc hl hbl h2 hg hor) hbw ⟨hbw.os, hbw.tape, hbw.output, hbw.size, fun k hk hn => hg.block k hk (fun e => hn e.symm)⟩ h5 hbw.size hor

end Go.Proofs.Ytfgadegpdknocaa

namespace Go.Proofs.Ytfgadegpdknocaa
open Go.RowKit

theorem Ext.drewX {S : Nat → Prop} {a b : World} (h : Ext S a b) : Ext S a b.drew := ⟨h.os, h.tape, h.output, h.size, h.block⟩
theorem Ext.allocX {S : Nat → Prop} {a b : World} (h : Ext S a b) (o : Obj) : Ext S a (b.alloc o) := h.trans (ext_of_below ((Below.refl _ _).alloc (Nat.le_refl _) o) S)

end Go.Proofs.Ytfgadegpdknocaa

namespace Go.Proofs.Ytfgadegpdknocaa
open Go.RowKit

theorem own_ext {S : Nat → Prop} {w w' : World} {base T sz : Nat} {v : Value} {n : Nat} {xs : List Value} (h : w.ownsRow base T sz v n xs) (e : Ext S w w') (hs : ∀ c, v.ownBlock = some c → ¬ S c) : w'.ownsRow base T sz v n xs := by
  refine ⟨h.1, ?_⟩
  rcases h.2 with h2 | ⟨g, cap, cur, hv, hg, hh, r⟩
  · exact Or.inl h2
  · exact Or.inr ⟨g, cap, cur, hv, hg, (e.block g (lt_of_block hh) (hs g (by rw [hv]; rfl))).trans hh, r⟩
theorem Grow.ext {α : Type} {A : Lay α} {S : Nat → Prop} {w w' : World} {base T : Nat} {v : Value} {rows : List (List Value)} {xs : List α} {bls : List (List Nat)} (h : Grow A w base T v rows xs bls) (e : Ext S w w') (h1 : ∀ c, v.ownBlock = some c → ¬ S c) (h2 : ∀ c ∈ bls.flatten, ¬ S c) : Grow A w' base T v rows xs bls :=
  h.kept (own_ext h.own e h1) fun b hb => e.block b (h.sub_lt b hb) (h2 b hb)

/-- Centers and lists, each in a row of its own. -/
def Two (w : World) (base : Nat) (rc rl : Value) (cs : List DCenter) (ls : List DIvfList) : Prop :=
  ∃ rowsC blsC rowsL blsL, Grow Lay.tCenter w base 104 rc rowsC cs blsC ∧ Grow Lay.tIvfList w base 147 rl rowsL ls blsL ∧ (∀ b ∈ blsC.flatten, base ≤ b) ∧ (∀ b ∈ blsL.flatten, base ≤ b) ∧
    (∀ c ∈ blsL.flatten, rc.ownBlock ≠ some c) ∧ (∀ c ∈ blsC.flatten, rl.ownBlock ≠ some c) ∧ ∀ c, rc.ownBlock = some c → rl.ownBlock ≠ some c
theorem Two.later {w w' : World} {base : Nat} {rc rl : Value} {cs : List DCenter} {ls : List DIvfList} (h : Two w base rc rl cs ls) (hb : Below w.heap.size w w') : Two w' base rc rl cs ls := by
  obtain ⟨a, b, c, d, g1, g2, r⟩ := h
  exact ⟨a, b, c, d, g1.later hb, g2.later hb, r⟩
theorem Two.ext {S : Nat → Prop} {w w' : World} {base : Nat} {rc rl : Value} {cs : List DCenter} {ls : List DIvfList} (h : Two w base rc rl cs ls) (e : Ext S w w') (hs : ∀ c, base ≤ c → ¬ S c) : Two w' base rc rl cs ls := by
  obtain ⟨a, b, c, d, g1, g2, s1, s2, r⟩ := h
  exact ⟨a, b, c, d, g1.ext e (fun q hq => hs q (g1.own.lt q hq).1) (fun q hq => hs q (s1 q hq)), g2.ext e (fun q hq => hs q (g2.own.lt q hq).1) (fun q hq => hs q (s2 q hq)), s1, s2, r⟩
theorem two_nil (w : World) (base : Nat) : Two w base (.slice none 0 0) (.slice none 0 0) [] [] :=
  ⟨[], [], [], [], Grow.nil (World.ownsRow_nil _ _ _ _), Grow.nil (World.ownsRow_nil _ _ _ _), by simp, by simp, by simp, by simp, by simp [Value.ownBlock]⟩
theorem flat_add {bls : List (List Nat)} {bl : List Nat} {P : Nat → Prop} (h : ∀ c ∈ bls.flatten, P c) (h2 : ∀ c ∈ bl, P c) : ∀ c ∈ (bls ++ [bl]).flatten, P c := by
  intro c hc
  rw [List.flatten_append] at hc
  rcases List.mem_append.1 hc with hc | hc
  · exact h c hc
  · exact h2 c (by simpa using hc)
theorem Two.cens {w w' : World} {base g cap : Nat} {rc rl : Value} {cs : List DCenter} {ls : List DIvfList} {rowsC : List (List Value)} {blsC : List (List Nat)} {rowsL : List (List Value)} {blsL : List (List Nat)} {row : List Value} {x : DCenter} {bl : List Nat}
    (g2 : Grow Lay.tIvfList w base 147 rl rowsL ls blsL) (s1 : ∀ b ∈ blsC.flatten, base ≤ b) (s2 : ∀ b ∈ blsL.flatten, base ≤ b) (x1 : ∀ c ∈ blsL.flatten, rc.ownBlock ≠ some c) (x2 : ∀ c ∈ blsC.flatten, rl.ownBlock ≠ some c) (x3 : ∀ c, rc.ownBlock = some c → rl.ownBlock ≠ some c)
    (hG : Grow Lay.tCenter w' base 104 (.slice (some ⟨g, 0, none⟩) (cs.length + 1) cap) (rowsC ++ [row]) (cs ++ [x]) (blsC ++ [bl])) (e : Ext (fun q => rc.ownBlock = some q) w w') (hor : rc.ownBlock = some g ∨ w.heap.size ≤ g) (hb1 : ∀ b ∈ bl, base ≤ b) (hb2 : ∀ b ∈ bl, rl.ownBlock ≠ some b) :
    Two w' base (.slice (some ⟨g, 0, none⟩) (cs.length + 1) cap) rl (cs ++ [x]) ls := by
  have hlt := g2.sub_lt
  refine ⟨_, _, rowsL, blsL, hG, g2.ext e (fun c hc hs => x3 c hs hc) (fun c hc hs => x1 c hc hs), flat_add s1 hb1, s2, fun c hc hq => ?_, flat_add x2 hb2, fun c hc hq => ?_⟩
  · have eg : c = g := by simpa [Value.ownBlock] using hq.symm
    rcases hor with h | h
    · exact x1 c hc (by rw [h, eg])
    · have := hlt c hc; omega
  · have eg : c = g := by simpa [Value.ownBlock] using hc.symm
    rcases hor with h | h
    · exact x3 c (by rw [h, eg]) hq
    · have := (g2.own.lt c hq).2; omega
theorem Two.listsA {w w' : World} {base g cap : Nat} {rc rl : Value} {cs : List DCenter} {ls : List DIvfList} {rowsC : List (List Value)} {blsC : List (List Nat)} {rowsL : List (List Value)} {blsL : List (List Nat)} {row : List Value} {x : DIvfList} {bl : List Nat}
    (g1 : Grow Lay.tCenter w base 104 rc rowsC cs blsC) (s1 : ∀ b ∈ blsC.flatten, base ≤ b) (s2 : ∀ b ∈ blsL.flatten, base ≤ b) (x1 : ∀ c ∈ blsL.flatten, rc.ownBlock ≠ some c) (x2 : ∀ c ∈ blsC.flatten, rl.ownBlock ≠ some c) (x3 : ∀ c, rc.ownBlock = some c → rl.ownBlock ≠ some c)
    (hG : Grow Lay.tIvfList w' base 147 (.slice (some ⟨g, 0, none⟩) (ls.length + 1) cap) (rowsL ++ [row]) (ls ++ [x]) (blsL ++ [bl])) (e : Ext (fun q => rl.ownBlock = some q) w w') (hor : rl.ownBlock = some g ∨ w.heap.size ≤ g) (hb1 : ∀ b ∈ bl, base ≤ b) (hb2 : ∀ b ∈ bl, rc.ownBlock ≠ some b) :
    Two w' base rc (.slice (some ⟨g, 0, none⟩) (ls.length + 1) cap) cs (ls ++ [x]) := by
  have hlt := g1.sub_lt
  refine ⟨rowsC, blsC, _, _, g1.ext e (fun c hc hs => x3 c hc hs) (fun c hc hs => x2 c hc hs), hG, s1, flat_add s2 hb1, flat_add x1 hb2, fun c hc hq => ?_, fun c hc hq => ?_⟩
  · have eg : c = g := by simpa [Value.ownBlock] using hq.symm
    rcases hor with h | h
    · exact x2 c hc (by rw [h, eg])
    · have := hlt c hc; omega
  · have eg : c = g := by simpa [Value.ownBlock] using hq.symm
    rcases hor with h | h
    · exact x3 c hc (by rw [h, eg])
    · have := (g1.own.lt c hc).2; omega
theorem Two.lies {w : World} {base : Nat} {rc rl : Value} {cs : List DCenter} {ls : List DIvfList} (h : Two w base rc rl cs ls) (h1 : cs.length ≤ 1000) (h2 : ls.length ≤ 1000) : Lay.tIvf.LiesIn w [rc, rl] ⟨cs, ls⟩ base w.heap.size := by
  obtain ⟨a, b, c, d, g1, g2, s1, s2, -⟩ := h
  obtain ⟨bl1, l1, i1⟩ := g1.toLies (by omega) s1
  obtain ⟨bl2, l2, i2⟩ := g2.toLies (by omega) s2
  refine ⟨bl1 ++ bl2, ⟨[rc], [rl], bl1, bl2, rfl, rfl, l1, l2⟩, fun q hq => ?_⟩
  rcases List.mem_append.1 hq with hq | hq
  · exact i1 q hq
  · exact i2 q hq

end Go.Proofs.Ytfgadegpdknocaa
