/-
  Texts of this proof in one: HitOpsB, SearchPlain, ProbePlain, SortPlain, Ints, ImplPlaces, ImplIter, IvfAt, PlPlain, TakenPlain, HeldPlain, ImplId, ImplTab, MapTab, ImplFrom.
  Their conditions stand in their theorems.
-/
import Derived.Test.YtfgadegpdknocaaAq07
import Derived.Test.YtfgadegpdknocaaAq01
import Derived.Test.YtfgadegpdknocaaAq02
import Derived.Test.YtfgadegpdknocaaAq03
import Derived.Test.YtfgadegpdknocaaChecked
import Derived.BigQuiet
import Derived.Deep.QuietTactic
import Derived.WalkSmall
import Derived.Deep.RegionHeld3

namespace Go.Proofs.Ytfgadegpdknocaa
open Go.RowKit

def kB (k : Int) : Bool := decide (0 ≤ k) && decide (k ≤ 20)

def bestCode (hs : List (Int × Int)) (k : Int) : Int := if kB k then (if 200 < hs.length then 2 else if hs.all oneB then 0 else 3) else 3

def bestList (hs : List (Int × Int)) (k : Int) : List (Int × Int) := if bestCode hs k = 0 then best k.toNat hs else []

def addCode (hs : List (Int × Int)) (h : Int × Int) (k : Int) : Int := if kB k then (if hitsFault hs = 0 then (if oneB h then 0 else 3) else hitsFault hs) else 3

def addList (hs : List (Int × Int)) (h : Int × Int) (k : Int) : List (Int × Int) := if addCode hs h k = 0 then (ins hs h).take k.toNat else []

theorem own_set {w : World} {base e size : Nat} {v : Value} {n : Nat} {xs : List Value} {a : Addr} (h : w.ownsRow base e size v n xs) (ha : a.block < base) (u : Value) : (w.setCell a u).ownsRow base e size v n xs := by
  refine ⟨h.1, ?_⟩
  rcases h.2 with h2 | ⟨g, cap, cur, hv, hg, hh, r⟩
  · exact Or.inl h2
  · exact Or.inr ⟨g, cap, cur, hv, hg, (heap_setCell_other w a g u (by omega)).trans hh, r⟩

/-- The result's own variable, a new block of (0, nil), as later worlds have it. -/
theorem resVar {w W : World} {T : TypeId} (h : Below (w.alloc (.cells #[.int .i64 0, .slice none 0 0] T)).heap.size (w.alloc (.cells #[.int .i64 0, .slice none 0 0] T)) W) :
    W.cell? ⟨w.heap.size, 0, none⟩ = some (.int .i64 0) ∧ W.cell? ⟨w.heap.size, 1, none⟩ = some (.slice none 0 0) ∧ (∀ o, W.frozen? ⟨w.heap.size, o, none⟩ = false) ∧ w.heap.size < W.heap.size := by
  refine ⟨(h.cell (p := ⟨w.heap.size, 0, none⟩) (by simp)).trans (by simp [go_sem]), (h.cell (p := ⟨w.heap.size, 1, none⟩) (by simp)).trans (by simp [go_sem]), fun o => (h.frozen (p := ⟨w.heap.size, o, none⟩) (by simp)).trans (by simp [go_sem]), ?_⟩
  have := h.size
  simp at this
  omega

/-- What AddHit tells. -/
def Told (w w' : World) (e : Ending) (c : Int) (l : List (Int × Int)) : Prop := ∃ r, e = .returned (intsRes c r) ∧ w'.ownsRow w.heap.size 77 2 r l.length (cells2 l) ∧ Below w.heap.size w w'

theorem told_nil {w w' : World} {c : Int} (h : Below w.heap.size w w') : Told w w' (.returned (intsRes c (.slice none 0 0))) c [] := ⟨_, rfl, World.ownsRow_nil _ _ _ _, h⟩

theorem bestList_len {zs : List (Int × Int)} {n : Int} : (bestList zs n).length ≤ 20 := by
  unfold bestList
  split
  · next h =>
    have hk : kB n = true := by
      cases hk : kB n with
      | true => rfl
      | false => simp [bestCode, hk] at h
    have := best_len n.toNat zs
    have hb : 0 ≤ n ∧ n ≤ 20 := by simpa [kB] using hk
    omega
  · simp

theorem bestList_mem {zs : List (Int × Int)} {n : Int} {m : Int × Int} (h : m ∈ bestList zs n) : m ∈ zs := by
  unfold bestList at h
  split at h
  · exact best_mem h
  · simp at h

end Go.Proofs.Ytfgadegpdknocaa

namespace Go.Proofs.Ytfgadegpdknocaa
open Go.RowKit

def hitOf (q : List Int) (x : DItem) : DHit := ⟨x.id, score3 q x.vec⟩
def pairH (h : DHit) : Int × Int := (h.id, h.score)
def dhit (p : Int × Int) : DHit := ⟨p.1, p.2⟩
def hitsL (xs : List DItem) (q : List Int) : List DHit := xs.map (hitOf q)
def searchR (xs : List DItem) (q : List Int) (k : Int) : DHitsResult :=
  if tableFault xs = 0 then (if vecFault q = 0 then (if kB k then ⟨0, (best k.toNat ((hitsL xs q).map pairH)).map dhit⟩ else ⟨3, []⟩) else ⟨vecFault q, []⟩) else ⟨tableFault xs, []⟩
theorem dhit_pair (h : DHit) : dhit (pairH h) = h := rfl
theorem cells2_map (hs : List DHit) : cells2 (hs.map pairH) = (hs.map fun h => [Value.int .i64 h.id, .int .i64 h.score]).flatten := by
  induction hs with
  | nil => rfl
  | cons h hs ih =>
    rw [List.map_cons, List.map_cons, List.flatten_cons, ← ih]
    rfl
/-- Rows of hits. -/
theorem grow_hits {w : World} {base T : Nat} {v : Value} {rows : List (List Value)} {hs : List DHit} {bls : List (List Nat)} (h : Grow Lay.tHit w base T v rows hs bls) : w.ownsRow base T 2 v (hs.map pairH).length (cells2 (hs.map pairH)) ∧ ∀ p ∈ hs.map pairH, Wf2 p := by
  have hrow : ∀ j (h1 : j < hs.length) (h2 : j < rows.length), rows[j] = [.int .i64 hs[j].id, .int .i64 hs[j].score] ∧ (Lit.int .i64 hs[j].id).wf = true ∧ (Lit.int .i64 hs[j].score).wf = true := by
    intro j h1 h2
    obtain ⟨e, -, w0, w1⟩ := lies_Hit.1 (h.lies j h1 h2 (by have := h.nbls; omega))
    exact ⟨e, w0, w1⟩
  have e : rows = hs.map fun h => [Value.int .i64 h.id, .int .i64 h.score] := by
    apply List.ext_getElem (by simp [h.nrows])
    intro j h1 h2
    rw [(hrow j (by have := h.nrows; omega) h1).1]
    simp
  refine ⟨?_, ?_⟩
  · rw [List.length_map, cells2_map, ← e]
    exact h.own
  · intro p hp
    obtain ⟨d, hd, rfl⟩ := List.mem_map.1 hp
    obtain ⟨j, hj, rfl⟩ := List.getElem_of_mem hd
    exact (hrow j hj (by have := h.nrows; omega)).2
/-- A row of hits of the call's own, as data. -/
theorem own_hits {w : World} {base T : Nat} {v : Value} {ps : List (Int × Int)} (h : w.ownsRow base T 2 v ps.length (cells2 ps)) (hw : ∀ p ∈ ps, Wf2 p) (hn : ps.length ≤ 9223372036854775807) : (Lay.sl Lay.tHit).OwnIn w [v] (ps.map dhit) base w.heap.size := by
  have hl : (ps.map dhit).length = ps.length := List.length_map _
  have e : cells2 ps = ((ps.map dhit).map fun h => [Value.int .i64 h.id, .int .i64 h.score]).flatten := by
    rw [← cells2_map, List.map_map]
    congr 1
    exact (List.map_id ps).symm
  have G : Grow Lay.tHit w base T v ((ps.map dhit).map fun h => [Value.int .i64 h.id, .int .i64 h.score]) (ps.map dhit) (List.replicate ps.length []) := by
    refine ⟨by rw [hl, ← e]; exact h, by simp, by simp, fun j h1 h2 h3 => ?_, by simp⟩
    have hj : j < ps.length := by simpa using h1
    have hq := hw ps[j] (List.getElem_mem hj)
    refine lies_Hit.2 ⟨by simp, by simp, ?_, ?_⟩
    · simpa [dhit] using hq.1
    · simpa [dhit] using hq.2
  exact G.toOwn (by rw [hl]; exact hn) (by simp) (by simp)
theorem score3_bd {q v : List Int} (h1 : vecFault q = 0) (h2 : vecFault v = 0) : 0 ≤ score3 q v ∧ score3 q v ≤ 12000000 := by
  obtain ⟨hl, -⟩ := vecFault_zero h1
  obtain ⟨hl2, -⟩ := vecFault_zero h2
  match q, hl, v, hl2 with
  | [x, y, z], _, [a, b, c], _ =>
    obtain ⟨⟨x1, x2⟩, ⟨y1, y2⟩, ⟨z1, z2⟩⟩ := fault3 h1
    obtain ⟨⟨a1, a2⟩, ⟨b1, b2⟩, ⟨c1, c2⟩⟩ := fault3 h2
    have m1 := sq_bd x a x1 x2 a1 a2
    have m2 := sq_bd y b y1 y2 b1 b2
    have m3 := sq_bd z c z1 z2 c1 c2
    show 0 ≤ (x - a) * (x - a) + (y - b) * (y - b) + (z - c) * (z - c) ∧ (x - a) * (x - a) + (y - b) * (y - b) + (z - c) * (z - c) ≤ 12000000
    omega
/-- The hits of a right table are right, and few. -/
theorem hits_right {xs : List DItem} {q : List Int} (h : tableFault xs = 0) (hq : vecFault q = 0) : ((hitsL xs q).map pairH).length ≤ 30 ∧ ∀ p ∈ (hitsL xs q).map pairH, oneB p = true := by
  obtain ⟨hl, ha, -⟩ := tableFault_zero h
  refine ⟨by simp [hitsL]; exact hl, fun p hp => ?_⟩
  obtain ⟨d, hd, rfl⟩ := List.mem_map.1 hp
  obtain ⟨x, hx, rfl⟩ := List.mem_map.1 hd
  obtain ⟨hi, hv⟩ := ha x hx
  have hs := score3_bd hq hv
  simp only [idB, Bool.and_eq_true, decide_eq_true_eq] at hi
  rw [show pairH (hitOf q x) = (x.id, score3 q x.vec) from rfl]
  simp only [oneB, Bool.and_eq_true, decide_eq_true_eq]
  omega
theorem best_code {xs : List DItem} {q : List Int} {k : Int} (h : tableFault xs = 0) (hq : vecFault q = 0) (hk : kB k = true) : bestCode ((hitsL xs q).map pairH) k = 0 ∧ bestList ((hitsL xs q).map pairH) k = best k.toNat ((hitsL xs q).map pairH) := by
  obtain ⟨h1, h2⟩ := hits_right h hq
  have e : bestCode ((hitsL xs q).map pairH) k = 0 := by
    rw [bestCode, hk, if_pos rfl, if_neg (by omega), if_pos (List.all_eq_true.2 h2)]
  exact ⟨e, by rw [bestList, if_pos e]⟩
theorem own_hitsR {w : World} {c : Int} {v : Value} {hs : List DHit} {lo hi : Nat} (hc : (Lit.int .i64 c).wf = true) (h : (Lay.sl Lay.tHit).OwnIn w [v] hs lo hi) : Lay.tHitsResult.OwnIn w [.int .i64 c, v] ⟨c, hs⟩ lo hi := by
  obtain ⟨bl, ⟨l, n, f⟩, i⟩ := h
  exact ⟨bl, ⟨⟨[.int .i64 c], [v], [], bl, rfl, by simp, ⟨rfl, hc, rfl⟩, l⟩, n, f⟩, i⟩
theorem own_codeHits {w : World} {c : Int} {lo hi : Nat} (hc : (Lit.int .i64 c).wf = true) : Lay.tHitsResult.OwnIn w [.int .i64 c, .slice none 0 0] ⟨c, []⟩ lo hi := own_hitsR hc ⟨[], ⟨⟨none, 0, rfl, by simp, Or.inl ⟨rfl, rfl⟩⟩, by simp, by simp⟩, by simp⟩
theorem vec3q {zs : List Int} (h : vecFault zs = 0) : ∃ p q r, zs = [p, q, r] := by
  have hl := (vecFault_zero h).1
  match zs, hl with
  | [p, q, r], _ => exact ⟨p, q, r, rfl⟩
theorem best_wf {ps : List (Int × Int)} {k : Nat} (h : ∀ p ∈ ps, Wf2 p) : ∀ p ∈ best k ps, Wf2 p := fun p hp => h p (best_mem hp)
theorem oneB_wf {p : Int × Int} (h : oneB p = true) : Wf2 p := by
  simp only [oneB, Bool.and_eq_true, decide_eq_true_eq] at h
  exact ⟨wf_of_bd (by omega), wf_of_bd (by omega)⟩

end Go.Proofs.Ytfgadegpdknocaa

namespace Go.Proofs.Ytfgadegpdknocaa
open Go.RowKit

def probeL (cs : List DCenter) (q : List Int) (k : Nat) : List DHit := (List.range k).map fun (i : Nat) => ⟨(i : Int), score3 (cs.getD i ⟨[]⟩).vec q⟩
def probesI (cs : List DCenter) (q : List Int) (n : Nat) : List Int := (best n ((probeL cs q cs.length).map pairH)).map Prod.fst
theorem probeL_step (cs : List DCenter) (q : List Int) (k : Nat) (h : k < cs.length) : probeL cs q (k + 1) = probeL cs q k ++ [⟨k, score3 cs[k].vec q⟩] := by
  have e : cs.getD k ⟨[]⟩ = cs[k] := by simp [List.getD, List.getElem?_eq_getElem h]
  rw [probeL, List.range_succ, List.map_append, List.map_cons, e]
  rfl
theorem probeL_len (cs : List DCenter) (q : List Int) (k : Nat) : (probeL cs q k).length = k := by simp [probeL]
def nB (n : Int) : Bool := decide (0 ≤ n) && decide (n ≤ 6)
def probesR (x : DIvf) (q : List Int) (n : Int) : DIntsResult :=
  if ivfFault x = 0 then (if vecFault q = 0 then (if nB n then ⟨0, probesI x.centers q n.toNat⟩ else ⟨3, []⟩) else ⟨vecFault q, []⟩) else ⟨ivfFault x, []⟩
theorem probe_wf {cs : List DCenter} {q : List Int} {n : Nat} (h6 : cs.length ≤ 1000) : ∀ z ∈ probesI cs q n, (Lit.int .i64 z).wf = true := by
  intro z hz
  obtain ⟨p, hp, rfl⟩ := List.mem_map.1 hz
  obtain ⟨d, hd, rfl⟩ := List.mem_map.1 (best_mem hp)
  obtain ⟨i, hi, rfl⟩ := List.mem_map.1 hd
  have := List.mem_range.1 hi
  exact wf_of_bd (by show _ ≤ (i : Int) ∧ (i : Int) ≤ _; omega)
theorem probe_len (cs : List DCenter) (q : List Int) (n : Nat) : (probesI cs q n).length ≤ n := by
  rw [probesI, List.length_map]
  exact best_len _ _
/-- All hits of the lists named. -/
def probedH (x : DIvf) (q : List Int) (ps : List Int) : List (Int × Int) := (ps.map fun p => (hitsL (x.lists.getD p.toNat ⟨[]⟩).items q).map pairH).flatten
def searchIvfR (x : DIvf) (q : List Int) (k n : Int) : DHitsResult :=
  if ivfFault x = 0 then (if vecFault q = 0 then (if kB k && nB n then ⟨0, (best k.toNat (probedH x q (probesI x.centers q n.toNat))).map dhit⟩ else ⟨3, []⟩) else ⟨vecFault q, []⟩) else ⟨ivfFault x, []⟩
theorem probedH_step (x : DIvf) (q : List Int) (ps : List Int) (j m : Nat) (h : j < ps.length) (e : ps[j] = (m : Int)) (hm : m < x.lists.length) : probedH x q (ps.take (j + 1)) = probedH x q (ps.take j) ++ (hitsL x.lists[m].items q).map pairH := by
  have e2 : x.lists.getD (ps[j]).toNat ⟨[]⟩ = x.lists[m] := by rw [e]; simp [List.getD, List.getElem?_eq_getElem hm]
  rw [probedH, List.take_succ_eq_append_getElem h, List.map_append, List.flatten_append, List.map_cons, e2]
  simp [probedH]
theorem probedH_right {x : DIvf} {q : List Int} (hx : ∀ l ∈ x.lists, tableFault l.items = 0) (hq : vecFault q = 0) (ps : List Int) : (probedH x q ps).length ≤ 30 * ps.length ∧ ∀ p ∈ probedH x q ps, oneB p = true := by
  have h1 : ∀ m : Nat, ((hitsL (x.lists.getD m ⟨[]⟩).items q).map pairH).length ≤ 30 ∧ ∀ p ∈ (hitsL (x.lists.getD m ⟨[]⟩).items q).map pairH, oneB p = true := fun m => by
    by_cases hm : m < x.lists.length
    · have e : x.lists.getD m ⟨[]⟩ = x.lists[m] := by simp [List.getD, List.getElem?_eq_getElem hm]
      rw [e]
      exact hits_right (hx _ (List.getElem_mem hm)) hq
    · have e : x.lists.getD m ⟨[]⟩ = ⟨[]⟩ := by simp [List.getD, List.getElem?_eq_none (Nat.le_of_not_lt hm)]
      rw [e]
      simp [hitsL]
  induction ps with
  | nil => simp [probedH]
  | cons p ps ih =>
    have e : probedH x q (p :: ps) = (hitsL (x.lists.getD p.toNat ⟨[]⟩).items q).map pairH ++ probedH x q ps := by simp [probedH]
    rw [e]
    refine ⟨?_, fun y hy => ?_⟩
    · have := (h1 p.toNat).1
      rw [List.length_append, List.length_cons]
      omega
    · rcases List.mem_append.1 hy with hy | hy
      · exact (h1 p.toNat).2 y hy
      · exact ih.2 y hy
theorem probe_at {cs : List DCenter} {q : List Int} {n : Nat} {z : Int} (h : z ∈ probesI cs q n) : ∃ m : Nat, z = m ∧ m < cs.length := by
  obtain ⟨p, hp, rfl⟩ := List.mem_map.1 h
  obtain ⟨d, hd, rfl⟩ := List.mem_map.1 (best_mem hp)
  obtain ⟨i, hi, rfl⟩ := List.mem_map.1 hd
  exact ⟨i, rfl, List.mem_range.1 hi⟩

end Go.Proofs.Ytfgadegpdknocaa

namespace Go.Proofs.Ytfgadegpdknocaa
open Go.RowKit

/-- A place's hit. -/
def hitAt (cs : List DCenter) (q : List Int) (p : Nat) : Int × Int := ((p : Int), score3 (cs.getD p ⟨[]⟩).vec q)
theorem probeL_hits (cs : List DCenter) (q : List Int) (k : Nat) : (probeL cs q k).map pairH = (List.range k).map (hitAt cs q) := by
  rw [probeL, List.map_map]
  rfl
/-- Places in order, all of them: their first n are those that are looked at. -/
theorem places_probes {cs : List DCenter} {q : List Int} {d : List Nat} (hs : Sorted (d.map (hitAt cs q))) (hm : ∀ p, p ∈ d ↔ p < cs.length) (n : Nat) : (d.take n).map (fun p : Nat => (p : Int)) = probesI cs q n := by
  have e : allOf ((probeL cs q cs.length).map pairH) = d.map (hitAt cs q) := by
    refine sorted_ext (allOf_sorted _) hs fun x => ?_
    rw [allOf_mem, probeL_hits, List.mem_map, List.mem_map]
    constructor
    · rintro ⟨p, hp, rfl⟩
      exact ⟨p, (hm p).2 (List.mem_range.1 hp), rfl⟩
    · rintro ⟨p, hp, rfl⟩
      exact ⟨p, List.mem_range.2 ((hm p).1 hp), rfl⟩
  rw [probesI, best_eq, e, ← List.map_take, List.map_map]
  rfl
/-- The outer loop's state: the first i places in order, the others as they were. -/
def InsO (h : Nat → Int × Int) (n i : Nat) (d : List Nat) : Prop :=
  ∃ P : List Nat, P.length = i ∧ Sorted (P.map h) ∧ (∀ p, p ∈ P ↔ p < i) ∧ d = P ++ (List.range n).drop i
/-- The inner loop's state: place i stands at j, behind it what is farther. -/
def InsI (h : Nat → Int × Int) (n i j : Nat) (d : List Nat) : Prop :=
  ∃ L R : List Nat, L.length = j ∧ L.length + R.length = i ∧ Sorted ((L ++ R).map h) ∧ (∀ p, p ∈ L ++ R ↔ p < i) ∧ (∀ r ∈ R, (h i).2 < (h r).2) ∧ d = L ++ i :: (R ++ (List.range n).drop (i + 1))
theorem insO_start (h : Nat → Int × Int) {n : Nat} (hn : 0 < n) : InsO h n 1 (List.range n) := by
  refine ⟨[0], rfl, List.pairwise_singleton _ _, fun p => ?_, ?_⟩
  · rw [List.mem_singleton]; omega
  · cases n with
    | zero => omega
    | succ n => rw [List.range_succ_eq_map]; rfl
theorem InsO.inner {h : Nat → Int × Int} {n i : Nat} {d : List Nat} (hi : i < n) (o : InsO h n i d) : InsI h n i i d := by
  obtain ⟨P, h1, h2, h3, rfl⟩ := o
  refine ⟨P, [], h1, by simpa using h1, by simpa using h2, by simpa using h3, by simp, ?_⟩
  rw [List.drop_eq_getElem_cons (by simpa using hi)]
  simp
theorem InsI.len {h : Nat → Int × Int} {n i j : Nat} {d : List Nat} (hi : i < n) (o : InsI h n i j d) : d.length = n ∧ j ≤ i := by
  obtain ⟨L, R, h1, h2, -, -, -, rfl⟩ := o
  simp
  omega
theorem InsO.len {h : Nat → Int × Int} {n i : Nat} {d : List Nat} (hi : i ≤ n) (o : InsO h n i d) : d.length = n := by
  obtain ⟨P, h1, -, -, rfl⟩ := o
  simp
  omega
theorem InsO.below {h : Nat → Int × Int} {n i : Nat} {d : List Nat} (hi : i ≤ n) (o : InsO h n i d) : ∀ p ∈ d, p < n := by
  obtain ⟨P, -, -, h3, rfl⟩ := o
  intro p hp
  rcases List.mem_append.1 hp with hp | hp
  · have := (h3 p).1 hp; omega
  · exact List.mem_range.1 (List.mem_of_mem_drop hp)
theorem InsI.below {h : Nat → Int × Int} {n i j : Nat} {d : List Nat} (hi : i < n) (o : InsI h n i j d) : ∀ p ∈ d, p < n := by
  obtain ⟨L, R, -, -, -, h4, -, rfl⟩ := o
  intro p hp
  rcases List.mem_append.1 hp with hp | hp
  · have := (h4 p).1 (List.mem_append.2 (Or.inl hp)); omega
  · rcases List.mem_cons.1 hp with rfl | hp
    · exact hi
    · rcases List.mem_append.1 hp with hp | hp
      · have := (h4 p).1 (List.mem_append.2 (Or.inr hp)); omega
      · exact List.mem_range.1 (List.mem_of_mem_drop hp)
/-- What stands at j and ahead of it. -/
theorem InsI.at {h : Nat → Int × Int} {n i j : Nat} {d : List Nat} (o : InsI h n i j d) : d[j]? = some i := by
  obtain ⟨L, R, h1, -, -, -, -, rfl⟩ := o
  rw [List.getElem?_append_right (by omega), h1, Nat.sub_self]
  rfl
theorem InsI.swap {h : Nat → Int × Int} {n i j p : Nat} {d : List Nat} (o : InsI h n i (j + 1) d) (hp : d[j]? = some p) (hlt : (h i).2 < (h p).2) : InsI h n i j ((d.set (j + 1) p).set j i) := by
  obtain ⟨L, R, h1, h2, h3, h4, h5, rfl⟩ := o
  obtain ⟨K, z, rfl⟩ : ∃ K z, L = K ++ [z] := ⟨L.dropLast, L.getLast (by intro e; rw [e] at h1; cases h1), (List.dropLast_concat_getLast _).symm⟩
  have hK : K.length = j := by simpa using h1
  have hz : z = p := by
    rw [List.append_assoc, List.getElem?_append_right (by omega), hK, Nat.sub_self] at hp
    simpa using hp
  subst hz
  refine ⟨K, z :: R, hK, ?_, ?_, ?_, ?_, ?_⟩
  · simp at h2 ⊢; omega
  · simpa using h3
  · intro p; rw [← h4 p]; simp
  · intro r hr
    rcases List.mem_cons.1 hr with rfl | hr
    · exact hlt
    · exact h5 r hr
  · rw [List.append_assoc, List.set_append_right _ _ (by omega), List.set_append_right _ _ (by omega), hK, Nat.sub_self, Nat.add_sub_cancel_left]
    rfl
theorem InsI.stop {h : Nat → Int × Int} {n i j : Nat} {d : List Nat} (hf : ∀ p, (h p).1 = (p : Int)) (o : InsI h n i j d) (hs : ∀ p, 0 < j → d[j - 1]? = some p → (h p).2 ≤ (h i).2) : InsO h n (i + 1) d := by
  obtain ⟨L, R, h1, h2, h3, h4, h5, rfl⟩ := o
  have hL : ∀ l ∈ L, bet (h l) (h i) = true := by
    intro l hl
    obtain ⟨K, z, rfl⟩ : ∃ K z, L = K ++ [z] := ⟨L.dropLast, L.getLast (by intro e; rw [e] at hl; cases hl), (List.dropLast_concat_getLast _).symm⟩
    have hj : j = K.length + 1 := by rw [← h1]; simp
    have hz : (h z).2 ≤ (h i).2 := hs z (by omega) (by
      rw [hj, Nat.add_sub_cancel, List.append_assoc, List.getElem?_append_right (Nat.le_refl _), Nat.sub_self]
      rfl)
    have li : l < i := (h4 l).1 (List.mem_append.2 (Or.inl hl))
    have hlz : (h l).2 ≤ (h z).2 := by
      rcases List.mem_append.1 hl with hl | hl
      · have h6 : Sorted ((K ++ [z]).map h) := by rw [List.map_append] at h3; exact (List.pairwise_append.1 h3).1
        rw [List.map_append] at h6
        have := (List.pairwise_append.1 h6).2.2 (h l) (List.mem_map_of_mem hl) (h z) (by simp)
        rw [bet_iff] at this
        omega
      · rw [List.mem_singleton.1 hl]; exact Int.le_refl _
    rw [bet_iff, hf, hf]
    omega
  have hR : ∀ r ∈ R, bet (h i) (h r) = true := fun r hr => by rw [bet_iff]; exact Or.inl (h5 r hr)
  refine ⟨L ++ i :: R, by simp; omega, ?_, fun p => ?_, by simp⟩
  · rw [List.map_append] at h3
    obtain ⟨q1, q2, q3⟩ := List.pairwise_append.1 h3
    rw [List.map_append, List.map_cons]
    refine List.pairwise_append.2 ⟨q1, List.Pairwise.cons (fun y hy => ?_) q2, fun y hy z hz => ?_⟩
    · obtain ⟨r, hr, rfl⟩ := List.mem_map.1 hy
      exact hR r hr
    · rcases List.mem_cons.1 hz with rfl | hz
      · obtain ⟨l, hl, rfl⟩ := List.mem_map.1 hy
        exact hL l hl
      · exact q3 y hy z hz
  · have := h4 p
    rw [List.mem_append] at this
    rw [List.mem_append, List.mem_cons]
    constructor
    · rintro (hp | rfl | hp)
      · have := this.1 (Or.inl hp); omega
      · omega
      · have := this.1 (Or.inr hp); omega
    · intro hp
      by_cases e : p = i
      · exact Or.inr (Or.inl e)
      · rcases this.2 (by omega) with h | h
        · exact Or.inl h
        · exact Or.inr (Or.inr h)
theorem insO_end {h : Nat → Int × Int} {n : Nat} {d : List Nat} (o : InsO h n n d) : Sorted (d.map h) ∧ (∀ p, p ∈ d ↔ p < n) ∧ d.length = n := by
  obtain ⟨P, h1, h2, h3, rfl⟩ := o
  rw [List.drop_eq_nil_of_le (by simp), List.append_nil]
  exact ⟨h2, h3, h1⟩

end Go.Proofs.Ytfgadegpdknocaa

namespace Go.Proofs.Ytfgadegpdknocaa
open Go.RowKit

set_option maxHeartbeats 400000 in
theorem toInts_pos (b off cap : Nat) (zs : List Int) (w : World) (hn : zs.length ≤ 1048576) (hc : ∀ j, j < zs.length → w.cell? ⟨b, off + j, none⟩ = some (.int .i64 (zs.getD j 0))) :
    Calls Try.prog 28 #[.slice (some ⟨b, off, none⟩) zs.length cap] w fun e w' => e = .returned (.slice (some ⟨w.heap.size, 0, none⟩) zs.length zs.length) ∧
      w'.ownsRow w.heap.size 2 1 (.slice (some ⟨w.heap.size, 0, none⟩) zs.length zs.length) zs.length (zs.map (Value.int .i64)) ∧ Below w.heap.size w w' := by
  obtain ⟨i0, hi, hz0, hz1, hz2⟩ := info_parts info2
  go_enter Try.func28, Try.ntmps28
  go_wp2_with (at_make; refine wpList_make_full _ rfl _ _ 51 rfl w.heap.size 2 i0 (.int .i64 0) 1 Try.underlying51 hi hz0 hz1 _ _ _ _ zs.length rfl rfl rfl rfl ?c1 ?c2 ?c3 ?_)
  case c1 => rw [hz2]; omega
  case c2 => unfold maxLen; omega
  case c3 => exact Nat.le_refl _
  intro w1 hown1 hgrow1
  have hB1 : Below w.heap.size w w1 := (Below.refl _ _).grown hgrow1 (Nat.le_refl _) (by simp)
  rw [toList_madeCells_one] at hown1
  clear hgrow1 hi hz0 hz1 hz2
  go_wp2
  go_loopw [4] (fun i wr => ∃ k : Nat, k ≤ zs.length ∧ i = .int .i64 k ∧ wr.ownsRow w.heap.size 2 1 (.slice (some ⟨w.heap.size, 0, none⟩) zs.length zs.length) zs.length ((zs.take k).map (Value.int .i64) ++ List.replicate (zs.length - k) (Value.int .i64 0)) ∧ Below w.heap.size w wr)
    (fun i _ => zs.length - (intOf i).toNat)
  case atStart => exact ⟨0, Nat.zero_le _, rfl, by simpa using hown1, hB1⟩
  case round =>
    obtain ⟨k, hk, rfl, hown, hB⟩ := hrel
    clear hown1 hB1
    by_cases hlt : k < zs.length
    · have hcx : wr.cell? ⟨b, off + k, none⟩ = some (.int .i64 (zs.getD k 0)) := (hB.cell (World.block_lt_of_cell? _ _ (hc k hlt))).trans (hc k hlt)
      have hcd : ∃ u, wr.cell? ⟨w.heap.size, k, none⟩ = some u := by
        rw [hown.cellAt k (by omega)]
        exact ⟨_, List.getElem?_eq_getElem (by simp; omega)⟩
      obtain ⟨u, hcd⟩ := hcd
      have hfz := hown.frozenAt k
      have hst := hown.stored k (.int .i64 (zs.getD k 0))
      rw [set_fill zs k hlt] at hst
      have R := hst.1
      have hB2 : Below w.heap.size w (wr.setCell ⟨w.heap.size, k, none⟩ (.int .i64 (zs.getD k 0))) := hB.setCell (by simp) _
      clear hst hown hB
      go_wp2
      go_roundw
      case rel => exact ⟨k + 1, by omega, by go_num, by simpa [hlt] using R, by simpa [hlt] using hB2⟩
      case measure => simp [intOf]; omega
    · have hk2 : k = zs.length := by omega
      go_wp2
      go_ret
      subst hk2
      exact ⟨rfl, by simpa using hown, hB⟩

set_option maxHeartbeats 400000 in
theorem toInts_zero (ao : Option Addr) (cap : Nat) (w : World) :
    Calls Try.prog 28 #[.slice ao 0 cap] w fun e w' => e = .returned (.slice (some ⟨w.heap.size, 0, none⟩) 0 0) ∧
      w'.ownsRow w.heap.size 2 1 (.slice (some ⟨w.heap.size, 0, none⟩) 0 0) 0 [] ∧ Below w.heap.size w w' := by
  obtain ⟨i0, hi, hz0, hz1, hz2⟩ := info_parts info2
  go_enter Try.func28, Try.ntmps28
  go_wp2_with (at_make; refine wpList_make_full _ rfl _ _ 51 rfl w.heap.size 2 i0 (.int .i64 0) 1 Try.underlying51 hi hz0 hz1 _ _ _ _ 0 rfl rfl rfl rfl ?c1 ?c2 ?c3 ?_)
  case c1 => rw [hz2]; omega
  case c2 => unfold maxLen; omega
  case c3 => exact Nat.le_refl _
  intro w1 hown1 hgrow1
  have hB1 : Below w.heap.size w w1 := (Below.refl _ _).grown hgrow1 (Nat.le_refl _) (by simp)
  clear hgrow1 hi hz0 hz1 hz2
  rw [toList_madeCells_one] at hown1
  go_wp2
  refine wp_loop_rounds 1 ?_
  rw [rounds_succ]
  go_wp2
  go_ret
  exact ⟨rfl, by simpa using hown1, hB1⟩

/-- toInt64S: a new slice of the same numbers. -/
theorem toInts (v : Value) (zs : List Int) (w : World) (h : IsInts w v zs) (hn : zs.length ≤ 1048576) :
    Calls Try.prog 28 #[v] w fun e w' => ∃ v', e = .returned v' ∧ v' = .slice (some ⟨w.heap.size, 0, none⟩) zs.length zs.length ∧
      w'.ownsRow w.heap.size 2 1 v' zs.length (zs.map (Value.int .i64)) ∧ IsInts w' v' zs ∧ Below w.heap.size w w' := by
  obtain ⟨ao, cap, rfl, hwf, hc⟩ := h
  by_cases hp : 0 < zs.length
  · obtain ⟨b, off, rfl, hc1⟩ := hc hp
    refine (toInts_pos b off cap zs w hn hc1).mono ?_
    rintro e w' ⟨rfl, ho, hb⟩
    exact ⟨_, rfl, rfl, ho, isInts_owned hwf ho, hb⟩
  · have hz : zs = [] := List.eq_nil_of_length_eq_zero (by omega)
    subst hz
    refine (toInts_zero ao cap w).mono ?_
    rintro e w' ⟨rfl, ho, hb⟩
    exact ⟨_, rfl, rfl, ho, isInts_owned hwf ho, hb⟩

set_option maxHeartbeats 400000 in
theorem eqInts_pos (b off cap b2 off2 cap2 : Nat) (zs : List Int) (w : World) (hn : zs.length ≤ 9223372036854775807) (hc : ∀ j, j < zs.length → w.cell? ⟨b, off + j, none⟩ = some (.int .i64 (zs.getD j 0)))
    (hc2 : ∀ j, j < zs.length → w.cell? ⟨b2, off2 + j, none⟩ = some (.int .i64 (zs.getD j 0))) :
    Calls Try.prog 31 #[.slice (some ⟨b, off, none⟩) zs.length cap, .slice (some ⟨b2, off2, none⟩) zs.length cap2] w fun e w' => e = .returned (.bool true) ∧ Below w.heap.size w w' := by
  go_enter Try.func31, Try.ntmps31
  go_wp2
  go_loopw [5] (fun i wr => ∃ k : Nat, k ≤ zs.length ∧ i = .int .i64 k ∧ Below w.heap.size w wr) (fun i _ => zs.length - (intOf i).toNat)
  case atStart => exact ⟨0, Nat.zero_le _, rfl, Below.refl _ _⟩
  case round =>
    obtain ⟨k, hk, rfl, hB⟩ := hrel
    by_cases hlt : k < zs.length
    · have hcx : wr.cell? ⟨b, off + k, none⟩ = some (.int .i64 (zs.getD k 0)) := (hB.cell (World.block_lt_of_cell? _ _ (hc k hlt))).trans (hc k hlt)
      have hcy : wr.cell? ⟨b2, off2 + k, none⟩ = some (.int .i64 (zs.getD k 0)) := (hB.cell (World.block_lt_of_cell? _ _ (hc2 k hlt))).trans (hc2 k hlt)
      clear hc hc2
      go_wp2
      go_quiet (fail)
      go_wp2
      go_roundw
      case rel => exact ⟨k + 1, by omega, by go_num, below_drewN hB _⟩
      case measure => simp [intOf]; omega
    · go_wp2
      go_ret
      exact ⟨rfl, hB⟩

set_option maxHeartbeats 400000 in
theorem eqInts_zero (ao ao2 : Option Addr) (cap cap2 : Nat) (w : World) :
    Calls Try.prog 31 #[.slice ao 0 cap, .slice ao2 0 cap2] w fun e w' => e = .returned (.bool true) ∧ Below w.heap.size w w' := by
  go_enter Try.func31, Try.ntmps31
  go_wp2
  refine wp_loop_rounds 1 ?_
  rw [rounds_succ]
  go_wp2
  go_ret
  exact ⟨rfl, Below.refl _ _⟩

/-- eqInt64S: two slices of the same numbers are the same. -/
theorem eqIntsBig (v v2 : Value) (zs : List Int) (w : World) (h : IsInts w v zs) (h2 : IsInts w v2 zs) (hn : zs.length ≤ 9223372036854775807) :
    Calls Try.prog 31 #[v, v2] w fun e w' => e = .returned (.bool true) ∧ Below w.heap.size w w' := by
  obtain ⟨ao, cap, rfl, hwf, hc⟩ := h
  obtain ⟨ao2, cap2, rfl, _, hc2⟩ := h2
  by_cases hp : 0 < zs.length
  · obtain ⟨b, off, rfl, hc1⟩ := hc hp
    obtain ⟨b2, off2, rfl, hc3⟩ := hc2 hp
    exact eqInts_pos b off cap b2 off2 cap2 zs w hn hc1 hc3
  · have hz : zs = [] := List.eq_nil_of_length_eq_zero (by omega)
    subst hz
    exact eqInts_zero ao ao2 cap cap2 w
theorem eqInts (v v2 : Value) (zs : List Int) (w : World) (h : IsInts w v zs) (h2 : IsInts w v2 zs) (hn : zs.length ≤ 1048576) :
    Calls Try.prog 31 #[v, v2] w fun e w' => e = .returned (.bool true) ∧ Below w.heap.size w w' := eqIntsBig v v2 zs w h h2 (by omega)

end Go.Proofs.Ytfgadegpdknocaa

namespace Go.Proofs.Ytfgadegpdknocaa
open Go.RowKit

/-- Places as cells. -/
def plV (d : List Nat) : List Value := d.map fun p : Nat => Value.int .i64 (p : Int)
theorem plV_len (d : List Nat) : (plV d).length = d.length := by simp [plV]
theorem plV_at {d : List Nat} {j p : Nat} (h : d[j]? = some p) : (plV d)[j]? = some (.int .i64 (p : Int)) := by simp [plV, h]
/-- The first k places are written, the others are 0. -/
def upTo (n k : Nat) : List Nat := (List.range n).map fun i => if i < k then i else 0
theorem upTo_zero (n : Nat) : plV (upTo n 0) = List.replicate n (.int .i64 0) := by
  rw [plV, upTo, List.map_map]
  refine List.ext_getElem (by simp) fun i h1 h2 => by simp
theorem upTo_set {n k : Nat} : (plV (upTo n k)).set k (.int .i64 (k : Int)) = plV (upTo n (k + 1)) := by
  refine List.ext_getElem (by simp [plV, upTo]) fun i h1 h2 => ?_
  rw [List.getElem_set]
  by_cases e : k = i
  · subst e
    simp [plV, upTo]
  · rw [if_neg e]
    simp only [plV, upTo, List.getElem_map, List.getElem_range]
    by_cases h3 : i < k
    · rw [if_pos h3, if_pos (by omega)]
    · rw [if_neg h3, if_neg (by omega)]
theorem upTo_all (n : Nat) : upTo n n = List.range n := by
  refine List.ext_getElem (by simp [upTo]) fun i h1 h2 => ?_
  have : i < n := by simpa using h2
  simp [upTo, this]

set_option maxRecDepth 100000 in
set_option maxHeartbeats 2000000 in
theorem implPlaces (ao : Option Addr) (n cap : Nat) (w : World) (hn : n ≤ 1000) :
    Calls Try.prog 138 #[.slice ao n cap] w fun e w' => e = .returned (.slice (some ⟨w.heap.size, 0, none⟩) n n) ∧ w'.ownsRow w.heap.size 2 1 (.slice (some ⟨w.heap.size, 0, none⟩) n n) n (plV (List.range n)) ∧ Below w.heap.size w w' := by
  obtain ⟨i0, hi, hz0, hz1, hz2⟩ := info_parts info2
  go_enter Try.func138, Try.ntmps138
  go_wp2_with (at_make; refine wpList_make_full _ rfl _ _ 51 rfl w.heap.size 2 i0 (.int .i64 0) 1 Try.underlying51 hi hz0 hz1 _ _ _ _ n rfl rfl rfl rfl ?c1 ?c2 ?c3 ?_)
  case c1 => rw [hz2]; omega
  case c2 => unfold maxLen; omega
  case c3 => exact Nat.le_refl _
  intro w2 hown1 hgrow1
  have hB1 : Below w.heap.size w w2 := (Below.refl _ _).grown hgrow1 (Nat.le_refl _) (by simp)
  rw [toList_madeCells_one] at hown1
  have HO1 := hide hown1
  have HB1 := hide hB1
  clear hgrow1 hi hz0 hz1 hz2 hown1 hB1
  go_wp2_with fail
  go_loopw [10] (fun i wr => ∃ k : Nat, k ≤ n ∧ i = .int .i64 k ∧ wr.ownsRow w.heap.size 2 1 (.slice (some ⟨w.heap.size, 0, none⟩) n n) n (plV (upTo n k)) ∧ Below w.heap.size w wr) (fun i _ => n - (intOf i).toNat)
  case atStart => exact ⟨0, Nat.zero_le _, rfl, by rw [upTo_zero]; exact unhide HO1, unhide HB1⟩
  case round =>
    obtain ⟨k, hk, rfl, hown, hB⟩ := hrel
    clear HO1 HB1
    by_cases hlt : k < n
    · have hcd : ∃ u, wr.cell? ⟨w.heap.size, k, none⟩ = some u := by
        rw [hown.cellAt k (by have : (plV (upTo n k)).length = n * 1 := hown.1; omega)]
        exact ⟨_, List.getElem?_eq_getElem (by simp [plV, upTo]; omega)⟩
      obtain ⟨u, hcd⟩ := hcd
      have hfz := hown.frozenAt k
      have hlg := (hown.lt w.heap.size rfl).2
      have hst := hown.stored k (.int .i64 (k : Int))
      rw [upTo_set] at hst
      have HO3 := hide hst.1
      have HB3 : Hid (Below w.heap.size w (wr.setCell ⟨w.heap.size, k, none⟩ (.int .i64 (k : Int)))) := hB.setCell (by simp) _
      clear hst hown hB
      go_wp2_with fail
      go_roundw
      case rel => exact ⟨k + 1, by omega, by go_num, unhide HO3, unhide HB3⟩
      case measure => simp [intOf]; omega
    · obtain rfl : k = n := by omega
      rw [upTo_all] at hown
      have HO := hide hown
      have HB := hide hB
      clear hown hB
      go_wp2_with fail
      go_ret
      exact ⟨rfl, unhide HO, unhide HB⟩

end Go.Proofs.Ytfgadegpdknocaa

namespace Go.Proofs.Ytfgadegpdknocaa
open Go.RowKit Go.Shelf
attribute [local go_sem] Oper.semAt_some

/-- A place of a list. -/
abbrev Pl (m : Nat) := { j : Nat // j < m }
/-- What the iterator reads: the lists' row in the index's box, and the places. -/
structure ItAt (W : World) (Bx bL oL m dL : Nat) (ia : Nat → Option Addr) (il ic : Nat → Nat) (bP oP : Nat) (zs : List (Pl m)) : Prop where
  box : W.cell? ⟨Bx, 1, none⟩ = some (.slice (some ⟨bL, oL, none⟩) m dL)
  lists : ∀ j, j < m → W.cell? ⟨bL, oL + j, none⟩ = some (.slice (ia j) (il j) (ic j))
  places : ∀ i (h : i < zs.length), W.cell? ⟨bP, oP + i, none⟩ = some (.int .i64 (zs[i].1 : Int))
theorem ItAt.keep {W W' : World} {Bx bL oL m dL : Nat} {ia : Nat → Option Addr} {il ic : Nat → Nat} {bP oP : Nat} {zs : List (Pl m)} (h : ItAt W Bx bL oL m dL ia il ic bP oP zs) (h1 : W'.heap[Bx]? = W.heap[Bx]?) (h2 : W'.heap[bL]? = W.heap[bL]?) (h3 : W'.heap[bP]? = W.heap[bP]?) : ItAt W' Bx bL oL m dL ia il ic bP oP zs :=
  ⟨(cell_of_heap h1 1).trans h.box, fun j hj => (cell_of_heap h2 _).trans (h.lists j hj), fun i hi => (cell_of_heap h3 _).trans (h.places i hi)⟩
theorem take_pre {α : Type} {zs : List α} {k : Nat} : zs.take k <+: zs := List.take_prefix k zs

set_option maxRecDepth 100000 in
set_option maxHeartbeats 2000000 in
theorem listsAt1 (l n Bp Bx bL oL m dL cP : Nat) (ia : Nat → Option Addr) (il ic : Nat → Nat) (bP oP : Nat) (zs : List (Pl m)) (N : Nat) (S : Nat → Prop) (hzs : zs.length ≤ 1000)
    (k1 : Bx < N ∧ ¬ S Bx) (k2 : bL < N ∧ ¬ S bL) (k3 : bP < N ∧ ¬ S bP) (J Jx : List (Pl m) → World → Prop)
    (hY : ∀ pre x W, J pre W → pre.length < zs.length → YieldAt Fence.wide (n - 1) Try.prog l #[.agg #[.int .i64 (x.1 : Int), .slice (ia x.1) (il x.1) (ic x.1)]] W fun e W' =>
      (e = .returned (.bool true) ∧ J (pre ++ [x]) W' ∧ KpS N S W W') ∨ (e = .returned (.bool false) ∧ Jx (pre ++ [x]) W'))
    (W : World) (hbp : W.cell? ⟨Bp, 0, none⟩ = some (.slice (some ⟨bP, oP, none⟩) zs.length cP)) (hit : ItAt W Bx bL oL m dL ia il ic bP oP zs) (h0 : J [] W) :
    CallsIn Fence.wide n Try.prog 141 #[.func (.yield l) #[] #[], .pointer (some ⟨Bp, 0, none⟩), .pointer (some ⟨Bx, 0, none⟩)] W fun e W' => (∃ v, e = .returned v) ∧
      ((∃ ys, ys = zs ∧ J ys W') ∨ (∃ pre, pre <+: zs ∧ Jx pre W')) := by
  refine callsIn_of_wp Try.func141 rfl trivial ?_ rfl
  simp only [Try.ntmps141, List.size_toArray, List.length_cons, List.length_nil, Nat.reduceAdd, Nat.reduceSub, Array.replicate_succ, Array.replicate_zero, List.push_toArray, List.append_toArray, List.nil_append, List.cons_append]
  have HIT := hide hit
  clear hit
  gi_wp2
  clear hbp
  gi_loopw [8] (fun i wr => ∃ k : Nat, k ≤ zs.length ∧ i = .int .i64 k ∧ J (zs.take k) wr ∧ ItAt wr Bx bL oL m dL ia il ic bP oP zs) (fun i _ => zs.length - (intOf i).toNat)
  case atStart => exact ⟨0, Nat.zero_le _, rfl, h0, unhide HIT⟩
  case round =>
    obtain ⟨k, hk, rfl, hJ, hit⟩ := hrel
    clear HIT h0
    by_cases hlt : k < zs.length
    · have cb := hit.box
      have cp := hit.places k hlt
      have cl := hit.lists zs[k].1 zs[k].2
      have hx2 := zs[k].2
      have htk : zs.take (k + 1) = zs.take k ++ [zs[k]] := List.take_succ_eq_append_getElem hlt
      obtain ⟨fn, tmps, assign, body, hy, hR⟩ := hY (zs.take k) zs[k] wr hJ (by rw [List.length_take]; omega)
      generalize zs[k] = x at *
      obtain ⟨q, hq⟩ := x
      dsimp only at hy cp cl hx2
      have HTK := hide htk
      have HIT := hide hit
      clear htk hit hJ
      gi_wp2
      refine ⟨fun h => by simp [Fence.wide] at h, hR.mono ?_⟩
      rintro e W3 (⟨rfl, hJ3, hk3⟩ | ⟨rfl, hJx3⟩)
      · have it3 := (unhide HIT).keep (hk3.2 Bx k1.1 k1.2) (hk3.2 bL k2.1 k2.2) (hk3.2 bP k3.1 k3.2)
        clear cb cp cl
        gi_wp2
        go_roundw
        case rel => exact ⟨k + 1, by omega, by go_num, by rw [unhide HTK]; exact hJ3, it3⟩
        case measure => simp [intOf]; omega
      · clear cb cp cl
        gi_wp2
        refine bodyPost_ret (results_none rfl _ _ _) rfl ?_
        exact ⟨⟨_, rfl⟩, .inr ⟨_, by rw [← unhide HTK]; exact take_pre, hJx3⟩⟩
    · obtain rfl : k = zs.length := by omega
      rw [List.take_length] at hJ
      clear hit
      gi_wp2
      go_end0
      exact ⟨⟨_, rfl⟩, .inl ⟨_, rfl, hJ⟩⟩

/-- What listsAt hands back tells the lists at those places, all or the first ones. -/
theorem listsAt_stops (n Bp Bx bL oL m dL cP : Nat) (ia : Nat → Option Addr) (il ic : Nat → Nat) (bP oP : Nat) (zs : List (Pl m)) (N : Nat) (S : Nat → Prop) (hzs : zs.length ≤ 1000)
    (k1 : Bx < N ∧ ¬ S Bx) (k2 : bL < N ∧ ¬ S bL) (k3 : bP < N ∧ ¬ S bP) (w : World) (l0 : Bp < w.heap.size) (hN : N ≤ w.heap.size) (hbp : w.cell? ⟨Bp, 0, none⟩ = some (.slice (some ⟨bP, oP, none⟩) zs.length cP)) (hit : ItAt w Bx bL oL m dL ia il ic bP oP zs) :
    SeqStopsK Fence.wide n Try.prog 141 #[.pointer (some ⟨Bp, 0, none⟩), .pointer (some ⟨Bx, 0, none⟩)] (fun x : Pl m => #[.agg #[.int .i64 (x.1 : Int), .slice (ia x.1) (il x.1) (ic x.1)]]) (KpS N S) (fun ys => ys = zs) (fun pre => pre <+: zs) zs.length w :=
  fun l J Jx W hW _ _ hY h0 => listsAt1 l n Bp Bx bL oL m dL cP ia il ic bP oP zs N S hzs k1 k2 k3 J Jx hY W ((hW.cell (p := ⟨Bp, 0, none⟩) l0).trans hbp) (hit.keep (hW.block _ (by omega)) (hW.block _ (by omega)) (hW.block _ (by omega))) h0

/-- listsAt: the index and the places are boxed; the function value captures the boxes. -/
theorem implListsAt (cv lv : Value) (ap : Option Addr) (np cp : Nat) (w : World) (h1 : ∃ a n c, cv = .slice a n c) (h2 : ∃ a n c, lv = .slice a n c) :
    Calls Try.prog 123 #[.agg #[cv, lv], .slice ap np cp] w fun e w' => e = .returned (.func (.func 141) #[] #[.pointer (some ⟨w.heap.size + 1, 0, none⟩), .pointer (some ⟨w.heap.size, 0, none⟩)]) ∧ w' = (w.alloc (.cells #[cv, lv] 31)).alloc (.cells #[.slice ap np cp] 51) := by
  obtain ⟨a1, n1, c1, rfl⟩ := h1
  obtain ⟨a2, n2, c2, rfl⟩ := h2
  go_enter Try.func123, Try.ntmps123
  go_wp2_with fail
  go_ret
  exact ⟨rfl, rfl⟩

end Go.Proofs.Ytfgadegpdknocaa

namespace Go.Proofs.Ytfgadegpdknocaa
open Go.RowKit

theorem one_cell {w : World} {b off k : Nat} {u : Option Value} (h : w.cell? ⟨b, off + k * Lay.tIvfList.n + 0, none⟩ = u) : w.cell? ⟨b, off + k, none⟩ = u := by
  have q : w.cell? ⟨b, off + k * 1 + 0, none⟩ = u := h
  rw [Nat.mul_one, Nat.add_zero] at q
  exact q
structure IvfAt (w : World) (b : Nat) (x : DIvf) (ac : Option Addr) (dc : Nat) (al : Option Addr) (dl : Nat) : Prop where
  c0 : w.cell? ⟨b, 0, none⟩ = some (.slice ac x.centers.length dc)
  c1 : w.cell? ⟨b, 1, none⟩ = some (.slice al x.lists.length dl)
  cens : (Lay.sl Lay.tCenter).Reads w [.slice ac x.centers.length dc] x.centers
  lists : (Lay.sl Lay.tIvfList).Reads w [.slice al x.lists.length dl] x.lists
theorem IvfAt.later {w w' : World} {b : Nat} {x : DIvf} {ac : Option Addr} {dc : Nat} {al : Option Addr} {dl : Nat} (h : IvfAt w b x ac dc al dl) (hb : Below w.heap.size w w') : IvfAt w' b x ac dc al dl :=
  ⟨cell_keep hb h.c0, cell_keep hb h.c1, h.cens.later hb, h.lists.later hb⟩
theorem ivfAt_box {lo : Nat} {w : World} {b T : Nat} {x : DIvf} {ac : Option Addr} {dc : Nat} {al : Option Addr} {dl : Nat} (h : Box lo #[.slice ac x.centers.length dc, .slice al x.lists.length dl] T w b) (h1 : (Lay.sl Lay.tCenter).Reads w [.slice ac x.centers.length dc] x.centers) (h2 : (Lay.sl Lay.tIvfList).Reads w [.slice al x.lists.length dl] x.lists) : IvfAt w b x ac dc al dl :=
  ⟨h.at 0 _ rfl, h.at 1 _ rfl, h1, h2⟩

end Go.Proofs.Ytfgadegpdknocaa

namespace Go.Proofs.Ytfgadegpdknocaa
open Go.RowKit

/-- What is wrong with an index, but for what stands in two lists, and how much it is in all. -/
def formF (x : DIvf) : Int := if centersFault x.centers = 0 then (if x.lists.length = x.centers.length then listsFrom x.centers 0 x.lists else 1) else centersFault x.centers
/-- All places. -/
def allPl (m : Nat) : List (Pl m) := (List.range m).pmap (fun j h => ⟨j, h⟩) (fun _ h => List.mem_range.1 h)
theorem allPl_len (m : Nat) : (allPl m).length = m := by simp [allPl]
theorem allPl_at (m i : Nat) (h : i < (allPl m).length) : (allPl m)[i].1 = i := by simp [allPl]
/-- What is wrong with one list. -/
def faultAt (x : DIvf) (p : Nat) : Int := listFault x.centers p (x.lists.getD p ⟨[]⟩).items
theorem faultAt_eq (x : DIvf) {p : Nat} (h : p < x.lists.length) : faultAt x p = listFault x.centers p x.lists[p].items := by
  unfold faultAt
  simp [List.getD, List.getElem?_eq_getElem h]
theorem listsFrom_all {cs : List DCenter} {i : Nat} {ls : List DIvfList} (h : ∀ j (hj : j < ls.length), listFault cs (i + j) ls[j].items = 0) : listsFrom cs i ls = 0 := by
  induction ls generalizing i with
  | nil => rfl
  | cons l ls ih =>
    rw [listsFrom]
    have h0 := h 0 (by simp)
    simp only [Nat.add_zero, List.getElem_cons_zero] at h0
    rw [if_pos h0]
    refine ih fun j hj => ?_
    have := h (j + 1) (by simpa using hj)
    simpa [Nat.add_comm, Nat.add_left_comm] using this
theorem listsFrom_at {cs : List DCenter} {i k : Nat} {ls : List DIvfList} (hk : k < ls.length) (h : ∀ j (hj : j < k), listFault cs (i + j) (ls[j]'(by omega)).items = 0) (hn : listFault cs (i + k) ls[k].items ≠ 0) : listsFrom cs i ls = listFault cs (i + k) ls[k].items := by
  induction ls generalizing i k with
  | nil => simp at hk
  | cons l ls ih =>
    rw [listsFrom]
    match k with
    | 0 =>
      simp only [Nat.add_zero, List.getElem_cons_zero] at hn ⊢
      rw [if_neg hn]
    | k + 1 =>
      have h0 := h 0 (by omega)
      simp only [Nat.add_zero, List.getElem_cons_zero] at h0
      rw [if_pos h0]
      have e : i + (k + 1) = i + 1 + k := by omega
      have hk2 : k < ls.length := by simpa using hk
      rw [List.getElem_cons_succ, e] at hn ⊢
      refine ih hk2 (fun j hj => ?_) hn
      have := h (j + 1) (by omega)
      have e2 : i + (j + 1) = i + 1 + j := by omega
      rw [List.getElem_cons_succ, e2] at this
      exact this
theorem form_all {x : DIvf} (hc : centersFault x.centers = 0) (hl : x.lists.length = x.centers.length) (h : ∀ p ∈ allPl x.lists.length, faultAt x p.1 = 0) : formF x = 0 := by
  rw [formF, if_pos hc, if_pos hl]
  refine listsFrom_all fun j hj => ?_
  have hj2 : j < (allPl x.lists.length).length := by rw [allPl_len]; exact hj
  have := h _ (List.getElem_mem hj2)
  rw [allPl_at, faultAt_eq x hj] at this
  rw [Nat.zero_add]
  exact this
theorem pre_at {m : Nat} {pre : List (Pl m)} {p : Pl m} (h : pre ++ [p] <+: allPl m) : p.1 = pre.length ∧ ∀ j (hj : j < pre.length), pre[j].1 = j := by
  have hlen := h.length_le
  rw [List.length_append, List.length_singleton] at hlen
  have key : ∀ j (hj : j < (pre ++ [p]).length), (pre ++ [p])[j].1 = j := fun j hj => by
    have e := h.getElem hj
    rw [e]
    exact allPl_at m j _
  constructor
  · have := key pre.length (by simp)
    simpa using this
  · intro j hj
    have := key j (by simp; omega)
    rw [List.getElem_append_left hj] at this
    exact this
theorem form_at {x : DIvf} {pre : List (Pl x.lists.length)} {p : Pl x.lists.length} (hc : centersFault x.centers = 0) (hl : x.lists.length = x.centers.length) (hp : pre ++ [p] <+: allPl x.lists.length) (h : ∀ q ∈ pre, faultAt x q.1 = 0) (hn : faultAt x p.1 ≠ 0) : formF x = faultAt x p.1 := by
  obtain ⟨h1, h2⟩ := pre_at hp
  rw [formF, if_pos hc, if_pos hl]
  have hk : p.1 < x.lists.length := p.2
  rw [faultAt_eq x hk] at hn ⊢
  have := listsFrom_at (cs := x.centers) (i := 0) (ls := x.lists) (k := p.1) hk (fun j hj => ?_) (by rw [Nat.zero_add]; exact hn)
  · rw [Nat.zero_add] at this
    exact this
  · have hj2 : j < pre.length := by omega
    have h3 := h _ (List.getElem_mem hj2)
    rw [h2 j hj2, faultAt_eq x (by omega)] at h3
    rw [Nat.zero_add]
    exact h3
/-- The items of list j. -/
def itsL (ls : List DIvfList) (j : Nat) : List DItem := (ls.getD j ⟨[]⟩).items
theorem itsL_eq {ls : List DIvfList} {j : Nat} (h : j < ls.length) : itsL ls j = ls[j].items := by simp [itsL, List.getD, List.getElem?_eq_getElem h]
theorem lists_at {w : World} {al : Option Addr} {dl : Nat} {ls : List DIvfList} (h : (Lay.sl Lay.tIvfList).Reads w [.slice al ls.length dl] ls) (hp : 0 < ls.length) : ∃ (bL oL : Nat) (ia : Nat → Option Addr) (ic : Nat → Nat), al = some ⟨bL, oL, none⟩ ∧ bL < w.heap.size ∧
    ∀ j, j < ls.length → w.cell? ⟨bL, oL + j, none⟩ = some (.slice (ia j) (itsL ls j).length (ic j)) ∧ (Lay.sl Lay.tItem).Reads w [.slice (ia j) (itsL ls j).length (ic j)] (itsL ls j) := by
  obtain ⟨bL, oL, rfl, hbl⟩ := Lay.sl_addr h hp
  have key : ∀ j : Nat, ∃ q : Option Addr × Nat, j < ls.length → w.cell? ⟨bL, oL + j, none⟩ = some (.slice q.1 (itsL ls j).length q.2) ∧ (Lay.sl Lay.tItem).Reads w [.slice q.1 (itsL ls j).length q.2] (itsL ls j) := fun j => by
    by_cases hj : j < ls.length
    · obtain ⟨row, hc, hr⟩ := Lay.row_at h hj
      obtain ⟨a5, d5, rfl, R5⟩ := open_IvfList hr
      refine ⟨(a5, d5), fun _ => ?_⟩
      rw [itsL_eq hj]
      exact ⟨one_cell (hc 0 (by decide)), R5⟩
    · exact ⟨(none, 0), fun h => absurd h hj⟩
  obtain ⟨f, hf⟩ := Classical.axiomOfChoice key
  exact ⟨bL, oL, fun j => (f j).1, fun j => (f j).2, rfl, hbl, hf⟩

end Go.Proofs.Ytfgadegpdknocaa

namespace Go.Proofs.Ytfgadegpdknocaa
open Go.RowKit

theorem foldIs_len (ls : List DIvfList) : ∀ (o : List DItem), Rising o → (ls.foldl (fun o l => gatherI o l.items) o).length ≤ o.length + countIs ls := by
  induction ls with
  | nil => exact fun o _ => Nat.le_refl _
  | cons l ls ih =>
    intro o ho
    have h1 := ih (gatherI o l.items) (gatherI_rising ho l.items)
    have h2 := gatherI_len ho l.items
    simp only [List.foldl_cons, countIs]
    omega
theorem allIs_split (ls : List DIvfList) (k : Nat) (hk : k < ls.length) : allIs ls = (ls.drop (k + 1)).foldl (fun o l => gatherI o l.items) (gatherI (allIs (ls.take k)) ls[k].items) := by
  have e : ls = ls.take k ++ ls[k] :: ls.drop (k + 1) := by rw [← List.drop_eq_getElem_cons hk, List.take_append_drop]
  have e2 : allIs ls = allIs (ls.take k ++ ls[k] :: ls.drop (k + 1)) := by rw [← e]
  rw [e2, allIs, List.foldl_append, List.foldl_cons]
  rfl
theorem countIs_append (a b : List DIvfList) : countIs (a ++ b) = countIs a + countIs b := by
  induction a with
  | nil => simp [countIs]
  | cons l a ih => simp only [List.cons_append, countIs, ih]; omega
theorem countIs_split (ls : List DIvfList) (k : Nat) (hk : k < ls.length) : countIs ls = countIs (ls.take k) + (ls[k].items.length + countIs (ls.drop (k + 1))) := by
  have e : ls = ls.take k ++ ls[k] :: ls.drop (k + 1) := by rw [← List.drop_eq_getElem_cons hk, List.take_append_drop]
  have e2 : countIs ls = countIs (ls.take k ++ ls[k] :: ls.drop (k + 1)) := by rw [← e]
  rw [e2, countIs_append]
  rfl
theorem gather_split (out xs : List DItem) (j : Nat) (hj : j < xs.length) : gatherI out xs = gatherI (putI (gatherI out (xs.take j)) xs[j].id xs[j].vec) (xs.drop (j + 1)) := by
  have e : xs = xs.take j ++ xs[j] :: xs.drop (j + 1) := by rw [← List.drop_eq_getElem_cons hj, List.take_append_drop]
  have e2 : gatherI out xs = gatherI out (xs.take j ++ xs[j] :: xs.drop (j + 1)) := by rw [← e]
  rw [e2, gatherI, List.foldl_append, List.foldl_cons]
  rfl
/-- One Id is there already: then there are fewer in all than in the lists. -/
theorem taken_fact {ls : List DIvfList} {k : Nat} (hk : k < ls.length) {j : Nat} (hj : j < ls[k].items.length) (hh : hasI (gatherI (allIs (ls.take k)) (ls[k].items.take j)) ls[k].items[j].id = true) : (allIs ls).length ≠ countIs ls := by
  have r0 := allIs_rising (ls.take k)
  have r1 := gatherI_rising r0 (ls[k].items.take j)
  have r2 := putI_rising r1 ls[k].items[j].id ls[k].items[j].vec
  have n0 := allIs_len (ls.take k)
  have n1 := gatherI_len r0 (ls[k].items.take j)
  have n2 := putI_len r1 ls[k].items[j].id ls[k].items[j].vec
  rw [if_pos hh] at n2
  have n3 := gatherI_len r2 (ls[k].items.drop (j + 1))
  rw [← gather_split _ _ j hj] at n3
  have n4 := foldIs_len (ls.drop (k + 1)) _ (gatherI_rising r0 ls[k].items)
  rw [← allIs_split ls k hk] at n4
  have n5 := countIs_split ls k hk
  rw [List.length_take] at n1
  rw [List.length_drop] at n3
  omega
/-- What is held when j of list k have come. -/
def heldAt (ls : List DIvfList) (k j : Nat) : List DItem := gatherI (allIs (ls.take k)) ((ls.getD k ⟨[]⟩).items.take j)
def heldN (ls : List DIvfList) (k j : Nat) : Nat := countIs (ls.take k) + j

end Go.Proofs.Ytfgadegpdknocaa

namespace Go.Proofs.Ytfgadegpdknocaa
open Go.RowKit

/-- The code of an index whose lists are right. -/
def codeL (x : DIvf) : Int := if (allIs x.lists).length = countIs x.lists then (if countIs x.lists ≤ 30 then 0 else 2) else 6
/-- What is held when the lists of pre have come. -/
def heldP {m : Nat} (ls : List DIvfList) (pre : List (Pl m)) : List DItem := pre.foldl (fun o p => gatherI o (itsL ls p.1)) []
def countP : {m : Nat} → (ls : List DIvfList) → (pre : List (Pl m)) → Nat
  | _, _, [] => 0
  | _, ls, p :: pre => (itsL ls p.1).length + countP ls pre
theorem heldP_snoc {m : Nat} (ls : List DIvfList) (pre : List (Pl m)) (p : Pl m) : heldP ls (pre ++ [p]) = gatherI (heldP ls pre) (itsL ls p.1) := by
  rw [heldP, List.foldl_append]
  rfl
theorem countP_snoc {m : Nat} (ls : List DIvfList) (pre : List (Pl m)) (p : Pl m) : countP ls (pre ++ [p]) = countP ls pre + (itsL ls p.1).length := by
  induction pre with
  | nil => simp [countP]
  | cons q pre ih => simp only [List.cons_append, countP, ih]; omega
theorem heldP_rising {m : Nat} (ls : List DIvfList) (pre : List (Pl m)) : Rising (heldP ls pre) := by
  have : ∀ o, Rising o → Rising (pre.foldl (fun o p => gatherI o (itsL ls p.1)) o) := by
    induction pre with
    | nil => exact fun o h => h
    | cons q pre ih => exact fun o h => ih _ (gatherI_rising h _)
  exact this [] List.Pairwise.nil
theorem countP_le {m : Nat} {ls : List DIvfList} (h : ∀ j, (itsL ls j).length ≤ 30) (pre : List (Pl m)) : countP ls pre ≤ 30 * pre.length := by
  induction pre with
  | nil => simp [countP]
  | cons q pre ih =>
    have := h q.1
    simp only [countP, List.length_cons]
    omega
/-- The first k places, whatever the list of places is. -/
theorem heldP_take {ls : List DIvfList} {pre : List (Pl ls.length)} (h : ∀ j (hj : j < pre.length), pre[j].1 = j) (hl : pre.length ≤ ls.length) : heldP ls pre = allIs (ls.take pre.length) ∧ countP ls pre = countIs (ls.take pre.length) := by
  obtain ⟨k, hk⟩ : ∃ k, pre.length = k := ⟨_, rfl⟩
  induction k generalizing pre with
  | zero =>
    obtain rfl : pre = [] := List.eq_nil_of_length_eq_zero hk
    exact ⟨rfl, by simp [countP, countIs]⟩
  | succ k ih =>
    obtain ⟨q, p, rfl⟩ : ∃ q p, pre = q ++ [p] := ⟨pre.dropLast, pre.getLast (by intro e; rw [e] at hk; cases hk), (List.dropLast_concat_getLast _).symm⟩
    have hq : q.length = k := by simpa using hk
    have hp := h k (by simp [hq])
    simp only [← hq, List.getElem_concat_length] at hp
    obtain ⟨i1, i2⟩ := ih (pre := q) (fun j hj => by
      have := h j (by simp; omega)
      rw [List.getElem_append_left hj] at this
      exact this) (by simp at hl; omega) hq
    have hlt : q.length < ls.length := by simp at hl; omega
    rw [heldP_snoc, countP_snoc, i1, i2, List.length_append, List.length_singleton, allIs_step ls q.length hlt, countIs_take ls q.length hlt, hp, itsL_eq hlt]
    exact ⟨rfl, rfl⟩
theorem held_all (ls : List DIvfList) : heldP ls (allPl ls.length) = allIs ls ∧ countP ls (allPl ls.length) = countIs ls := by
  have := heldP_take (ls := ls) (pre := allPl ls.length) (fun j hj => allPl_at _ j hj) (by rw [allPl_len]; exact Nat.le_refl _)
  rw [allPl_len, List.take_length] at this
  exact this
theorem held_taken {x : DIvf} {pre : List (Pl x.lists.length)} {p : Pl x.lists.length} (hp : pre ++ [p] <+: allPl x.lists.length) {j : Nat} (hj : j < (itsL x.lists p.1).length) (hh : hasI (gatherI (heldP x.lists pre) ((itsL x.lists p.1).take j)) (itsL x.lists p.1)[j].id = true) : codeL x = 6 := by
  obtain ⟨h1, h2⟩ := pre_at hp
  have hk : p.1 < x.lists.length := p.2
  have hl := hp.length_le
  rw [allPl_len, List.length_append] at hl
  obtain ⟨i1, -⟩ := heldP_take h2 (by omega)
  rw [i1, ← h1] at hh
  have e := itsL_eq hk
  have hj2 : j < x.lists[p.1].items.length := by rw [← e]; exact hj
  have hh2 : hasI (gatherI (allIs (x.lists.take p.1)) (x.lists[p.1].items.take j)) x.lists[p.1].items[j].id = true := by
    simp only [e] at hh
    exact hh
  rw [codeL, if_neg (taken_fact hk hj2 hh2)]
theorem gather_put {o xs : List DItem} {j : Nat} (hj : j < xs.length) : gatherI o (xs.take (j + 1)) = putI (gatherI o (xs.take j)) xs[j].id xs[j].vec := gatherI_step o xs j hj

end Go.Proofs.Ytfgadegpdknocaa

namespace Go.Proofs.Ytfgadegpdknocaa
open Go.RowKit

theorem implId (v : Int) (w : World) :
    Calls Try.prog 92 #[.int .i64 v] w fun e w' => e = .returned (.bool (decide (1 ≤ v) && decide (v ≤ 999))) ∧ w' = w := by
  by_cases h1 : 1 ≤ v
  · have d1 : decide (1 ≤ v) = true := by simpa using h1
    rw [d1]
    cases d2 : decide (v ≤ 999) <;>
    · go_enter Try.func92, Try.ntmps92
      go_wp2_with fail
      go_ret
      exact ⟨rfl, rfl⟩
  · have d1 : decide (1 ≤ v) = false := by simpa using h1
    rw [d1]
    go_enter Try.func92, Try.ntmps92
    go_wp2_with fail
    go_ret
    exact ⟨rfl, rfl⟩

end Go.Proofs.Ytfgadegpdknocaa

namespace Go.Proofs.Ytfgadegpdknocaa
open Go.RowKit

set_option maxRecDepth 100000 in
set_option maxHeartbeats 1000000 in
theorem implTab_pos (b off cap : Nat) (xs : List DItem) (w : World) (hn : xs.length ≤ 30) (h : (Lay.sl Lay.tItem).Reads w [.slice (some ⟨b, off, none⟩) xs.length cap] xs) (hbl : b < w.heap.size) :
    Calls Try.prog 114 #[.slice (some ⟨b, off, none⟩) xs.length cap] w fun e w' => e = .returned (.int .i64 (tabFrom none xs)) ∧ Below w.heap.size w w' := by
  generalize hF0 : tabFrom none xs = F0
  have H := hide h
  clear h
  go_enter Try.func114, Try.ntmps114
  go_wp2_with fail
  go_loopw [11] (fun i wr => ∃ k : Nat, k ≤ xs.length ∧ i = .int .i64 k ∧ tabFrom (idAhead xs k) (xs.drop k) = F0 ∧ Below w.heap.size w wr) (fun i _ => xs.length - (intOf i).toNat)
  case atStart => exact ⟨0, Nat.zero_le _, rfl, hF0, Below.refl _ _⟩
  case round =>
    obtain ⟨k, hk, rfl, hF, hB⟩ := hrel
    by_cases hlt : k < xs.length
    · obtain ⟨row, hc, hr⟩ := Lay.row_at (unhide H) hlt
      replace hr := hr.later hB
      obtain ⟨a1, d1, rfl, R1⟩ := open_Item hr
      have c0 : wr.cell? ⟨b, off + k * 2, none⟩ = some (.int .i64 (xs[k]).id) := (hB.cell (p := ⟨b, off + k * 2, none⟩) hbl).trans (hc 0 (by decide))
      have c1 : wr.cell? ⟨b, off + k * 2 + 1, none⟩ = some (.slice a1 (xs[k]).vec.length d1) := (hB.cell (p := ⟨b, off + k * 2 + 1, none⟩) hbl).trans (hc 1 (by decide))
      have HP : Hid (∀ m, k = m + 1 → ∃ z, idAhead xs (m + 1) = some z ∧ wr.cell? ⟨b, off + m * 2, none⟩ = some (.int .i64 z)) := by
        rintro m rfl
        have hm : m < xs.length := by omega
        obtain ⟨row2, hc2, hr2⟩ := Lay.row_at (unhide H) hm
        obtain ⟨a2, d2, rfl, -⟩ := open_Item hr2
        exact ⟨_, idAhead_succ xs m hm, (hB.cell (p := ⟨b, off + m * 2, none⟩) hbl).trans (hc2 0 (by decide))⟩
      rw [tabFrom_step xs k hlt] at hF
      clear hc hr
      generalize hx : xs[k] = x at *
      clear hx
      have hbr : b < wr.heap.size := Nat.lt_of_lt_of_le hbl hB.size
      have nb : Below wr.heap.size wr (wr.alloc (.cells #[.int .i64 x.id, .slice a1 x.vec.length d1] 106)) := (Below.refl _ _).alloc (Nat.le_refl _) _
      have I1 := hide ((Lay.ints_reads R1).later nb)
      have HF := hide hF
      have B1 := hide (hB.trans (nb.mono hB.size))
      clear R1 hF hB nb
      go_wp2_with fail
      refine (implId x.id _).mono ?_
      rintro e w1 ⟨rfl, rfl⟩
      rw [show (decide (1 ≤ x.id) && decide (x.id ≤ 999)) = idB x.id from rfl]
      cases hid : idB x.id with
      | false =>
        have hF := unhide HF
        rw [hid, if_neg (by simp)] at hF
        have HF2 := hide hF
        clear HF hF hid HP
        go_wp2_with fail
        go_ret
        exact ⟨by rw [← unhide HF2]; rfl, unhide B1⟩
      | true =>
        have hF := unhide HF
        rw [hid, if_pos rfl] at hF
        clear HF hid
        have HF := hide hF
        clear hF
        go_wp2_with fail
        refine (implFault _ x.vec _ (unhide I1)).mono ?_
        rintro e w1 ⟨rfl, rfl⟩
        by_cases hv : vecFault x.vec = 0
        · rw [hv]
          have hF := unhide HF
          rw [if_pos hv] at hF
          clear HF I1 hv
          have HF := hide hF
          clear hF
          by_cases hk0 : k = 0
          · subst hk0
            have hF := unhide HF
            rw [idAhead_zero, Option.all_none, if_pos rfl] at hF
            have HF3 := hide hF
            clear HF hF HP
            have g0 : decide ((0 : Int) < 0) = false := by decide
            go_wp2_with fail
            go_quiet (fail)
            all_goals go_wp2_with fail
            all_goals exact ⟨⟨0 + 1, by omega, by go_num, unhide HF3, below_drewN (unhide B1) _⟩, by simp [intOf]; omega⟩
          · obtain ⟨m, rfl⟩ : ∃ m, k = m + 1 := ⟨k - 1, by omega⟩
            obtain ⟨z, e1, p0⟩ := unhide HP m rfl
            have hF := unhide HF
            rw [e1, Option.all_some] at hF
            have HF3 := hide hF
            clear HF hF HP e1 hk0
            have g1 : decide ((0 : Int) < (m : Int) + 1) = true := by simp
            have g4 : IntKind.i64.wrap ((m : Int) + 1 - 1) = (m : Int) := by simp only [IntKind.wrap_i64]; omega
            have g9 : IntKind.i64.wrap (m : Int) = (m : Int) := by simp only [IntKind.wrap_i64]; omega
            have g2 : (m : Int) + 1 - 1 = (m : Int) := by omega
            have g3 : (m : Int) < (xs.length : Int) := by omega
            have g5 : (0 : Int) ≤ (m : Int) := by omega
            cases hq : decide (z < x.id) with
            | true =>
              have hF := unhide HF3
              rw [hq, if_pos rfl] at hF
              have HF4 := hide hF
              have q1 : decide (x.id ≤ z) = false := by simp at hq ⊢; omega
              clear hF HF3 hq
              go_wp2_with fail
              go_quiet (fail)
              all_goals go_wp2_with fail
              all_goals exact ⟨⟨m + 1 + 1, by omega, by go_num, unhide HF4, below_drewN (unhide B1) _⟩, by simp [intOf]; omega⟩
            | false =>
              have hF := unhide HF3
              rw [hq, if_neg (by simp)] at hF
              have HF4 := hide hF
              have q1 : decide (x.id ≤ z) = true := by simp at hq ⊢; omega
              clear hF HF3 hq
              go_wp2_with fail
              go_quiet (fail)
              all_goals go_wp2_with fail
              all_goals go_ret
              all_goals exact ⟨by rw [← unhide HF4]; rfl, below_drewN (unhide B1) _⟩
        · have hF := unhide HF
          rw [if_neg hv] at hF
          have hd : (vecFault x.vec != 0) = true := by simpa using hv
          have HF2 := hide hF
          clear HF hF HP I1 hv
          go_wp2_with fail
          go_ret
          exact ⟨by rw [← unhide HF2]; rfl, unhide B1⟩
    · obtain rfl : k = xs.length := by omega
      rw [List.drop_length] at hF
      have HF := hide hF
      have HB := hide hB
      clear hF hB H
      go_wp2_with fail
      go_ret
      exact ⟨by rw [← unhide HF]; rfl, unhide HB⟩

set_option maxRecDepth 10000 in
/-- TableFault of the program. -/
theorem implTab (v : Value) (xs : List DItem) (w : World) (h : (Lay.sl Lay.tItem).Reads w [v] xs) :
    Calls Try.prog 114 #[v] w fun e w' => e = .returned (.int .i64 (tableFault xs)) ∧ Below w.heap.size w w' := by
  obtain ⟨ao, cap, rfl⟩ := open_sl h
  by_cases hn : xs.length ≤ 30
  · have e : tableFault xs = tabFrom none xs := by unfold tableFault; rw [if_neg (by omega)]
    rw [e]
    by_cases hp : 0 < xs.length
    · obtain ⟨b, off, rfl, hbl⟩ := Lay.sl_addr h hp
      exact implTab_pos b off cap xs w hn h hbl
    · obtain rfl : xs = [] := List.eq_nil_of_length_eq_zero (by omega)
      clear h e hn hp
      go_enter Try.func114, Try.ntmps114
      go_wp2_with fail
      refine wp_loop_rounds 1 ?_
      rw [rounds_succ]
      go_wp2_with fail
      go_ret
      exact ⟨rfl, Below.refl _ _⟩
  · have e : tableFault xs = 2 := by unfold tableFault; rw [if_pos (by omega)]
    rw [e]
    have hd : decide ((30 : Int) < (xs.length : Int)) = true := by simp; omega
    clear h e
    go_enter Try.func114, Try.ntmps114
    go_wp2_with fail
    go_ret
    exact ⟨rfl, Below.refl _ _⟩

end Go.Proofs.Ytfgadegpdknocaa

namespace Go.Proofs.Ytfgadegpdknocaa
open Go.RowKit Go.Maps

def vecR : Value → Option (DataW Unit × List MemPlace)
  | .agg cs => match cs.toList with
    | [.int .i64 a, .int .i64 b, .int .i64 c] => some (vecD [a, b, c], [])
    | _ => none
  | _ => none
theorem vecR_mk (a b c : Int) : vecR (arr3 a b c) = some (vecD [a, b, c], []) := rfl
theorem vecR_inv {v : Value} {z : DataW Unit × List MemPlace} (h : vecR v = some z) : ∃ a b c, v = arr3 a b c ∧ z = (vecD [a, b, c], []) := by
  unfold vecR at h
  split at h
  · rename_i cs
    split at h
    · rename_i a b c he
      cases h
      refine ⟨a, b, c, ?_, rfl⟩
      obtain ⟨l⟩ := cs
      simp only at he
      rw [he]; rfl
    · cases h
  · cases h
theorem keyed64 : Keyed Try.prog 2 := int_keyed Try.underlying2
theorem zeroVec (w : World) : (zeroValue 133).run Try.prog w = .ok (arr3 0 0 0) w := by kernel_rfl
/-- Block b is a map that holds the items xs. -/
def TabAt (w : World) (b n : Nat) (xs : List DItem) : Prop := w.ownsMap Try.prog 2 vecR b n (mapD xs)
theorem TabAt.ext {S : Nat → Prop} {w w' : World} {b n : Nat} {xs : List DItem} (h : TabAt w b n xs) (e : Ext S w w') (hb : ¬ S b) : TabAt w' b n xs := by
  have hlt := World.ownsMap.lt h
  obtain ⟨es, clock, hb', r⟩ := h
  exact ⟨es, clock, (e.block b hlt hb).trans hb', r⟩
theorem TabAt.later {w w' : World} {b n : Nat} {xs : List DItem} (h : TabAt w b n xs) (e : Below w.heap.size w w') : TabAt w' b n xs := h.ext (ext_of_below e nowhere) (fun h => h)
theorem TabAt.lt {w : World} {b n : Nat} {xs : List DItem} (h : TabAt w b n xs) : b < w.heap.size := World.ownsMap.lt h
theorem TabAt.mono {w : World} {b n n' : Nat} {xs : List DItem} (h : TabAt w b n xs) (hn : n ≤ n') : TabAt w b n' xs := World.ownsMap.mono h hn
theorem ext_of_turned {w w' : World} {b : Nat} (h : w.mapTurned w' b) : Ext (fun q => q = b) w w' := by
  have g := h.grown
  obtain ⟨es, clock, es', clock', hb, rfl⟩ := h
  exact ⟨rfl, rfl, rfl, by simp [ChangeMaps.setBlock], fun k hk hn => g.block k hk (fun e => hn (by simpa using e))⟩
theorem key64 {a : Int} (h : (Lit.int .i64 a).wf = true) : keyOf Try.prog 2 (.int .i64 a) = some (.int .i64 a) := keyOf_int_mk Try.underlying2 h
/-- m[id] = vec. -/
theorem TabAt.put {w : World} {b n : Nat} {xs : List DItem} (h : TabAt w b n xs) (hn : n < 1000) {id : Int} (hw : (Lit.int .i64 id).wf = true) (x y z : Int) :
    ∃ w', (Instr.mapUpdate 92 (.map (some b)) (.int .i64 id) (arr3 x y z)).run Try.prog w = .ok () w' ∧ TabAt w' b (n + 1) (putI xs id [x, y, z]) ∧ Ext (fun q => q = b) w w' := by
  obtain ⟨w', h1, h2, h3⟩ := World.ownsMap.store h keyed64 Try.underlying92 (by unfold maxLen; omega) (key64 hw) (vecR_mk x y z)
  rw [put_mapD] at h2
  exact ⟨w', h1, h2, ext_of_turned h3⟩
/-- delete(m, id). -/
theorem TabAt.drop {w : World} {b n : Nat} {xs : List DItem} (h : TabAt w b n xs) {id : Int} (hw : (Lit.int .i64 id).wf = true) (ty : TypeId) :
    ∃ w', (Builtin.delete_ #[92, 2] ty #[.map (some b), .int .i64 id]).run Try.prog w = .ok (.tuple #[]) w' ∧ TabAt w' b n (dropI xs id) ∧ Ext (fun q => q = b) w w' := by
  obtain ⟨w', h1, h2, h3⟩ := World.ownsMap.drop h keyed64 Try.underlying92 (key64 hw) ty
  rw [del_mapD] at h2
  exact ⟨w', h1, h2, ext_of_turned h3⟩
/-- v, ok := m[id], where it is there. -/
theorem TabAt.look {w : World} {b n : Nat} {xs : List DItem} (h : TabAt w b n xs) (hr : Rising xs) {id : Int} (hw : (Lit.int .i64 id).wf = true) {x : DItem} (hx : x ∈ xs) (hid : x.id = id) :
    ∃ p q r, x.vec = [p, q, r] ∧ (Instr.lookup 92 (.map (some b)) (.int .i64 id) true).run Try.prog w = .ok (.tuple #[arr3 p q r, .bool true]) w ∧ (Instr.lookup 92 (.map (some b)) (.int .i64 id) false).run Try.prog w = .ok (arr3 p q r) w := by
  subst hid
  have hh : hasI xs x.id = true := by simp only [hasI, List.any_eq_true]; exact ⟨x, hx, by simp⟩
  obtain ⟨v, ps, hrun, hv⟩ := World.ownsMap.look_ok h keyed64 Try.underlying92 (zeroVec w) (vecR_mk 0 0 0) (key64 hw)
  obtain ⟨v2, ps2, hrun2, hv2⟩ := World.ownsMap.lookup h keyed64 Try.underlying92 (zeroVec w) (vecR_mk 0 0 0) (key64 hw)
  rw [at_mapD hr hx] at hv hv2
  obtain ⟨p, q, r, rfl, e⟩ := vecR_inv hv
  obtain ⟨p2, q2, r2, rfl, e2⟩ := vecR_inv hv2
  rw [has_mapD, hh] at hrun
  have k1 : x.vec = [p, q, r] := vecD_inj (congrArg Prod.fst e)
  have k2 : x.vec = [p2, q2, r2] := vecD_inj (congrArg Prod.fst e2)
  rw [k1] at k2
  simp only [List.cons.injEq, and_true] at k2
  obtain ⟨rfl, rfl, rfl⟩ := k2
  exact ⟨p, q, r, k1, hrun, hrun2⟩
theorem TabAt.miss {w : World} {b n : Nat} {xs : List DItem} (h : TabAt w b n xs) {id : Int} (hw : (Lit.int .i64 id).wf = true) (hi : hasI xs id = false) :
    ∃ p q r, (Instr.lookup 92 (.map (some b)) (.int .i64 id) true).run Try.prog w = .ok (.tuple #[arr3 p q r, .bool false]) w := by
  obtain ⟨v, ps, hrun, hv⟩ := World.ownsMap.look_ok h keyed64 Try.underlying92 (zeroVec w) (vecR_mk 0 0 0) (key64 hw)
  have hh : Maps.has (mapD xs) (.int .i64 id) = false := by rw [has_mapD]; exact hi
  rw [Maps.atKey_of_not_has hh] at hv
  obtain ⟨p, q, r, rfl, e⟩ := vecR_inv hv
  rw [hh] at hrun
  exact ⟨p, q, r, hrun⟩
theorem TabAt.len {w : World} {b n : Nat} {xs : List DItem} (h : TabAt w b n xs) (ty : TypeId) : (Builtin.len_ #[92] ty #[.map (some b)]).run Try.prog w = .ok (.int .i64 xs.length) w := by
  have := World.ownsMap.len h Try.underlying92 ty
  rwa [size_mapD] at this
theorem tabAt_new (w : World) : TabAt (w.alloc (.map #[] 0)) w.heap.size 0 [] := World.ownsMap_made w _ _ _

end Go.Proofs.Ytfgadegpdknocaa

namespace Go.Proofs.Ytfgadegpdknocaa
open Go.RowKit

theorem vec3 {zs : List Int} (h : vecFault zs = 0) : ∃ p q r, zs = [p, q, r] := by
  have hl := (vecFault_zero h).1
  match zs, hl with
  | [p, q, r], _ => exact ⟨p, q, r, rfl⟩
theorem Ext.drew1 {S : Nat → Prop} {a b : World} (h : Ext S a b) : Ext S a b.drew := ⟨h.os, h.tape, h.output, h.size, h.block⟩

set_option maxRecDepth 10000 in
theorem tableFrom_bad (v : Value) (xs : List DItem) (w : World) (h : (Lay.sl Lay.tItem).Reads w [v] xs) (hf : tableFault xs ≠ 0) :
    Calls Try.prog 101 #[v] w fun e w' => e = .returned (.tuple #[.map none, .int .i64 (tableFault xs)]) ∧ Below w.heap.size w w' := by
  have L := hide (implTab v xs w h)
  obtain ⟨ao, cap, rfl⟩ := open_sl h
  have hd : (tableFault xs != 0) = true := by simpa using hf
  clear h hf
  go_enter Try.func101, Try.ntmps101
  go_wp2_with fail
  refine (unhide L).mono ?_
  rintro e w1 ⟨rfl, hb⟩
  have HB := hide hb
  clear hb L
  go_wp2_with fail
  refine bodyPost_ret (v := .tuple #[.map none, .int .i64 (tableFault xs)]) (by simp [results, Try.results101, go_sem]) rfl ?_
  exact ⟨rfl, unhide HB⟩

set_option maxRecDepth 10000 in
set_option maxHeartbeats 1000000 in
theorem tableFrom_zero (ao : Option Addr) (cap : Nat) (w : World) (h : (Lay.sl Lay.tItem).Reads w [.slice ao 0 cap] []) :
    Calls Try.prog 101 #[.slice ao 0 cap] w fun e w' => (∃ b, e = .returned (.tuple #[.map (some b), .int .i64 0]) ∧ w.heap.size ≤ b ∧ TabAt w' b 30 []) ∧ Below w.heap.size w w' := by
  have L := hide (implTab _ [] w h)
  clear h
  rw [show tableFault [] = 0 from rfl] at L
  have hmk : ∀ W : World, (Instr.makeMap 92 (some (.int .i64 0))).run Try.prog W = .ok (.map (some W.heap.size)) (W.alloc (.map #[] 0)) := fun W => by kernel_rfl
  go_enter Try.func101, Try.ntmps101
  go_wp2_with fail
  refine (unhide L).mono ?_
  rintro e w1 ⟨rfl, hb⟩
  have hz := hb.size
  have HT := hide ((tabAt_new w1).mono (Nat.zero_le 30))
  have HB := hide (hb.alloc hb.size (.map #[] 0))
  clear hb L
  go_wp2_with fail
  refine wp_loop_rounds 1 ?_
  rw [rounds_succ]
  go_wp2_with fail
  refine bodyPost_ret (v := .tuple #[.map (some w1.heap.size), .int .i64 0]) (by simp [results, Try.results101, go_sem]) rfl ?_
  exact ⟨⟨_, rfl, hz, unhide HT⟩, unhide HB⟩

set_option maxRecDepth 100000 in
set_option maxHeartbeats 4000000 in
theorem tableFrom_pos (b off cap : Nat) (xs : List DItem) (w : World) (h : (Lay.sl Lay.tItem).Reads w [.slice (some ⟨b, off, none⟩) xs.length cap] xs) (hbl : b < w.heap.size) (hf : tableFault xs = 0) :
    Calls Try.prog 101 #[.slice (some ⟨b, off, none⟩) xs.length cap] w fun e w' => (∃ q, e = .returned (.tuple #[.map (some q), .int .i64 0]) ∧ w.heap.size ≤ q ∧ TabAt w' q 30 xs) ∧ Below w.heap.size w w' := by
  have L := hide (implTab _ xs w h)
  rw [hf] at L
  obtain ⟨hlen, hall, hris⟩ := tableFault_zero hf
  have HA := hide hall
  have HI := hide hris
  have H := hide h
  clear h hall hris hf
  have hmk : ∀ W : World, (Instr.makeMap 92 (some (.int .i64 xs.length))).run Try.prog W = .ok (.map (some W.heap.size)) (W.alloc (.map #[] 0)) := fun W => by kernel_rfl
  go_enter Try.func101, Try.ntmps101
  go_wp2_with fail
  refine (unhide L).mono ?_
  rintro e w1 ⟨rfl, hb⟩
  have hz := hb.size
  have HT := hide (tabAt_new w1)
  have HB := hide (hb.alloc hb.size (.map #[] 0))
  clear hb L
  go_wp2_with fail
  clear hmk
  generalize w1.heap.size = B at *
  go_loopw [18] (fun i wr => ∃ k : Nat, k ≤ xs.length ∧ i = .int .i64 k ∧ TabAt wr B k (xs.take k) ∧ Below w.heap.size w wr) (fun i _ => xs.length - (intOf i).toNat)
  case atStart => exact ⟨0, Nat.zero_le _, rfl, unhide HT, unhide HB⟩
  case round =>
    obtain ⟨k, hk, rfl, hT, hB⟩ := hrel
    clear HT HB
    by_cases hlt : k < xs.length
    · obtain ⟨row, hc, hr⟩ := Lay.row_at (unhide H) hlt
      replace hr := hr.later hB
      obtain ⟨a1, d1, rfl, R1⟩ := open_Item hr
      have c0 : wr.cell? ⟨b, off + k * 2, none⟩ = some (.int .i64 (xs[k]).id) := (hB.cell (p := ⟨b, off + k * 2, none⟩) hbl).trans (hc 0 (by decide))
      have c1 : wr.cell? ⟨b, off + k * 2 + 1, none⟩ = some (.slice a1 (xs[k]).vec.length d1) := (hB.cell (p := ⟨b, off + k * 2 + 1, none⟩) hbl).trans (hc 1 (by decide))
      obtain ⟨hid, hvf⟩ := unhide HA xs[k] (List.getElem_mem hlt)
      have HTK : Hid (putI (xs.take k) xs[k].id xs[k].vec = xs.take (k + 1)) := by
        show putI (xs.take k) xs[k].id xs[k].vec = xs.take (k + 1)
        rw [putI_last _ xs[k] (rising_take (unhide HI) hlt)]
        exact (List.take_succ_eq_append_getElem hlt).symm
      clear hc hr
      generalize hx : xs[k] = x at *
      clear hx
      obtain ⟨p, q, r, hv3⟩ := vec3 hvf
      have hbr : b < wr.heap.size := Nat.lt_of_lt_of_le hbl hB.size
      have hBl := hT.lt
      have nb : Below wr.heap.size wr (wr.alloc (.cells #[.int .i64 x.id, .slice a1 x.vec.length d1] 106)) := (Below.refl _ _).alloc (Nat.le_refl _) _
      have bI : Box wr.heap.size #[.int .i64 x.id, .slice a1 x.vec.length d1] 106 (wr.alloc (.cells #[.int .i64 x.id, .slice a1 x.vec.length d1] 106)) wr.heap.size := newBox (Nat.le_refl _)
      have I1 := (Lay.ints_reads R1).later nb
      replace I1 : IsInts (wr.alloc (.cells #[.int .i64 x.id, .slice a1 x.vec.length d1] 106)) (.slice a1 x.vec.length d1) [p, q, r] := by rw [← hv3]; exact I1
      rw [hv3] at hvf HTK
      replace hT := hT.later nb
      replace hB := hB.trans (nb.mono hB.size)
      have HHT := hide hT
      have HB := hide hB
      have HI1 := hide I1
      have HBI := hide bI
      have HV := hide hvf
      have hwf := id_wf hid
      have HW := hide hwf
      clear R1 hT hB nb I1 bI hvf hid hwf hv3
      go_wp2_with fail
      clear c0 c1
      have hbI := unhide HBI
      have hhT := unhide HHT
      have hI1 := unhide HI1
      clear HBI HHT HI1
      generalize hW0 : wr.alloc (.cells #[.int .i64 x.id, .slice a1 x.vec.length d1] 106) = W0 at *
      clear hW0
      have hI0 : wr.heap.size < W0.heap.size := hbI.lt
      have hDT : TabAt W0.drew B k (xs.take k) := hhT
      have hDI : IsInts W0.drew (.slice a1 x.vec.length d1) [p, q, r] := hI1
      refine wp_region_noPanic ?_
      refine wp_region_held_drew (S := fun w' => Ext (fun c => c = B) W0 w') (by kernel_rfl) (Ext.refl _ _).drew1 (fun hHeld => ?_)
      generalize W0.drew = wD at hHeld hDT hDI ⊢
      refine wpAnyH_take (i := 0) (oi := { dst := some 23, op := Go.Op.move (Go.Operand.tmp 5), type := 92, pos := "l04_table.go:49", after := #[], guard := none }) (v := ?v0) rfl (by kernel_rfl) (by kernel_rfl) (by kernel_rfl) (fun _ _ _ h => h) (Or.inl ⟨by rfl, ?h0⟩) hHeld ?r0
      case h0 =>
        intro wS hSw
        (try dsimp only at hSw)
        go_simp
        try with_reducible rfl
      case r0 =>
      simp only [Act.put, List.setIfInBounds_toArray, List.set_cons_zero, List.set_cons_succ]
      refine wpAnyH_take (i := 1) (oi := { dst := some 24, op := Go.Op.fieldAddr 106 (Go.Operand.tmp 7) 0, type := 0, pos := "l04_table.go:49", after := #[], guard := none }) (v := ?v1) rfl (by kernel_rfl) (by kernel_rfl) (by kernel_rfl) (fun _ _ _ h => h) (Or.inl ⟨by rfl, ?h1⟩) hHeld ?r1
      case h1 =>
        intro wS hSw
        (try dsimp only at hSw)
        go_simp
        try with_reducible rfl
      case r1 =>
      simp only [Act.put, List.setIfInBounds_toArray, List.set_cons_zero, List.set_cons_succ]
      refine wpAnyH_take (i := 2) (oi := { dst := some 25, op := Go.Op.load 2 (Go.Operand.tmp 24), type := 2, pos := "l04_table.go:49", after := #[{ on := 1, ground := Go.Ground.data }], guard := none }) (v := ?v2) rfl (by kernel_rfl) (by kernel_rfl) (by kernel_rfl) (fun _ _ _ h => h) (Or.inl ⟨by rfl, ?h2⟩) hHeld ?r2
      case h2 =>
        intro wS hSw
        have bx := hbI.ext hSw (by omega)
        have y0 := bx.at 0 _ rfl
        have y1 := bx.at 1 _ rfl
        clear bx hSw
        (try dsimp only at hSw)
        go_simp
        try with_reducible rfl
      case r2 =>
      simp only [Act.put, List.setIfInBounds_toArray, List.set_cons_zero, List.set_cons_succ]
      refine wpAnyH_take (i := 3) (oi := { dst := some 26, op := Go.Op.fieldAddr 106 (Go.Operand.tmp 7) 1, type := 0, pos := "l04_table.go:49", after := #[], guard := none }) (v := ?v3) rfl (by kernel_rfl) (by kernel_rfl) (by kernel_rfl) (fun _ _ _ h => h) (Or.inl ⟨by rfl, ?h3⟩) hHeld ?r3
      case h3 =>
        intro wS hSw
        (try dsimp only at hSw)
        go_simp
        try with_reducible rfl
      case r3 =>
      simp only [Act.put, List.setIfInBounds_toArray, List.set_cons_zero, List.set_cons_succ]
      refine wpAnyH_take (i := 4) (oi := { dst := some 27, op := Go.Op.load 51 (Go.Operand.tmp 26), type := 51, pos := "l04_table.go:49", after := #[{ on := 3, ground := Go.Ground.data }], guard := none }) (v := ?v4) rfl (by kernel_rfl) (by kernel_rfl) (by kernel_rfl) (fun _ _ _ h => h) (Or.inl ⟨by rfl, ?h4⟩) hHeld ?r4
      case h4 =>
        intro wS hSw
        have bx := hbI.ext hSw (by omega)
        have y0 := bx.at 0 _ rfl
        have y1 := bx.at 1 _ rfl
        clear bx hSw
        (try dsimp only at hSw)
        go_simp
        try with_reducible rfl
      case r4 =>
      simp only [Act.put, List.setIfInBounds_toArray, List.set_cons_zero, List.set_cons_succ]
      refine wpAnyH_ready (rs := [5]) (by kernel_rfl) (by simp) ?_
      refine AllReadyH.cons (o := { dst := some 28, op := Go.Op.call { callee := Go.Callee.value (Go.Operand.func 93), args := #[Go.Operand.tmp 27], argTypes := #[51] }, type := 134, pos := "l04_table.go:49", after := #[{ on := 4, ground := Go.Ground.data }], guard := none }) rfl (fun K hK => ?_) AllReadyH.nil
      go_simp
      go_at_call 93
      refine (vectorOf_ok _ p q r _ hDI (unhide HV)).mono ?_
      rintro e w3 ⟨rfl, hbw⟩
      have hT3 := hDT.later hbw
      try go_wp2_with fail
      refine hK.out _ _ (hHeld.trans (ext_of_below hbw _)) (fun hHeld => ?_)
      clear hK K
      try simp only [Act.put, List.setIfInBounds_toArray, List.set_cons_zero, List.set_cons_succ]
      refine wpAnyH_take (i := 6) (oi := { dst := some 22, op := Go.Op.move (Go.Operand.tmp 28), type := 134, pos := "l04_table.go:49", after := #[{ on := 5, ground := Go.Ground.data }], guard := none }) (v := ?v6) rfl (by kernel_rfl) (by kernel_rfl) (by kernel_rfl) (fun _ _ _ h => h) (Or.inl ⟨by rfl, ?h6⟩) hHeld ?r6
      case h6 =>
        intro wS hSw
        (try dsimp only at hSw)
        go_simp
        try with_reducible rfl
      case r6 =>
      simp only [Act.put, List.setIfInBounds_toArray, List.set_cons_zero, List.set_cons_succ]
      refine wpAnyH_take (i := 7) (oi := { dst := some 29, op := Go.Op.extract (Go.Operand.tmp 22) 0, type := 133, pos := "l04_table.go:49", after := #[{ on := 6, ground := Go.Ground.data }], guard := none }) (v := ?v7) rfl (by kernel_rfl) (by kernel_rfl) (by kernel_rfl) (fun _ _ _ h => h) (Or.inl ⟨by rfl, ?h7⟩) hHeld ?r7
      case h7 =>
        intro wS hSw
        (try dsimp only at hSw)
        go_simp
        try with_reducible rfl
      case r7 =>
      simp only [Act.put, List.setIfInBounds_toArray, List.set_cons_zero, List.set_cons_succ]
      refine wpAnyH_take (i := 8) (oi := { dst := some 30, op := Go.Op.extract (Go.Operand.tmp 22) 1, type := 2, pos := "l04_table.go:49", after := #[{ on := 6, ground := Go.Ground.data }, { on := 9, ground := Go.Ground.gcOnly Go.Departure.lateStores }], guard := none }) (v := ?v8) rfl (by kernel_rfl) (by kernel_rfl) (by kernel_rfl) (fun _ _ _ h => h) (Or.inl ⟨by rfl, ?h8⟩) hHeld ?r8
      case h8 =>
        intro wS hSw
        (try dsimp only at hSw)
        go_simp
        try with_reducible rfl
      case r8 =>
      simp only [Act.put, List.setIfInBounds_toArray, List.set_cons_zero, List.set_cons_succ]
      refine wpAnyH_ready (rs := [9]) (by kernel_rfl) (by simp) ?_
      refine AllReadyH.cons (o := { dst := none, op := Go.Op.mapUpdate 92 (Go.Operand.tmp 23) (Go.Operand.tmp 25) (Go.Operand.tmp 29), type := 0, pos := "l04_table.go:49", after := #[{ on := 0, ground := Go.Ground.data }, { on := 2, ground := Go.Ground.data }, { on := 7, ground := Go.Ground.data }, { on := 5, ground := Go.Ground.chain }, { on := 0, ground := Go.Ground.phase }, { on := 1, ground := Go.Ground.phase }, { on := 2, ground := Go.Ground.phase }, { on := 3, ground := Go.Ground.phase }, { on := 4, ground := Go.Ground.phase }, { on := 5, ground := Go.Ground.phase }, { on := 6, ground := Go.Ground.phase }, { on := 7, ground := Go.Ground.phase }, { on := 8, ground := Go.Ground.textOnly Go.Departure.lateStores }], guard := none }) rfl (fun K hK => ?_) AllReadyH.nil
      obtain ⟨w5, hrun, hT5, hE5⟩ := hT3.put (by omega) (unhide HW) p q r
      go_simp
      try simp only [hrun]
      try go_simp
      refine hK.out _ _ (hHeld.trans hE5) (fun hHeld => ?_)
      clear hK K
      try simp only [Act.put, List.setIfInBounds_toArray, List.set_cons_zero, List.set_cons_succ]
      refine wpAnyH_done (by kernel_rfl) ?_ _
      refine NoPanic.normal ?_
      have HT5 := hide hT5
      have HE5 := hide ((unhide HB).trans (hHeld.below (unhide HB).size (fun c hc e => by omega)))
      clear hHeld hT5 HB
      go_wp2_with fail
      go_roundw
      case rel => exact ⟨k + 1, by omega, by go_num, by rw [← unhide HTK]; exact unhide HT5, unhide HE5⟩
      case measure => simp [intOf]; omega
    · obtain rfl : k = xs.length := by omega
      rw [List.take_length] at hT
      have HT := hide (hT.mono hlen)
      have HB := hide hB
      clear hT hB H
      go_wp2_with fail
      refine bodyPost_ret (v := .tuple #[.map (some B), .int .i64 0]) (by simp [results, Try.results101, go_sem]) rfl ?_
      exact ⟨⟨_, rfl, hz, unhide HT⟩, unhide HB⟩

/-- tableFrom of a right table. -/
theorem tableFrom_ok (v : Value) (xs : List DItem) (w : World) (h : (Lay.sl Lay.tItem).Reads w [v] xs) (hf : tableFault xs = 0) :
    Calls Try.prog 101 #[v] w fun e w' => (∃ q, e = .returned (.tuple #[.map (some q), .int .i64 0]) ∧ w.heap.size ≤ q ∧ TabAt w' q 30 xs) ∧ Below w.heap.size w w' := by
  obtain ⟨ao, cap, rfl⟩ := open_sl h
  by_cases hp : 0 < xs.length
  · obtain ⟨b, off, rfl, hbl⟩ := Lay.sl_addr h hp
    exact tableFrom_pos b off cap xs w h hbl hf
  · obtain rfl : xs = [] := List.eq_nil_of_length_eq_zero (by omega)
    exact tableFrom_zero ao cap w h

end Go.Proofs.Ytfgadegpdknocaa
