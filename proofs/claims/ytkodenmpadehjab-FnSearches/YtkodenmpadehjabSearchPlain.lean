/-
  SearchTable in plain words; hits as data.
  No condition.
-/
import Derived.Test.YtkodenmpadehjabTabGround
import Derived.Test.YtkodenmpadehjabGround
import Derived.Test.YtkodenmpadehjabHitGround
import Derived.Test.YtkodenmpadehjabHitOpsB
import Derived.Test.YtkodenmpadehjabModelSum
namespace Go.Proofs.Ytkodenmpadehjab
open Go.RowKit

def hitOf (q : List Int) (x : DItem) : DHit := ⟨x.id, score3 q x.vec⟩
def pairH (h : DHit) : Int × Int := (h.id, h.score)
def dhit (p : Int × Int) : DHit := ⟨p.1, p.2⟩
def hitsL (xs : List DItem) (q : List Int) : List DHit := xs.map (hitOf q)
def searchR (xs : List DItem) (q : List Int) (k : Int) : DHitsResult :=
  if tableFault xs = 0 then (if vecFault q = 0 then (if kB k then ⟨0, (best k.toNat ((hitsL xs q).map pairH)).map dhit⟩ else ⟨3, []⟩) else ⟨vecFault q, []⟩) else ⟨tableFault xs, []⟩
theorem dhit_pair (h : DHit) : dhit (pairH h) = h := rfl
theorem cells2_map (hs : List DHit) : cells2 (hs.map pairH) = (hs.map fun h => [Value.int .i64 h.id, .int .i64 h.score]).flatten := by
  induction hs with
  | nil => rfl
  | cons h hs ih =>
    rw [List.map_cons, List.map_cons, List.flatten_cons, ← ih]
    rfl
/-- Rows of hits. -/
theorem grow_hits {w : World} {base T : Nat} {v : Value} {rows : List (List Value)} {hs : List DHit} {bls : List (List Nat)} (h : Grow Lay.tHit w base T v rows hs bls) : w.ownsRow base T 2 v (hs.map pairH).length (cells2 (hs.map pairH)) ∧ ∀ p ∈ hs.map pairH, Wf2 p := by
  have hrow : ∀ j (h1 : j < hs.length) (h2 : j < rows.length), rows[j] = [.int .i64 hs[j].id, .int .i64 hs[j].score] ∧ (Lit.int .i64 hs[j].id).wf = true ∧ (Lit.int .i64 hs[j].score).wf = true := by
    intro j h1 h2
    obtain ⟨e, -, w0, w1⟩ := lies_Hit.1 (h.lies j h1 h2 (by have := h.nbls; omega))
    exact ⟨e, w0, w1⟩
  have e : rows = hs.map fun h => [Value.int .i64 h.id, .int .i64 h.score] := by
    apply List.ext_getElem (by simp [h.nrows])
    intro j h1 h2
    rw [(hrow j (by have := h.nrows; omega) h1).1]
    simp
  refine ⟨?_, ?_⟩
  · rw [List.length_map, cells2_map, ← e]
    exact h.own
  · intro p hp
    obtain ⟨d, hd, rfl⟩ := List.mem_map.1 hp
    obtain ⟨j, hj, rfl⟩ := List.getElem_of_mem hd
    exact (hrow j hj (by have := h.nrows; omega)).2
/-- A row of hits of the call's own, as data. -/
theorem own_hits {w : World} {base T : Nat} {v : Value} {ps : List (Int × Int)} (h : w.ownsRow base T 2 v ps.length (cells2 ps)) (hw : ∀ p ∈ ps, Wf2 p) (hn : ps.length ≤ 9223372036854775807) : (Lay.sl Lay.tHit).OwnIn w [v] (ps.map dhit) base w.heap.size := by
  have hl : (ps.map dhit).length = ps.length := List.length_map _
  have e : cells2 ps = ((ps.map dhit).map fun h => [Value.int .i64 h.id, .int .i64 h.score]).flatten := by
    rw [← cells2_map, List.map_map]
    congr 1
    exact (List.map_id ps).symm
  have G : Grow Lay.tHit w base T v ((ps.map dhit).map fun h => [Value.int .i64 h.id, .int .i64 h.score]) (ps.map dhit) (List.replicate ps.length []) := by
    refine ⟨by rw [hl, ← e]; exact h, by simp, by simp, fun j h1 h2 h3 => ?_, by simp⟩
    have hj : j < ps.length := by simpa using h1
    have hq := hw ps[j] (List.getElem_mem hj)
    refine lies_Hit.2 ⟨by simp, by simp, ?_, ?_⟩
    · simpa [dhit] using hq.1
    · simpa [dhit] using hq.2
  exact G.toOwn (by rw [hl]; exact hn) (by simp) (by simp)
theorem score3_bd {q v : List Int} (h1 : vecFault q = 0) (h2 : vecFault v = 0) : 0 ≤ score3 q v ∧ score3 q v ≤ 12000000 := by
  obtain ⟨hl, -⟩ := vecFault_zero h1
  obtain ⟨hl2, -⟩ := vecFault_zero h2
  match q, hl, v, hl2 with
  | [x, y, z], _, [a, b, c], _ =>
    obtain ⟨⟨x1, x2⟩, ⟨y1, y2⟩, ⟨z1, z2⟩⟩ := fault3 h1
    obtain ⟨⟨a1, a2⟩, ⟨b1, b2⟩, ⟨c1, c2⟩⟩ := fault3 h2
    have m1 := sq_bd x a x1 x2 a1 a2
    have m2 := sq_bd y b y1 y2 b1 b2
    have m3 := sq_bd z c z1 z2 c1 c2
    show 0 ≤ (x - a) * (x - a) + (y - b) * (y - b) + (z - c) * (z - c) ∧ (x - a) * (x - a) + (y - b) * (y - b) + (z - c) * (z - c) ≤ 12000000
    omega
/-- The hits of a right table are right, and few. -/
theorem hits_right {xs : List DItem} {q : List Int} (h : tableFault xs = 0) (hq : vecFault q = 0) : ((hitsL xs q).map pairH).length ≤ 30 ∧ ∀ p ∈ (hitsL xs q).map pairH, oneB p = true := by
  obtain ⟨hl, ha, -⟩ := tableFault_zero h
  refine ⟨by simp [hitsL]; exact hl, fun p hp => ?_⟩
  obtain ⟨d, hd, rfl⟩ := List.mem_map.1 hp
  obtain ⟨x, hx, rfl⟩ := List.mem_map.1 hd
  obtain ⟨hi, hv⟩ := ha x hx
  have hs := score3_bd hq hv
  simp only [idB, Bool.and_eq_true, decide_eq_true_eq] at hi
  rw [show pairH (hitOf q x) = (x.id, score3 q x.vec) from rfl]
  simp only [oneB, Bool.and_eq_true, decide_eq_true_eq]
  omega
theorem best_code {xs : List DItem} {q : List Int} {k : Int} (h : tableFault xs = 0) (hq : vecFault q = 0) (hk : kB k = true) : bestCode ((hitsL xs q).map pairH) k = 0 ∧ bestList ((hitsL xs q).map pairH) k = best k.toNat ((hitsL xs q).map pairH) := by
  obtain ⟨h1, h2⟩ := hits_right h hq
  have e : bestCode ((hitsL xs q).map pairH) k = 0 := by
    rw [bestCode, hk, if_pos rfl, if_neg (by omega), if_pos (List.all_eq_true.2 h2)]
  exact ⟨e, by rw [bestList, if_pos e]⟩
theorem own_hitsR {w : World} {c : Int} {v : Value} {hs : List DHit} {lo hi : Nat} (hc : (Lit.int .i64 c).wf = true) (h : (Lay.sl Lay.tHit).OwnIn w [v] hs lo hi) : Lay.tHitsResult.OwnIn w [.int .i64 c, v] ⟨c, hs⟩ lo hi := by
  obtain ⟨bl, ⟨l, n, f⟩, i⟩ := h
  exact ⟨bl, ⟨⟨[.int .i64 c], [v], [], bl, rfl, by simp, ⟨rfl, hc, rfl⟩, l⟩, n, f⟩, i⟩
theorem own_codeHits {w : World} {c : Int} {lo hi : Nat} (hc : (Lit.int .i64 c).wf = true) : Lay.tHitsResult.OwnIn w [.int .i64 c, .slice none 0 0] ⟨c, []⟩ lo hi := own_hitsR hc ⟨[], ⟨⟨none, 0, rfl, by simp, Or.inl ⟨rfl, rfl⟩⟩, by simp, by simp⟩, by simp⟩
theorem vec3q {zs : List Int} (h : vecFault zs = 0) : ∃ p q r, zs = [p, q, r] := by
  have hl := (vecFault_zero h).1
  match zs, hl with
  | [p, q, r], _ => exact ⟨p, q, r, rfl⟩
theorem best_wf {ps : List (Int × Int)} {k : Nat} (h : ∀ p ∈ ps, Wf2 p) : ∀ p ∈ best k ps, Wf2 p := fun p hp => h p (best_mem hp)
theorem oneB_wf {p : Int × Int} (h : oneB p = true) : Wf2 p := by
  simp only [oneB, Bool.and_eq_true, decide_eq_true_eq] at h
  exact ⟨wf_of_bd (by omega), wf_of_bd (by omega)⟩

end Go.Proofs.Ytkodenmpadehjab
