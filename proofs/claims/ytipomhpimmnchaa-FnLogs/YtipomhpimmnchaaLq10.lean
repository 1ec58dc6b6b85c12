/-
  Texts of this proof in one: WsGrow, ImplInts, ImplClone, ImplUnpack, ImplReadLog.
  Their conditions stand in their theorems.
-/
import Derived.Test.YtipomhpimmnchaaLq01
import Derived.Test.YtipomhpimmnchaaLq03
import Derived.Test.YtipomhpimmnchaaLq07
import Derived.Test.YtipomhpimmnchaaLq05
import Derived.Test.YtipomhpimmnchaaChecked
import Derived.BigQuiet
import Derived.Deep.QuietTactic
import Derived.WalkSmall
import Derived.Test.YtipomhpimmnchaaLq09
import Derived.Test.YtipomhpimmnchaaLq06
import Derived.Deep.RegionHeld3

namespace Go.Proofs.Ytipomhpimmnchaa
open Go.RowKit

/-- A block of cells that may be written. -/
def SoftB (W : World) (c : Nat) : Prop := (∃ o : Obj, W.heap[c]? = some o ∧ o.isCells = true) ∧ ∀ o, W.frozen? ⟨c, o, none⟩ = false
theorem SoftB.keep {W W' : World} {c : Nat} (h : SoftB W c) (hk : W'.heap[c]? = W.heap[c]?) : SoftB W' c := by
  obtain ⟨⟨o, h1, h2⟩, h3⟩ := h
  exact ⟨⟨o, hk.trans h1, h2⟩, fun o => (frozen_of_heap hk o).trans (h3 o)⟩
theorem cells_of_cell {W : World} {b o : Nat} {v : Value} (h : W.cell? ⟨b, o, none⟩ = some v) : ∃ ob : Obj, W.heap[b]? = some ob ∧ ob.isCells = true := by
  unfold World.cell? at h
  simp only at h
  cases hb : W.heap[b]? with
  | none => rw [hb] at h; simp at h
  | some ob =>
    rw [hb] at h
    cases ob with
    | cells cs T fr => exact ⟨_, rfl, rfl⟩
    | _ => simp at h
theorem ints_soft {w : World} {v : Value} {zs : List Int} {bl : List Nat} (h : (Lay.sl Lay.int).Own w [v] zs bl) : ∃ bl', (Lay.sl Lay.int).lies w [v] zs bl' ∧ bl'.Nodup ∧ ∀ b ∈ bl', b ∈ bl ∧ SoftB w b := by
  obtain ⟨hl, hd, hf⟩ := h
  obtain ⟨ao, cap, h1, h2, h3, h4⟩ := Lay.lies_ints.1 hl
  by_cases h0 : zs = []
  · exact ⟨[], Lay.lies_ints.2 ⟨ao, cap, h1, h2, h3, Or.inl ⟨h0, rfl⟩⟩, by simp, by simp⟩
  · rcases h4 with ⟨h5, -⟩ | ⟨b, off, ha, hb, rfl, hc⟩
    · exact absurd h5 h0
    · refine ⟨[b], hl, hd, fun c hcc => ⟨hcc, ?_⟩⟩
      rw [List.mem_singleton.1 hcc]
      exact ⟨cells_of_cell (hc 0 (List.length_pos_iff.2 h0)), hf b (by simp)⟩
theorem write_soft {w : World} {cs : List Value} {x : DWrite} {lo hi : Nat} (h : Lay.tWrite.OwnIn w cs x lo hi) : ∃ bl, Lay.tWrite.lies w cs x bl ∧ bl.Nodup ∧ ∀ b ∈ bl, (lo ≤ b ∧ b < hi) ∧ SoftB w b := by
  obtain ⟨bl, ⟨hl, hd, hf⟩, hr⟩ := h
  obtain ⟨a2, d2, b2, rfl, rfl, q1, q2, q3, q4, q5⟩ := lies_Write.1 hl
  obtain ⟨bl', k1, k2, k3⟩ := ints_soft ⟨q3, hd, hf⟩
  exact ⟨bl', lies_Write.2 ⟨a2, d2, bl', rfl, rfl, q1, q2, k1, q4, q5⟩, k2, fun b hb => ⟨hr b (k3 b hb).1, (k3 b hb).2⟩⟩

/-- A row of writes of the call's own. -/
def Ws (W : World) (base : Nat) (v : Value) (xs : List DWrite) : Prop := ∃ rows bls, Grow Lay.tWrite W base 58 v rows xs bls ∧ bls.flatten.Nodup ∧ ∀ c ∈ bls.flatten, base ≤ c ∧ SoftB W c
theorem Ws.nil (W : World) (base : Nat) : Ws W base (.slice none 0 0) [] := ⟨[], [], Grow.nil (World.ownsRow_nil _ _ _ _), by simp, by simp⟩
theorem Ws.own {W : World} {base : Nat} {v : Value} {xs : List DWrite} (h : Ws W base v xs) (hn : xs.length ≤ 9223372036854775807) : (Lay.sl Lay.tWrite).OwnIn W [v] xs base W.heap.size := by
  obtain ⟨rows, bls, hG, hd, hs⟩ := h
  exact hG.toOwn hn hd fun c hc => ⟨(hs c hc).1, (hs c hc).2.2⟩
theorem Ws.keep {W W' : World} {base : Nat} {v : Value} {xs : List DWrite} (h : Ws W base v xs) (hk : ∀ c (o : Obj), base ≤ c → W.heap[c]? = some o → o.isCells = true → W'.heap[c]? = W.heap[c]?) : Ws W' base v xs := by
  obtain ⟨rows, bls, hG, hd, hs⟩ := h
  have hb : ∀ c ∈ bls.flatten, W'.heap[c]? = W.heap[c]? := fun c hc => by
    obtain ⟨h1, ⟨o, h2, h3⟩, -⟩ := hs c hc
    exact hk c o h1 h2 h3
  refine ⟨rows, bls, hG.kept ?_ hb, hd, fun c hc => ⟨(hs c hc).1, (hs c hc).2.keep (hb c hc)⟩⟩
  obtain ⟨h1, h2⟩ := hG.own
  refine ⟨h1, ?_⟩
  rcases h2 with h2 | ⟨gb, cap', cur, hv, hg, hh, r⟩
  · exact Or.inl h2
  · exact Or.inr ⟨gb, cap', cur, hv, hg, (hk gb _ hg hh rfl).trans hh, r⟩
theorem Ws.later {W W' : World} {base : Nat} {v : Value} {xs : List DWrite} (h : Ws W base v xs) (hb : Below W.heap.size W W') : Ws W' base v xs := h.keep fun c _ _ ho _ => hb.block c (Array.getElem?_eq_some_iff.1 ho).1
theorem Ws.form {W : World} {base : Nat} {v : Value} {xs : List DWrite} (h : Ws W base v xs) : ∃ ao cap, v = .slice ao xs.length cap := by
  obtain ⟨rows, bls, hG, -, -⟩ := h
  rcases hG.form with ⟨rfl, rfl⟩ | ⟨g, cap, rfl, -⟩
  · exact ⟨none, 0, rfl⟩
  · exact ⟨_, cap, rfl⟩
theorem Ws.block {W : World} {base : Nat} {v : Value} {xs : List DWrite} (h : Ws W base v xs) {c : Nat} (e : v.ownBlock = some c) : base ≤ c ∧ c < W.heap.size ∧ ∃ o : Obj, W.heap[c]? = some o ∧ o.isCells = true := by
  obtain ⟨rows, bls, hG, -, -⟩ := h
  refine ⟨(hG.own.lt c e).1, (hG.own.lt c e).2, ?_⟩
  obtain ⟨-, h2⟩ := hG.own
  rcases h2 with ⟨rfl, -⟩ | ⟨gb, cap', cur, rfl, hg, hh, -⟩
  · simp [Value.ownBlock] at e
  · obtain rfl : gb = c := by simpa [Value.ownBlock] using e
    exact ⟨_, hh, rfl⟩

end Go.Proofs.Ytipomhpimmnchaa

namespace Go.Proofs.Ytipomhpimmnchaa
open Go.RowKit

theorem ne_at_slEqual {ps qs : List Int} {k : Nat} (h : ps.getD k 0 ≠ qs.getD k 0) : decide (ps = qs) = false := by
  simp only [decide_eq_false_iff_not]
  rintro rfl
  exact h rfl
theorem eq_all_slEqual {ps qs : List Int} (hl : ps.length = qs.length) (h : ∀ j, j < ps.length → ps.getD j 0 = qs.getD j 0) : decide (ps = qs) = true := by
  simp only [decide_eq_true_eq]
  refine List.ext_getElem hl fun j h1 h2 => ?_
  have := h j h1
  simpa [List.getD, h1, h2] using this

set_option maxHeartbeats 800000 in
theorem slEqual_pos (b off cap b2 off2 cap2 : Nat) (ps qs : List Int) (w : World) (hl : ps.length = qs.length) (hn : ps.length ≤ 9223372036854775807) (hc : ∀ j, j < ps.length → w.cell? ⟨b, off + j, none⟩ = some (.int .i64 (ps.getD j 0)))
    (hc2 : ∀ j, j < ps.length → w.cell? ⟨b2, off2 + j, none⟩ = some (.int .i64 (qs.getD j 0))) :
    Calls Try.prog 89 #[.slice (some ⟨b, off, none⟩) ps.length cap, .slice (some ⟨b2, off2, none⟩) ps.length cap2] w fun e w' => e = .returned (.bool (decide (ps = qs))) ∧ Below w.heap.size w w' := by
  have HL := hide hl
  clear hl
  go_enter Try.func89, Try.ntmps89
  go_wp2
  go_loopw [13] (fun i wr => ∃ k : Nat, k ≤ ps.length ∧ i = .int .i64 k ∧ Below w.heap.size w wr ∧ ∀ j, j < k → ps.getD j 0 = qs.getD j 0) (fun i _ => ps.length - (intOf i).toNat)
  case atStart => exact ⟨0, Nat.zero_le _, rfl, Below.refl _ _, fun j hj => by omega⟩
  case round =>
    obtain ⟨k, hk, rfl, hB, hq⟩ := hrel
    by_cases hlt : k < ps.length
    · have hcx : wr.cell? ⟨b, off + k, none⟩ = some (.int .i64 (ps.getD k 0)) := (hB.cell (World.block_lt_of_cell? _ _ (hc k hlt))).trans (hc k hlt)
      have hcy : wr.cell? ⟨b2, off2 + k, none⟩ = some (.int .i64 (qs.getD k 0)) := (hB.cell (World.block_lt_of_cell? _ _ (hc2 k hlt))).trans (hc2 k hlt)
      have HQ := hide hq
      have HB := hide hB
      clear hc hc2 hq hB
      by_cases he : ps.getD k 0 = qs.getD k 0
      · have HE := hide he
        rw [← he] at hcy
        clear he
        generalize ps.getD k 0 = x at hcx hcy
        have hxx : (x != x) = false := by simp
        go_wp2
        go_quiet (fail)
        go_wp2
        go_roundw
        case rel =>
          refine ⟨k + 1, by omega, by go_num, below_drewN (unhide HB) _, fun j hj => ?_⟩
          by_cases hjk : j < k
          · exact unhide HQ j hjk
          · obtain rfl : j = k := by omega
            exact unhide HE
        case measure => simp [intOf]; omega
      · have HN := hide (ne_at_slEqual he)
        have hxy : (ps.getD k 0 != qs.getD k 0) = true := by rw [bne_iff_ne]; exact he
        clear he
        generalize ps.getD k 0 = x at hcx hxy
        generalize qs.getD k 0 = y at hcy hxy
        go_wp2
        go_quiet (fail)
        go_wp2
        go_ret
        exact ⟨by rw [unhide HN]; rfl, below_drewN (unhide HB) _⟩
    · obtain rfl : k = ps.length := by omega
      have HN := hide (eq_all_slEqual (unhide HL) hq)
      have HB := hide hB
      clear hc hc2 hq hB
      go_wp2
      go_ret
      exact ⟨by rw [unhide HN]; rfl, unhide HB⟩
set_option maxHeartbeats 400000 in
theorem slEqual_len (ao ao2 : Option Addr) (n m cap cap2 : Nat) (w : World) (h : n ≠ m) :
    Calls Try.prog 89 #[.slice ao n cap, .slice ao2 m cap2] w fun e w' => e = .returned (.bool false) ∧ Below w.heap.size w w' := by
  have hd : ((n : Int) != (m : Int)) = true := by rw [bne_iff_ne]; omega
  go_enter Try.func89, Try.ntmps89
  go_wp2
  go_ret
  exact ⟨rfl, Below.refl _ _⟩
theorem slEqual_zero (ao ao2 : Option Addr) (cap cap2 : Nat) (w : World) :
    Calls Try.prog 89 #[.slice ao 0 cap, .slice ao2 0 cap2] w fun e w' => e = .returned (.bool true) ∧ Below w.heap.size w w' := by
  go_enter Try.func89, Try.ntmps89
  go_wp2
  refine wp_loop_rounds 1 ?_
  rw [rounds_succ]
  go_wp2
  go_ret
  exact ⟨rfl, Below.refl _ _⟩
/-- Whether two lists of numbers are the same. -/
theorem slEqual (v v2 : Value) (ps qs : List Int) (w : World) (h : IsInts w v ps) (h2 : IsInts w v2 qs) (hn : ps.length ≤ 9223372036854775807) :
    Calls Try.prog 89 #[v, v2] w fun e w' => e = .returned (.bool (decide (ps = qs))) ∧ Below w.heap.size w w' := by
  obtain ⟨ao, cap, rfl, hwf, hc⟩ := h
  obtain ⟨ao2, cap2, rfl, _, hc2⟩ := h2
  by_cases hl : ps.length = qs.length
  · by_cases hp : 0 < ps.length
    · obtain ⟨b, off, rfl, hc1⟩ := hc hp
      obtain ⟨b2, off2, rfl, hc3⟩ := hc2 (by omega)
      rw [← hl] at hc3 ⊢
      exact slEqual_pos b off cap b2 off2 cap2 ps qs w hl hn hc1 hc3
    · obtain rfl : ps = [] := List.eq_nil_of_length_eq_zero (by omega)
      obtain rfl : qs = [] := List.eq_nil_of_length_eq_zero (by simpa using hl.symm)
      exact slEqual_zero ao ao2 cap cap2 w
  · rw [show decide (ps = qs) = false by simp only [decide_eq_false_iff_not]; rintro rfl; exact hl rfl]
    exact slEqual_len ao ao2 _ _ cap cap2 w hl

end Go.Proofs.Ytipomhpimmnchaa

namespace Go.Proofs.Ytipomhpimmnchaa
open Go.RowKit

set_option maxHeartbeats 400000 in
theorem slClone (ad : Addr) (cap : Nat) (zs : List Int) (w : World) (h : IsInts w (.slice (some ad) zs.length cap) zs) (hn : zs.length ≤ 100000000) :
    Calls Try.prog 68 #[.slice (some ad) zs.length cap] w fun e w' => ∃ v', e = .returned v' ∧ w'.ownsRow w.heap.size 2 1 v' zs.length (zs.map (Value.int .i64)) ∧ Below w.heap.size w w' := by
  have nb : Below w.heap.size w (w.alloc (.cells #[] 2)) := (Below.refl _ _).alloc (Nat.le_refl _) _
  have O : (w.alloc (.cells #[] 2)).ownsRow w.heap.size 2 1 (.slice (some ⟨w.heap.size, 0, none⟩) 0 0) 0 [] := World.ownsRow_lit w _ 0 (Nat.le_refl _) (by unfold maxLen; omega) rfl
  have h1 := h.later nb
  have HB := hide nb
  have hnil : ∀ w : World, (binOp .eql 24 (.slice (some ad) zs.length cap) (.slice none 0 0)).run Try.prog w = .ok (.bool false) w := fun _ => by kernel_rfl
  clear nb h
  go_enter Try.func68, Try.ntmps68
  go_wp2_with (at_builtin; refine wpList_append_ints O h1 rfl _ _ rfl rfl rfl (by omega) (by simp) ?_)
  rintro v' w' O2 - hb
  have HB2 := hide ((unhide HB).trans hb)
  clear O h1 hb HB
  go_wp2_with fail
  go_ret
  exact ⟨v', rfl, by simpa using O2, unhide HB2⟩

end Go.Proofs.Ytipomhpimmnchaa

namespace Go.Proofs.Ytipomhpimmnchaa
open Go.RowKit

def ToldW (w w' : World) (e : Ending) (y : DWriteResult) : Prop := ∃ cs, e = .returned (.agg cs.toArray) ∧ Lay.tWriteResult.OwnIn w' cs y w.heap.size w'.heap.size ∧ Below w.heap.size w w'

/-- The answer stored into the result's own block. -/
theorem toldW_store {w w4 : World} {cs vs : List Value} {y : DWriteResult} {hi : Nat} (h : Lay.tWriteResult.OwnIn w4 cs y (w.heap.size + 1) hi) (hhi : hi ≤ w4.heap.size) (hb : Below w.heap.size w w4) : ToldW w (setAll w4 w.heap.size 0 vs) (.returned (.agg cs.toArray)) y := by
  refine ⟨cs, rfl, ?_, below_setAll hb _ _ _ (Nat.le_refl _)⟩
  rw [size_setAll]
  exact (h.ext (ext_setAll (fun q => q = w.heap.size) (Ext.refl _ _) _ _ _ rfl) (fun q h1 h2 h3 => by omega)).mono (by omega) hhi

set_option maxHeartbeats 400000 in
theorem implUnpack_len (ao : Option Addr) (n cap : Nat) (w : World) (h : n ≠ 8) :
    Calls Try.prog 59 #[.slice ao n cap] w fun e w' => ToldW w w' e ⟨5, zeroW⟩ := by
  have hd : ((n : Int) != 8) = true := by rw [bne_iff_ne]; omega
  have HB : Hid (∀ o, Below w.heap.size w (w.alloc o)) := fun o => (Below.refl _ _).alloc (Nat.le_refl _) o
  go_enter Try.func59, Try.ntmps59
  go_wp2
  refine bodyPost_ret (v := .agg #[.int .i64 5, .int .i64 0, .int .i64 0, .slice none 0 0, .int .i64 0, .int .i64 0]) (by simp [results, Try.results59, go_sem]) rfl ?_
  exact ⟨[.int .i64 5, .int .i64 0, .int .i64 0, .slice none 0 0, .int .i64 0, .int .i64 0], rfl, own_badW rfl, unhide HB _⟩

set_option maxRecDepth 100000 in
set_option maxHeartbeats 4000000 in
theorem implUnpack_put (b off cap : Nat) (i s q x y z c : Int) (w : World) (h : IsInts w (.slice (some ⟨b, off, none⟩) 8 cap) [1, i, s, q, x, y, z, c]) (hcap : 8 ≤ cap) :
    Calls Try.prog 59 #[.slice (some ⟨b, off, none⟩) 8 cap] w fun e w' => ToldW w w' e (unpackR [1, i, s, q, x, y, z, c]) := by
  have hc : ∀ j, j < 8 → w.cell? ⟨b, off + j, none⟩ = some (.int .i64 ([1, i, s, q, x, y, z, c].getD j 0)) := by
    obtain ⟨ao, cp, e, -, hc⟩ := h
    obtain ⟨b', off', rfl, hc1⟩ := hc (by simp)
    simp only [Value.slice.injEq, Option.some.injEq, Addr.mk.injEq, and_true] at e
    obtain ⟨⟨rfl, rfl⟩, -, -⟩ := e
    exact hc1
  have c0 : w.cell? ⟨b, off, none⟩ = some (.int .i64 1) := hc 0 (by omega)
  have c1 : w.cell? ⟨b, off + 1, none⟩ = some (.int .i64 i) := hc 1 (by omega)
  have c2 : w.cell? ⟨b, off + 2, none⟩ = some (.int .i64 s) := hc 2 (by omega)
  have c3 : w.cell? ⟨b, off + 3, none⟩ = some (.int .i64 q) := hc 3 (by omega)
  have hwf := h.wf
  have f0 : (Lit.int .i64 1).wf = true := hwf 1 (by simp)
  have f1 : (Lit.int .i64 i).wf = true := hwf i (by simp)
  have f2 : (Lit.int .i64 s).wf = true := hwf s (by simp)
  have f3 : (Lit.int .i64 q).wf = true := hwf q (by simp)
  have HV : Hid (∀ u ∈ [x, y, z], (Lit.int .i64 u).wf = true) := fun u hu => hwf u (by simp at hu; rcases hu with rfl | rfl | rfl <;> simp)
  have hv : IsInts w (.slice (some ⟨b, off + 4, none⟩) 3 (cap - 4)) [x, y, z] := by
    refine ⟨_, _, rfl, fun u hu => hwf u (by simp at hu; rcases hu with rfl | rfl | rfl <;> simp), fun _ => ⟨b, off + 4, rfl, fun j hj => ?_⟩⟩
    have := hc (4 + j) (by simp at hj; omega)
    rw [Nat.add_assoc, this]
    simp at hj
    rcases j with _ | _ | _ | j <;> first | rfl | omega
  have HF := hide (And.intro f0 (And.intro f1 (And.intro f2 f3)))
  have H := hide h
  clear h hc hwf f0 f1 f2 f3
  have nb : Below w.heap.size w (w.alloc (.cells #[.int .i64 0, .int .i64 0, .int .i64 0, .slice none 0 0, .int .i64 0, .int .i64 0] 86)) := (Below.refl _ _).alloc (Nat.le_refl _) _
  have bR : Box w.heap.size #[.int .i64 0, .int .i64 0, .int .i64 0, .slice none 0 0, .int .i64 0, .int .i64 0] 86 (w.alloc (.cells #[.int .i64 0, .int .i64 0, .int .i64 0, .slice none 0 0, .int .i64 0, .int .i64 0] 86)) w.heap.size := newBox (Nat.le_refl _)
  have d0 := cell_keep nb c0
  have d1 := cell_keep nb c1
  have d2 := cell_keep nb c2
  have d3 := cell_keep nb c3
  clear c0 c1 c2 c3
  go_enter Try.func59, Try.ntmps59
  go_wp2_with fail
  generalize w.alloc (.cells #[.int .i64 0, .int .i64 0, .int .i64 0, .slice none 0 0, .int .i64 0, .int .i64 0] 86) = W0 at *
  first
    | go_region_held3 (fun w' => w'.cell? ⟨b, off, none⟩ = some (.int .i64 1) ∧ w'.cell? ⟨b, off + 1, none⟩ = some (.int .i64 i) ∧ w'.cell? ⟨b, off + 2, none⟩ = some (.int .i64 s) ∧ w'.cell? ⟨b, off + 3, none⟩ = some (.int .i64 q))
        (first
          | exact ⟨d0, d1, d2, d3⟩
          | (refine ⟨(World.grownBy_alloc _ _ none).cell ?_ (by simp), (World.grownBy_alloc _ _ none).cell ?_ (by simp), (World.grownBy_alloc _ _ none).cell ?_ (by simp), (World.grownBy_alloc _ _ none).cell ?_ (by simp)⟩ <;> assumption)
          | go_keep)
        (fail)
    | fail
  clear d0 d1 d2 d3
  have nb1 : Below W0.heap.size W0 (W0.alloc (.cells #[.int .i64 1, .int .i64 i, .slice none 0 0, .int .i64 s, .int .i64 q] 58)).drew := ((Below.refl _ _).alloc (Nat.le_refl _) _).drew
  have bX : Box W0.heap.size #[.int .i64 1, .int .i64 i, .slice none 0 0, .int .i64 s, .int .i64 q] 58 (W0.alloc (.cells #[.int .i64 1, .int .i64 i, .slice none 0 0, .int .i64 s, .int .i64 q] 58)).drew W0.heap.size := (newBox (Nat.le_refl _)).drew
  generalize (W0.alloc (.cells #[.int .i64 1, .int .i64 i, .slice none 0 0, .int .i64 s, .int .i64 q] 58)).drew = W1 at *
  have hX := bX.lt
  have hR := bR.lt
  replace bR := bR.keep nb1
  have HB1 := hide (nb.trans (nb1.mono nb.size))
  replace hv := (hv.later nb).later nb1
  clear nb nb1
  generalize hs0 : W0.heap.size = sx at *
  clear hs0
  have x0 := bX.at 0 _ rfl
  have x1 := bX.at 1 _ rfl
  have x2 := bX.at 2 _ rfl
  have x3 := bX.at 3 _ rfl
  have x4 := bX.at 4 _ rfl
  go_wp2_with fail
  refine (slClone _ _ [x, y, z] _ hv (by simp)).mono ?_
  rintro e w2 ⟨v2, rfl, O, hb⟩
  replace bR := bR.keep hb
  replace bX := bX.keep hb
  replace HB1 := hide ((unhide HB1).trans (hb.mono (unhide HB1).size))
  have hz2 := hb.size
  clear hb hv x0 x1 x2 x3 x4
  obtain ⟨a2, p2, rfl⟩ := own_shape O
  have x0 := bX.at 0 _ rfl
  have x1 := bX.at 1 _ rfl
  have x2 := bX.at 2 _ rfl
  have x3 := bX.at 3 _ rfl
  have x4 := bX.at 4 _ rfl
  have xf := bX.soft 2
  have hX2 := bX.lt
  have HO := hide O
  have HR := hide bR
  have HX := hide bX
  clear O bR bX
  simp only [List.length_cons, List.length_nil, Nat.zero_add, Nat.reduceAdd] at HO
  go_wp2_with fail
  have bX := (unhide HX).set 2 (.slice a2 3 p2)
  have bR := (unhide HR).other ⟨sx, 2, none⟩ (.slice a2 3 p2) (by simp; omega)
  have O := own_setC (a := ⟨sx, 2, none⟩) (unhide HO) (by simpa using hX) (.slice a2 3 p2)
  have HB2 : Hid (Below w.heap.size w (w2.setCell ⟨sx, 2, none⟩ (.slice a2 3 p2))) := (unhide HB1).setCell (by simp; omega) _
  clear HB1
  have HB1 := HB2
  clear HB2
  clear HX HR HO x0 x1 x2 x3 x4 xf
  have hz3 : w2.heap.size ≤ (w2.setCell ⟨sx, 2, none⟩ (.slice a2 3 p2)).heap.size := by simp
  generalize w2.setCell ⟨sx, 2, none⟩ (.slice a2 3 p2) = W2 at *
  have hvec : IsInts W2 (.slice a2 3 p2) [x, y, z] := isInts_row (unhide HV) O
  have HO : Hid ((Lay.sl Lay.int).OwnIn W2 [.slice a2 3 p2] [x, y, z] (w.heap.size + 1) W2.heap.size) := (Lay.ownInts (unhide HV) (by simp) O).mono (by omega) (Nat.le_refl _)
  clear O
  have HP : Hid (packD (unpackW [1, i, s, q, x, y, z, c]) = packList 1 i [x, y, z] s q) := by
    show packD (unpackW [1, i, s, q, x, y, z, c]) = packList 1 i [x, y, z] s q
    simp [packD, unpackW]
  refine (implPack 1 i _ s q [x, y, z] W2 hvec).mono ?_
  rintro e w3 ⟨r, rfl, Or, hb⟩
  replace bX := bX.keep hb
  replace bR := bR.keep hb
  replace HO := hide (((unhide HO).later hb).mono (Nat.le_refl _) hb.size)
  replace HB1 := hide ((unhide HB1).trans (hb.mono (unhide HB1).size))
  clear hb hvec
  have Ir := isInts_row packList_wf Or
  have hpl : (packList 1 i [x, y, z] s q).length ≤ 9223372036854775807 := Nat.le_trans packList_len (by omega)
  simp only [intsRes]
  generalize writeFault 1 i [x, y, z] s q = fc at *
  generalize packList 1 i [x, y, z] s q = pl at *
  have hfld : ∀ w : World, (Instr.field 26 (.agg #[.int .i64 fc, r]) 1).run Try.prog w = .ok r w := fun _ => by
    obtain ⟨ar, pr, rfl⟩ := own_shape Or
    kernel_rfl
  have HI := hide Ir
  have HR := hide bR
  have HX := hide bX
  clear Or Ir bR bX
  go_wp2_with fail
  clear hfld
  refine (slEqual _ _ pl [1, i, s, q, x, y, z, c] w3 (unhide HI) ((unhide H).later (unhide HB1)) hpl).mono ?_
  rintro e w4 ⟨rfl, hb⟩
  have bX := (unhide HX).keep hb
  have bR := (unhide HR).keep hb
  replace HO := hide (((unhide HO).later hb).mono (Nat.le_refl _) hb.size)
  replace HB1 := hide ((unhide HB1).trans (hb.mono (unhide HB1).size))
  clear hb HX HR HI hpl
  have x0 := bX.at 0 _ rfl
  have x1 := bX.at 1 _ rfl
  have x2 := bX.at 2 _ rfl
  have x3 := bX.at 3 _ rfl
  have x4 := bX.at 4 _ rfl
  have r0 := bR.at 0 _ rfl
  have r1 := bR.at 1 _ rfl
  have r2 := bR.at 2 _ rfl
  have r3 := bR.at 3 _ rfl
  have r4 := bR.at 4 _ rfl
  have r5 := bR.at 5 _ rfl
  have rf := bR.soft
  have rl := bR.lt
  clear bX bR
  simp only [List.getElem_toArray, List.getElem_cons_zero, List.getElem_cons_succ] at x0 x1 x2 x3 x4 r0 r1 r2 r3 r4 r5
  by_cases he : pl = [1, i, s, q, x, y, z, c]
  · have HU : Hid (unpackR [1, i, s, q, x, y, z, c] = ⟨0, unpackW [1, i, s, q, x, y, z, c]⟩) := by
      show unpackR [1, i, s, q, x, y, z, c] = ⟨0, unpackW [1, i, s, q, x, y, z, c]⟩
      rw [unpackR, if_pos ⟨rfl, (unhide HP).trans he⟩]
    rw [show decide (pl = [1, i, s, q, x, y, z, c]) = true by simpa using he]
    clear he HP
    go_wp2_with fail
    refine bodyPost_ret (v := .agg #[.int .i64 0, .int .i64 1, .int .i64 i, .slice a2 3 p2, .int .i64 s, .int .i64 q]) (by simp [results, Try.results59, go_sem, r0, r1, r2, r3, r4, r5]) rfl ?_
    rw [unhide HU]
    obtain ⟨f0, f1, f2, f3⟩ := unhide HF
    have own : (Lay.sl Lay.int).OwnIn w4 [.slice a2 3 p2] (unpackW [1, i, s, q, x, y, z, c]).vec (w.heap.size + 1) w4.heap.size := by
      rw [show (unpackW [1, i, s, q, x, y, z, c]).vec = [x, y, z] by simp [unpackW]]
      exact unhide HO
    have own2 := own_okW own f0 f1 f2 f3
    exact toldW_store (vs := [.int .i64 0, .int .i64 1, .int .i64 i, .slice a2 3 p2, .int .i64 s, .int .i64 q]) own2 (Nat.le_refl _) (unhide HB1)
  · have HU : Hid (unpackR [1, i, s, q, x, y, z, c] = ⟨5, zeroW⟩) := by
      show unpackR [1, i, s, q, x, y, z, c] = ⟨5, zeroW⟩
      rw [unpackR, if_neg (fun q => he ((unhide HP).symm.trans q.2))]
    rw [show decide (pl = [1, i, s, q, x, y, z, c]) = false by simpa using he]
    clear he HP
    go_wp2_with fail
    refine bodyPost_ret (v := .agg #[.int .i64 5, .int .i64 0, .int .i64 0, .slice none 0 0, .int .i64 0, .int .i64 0]) (by simp [results, Try.results59, go_sem, r0, r1, r2, r3, r4, r5]) rfl ?_
    rw [unhide HU]
    exact ⟨[.int .i64 5, .int .i64 0, .int .i64 0, .slice none 0 0, .int .i64 0, .int .i64 0], rfl, own_badW rfl, below_setAll (unhide HB1) w.heap.size 0 [.int .i64 5, .int .i64 0, .int .i64 0, .slice none 0 0, .int .i64 0, .int .i64 0] (Nat.le_refl _)⟩

set_option maxRecDepth 100000 in
set_option maxHeartbeats 4000000 in
theorem implUnpack_other (b off cap : Nat) (k i s q x y z c : Int) (w : World) (h : IsInts w (.slice (some ⟨b, off, none⟩) 8 cap) [k, i, s, q, x, y, z, c]) (hk : k ≠ 1) :
    Calls Try.prog 59 #[.slice (some ⟨b, off, none⟩) 8 cap] w fun e w' => ToldW w w' e (unpackR [k, i, s, q, x, y, z, c]) := by
  have hc : ∀ j, j < 8 → w.cell? ⟨b, off + j, none⟩ = some (.int .i64 ([k, i, s, q, x, y, z, c].getD j 0)) := by
    obtain ⟨ao, cp, e, -, hc⟩ := h
    obtain ⟨b', off', rfl, hc1⟩ := hc (by simp)
    simp only [Value.slice.injEq, Option.some.injEq, Addr.mk.injEq, and_true] at e
    obtain ⟨⟨rfl, rfl⟩, -, -⟩ := e
    exact hc1
  have c0 : w.cell? ⟨b, off, none⟩ = some (.int .i64 k) := hc 0 (by omega)
  have c1 : w.cell? ⟨b, off + 1, none⟩ = some (.int .i64 i) := hc 1 (by omega)
  have c2 : w.cell? ⟨b, off + 2, none⟩ = some (.int .i64 s) := hc 2 (by omega)
  have c3 : w.cell? ⟨b, off + 3, none⟩ = some (.int .i64 q) := hc 3 (by omega)
  have hwf := h.wf
  have f0 : (Lit.int .i64 k).wf = true := hwf k (by simp)
  have f1 : (Lit.int .i64 i).wf = true := hwf i (by simp)
  have f2 : (Lit.int .i64 s).wf = true := hwf s (by simp)
  have f3 : (Lit.int .i64 q).wf = true := hwf q (by simp)
  have HF := hide (And.intro f0 (And.intro f1 (And.intro f2 f3)))
  have H := hide h
  clear h hc hwf f0 f1 f2 f3
  have nb : Below w.heap.size w (w.alloc (.cells #[.int .i64 0, .int .i64 0, .int .i64 0, .slice none 0 0, .int .i64 0, .int .i64 0] 86)) := (Below.refl _ _).alloc (Nat.le_refl _) _
  have bR : Box w.heap.size #[.int .i64 0, .int .i64 0, .int .i64 0, .slice none 0 0, .int .i64 0, .int .i64 0] 86 (w.alloc (.cells #[.int .i64 0, .int .i64 0, .int .i64 0, .slice none 0 0, .int .i64 0, .int .i64 0] 86)) w.heap.size := newBox (Nat.le_refl _)
  have d0 := cell_keep nb c0
  have d1 := cell_keep nb c1
  have d2 := cell_keep nb c2
  have d3 := cell_keep nb c3
  clear c0 c1 c2 c3
  go_enter Try.func59, Try.ntmps59
  go_wp2_with fail
  generalize w.alloc (.cells #[.int .i64 0, .int .i64 0, .int .i64 0, .slice none 0 0, .int .i64 0, .int .i64 0] 86) = W0 at *
  first
    | go_region_held3 (fun w' => w'.cell? ⟨b, off, none⟩ = some (.int .i64 k) ∧ w'.cell? ⟨b, off + 1, none⟩ = some (.int .i64 i) ∧ w'.cell? ⟨b, off + 2, none⟩ = some (.int .i64 s) ∧ w'.cell? ⟨b, off + 3, none⟩ = some (.int .i64 q))
        (first
          | exact ⟨d0, d1, d2, d3⟩
          | (refine ⟨(World.grownBy_alloc _ _ none).cell ?_ (by simp), (World.grownBy_alloc _ _ none).cell ?_ (by simp), (World.grownBy_alloc _ _ none).cell ?_ (by simp), (World.grownBy_alloc _ _ none).cell ?_ (by simp)⟩ <;> assumption)
          | go_keep)
        (fail)
    | fail
  clear d0 d1 d2 d3
  have nb1 : Below W0.heap.size W0 (W0.alloc (.cells #[.int .i64 k, .int .i64 i, .slice none 0 0, .int .i64 s, .int .i64 q] 58)).drew := ((Below.refl _ _).alloc (Nat.le_refl _) _).drew
  have bX : Box W0.heap.size #[.int .i64 k, .int .i64 i, .slice none 0 0, .int .i64 s, .int .i64 q] 58 (W0.alloc (.cells #[.int .i64 k, .int .i64 i, .slice none 0 0, .int .i64 s, .int .i64 q] 58)).drew W0.heap.size := (newBox (Nat.le_refl _)).drew
  generalize (W0.alloc (.cells #[.int .i64 k, .int .i64 i, .slice none 0 0, .int .i64 s, .int .i64 q] 58)).drew = W1 at *
  have hX := bX.lt
  have hR := bR.lt
  replace bR := bR.keep nb1
  have HB1 := hide (nb.trans (nb1.mono nb.size))
  skip
  clear nb nb1
  generalize hs0 : W0.heap.size = sx at *
  clear hs0
  have x0 := bX.at 0 _ rfl
  have x1 := bX.at 1 _ rfl
  have x2 := bX.at 2 _ rfl
  have x3 := bX.at 3 _ rfl
  have x4 := bX.at 4 _ rfl
  have HR := hide bR
  have HX := hide bX
  clear bR bX
  go_wp2_with fail
  have bX := unhide HX
  have bR := unhide HR
  clear HX HR x0 x1 x2 x3 x4
  obtain ⟨W2, hW2⟩ : ∃ W2, W2 = W1 := ⟨_, rfl⟩
  subst hW2
  have hvec : IsInts W2 (.slice none 0 0) [] := ⟨none, 0, rfl, by simp, by simp⟩
  have HO : Hid ((Lay.sl Lay.int).OwnIn W2 [.slice none 0 0] [] (w.heap.size + 1) W2.heap.size) := ⟨[], ⟨Lay.lies_ints.2 ⟨none, 0, rfl, ⟨by simp, by simp⟩, by simp, Or.inl ⟨rfl, rfl⟩⟩, by simp, by simp⟩, by simp⟩
  have HP : Hid (packD (unpackW [k, i, s, q, x, y, z, c]) = packList k i [] s q) := by
    show packD (unpackW [k, i, s, q, x, y, z, c]) = packList k i [] s q
    simp [packD, unpackW, hk]
  refine (implPack k i _ s q [] W2 hvec).mono ?_
  rintro e w3 ⟨r, rfl, Or, hb⟩
  replace bX := bX.keep hb
  replace bR := bR.keep hb
  replace HO := hide (((unhide HO).later hb).mono (Nat.le_refl _) hb.size)
  replace HB1 := hide ((unhide HB1).trans (hb.mono (unhide HB1).size))
  clear hb hvec
  have Ir := isInts_row packList_wf Or
  have hpl : (packList k i [] s q).length ≤ 9223372036854775807 := Nat.le_trans packList_len (by omega)
  simp only [intsRes]
  generalize writeFault k i [] s q = fc at *
  generalize packList k i [] s q = pl at *
  have hfld : ∀ w : World, (Instr.field 26 (.agg #[.int .i64 fc, r]) 1).run Try.prog w = .ok r w := fun _ => by
    obtain ⟨ar, pr, rfl⟩ := own_shape Or
    kernel_rfl
  have HI := hide Ir
  have HR := hide bR
  have HX := hide bX
  clear Or Ir bR bX
  go_wp2_with fail
  clear hfld
  refine (slEqual _ _ pl [k, i, s, q, x, y, z, c] w3 (unhide HI) ((unhide H).later (unhide HB1)) hpl).mono ?_
  rintro e w4 ⟨rfl, hb⟩
  have bX := (unhide HX).keep hb
  have bR := (unhide HR).keep hb
  replace HO := hide (((unhide HO).later hb).mono (Nat.le_refl _) hb.size)
  replace HB1 := hide ((unhide HB1).trans (hb.mono (unhide HB1).size))
  clear hb HX HR HI hpl
  have x0 := bX.at 0 _ rfl
  have x1 := bX.at 1 _ rfl
  have x2 := bX.at 2 _ rfl
  have x3 := bX.at 3 _ rfl
  have x4 := bX.at 4 _ rfl
  have r0 := bR.at 0 _ rfl
  have r1 := bR.at 1 _ rfl
  have r2 := bR.at 2 _ rfl
  have r3 := bR.at 3 _ rfl
  have r4 := bR.at 4 _ rfl
  have r5 := bR.at 5 _ rfl
  have rf := bR.soft
  have rl := bR.lt
  clear bX bR
  simp only [List.getElem_toArray, List.getElem_cons_zero, List.getElem_cons_succ] at x0 x1 x2 x3 x4 r0 r1 r2 r3 r4 r5
  by_cases he : pl = [k, i, s, q, x, y, z, c]
  · have HU : Hid (unpackR [k, i, s, q, x, y, z, c] = ⟨0, unpackW [k, i, s, q, x, y, z, c]⟩) := by
      show unpackR [k, i, s, q, x, y, z, c] = ⟨0, unpackW [k, i, s, q, x, y, z, c]⟩
      rw [unpackR, if_pos ⟨rfl, (unhide HP).trans he⟩]
    rw [show decide (pl = [k, i, s, q, x, y, z, c]) = true by simpa using he]
    clear he HP
    go_wp2_with fail
    refine bodyPost_ret (v := .agg #[.int .i64 0, .int .i64 k, .int .i64 i, .slice none 0 0, .int .i64 s, .int .i64 q]) (by simp [results, Try.results59, go_sem, r0, r1, r2, r3, r4, r5]) rfl ?_
    rw [unhide HU]
    obtain ⟨f0, f1, f2, f3⟩ := unhide HF
    have own : (Lay.sl Lay.int).OwnIn w4 [.slice none 0 0] (unpackW [k, i, s, q, x, y, z, c]).vec (w.heap.size + 1) w4.heap.size := by
      rw [show (unpackW [k, i, s, q, x, y, z, c]).vec = [] by simp [unpackW, hk]]
      exact unhide HO
    have own2 := own_okW own f0 f1 f2 f3
    exact toldW_store (vs := [.int .i64 0, .int .i64 k, .int .i64 i, .slice none 0 0, .int .i64 s, .int .i64 q]) own2 (Nat.le_refl _) (unhide HB1)
  · have HU : Hid (unpackR [k, i, s, q, x, y, z, c] = ⟨5, zeroW⟩) := by
      show unpackR [k, i, s, q, x, y, z, c] = ⟨5, zeroW⟩
      rw [unpackR, if_neg (fun q => he ((unhide HP).symm.trans q.2))]
    rw [show decide (pl = [k, i, s, q, x, y, z, c]) = false by simpa using he]
    clear he HP
    go_wp2_with fail
    refine bodyPost_ret (v := .agg #[.int .i64 5, .int .i64 0, .int .i64 0, .slice none 0 0, .int .i64 0, .int .i64 0]) (by simp [results, Try.results59, go_sem, r0, r1, r2, r3, r4, r5]) rfl ?_
    rw [unhide HU]
    exact ⟨[.int .i64 5, .int .i64 0, .int .i64 0, .slice none 0 0, .int .i64 0, .int .i64 0], rfl, own_badW rfl, below_setAll (unhide HB1) w.heap.size 0 [.int .i64 5, .int .i64 0, .int .i64 0, .slice none 0 0, .int .i64 0, .int .i64 0] (Nat.le_refl _)⟩

/-- UnpackWrite of the program. -/
theorem implUnpack (v : Value) (zs : List Int) (w : World) (h : (Lay.sl Lay.int).Reads w [v] zs) :
    Calls Try.prog 59 #[v] w fun e w' => ToldW w w' e (unpackR zs) := by
  have hi := Lay.ints_reads h
  have hi' := hi
  obtain ⟨ao, cap, rfl, -, hc⟩ := hi'
  by_cases hl : zs.length = 8
  · obtain ⟨k, i, s, q, x, y, z, c, rfl⟩ := eight hl
    obtain ⟨b, off, rfl, -⟩ := hc (by simp)
    have hcap := h.cap.2
    by_cases hk : k = 1
    · subst hk
      exact implUnpack_put b off cap i s q x y z c w hi hcap
    · exact implUnpack_other b off cap k i s q x y z c w hi hk
  · rw [unpackR_len hl]
    exact implUnpack_len ao _ cap w hl

end Go.Proofs.Ytipomhpimmnchaa

namespace Go.Proofs.Ytipomhpimmnchaa
open Go.RowKit Go.Shelf
attribute [local go_sem] Oper.semAt_some

theorem writeR_own {w : World} {cs : List Value} {y : DWriteResult} {lo hi : Nat} (h : Lay.tWriteResult.OwnIn w cs y lo hi) : ∃ cs2, cs = .int .i64 y.code :: cs2 ∧ Lay.tWrite.OwnIn w cs2 y.write lo hi := by
  obtain ⟨bl, ⟨⟨c1, c2, b1, b2, rfl, rfl, ⟨rfl, hc, rfl⟩, l⟩, hd, hf⟩, hr⟩ := h
  exact ⟨c2, rfl, b2, ⟨l, hd, hf⟩, hr⟩
theorem unpack_code {zs : List Int} (h : (unpackR zs).code ≠ 0) : (unpackR zs).code = 5 := by
  unfold unpackR at *
  split at h
  · simp at h
  · rename_i hq
    rw [if_neg hq]

set_option maxRecDepth 100000 in
set_option maxHeartbeats 1000000 in
theorem implReadLog_many (ao : Option Addr) (n cap : Nat) (zs : List Int) (w : World) (hz : zs.length = n) (hn : 320 < n) (hb : n ≤ 9223372036854775807) :
    Calls Try.prog 22 #[.slice ao n cap] w fun e w' => ∃ cs, e = .returned (.agg cs.toArray) ∧ Lay.tWritesResult.OwnIn w' cs (readLogR zs) w.heap.size w'.heap.size ∧ Below w.heap.size w w' := by
  have HY : Hid (readLogR zs = ⟨2, []⟩) := by show readLogR zs = _; rw [readLogR, if_pos (by omega)]
  clear hz
  refine (callsIn_wide (n := 9)).1 ?_
  refine callsIn_of_wp_marks Try.func22 rfl trivial ?_ rfl
  refine wpIn_wide.2 ?_
  simp only [Try.ntmps22, List.size_toArray, List.length_cons, List.length_nil, Nat.reduceAdd, Nat.reduceSub, Array.replicate_succ, Array.replicate_zero, List.push_toArray, List.append_toArray, List.nil_append, List.cons_append]
  go_wp2_with fail
  refine ⟨.agg #[.int .i64 2, .slice none 0 0], by simp [results, Try.results22, go_sem], [.int .i64 2, .slice none 0 0], rfl, ?_, (Below.refl _ _).alloc (Nat.le_refl _) _⟩
  rw [unhide HY]
  exact own_wsR (by decide) nil_own

set_option maxRecDepth 100000 in
set_option maxHeartbeats 8000000 in
theorem implReadLog_few (ao : Option Addr) (cap : Nat) (zs : List Int) (w : World) (h : (Lay.sl Lay.int).Reads w [.slice ao zs.length cap] zs) (hn : zs.length ≤ 320) :
    Calls Try.prog 22 #[.slice ao zs.length cap] w fun e w' => ∃ cs, e = .returned (.agg cs.toArray) ∧ Lay.tWritesResult.OwnIn w' cs (readLogR zs) w.heap.size w'.heap.size ∧ Below w.heap.size w w' := by
  have HY : Hid (readLogR zs = ⟨0, readL zs⟩) := by show readLogR zs = _; rw [readLogR, if_neg (by omega)]
  have hcap := h.cap.2
  obtain ⟨b, off, hao⟩ : ∃ b off, 0 < zs.length → ao = some ⟨b, off, none⟩ := by
    by_cases hp : 0 < zs.length
    · obtain ⟨b, off, e, -⟩ := Lay.sl_addr h hp
      exact ⟨b, off, fun _ => e⟩
    · exact ⟨0, 0, fun hq => absurd hq hp⟩
  have nb : Below w.heap.size w ((((w.alloc (.cells #[.int .i64 0, .slice none 0 0] 36)).alloc (.cells #[.slice none 0 0] 28)).alloc (.cells #[.slice ao zs.length cap] 24)).alloc (.cells #[.int .i64 8] 3)) := ((((Below.refl _ _).alloc (Nat.le_refl _) _).alloc (by simp) _).alloc (by simp; omega) _).alloc (by simp; omega) _
  have bR : Box w.heap.size #[.int .i64 0, .slice none 0 0] 36 ((((w.alloc (.cells #[.int .i64 0, .slice none 0 0] 36)).alloc (.cells #[.slice none 0 0] 28)).alloc (.cells #[.slice ao zs.length cap] 24)).alloc (.cells #[.int .i64 8] 3)) w.heap.size := (((newBox (Nat.le_refl _)).grow _).grow _).grow _
  have bV : Box w.heap.size #[.slice none 0 0] 28 ((((w.alloc (.cells #[.int .i64 0, .slice none 0 0] 36)).alloc (.cells #[.slice none 0 0] 28)).alloc (.cells #[.slice ao zs.length cap] 24)).alloc (.cells #[.int .i64 8] 3)) (w.heap.size + 1) := ((newBoxAt (by omega) (by simp)).grow _).grow _
  have bS : Box w.heap.size #[.slice ao zs.length cap] 24 ((((w.alloc (.cells #[.int .i64 0, .slice none 0 0] 36)).alloc (.cells #[.slice none 0 0] 28)).alloc (.cells #[.slice ao zs.length cap] 24)).alloc (.cells #[.int .i64 8] 3)) (w.heap.size + 1 + 1) := (newBoxAt (by omega) (by simp)).grow _
  have bN : Box w.heap.size #[.int .i64 8] 3 ((((w.alloc (.cells #[.int .i64 0, .slice none 0 0] 36)).alloc (.cells #[.slice none 0 0] 28)).alloc (.cells #[.slice ao zs.length cap] 24)).alloc (.cells #[.int .i64 8] 3)) (w.heap.size + 1 + 1 + 1) := newBoxAt (by omega) (by simp)
  have hszL : ((((w.alloc (.cells #[.int .i64 0, .slice none 0 0] 36)).alloc (.cells #[.slice none 0 0] 28)).alloc (.cells #[.slice ao zs.length cap] 24)).alloc (.cells #[.int .i64 8] 3)).heap.size = w.heap.size + 4 := by simp
  have LC := hide (implChunk ao zs.length cap ((w.alloc (.cells #[.int .i64 0, .slice none 0 0] 36)).alloc (.cells #[.slice none 0 0] 28)))
  have H := hide h
  have HB := hide nb
  have HR := hide bR
  have HV := hide bV
  have HS := hide bS
  have HN := hide bN
  have HZ := hide hszL
  clear h nb bR bV bS bN hszL
  refine (callsIn_wide (n := 9)).1 ?_
  refine callsIn_of_wp_marks Try.func22 rfl trivial ?_ rfl
  refine wpIn_wide.2 ?_
  simp only [Try.ntmps22, List.size_toArray, List.length_cons, List.length_nil, Nat.reduceAdd, Nat.reduceSub, Array.replicate_succ, Array.replicate_zero, List.push_toArray, List.append_toArray, List.nil_append, List.cons_append]
  go_wp2_with fail
  refine (unhide LC).mono ?_
  rintro e w4 ⟨rfl, rfl⟩
  clear LC
  go_wp2_with fail
  generalize hWL : (((w.alloc (.cells #[.int .i64 0, .slice none 0 0] 36)).alloc (.cells #[.slice none 0 0] 28)).alloc (.cells #[.slice ao zs.length cap] 24)).alloc (.cells #[.int .i64 8] 3) = WL at *
  clear hWL
  have hszL := unhide HZ
  have hS0 := (unhide HS).at 0 _ rfl
  have hN0 := (unhide HN).at 0 _ rfl
  simp only [List.getElem_toArray, List.getElem_cons_zero] at hS0 hN0
  refine wpIn_wide.1 (wpIn_rangeFunc_ownH (F := Fence.wide) (n := 9) rfl (by decide) (gf := 88) (lb := #[.pointer (some ⟨w.heap.size + 1 + 1, 0, none⟩), .pointer (some ⟨w.heap.size + 1 + 1 + 1, 0, none⟩)]) rfl trivial (enters_of Try.func88 (by kernel_rfl) rfl)
    (chunk_stops 8 (w.heap.size + 1 + 1) (w.heap.size + 1 + 1 + 1) b off cap ao zs WL.heap.size (fun c => c = w.heap.size + 1) (by omega) hcap hao ⟨by omega, fun h => by omega⟩ ⟨by omega, fun h => by omega⟩ WL (by omega) (by omega) hS0 hN0)
    KpS.trans (fun W l _ o' hl _ _ _ => KpS.put _ W l o' hl) (Below.refl _ _) (fun _ => rfl)
    (fun pre W => (WL.heap.size ≤ W.heap.size ∧ ∀ p ∈ pre, okAt zs p.1 = true) ∧ Box w.heap.size #[.int .i64 0, .slice none 0 0] 36 W w.heap.size ∧ (∃ v, Box w.heap.size #[v] 28 W (w.heap.size + 1) ∧ Ws W (w.heap.size + 4) v (wsP zs pre)) ∧ Below w.heap.size w W)
    (fun c pre W => c = .exit 0 ∧ ∃ pre' p, pre = pre' ++ [p] ∧ (∀ q ∈ pre', okAt zs q.1 = true) ∧ okAt zs p.1 = false ∧ Box w.heap.size #[.int .i64 0, .slice none 0 0] 36 W w.heap.size ∧ (∃ v, Box w.heap.size #[v] 28 W (w.heap.size + 1) ∧ Ws W (w.heap.size + 4) v (wsP zs pre')) ∧ Below w.heap.size w W)
    (fun s A B row hs hg hr => by
      obtain ⟨⟨q1, q2⟩, q3, ⟨v, q4, q5⟩, q6⟩ := hs
      exact ⟨⟨Nat.le_trans q1 hg.size, q2⟩, box_grown hg hr q3, ⟨v, box_grown hg hr q4, q5.keep (fun c o h1 h2 h3 => (grown_cells hg hr h2 (Or.inr h3)).trans h2.symm)⟩, below_grown hg hr q6 (by omega) (Nat.le_refl _)⟩)
    (fun c s A B row hs hg hr => by
      obtain ⟨rfl, pre', p, rfl, r1, r2, q3, ⟨v, q4, q5⟩, q6⟩ := hs
      exact ⟨rfl, pre', p, rfl, r1, r2, box_grown hg hr q3, ⟨v, box_grown hg hr q4, q5.keep (fun c o h1 h2 h3 => (grown_cells hg hr h2 (Or.inr h3)).trans h2.symm)⟩, below_grown hg hr q6 (by omega) (Nat.le_refl _)⟩)
    ⟨⟨Nat.le_refl _, by simp⟩, unhide HR, ⟨_, unhide HV, Ws.nil _ _⟩, unhide HB⟩
    (fun y a' W => a' = { tmps := #[.slice ao zs.length cap, undef, .pointer (some ⟨w.heap.size, 0, none⟩), .pointer (some ⟨w.heap.size + 1, 0, none⟩), pcV b off zs y.1, undef, .slice ao zs.length cap, .int .i64 (zs.length : Int), .bool (decide ((320 : Int) < (zs.length : Int))), undef, .slice ao zs.length cap, .func (.func 88) #[] #[.pointer (some ⟨w.heap.size + 1 + 1, 0, none⟩), .pointer (some ⟨w.heap.size + 1 + 1 + 1, 0, none⟩)], pcV b off zs y.1, undef, undef, undef, undef, undef, undef, undef, undef, undef, undef, undef, undef], defers := [] })
    (fun y a' _ A B row hs hg hr => hs)
    ?assign ?body ?done ?stop)
  case assign =>
    rintro l pre y W K ⟨⟨hs, hp⟩, hI⟩ hK
    have HPC : Hid (pcV b off zs y.1 = pcV b off zs y.1) := rfl
    unfold pcV at hK ⊢
    gi_wp2
    exact hK _ _ (keepsFrom_below (Below.refl _ _)) (KpS.refl _ _ _) ⟨⟨hs, hp⟩, hI⟩ rfl
  case body =>
    rintro l pre y a' W hl ⟨r0, hr0⟩ ⟨⟨hs, hp⟩, b1, ⟨v, b2, hW⟩, hB1⟩ rfl hlt
    have hy8 : 8 * y.1 < zs.length := np_lt.1 y.2
    obtain rfl := hao (by omega)
    have HU := hide (CallsIn.inRound l ((callsIn_wide (n := 9 - 1 - 1 - 1)).2 (implUnpack (pcV b off zs y.1) (pieceAt zs y.1) W (pcV_reads ((unhide H).later hB1) y.1 hy8))))
    have HW := hide hW
    have HWW := hide hW
    have HB1 := hide hB1
    have HP := hide hp
    have HBR := hide b1
    have HBV := hide b2
    obtain ⟨ao2, cp2, hvf⟩ := hW.form
    have HPL : Hid ((wsP zs pre).length = pre.length) := wsP_len zs pre
    have hnp : pre.length < 41 := by have : np zs ≤ 40 := (by unfold np; omega); omega
    have HBR0 := hide b1
    have HB10 := hide hB1
    have HWB : Hid (∀ c, v.ownBlock = some c → w.heap.size + 4 ≤ c ∧ c < W.heap.size) := fun c e => ⟨(hW.block e).1, (hW.block e).2.1⟩
    have HWC : Hid (∀ c, v.ownBlock = some c → ∃ o : Obj, W.heap[c]? = some o ∧ o.isCells = true) := fun c e => (hW.block e).2.2
    clear hW hB1 hp b1 b2
    unfold pcV at HU ⊢
    gi_wp2
    refine ⟨trivial, ?_⟩
    gi_at_call 59
    refine (unhide HU).mono ?_
    rintro e w5 ⟨cs, rfl, O5, hb5⟩
    obtain ⟨cs2, rfl, O6⟩ := writeR_own O5
    obtain ⟨bl, hl6, hd6, hs6⟩ := write_soft O6
    obtain ⟨a9, d9, rfl, -⟩ := open_Write ⟨_, hl6⟩
    have HK5 := hide hb5
    have hz5 := hb5.size
    have HW5 := hide ((unhide HW).later hb5)
    have HBV5 := hide ((unhide HBV).keep hb5)
    have HBR5 := hide ((unhide HBR).keep hb5)
    have HB5 := hide ((unhide HB1).trans (hb5.mono (unhide HB1).size))
    have hok : okAt zs y.1 = decide ((unpackR (pieceAt zs y.1)).code = 0) := rfl
    have HOK := hide hok
    have HWAT : Hid (wAt zs y.1 = (unpackR (pieceAt zs y.1)).write) := rfl
    have HC5 := hide (unpack_code (zs := pieceAt zs y.1))
    have HL6 := hide hl6
    have HD6 := hide hd6
    have HS6 := hide hs6
    clear hb5 O5 O6 HU HW HBV HBR HB1 hok hl6 hd6 hs6
    generalize unpackR (pieceAt zs y.1) = r at *
    have nb6 : Below w5.heap.size w5 (w5.alloc (.cells #[.int .i64 r.code, .int .i64 r.write.kind, .int .i64 r.write.id, .slice a9 r.write.vec.length d9, .int .i64 r.write.session, .int .i64 r.write.seq] 86)) := (Below.refl _ _).alloc (Nat.le_refl _) _
    have bD : Box 0 #[.int .i64 r.code, .int .i64 r.write.kind, .int .i64 r.write.id, .slice a9 r.write.vec.length d9, .int .i64 r.write.session, .int .i64 r.write.seq] 86 (w5.alloc (.cells #[.int .i64 r.code, .int .i64 r.write.kind, .int .i64 r.write.id, .slice a9 r.write.vec.length d9, .int .i64 r.write.session, .int .i64 r.write.seq] 86)) w5.heap.size := newBox (Nat.zero_le _)
    have HN6 := hide nb6
    have HBD := hide bD
    clear nb6 bD
    have hbD6 := (unhide HBD)
    have d0 := hbD6.at 0 _ rfl
    have d1 := hbD6.at 1 _ rfl
    have d2 := hbD6.at 2 _ rfl
    have d3 := hbD6.at 3 _ rfl
    have d4 := hbD6.at 4 _ rfl
    have d5 := hbD6.at 5 _ rfl
    have HV6 := hide ((unhide HBV5).keep (unhide HN6))
    have HR6 := hide ((unhide HBR5).keep (unhide HN6))
    have HW6 := hide ((unhide HW5).later (unhide HN6))
    have HE6 : Hid (∀ T : Nat → Prop, Ext T W (w5.alloc (.cells #[.int .i64 r.code, .int .i64 r.write.kind, .int .i64 r.write.id, .slice a9 r.write.vec.length d9, .int .i64 r.write.session, .int .i64 r.write.seq] 86))) := fun T => (ext_of_below (unhide HK5) T).trans (ext_of_below (unhide HN6) T)
    have HBB6 := hide ((unhide HB5).trans ((unhide HN6).mono (unhide HB5).size))
    have HBWS : Hid (Below W.heap.size W (w5.alloc (.cells #[.int .i64 r.code, .int .i64 r.write.kind, .int .i64 r.write.id, .slice a9 r.write.vec.length d9, .int .i64 r.write.session, .int .i64 r.write.seq] 86))) := (unhide HK5).trans ((unhide HN6).mono hz5)
    have hz6 : (w5.alloc (.cells #[.int .i64 r.code, .int .i64 r.write.kind, .int .i64 r.write.id, .slice a9 r.write.vec.length d9, .int .i64 r.write.session, .int .i64 r.write.seq] 86)).heap.size = w5.heap.size + 1 := by simp
    have HZ6 := hide hz6
    have HLL6 : Hid (Lay.tWrite.lies (w5.alloc (.cells #[.int .i64 r.code, .int .i64 r.write.kind, .int .i64 r.write.id, .slice a9 r.write.vec.length d9, .int .i64 r.write.session, .int .i64 r.write.seq] 86)) [.int .i64 r.write.kind, .int .i64 r.write.id, .slice a9 r.write.vec.length d9, .int .i64 r.write.session, .int .i64 r.write.seq] r.write bl) := Lay.tWrite.keep (unhide HL6) (fun c hc => (unhide HN6).block c (unhide HS6 c hc).1.2)
    have HSS6 : Hid (∀ c ∈ bl, (W.heap.size ≤ c ∧ c < w5.heap.size) ∧ SoftB (w5.alloc (.cells #[.int .i64 r.code, .int .i64 r.write.kind, .int .i64 r.write.id, .slice a9 r.write.vec.length d9, .int .i64 r.write.session, .int .i64 r.write.seq] 86)) c) := fun c hc => ⟨(unhide HS6 c hc).1, (unhide HS6 c hc).2.keep ((unhide HN6).block c (unhide HS6 c hc).1.2)⟩
    simp only [List.getElem_toArray, List.getElem_cons_zero, List.getElem_cons_succ] at d0 d1 d2 d3 d4 d5
    clear hbD6 HBV5 HBR5 HW5 HL6 HS6 hz6
    by_cases hc : r.code = 0
    · have HX : Hid (okAt zs y.1 = true) := by show okAt zs y.1 = true; rw [unhide HOK]; simpa using hc
      have hcz : (r.code != 0) = false := by rw [hc]; rfl
      clear hc HC5 HOK
      obtain ⟨rows, bls, hG0, hnd, hsb0⟩ := unhide HWW
      have HSL : Hid (∀ c ∈ bls.flatten, c < W.heap.size) := fun c hc => hG0.sub_lt c hc
      have hG := hG0.later (unhide HBWS)
      have hsb : ∀ c ∈ bls.flatten, w.heap.size + 4 ≤ c ∧ SoftB (w5.alloc (.cells #[.int .i64 r.code, .int .i64 r.write.kind, .int .i64 r.write.id, .slice a9 r.write.vec.length d9, .int .i64 r.write.session, .int .i64 r.write.seq] 86)) c := fun c hc => ⟨(hsb0 c hc).1, (hsb0 c hc).2.keep ((unhide HBWS).block c (unhide HSL c hc))⟩
      clear hG0 hsb0
      have hoff : ∀ c ∈ bl, v.ownBlock ≠ some c := fun c hc e => by
        have h1 := (unhide HSS6 c hc).1.1
        have h2 := (unhide HWB c e).2
        omega
      have hK : (wsP zs pre).length + 1 ≤ 100000000 := by rw [unhide HPL]; omega
      have hZ : w.heap.size + 4 ≤ (w5.alloc (.cells #[.int .i64 r.code, .int .i64 r.write.kind, .int .i64 r.write.id, .slice a9 r.write.vec.length d9, .int .i64 r.write.session, .int .i64 r.write.seq] 86)).heap.size := by have := unhide HZ6; omega
      have v0 := (unhide HV6).at 0 _ rfl
      have vf := (unhide HV6).soft 0
      simp only [List.getElem_toArray, List.getElem_cons_zero] at v0
      subst hvf
      have HLL := unhide HLL6
      have HNS := hide hnd
      have HSB := hide hsb
      clear hnd hsb
      gi_wp2_with (gi_at_builtin; refine wpListIn_append_WriteH hG HLL hoff rfl _ _ rfl rfl (unhide HZ6) rfl hK hZ ?_)
      intro g7 cap7 w7 hG7 hb7 hE7 hg7 hz7 hor7
      have hvn : ∀ q, q < w.heap.size + 4 → ¬ (Value.slice ao2 (wsP zs pre).length cp2).ownBlock = some q := fun q hq e => by
        have := (unhide HWB q e).1
        omega
      have bV7 := (unhide HV6).ext hE7 (hvn _ (by omega))
      have HE8 : Hid (Ext (fun q => (Value.slice ao2 (wsP zs pre).length cp2).ownBlock = some q ∨ q = w.heap.size + 1) W (w7.setCell ⟨w.heap.size + 1, 0, none⟩ (.slice (some ⟨g7, 0, none⟩) ((wsP zs pre).length + 1) cap7))) :=
        ((unhide HE6 _).trans (hE7.mono fun k _ h => Or.inl h)).setCell _ _ (Or.inr rfl)
      have hN8 : Ext (fun q => q = w.heap.size + 1) w7 (w7.setCell ⟨w.heap.size + 1, 0, none⟩ (.slice (some ⟨g7, 0, none⟩) ((wsP zs pre).length + 1) cap7)) := (Ext.refl (fun q => q = w.heap.size + 1) _).setCell ⟨w.heap.size + 1, 0, none⟩ _ rfl
      have HV8 := hide (bV7.set 0 (.slice (some ⟨g7, 0, none⟩) ((wsP zs pre).length + 1) cap7))
      have hsl : ∀ c ∈ bls.flatten, c < W.heap.size := unhide HSL
      have HW8 : Hid (Ws (w7.setCell ⟨w.heap.size + 1, 0, none⟩ (.slice (some ⟨g7, 0, none⟩) ((wsP zs pre).length + 1) cap7)) (w.heap.size + 4) (.slice (some ⟨g7, 0, none⟩) ((wsP zs pre).length + 1) cap7) (wsP zs pre ++ [r.write])) := by
        have h7 : Ws w7 (w.heap.size + 4) (.slice (some ⟨g7, 0, none⟩) ((wsP zs pre).length + 1) cap7) (wsP zs pre ++ [r.write]) := by
          refine ⟨_, _, hG7, ?_, fun c hc => ?_⟩
          · rw [List.flatten_append, List.nodup_append]
            refine ⟨unhide HNS, by simpa using unhide HD6, fun a ha b hb e => ?_⟩
            have h1 := hsl a ha
            have h2 := (unhide HSS6 b (by simpa using hb)).1.1
            omega
          · rw [List.flatten_append] at hc
            rcases List.mem_append.1 hc with hc | hc
            · have hq := unhide HSB c hc
              exact ⟨hq.1, hq.2.keep (hE7.block c (by have h1 := hsl c hc; have h2 := unhide HZ6; omega) (hG.off c hc))⟩
            · replace hc : c ∈ bl := by simpa using hc
              have hq := unhide HSS6 c hc
              exact ⟨by omega, hq.2.keep (hE7.block c (by have h2 := unhide HZ6; omega) (hoff c hc))⟩
        exact h7.keep fun c o h1 h2 h3 => hN8.block c (Array.getElem?_eq_some_iff.1 h2).1 (by omega)
      have v7 := bV7.at 0 _ rfl
      have vf7 := bV7.soft 0
      have vl7 := bV7.lt
      have HR8 := hide ((unhide HBR0).ext (unhide HE8) (fun h => by rcases h with h | h; exact hvn _ (by omega) h; omega))
      have HB8 : Hid (Below w.heap.size w (w7.setCell ⟨w.heap.size + 1, 0, none⟩ (.slice (some ⟨g7, 0, none⟩) ((wsP zs pre).length + 1) cap7))) := (unhide HB10).trans ((unhide HE8).below (unhide HB10).size (fun k hk h => by rcases h with h | h; exact hvn _ (by omega) h; omega))
      have HKF : Hid (KeepsFrom WL.heap.size W (w7.setCell ⟨w.heap.size + 1, 0, none⟩ (.slice (some ⟨g7, 0, none⟩) ((wsP zs pre).length + 1) cap7))) := keepsFrom_ext (unhide HE8) (fun k o h1 h2 h3 h => by
        rcases h with h | h
        · obtain ⟨o', q1, q2⟩ := unhide HWC k h
          rw [h2] at q1
          cases q1
          rw [h3] at q2
          cases q2
        · omega)
      have HKP : Hid (KpS WL.heap.size (fun c => c = w.heap.size + 1) W (w7.setCell ⟨w.heap.size + 1, 0, none⟩ (.slice (some ⟨g7, 0, none⟩) ((wsP zs pre).length + 1) cap7))) := KpS.of_ext (unhide HE8) hs (fun k hk h => by
        rcases h with h | h
        · exact absurd h (hvn _ (by omega))
        · exact h)
      have HS8 : Hid (WL.heap.size ≤ (w7.setCell ⟨w.heap.size + 1, 0, none⟩ (.slice (some ⟨g7, 0, none⟩) ((wsP zs pre).length + 1) cap7)).heap.size) := Nat.le_trans hs (unhide HE8).size
      clear hG HLL hoff hK hZ hG7 hb7 hE7 hg7 hz7 hor7 bV7 hN8 hsl hvn v0 vf d0 d1 d2 d3 d4 d5
      gi_wp2
      refine ⟨unhide HKF, unhide HKP, ⟨unhide HS8, fun q hq => ?_⟩, unhide HR8, ⟨_, unhide HV8, ?_⟩, unhide HB8⟩
      · rcases List.mem_append.1 hq with hq | hq
        · exact unhide HP q hq
        · rw [List.mem_singleton.1 hq]; exact unhide HX
      · rw [wsP_snoc, unhide HWAT]
        exact unhide HW8
    · have HX : Hid (okAt zs y.1 = false) := by show okAt zs y.1 = false; rw [unhide HOK]; simpa using hc
      have hd5 : (r.code != 0) = true := by simpa using hc
      clear hc HC5 HOK
      gi_wp2
      exact ⟨keepsFrom_ext (unhide HE6 nowhere) (fun _ _ _ _ _ h => h), rfl, pre, y, rfl, unhide HP, unhide HX, unhide HR6, ⟨v, unhide HV6, unhide HW6⟩, unhide HBB6⟩
  case done =>
    rintro D xs W hD rfl ⟨⟨hs, hp⟩, b1, ⟨v, b2, hW⟩, hB1⟩ hK
    have HEQ := hide (read_all hp)
    clear hp
    obtain ⟨ao2, cp2, rfl⟩ := hW.form
    have v0 := b2.at 0 _ rfl
    have r0 := b1.at 0 _ rfl
    have r1 := b1.at 1 _ rfl
    have rf := b1.soft
    have rl := b1.lt
    simp only [List.getElem_toArray, List.getElem_cons_zero, List.getElem_cons_succ] at v0 r0 r1
    have HR := hide b1
    have HWf := hide hW
    have HBf := hide hB1
    have HK := hide hK
    have HDL := hide hD
    clear b1 b2 hW hB1 hK hS0 hN0 hD
    go_wp2_with fail
    have hK1 := (KeepsOthers.setCell W ⟨w.heap.size, 0, none⟩ (.int .i64 0)).same D _ (unhide HK) rfl
    have hK' := (KeepsOthers.setCell (W.setCell ⟨w.heap.size, 0, none⟩ (.int .i64 0)) ⟨w.heap.size, 1, none⟩ (.slice ao2 (wsP zs (allPc (np zs))).length cp2)).same D _ hK1 rfl
    refine ⟨by simp, .inl ⟨_, _, rfl, run_takeDeferred hK', ?_⟩⟩
    have bF := ((unhide HR).set 0 (.int .i64 0)).set 1 (.slice ao2 (wsP zs (allPc (np zs))).length cp2)
    have hgr := grownBy_putObj' ((W.setCell ⟨w.heap.size, 0, none⟩ (.int .i64 0)).setCell ⟨w.heap.size, 1, none⟩ (.slice ao2 (wsP zs (allPc (np zs))).length cp2)) D (.deferred none)
    have hrr : ∀ r, some D = some r → ∃ o : Obj, ((W.setCell ⟨w.heap.size, 0, none⟩ (.int .i64 0)).setCell ⟨w.heap.size, 1, none⟩ (.slice ao2 (wsP zs (allPc (np zs))).length cp2)).heap[r]? = some o ∧ o.isCells = false := fun r e => by cases e; exact ⟨_, hK', rfl⟩
    have hc0 := cell_kept (bF.at 0 _ rfl) hgr hrr
    have hc1 := cell_kept (bF.at 1 _ rfl) hgr hrr
    simp only [List.setIfInBounds_toArray, List.set_cons_zero, List.set_cons_succ, List.getElem_toArray, List.getElem_cons_zero, List.getElem_cons_succ] at hc0 hc1
    have hE1 : Ext (fun q => q = w.heap.size) W ((W.setCell ⟨w.heap.size, 0, none⟩ (.int .i64 0)).setCell ⟨w.heap.size, 1, none⟩ (.slice ao2 (wsP zs (allPc (np zs))).length cp2)) := ((Ext.refl (fun q => q = w.heap.size) _).setCell ⟨w.heap.size, 0, none⟩ _ rfl).setCell ⟨w.heap.size, 1, none⟩ _ rfl
    have hWf := ((unhide HWf).keep fun c o h1 h2 h3 => hE1.block c (Array.getElem?_eq_some_iff.1 h2).1 (by omega)).keep fun c o h1 h2 h3 => hgr.block c (Array.getElem?_eq_some_iff.1 h2).1 (fun e => by cases e; rw [hK'] at h2; cases h2; cases h3)
    have hBf : Below w.heap.size w (((W.setCell ⟨w.heap.size, 0, none⟩ (.int .i64 0)).setCell ⟨w.heap.size, 1, none⟩ (.slice ao2 (wsP zs (allPc (np zs))).length cp2)).putObj D (.deferred none)) := (((unhide HBf).setCell (by simp) _).setCell (by simp) _).grown hgr (by have := (unhide HBf).size; simp; omega) (fun k e => by cases e; have := unhide HDL; omega)
    refine ⟨.agg #[.int .i64 0, .slice ao2 (wsP zs (allPc (np zs))).length cp2], by simp [results, Try.results22, go_sem, hc0, hc1], [.int .i64 0, .slice ao2 (wsP zs (allPc (np zs))).length cp2], rfl, ?_, hBf⟩
    rw [unhide HY, unhide HEQ]
    exact (own_wsR (by decide) (hWf.own (by rw [wsP_len]; rw [allPc_len]; unfold np; omega))).mono (by omega) (Nat.le_refl _)
  case stop =>
    rintro D c pre W hD hpre ⟨rfl, pre', p, rfl, hp, hnp, b1, ⟨v, b2, hW⟩, hB1⟩ hK
    have HEQ := hide (read_stop hpre hp hnp)
    have HLE : Hid (pre'.length ≤ 1000) := by
      have := hpre.length_le
      rw [allPc_len, List.length_append] at this
      have h2 : np zs ≤ 40 := by unfold np; omega
      show pre'.length ≤ 1000
      omega
    clear hp hnp
    obtain ⟨ao2, cp2, rfl⟩ := hW.form
    have v0 := b2.at 0 _ rfl
    have r0 := b1.at 0 _ rfl
    have r1 := b1.at 1 _ rfl
    have rf := b1.soft
    have rl := b1.lt
    simp only [List.getElem_toArray, List.getElem_cons_zero, List.getElem_cons_succ] at v0 r0 r1
    have HR := hide b1
    have HWf := hide hW
    have HBf := hide hB1
    have HK := hide hK
    have HDL := hide hD
    clear b1 b2 hW hB1 hK hS0 hN0 hD
    gi_wp2
    go_wp2_with fail
    have hK1 := (KeepsOthers.setCell W ⟨w.heap.size, 0, none⟩ (.int .i64 0)).same D _ (unhide HK) rfl
    have hK' := (KeepsOthers.setCell (W.setCell ⟨w.heap.size, 0, none⟩ (.int .i64 0)) ⟨w.heap.size, 1, none⟩ (.slice ao2 (wsP zs pre').length cp2)).same D _ hK1 rfl
    refine ⟨by simp, .inl ⟨_, _, rfl, run_takeDeferred hK', ?_⟩⟩
    have bF := ((unhide HR).set 0 (.int .i64 0)).set 1 (.slice ao2 (wsP zs pre').length cp2)
    have hgr := grownBy_putObj' ((W.setCell ⟨w.heap.size, 0, none⟩ (.int .i64 0)).setCell ⟨w.heap.size, 1, none⟩ (.slice ao2 (wsP zs pre').length cp2)) D (.deferred none)
    have hrr : ∀ r, some D = some r → ∃ o : Obj, ((W.setCell ⟨w.heap.size, 0, none⟩ (.int .i64 0)).setCell ⟨w.heap.size, 1, none⟩ (.slice ao2 (wsP zs pre').length cp2)).heap[r]? = some o ∧ o.isCells = false := fun r e => by cases e; exact ⟨_, hK', rfl⟩
    have hc0 := cell_kept (bF.at 0 _ rfl) hgr hrr
    have hc1 := cell_kept (bF.at 1 _ rfl) hgr hrr
    simp only [List.setIfInBounds_toArray, List.set_cons_zero, List.set_cons_succ, List.getElem_toArray, List.getElem_cons_zero, List.getElem_cons_succ] at hc0 hc1
    have hE1 : Ext (fun q => q = w.heap.size) W ((W.setCell ⟨w.heap.size, 0, none⟩ (.int .i64 0)).setCell ⟨w.heap.size, 1, none⟩ (.slice ao2 (wsP zs pre').length cp2)) := ((Ext.refl (fun q => q = w.heap.size) _).setCell ⟨w.heap.size, 0, none⟩ _ rfl).setCell ⟨w.heap.size, 1, none⟩ _ rfl
    have hWf := ((unhide HWf).keep fun c o h1 h2 h3 => hE1.block c (Array.getElem?_eq_some_iff.1 h2).1 (by omega)).keep fun c o h1 h2 h3 => hgr.block c (Array.getElem?_eq_some_iff.1 h2).1 (fun e => by cases e; rw [hK'] at h2; cases h2; cases h3)
    have hBf : Below w.heap.size w (((W.setCell ⟨w.heap.size, 0, none⟩ (.int .i64 0)).setCell ⟨w.heap.size, 1, none⟩ (.slice ao2 (wsP zs pre').length cp2)).putObj D (.deferred none)) := (((unhide HBf).setCell (by simp) _).setCell (by simp) _).grown hgr (by have := (unhide HBf).size; simp; omega) (fun k e => by cases e; have := unhide HDL; omega)
    refine ⟨.agg #[.int .i64 0, .slice ao2 (wsP zs pre').length cp2], by simp [results, Try.results22, go_sem, hc0, hc1], [.int .i64 0, .slice ao2 (wsP zs pre').length cp2], rfl, ?_, hBf⟩
    rw [unhide HY, unhide HEQ]
    exact (own_wsR (by decide) (hWf.own (by rw [wsP_len]; have := unhide HLE; omega))).mono (by omega) (Nat.le_refl _)

/-- ReadLog of the program. -/
theorem implReadLog (v : Value) (zs : List Int) (w : World) (h : (Lay.sl Lay.int).Reads w [v] zs) :
    Calls Try.prog 22 #[v] w fun e w' => ∃ cs, e = .returned (.agg cs.toArray) ∧ Lay.tWritesResult.OwnIn w' cs (readLogR zs) w.heap.size w'.heap.size ∧ Below w.heap.size w w' := by
  obtain ⟨ao, cap, rfl⟩ := open_sl h
  by_cases hn : 320 < zs.length
  · exact implReadLog_many ao zs.length cap zs w rfl hn h.big
  · exact implReadLog_few ao cap zs w h (by omega)

end Go.Proofs.Ytipomhpimmnchaa
