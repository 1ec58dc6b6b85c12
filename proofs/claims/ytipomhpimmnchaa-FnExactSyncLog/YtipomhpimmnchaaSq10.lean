/-
  Texts of this proof in one: ImplJoined, ImplSync, LogFew, LawSync, LayOpen, OpenLog.
  Their conditions stand in their theorems.
-/
import Derived.Test.YtipomhpimmnchaaChecked
import Derived.Test.YtipomhpimmnchaaSq07
import Derived.Test.YtipomhpimmnchaaSq05
import Derived.Laws.CopyOwn
import Derived.Test.YtipomhpimmnchaaSq09
import Derived.Test.YtipomhpimmnchaaSq03
import Derived.Test.YtipomhpimmnchaaSq01
import Derived.ProofKit
import Derived.OpenShut
import Derived.Deep.Slices
import Derived.Test.YtipomhpimmnchaaSq02

namespace Go.Proofs.Ytipomhpimmnchaa
open Go.RowKit

theorem own_full {w : World} {base e g n : Nat} {xs : List Value} (h : w.ownsRow base e 1 (.slice (some ⟨g, 0, none⟩) n n) n xs) : w.heap[g]? = some (.cells xs.toArray e (0, 0)) ∧ base ≤ g ∧ xs.length = n := by
  obtain ⟨hl, h⟩ := h
  rcases h with ⟨h, -⟩ | ⟨g', cap, cur, hv, hb, hh, -, -, hs, ht⟩
  · cases h
  · simp only [Value.slice.injEq, Option.some.injEq, Addr.mk.injEq, and_true, true_and] at hv
    obtain ⟨rfl, rfl⟩ := hv
    refine ⟨?_, hb, by omega⟩
    rw [hh]
    rw [List.take_of_length_le (by simp; omega)] at ht
    rw [← ht]
theorem full_own {w : World} {base e g n : Nat} {xs : List Value} (h : w.heap[g]? = some (.cells xs.toArray e (0, 0))) (hb : base ≤ g) (hl : xs.length = n) (hn : n ≤ maxLen) : w.ownsRow base e 1 (.slice (some ⟨g, 0, none⟩) n n) n xs :=
  ⟨by omega, Or.inr ⟨g, n, xs.toArray, rfl, hb, h, Nat.le_refl _, hn, by simpa using hl, by rw [Nat.mul_one, ← hl, List.take_length]⟩⟩
theorem news_reads {w : World} {ao : Option Addr} {n cap : Nat} {zs : List Int} (h : (Lay.sl Lay.int).Reads w [.slice ao n cap] zs) (hp : 0 < zs.length) : ∃ ad, ao = some ad ∧ ∀ j u, (zs.map (Value.int .i64))[j]? = some u → w.cell? (ad.add j) = some u := by
  have hc := h.cap.1
  subst hc
  obtain ⟨b, off, rfl, -⟩ := Lay.sl_addr h hp
  exact ⟨_, rfl, (Lay.ints_reads h).news hp⟩
theorem size_int : (Try.prog.info? 2).map (·.size) = some 1 := by kernel_rfl
theorem splice_first (n : Nat) (X : List Value) (z : Value) : splice (List.replicate n z) 0 X = X ++ List.replicate (n - X.length) z := by
  simp [splice]
theorem splice_second (X Y : List Value) (m : Nat) (z : Value) (h : Y.length = m) : splice (X ++ List.replicate m z) X.length Y = X ++ Y := by
  simp [splice, h]

theorem splice_end (X Y : List Value) (h : Y.length = 0) : splice X X.length Y = X ++ Y := by
  obtain rfl := List.eq_nil_of_length_eq_zero h
  simp [splice]

set_option maxRecDepth 100000 in
set_option maxHeartbeats 2000000 in
theorem implJoined (u v : Value) (xs ys : List Int) (w : World) (h1 : (Lay.sl Lay.int).Reads w [u] xs) (h2 : (Lay.sl Lay.int).Reads w [v] ys) (n1 : xs.length ≤ 10000000) (n2 : ys.length ≤ 10000000) :
    Calls Try.prog 69 #[u, v] w fun e w' => ∃ m, m = xs.length + ys.length ∧ e = .returned (.slice (some ⟨w.heap.size, 0, none⟩) m m) ∧ w'.ownsRow w.heap.size 2 1 (.slice (some ⟨w.heap.size, 0, none⟩) m m) m ((xs ++ ys).map (Value.int .i64)) ∧ Below w.heap.size w w' := by
  obtain ⟨a1, d1, rfl⟩ := open_sl h1
  obtain ⟨a2, d2, rfl⟩ := open_sl h2
  obtain ⟨i0, hi, hz0, hz1, hz2⟩ := info_parts info2
  obtain ⟨X, hX⟩ : ∃ X, X = xs.map (Value.int .i64) := ⟨_, rfl⟩
  obtain ⟨Y, hY⟩ : ∃ Y, Y = ys.map (Value.int .i64) := ⟨_, rfl⟩
  have lX : X.length = xs.length := by rw [hX, List.length_map]
  have lY : Y.length = ys.length := by rw [hY, List.length_map]
  have HX := hide hX
  have HY := hide hY
  have H1 := hide h1
  have H2 := hide h2
  have HP1 : Hid (∀ W, Below w.heap.size w W → 0 < X.length → ∃ ad, a1 = some ad ∧ ∀ j u, X[j]? = some u → W.cell? (ad.add j) = some u) := fun W hW hp => by rw [hX]; exact news_reads (h1.later hW) (by omega)
  have HP2 : Hid (∀ W, Below w.heap.size w W → 0 < Y.length → ∃ ad, a2 = some ad ∧ ∀ j u, Y[j]? = some u → W.cell? (ad.add j) = some u) := fun W hW hp => by rw [hY]; exact news_reads (h2.later hW) (by omega)
  have HC1 : Hid (∀ v ∈ X, v.oneCell' = true) := by rw [hX]; intro v hv; obtain ⟨z, -, rfl⟩ := List.mem_map.1 hv; rfl
  have HC2 : Hid (∀ v ∈ Y, v.oneCell' = true) := by rw [hY]; intro v hv; obtain ⟨z, -, rfl⟩ := List.mem_map.1 hv; rfl
  generalize xs.length = nx at *
  generalize ys.length = ny at *
  clear h1 h2 hX hY
  go_enter Try.func69, Try.ntmps69
  go_wp2_with (at_make; refine wpList_make_full _ rfl _ _ 24 rfl w.heap.size 2 i0 (.int .i64 0) 1 Try.underlying24 hi hz0 hz1 _ _ _ _ (nx + ny) rfl rfl ?c0 ?c01 ?c1 ?c2 ?c3 ?_)
  case c0 => simp
  case c01 => simp
  case c1 => rw [hz2]; omega
  case c2 => unfold maxLen; omega
  case c3 => exact Nat.le_refl _
  intro w2 hown hgrow
  have hB : Below w.heap.size w w2 := (Below.refl _ _).grown hgrow (Nat.le_refl _) (by simp)
  rw [toList_madeCells_one] at hown
  obtain ⟨hh, -, -⟩ := own_full hown
  clear hgrow hi hz0 hz1 hz2 hown
  have M1 : Hid (X.length = Nat.min nx (nx + ny)) := by show X.length = _; rw [lX]; exact (Nat.min_eq_left (by omega)).symm
  have M2 : Hid (0 < X.length → some (⟨w.heap.size, 0, none⟩ : Addr) = some ⟨w.heap.size, 0, none⟩ ∧ ∃ ad, a1 = some ad ∧ ∀ j u, X[j]? = some u → w2.cell? (ad.add j) = some u) := fun hp => ⟨rfl, unhide HP1 _ hB hp⟩
  have M3 : Hid (0 + X.length ≤ (List.replicate (nx + ny) (Value.int .i64 0)).length) := by show _ ≤ _; rw [List.length_replicate]; omega
  have HH := hide hh
  clear hh
  go_wp2_with (refine wpList_copy_splice rfl _ _ _ _ rfl 2 Try.underlying24 size_int (some ⟨w.heap.size, 0, none⟩) a1 (nx + ny) (nx + ny) nx d1 (by rfl) (by rfl) w.heap.size 0 _ 2 (unhide HH) X (unhide M1) (unhide M2) (unhide M3) (unhide HC1) w.heap.size w hB (Nat.le_refl _) ?_)
  intro w3 HG3 hB3
  rw [splice_first] at HG3
  clear HH hB M1 M2 M3
  have M3 : Hid (nx + Y.length ≤ (X ++ List.replicate (nx + ny - X.length) (Value.int .i64 0)).length) := by show _ ≤ _; rw [List.length_append, List.length_replicate]; omega
  by_cases h0 : ny = 0
  · subst h0
    have M1 : Hid (Y.length = Nat.min 0 0) := lY
    have M2 : Hid (0 < Y.length → some (⟨w.heap.size, 0, none⟩ : Addr) = some ⟨w.heap.size, nx, none⟩ ∧ ∃ ad, a2 = some ad ∧ ∀ j u, Y[j]? = some u → w3.cell? (ad.add j) = some u) := fun hp => by omega
    go_wp2_with (refine wpList_copy_splice rfl _ _ _ _ rfl 2 Try.underlying24 size_int (some ⟨w.heap.size, 0, none⟩) a2 0 0 0 d2 (by rfl) (by rfl) w.heap.size nx _ 2 (unhide HG3) Y (unhide M1) (unhide M2) (unhide M3) (unhide HC2) w.heap.size w hB3 (Nat.le_refl _) ?_)
    intro w4 HG4 hB4
    have HF : Hid (w4.ownsRow w.heap.size 2 1 (.slice (some ⟨w.heap.size, 0, none⟩) nx nx) nx ((xs ++ ys).map (Value.int .i64))) := by
      refine full_own (xs := (xs ++ ys).map (Value.int .i64)) ?_ (Nat.le_refl _) ?_ (by unfold maxLen; omega)
      · have hg := unhide HG4
        rw [← lX, splice_end X Y (by omega)] at hg
        rw [List.map_append, ← unhide HX, ← unhide HY]
        exact hg
      · rw [List.map_append, ← unhide HX, ← unhide HY, List.length_append]; omega
    have HB4 := hide hB4
    clear HG3 HG4 hB3 hB4 M1 M2 M3
    go_wp2_with fail
    go_ret
    exact ⟨_, rfl, rfl, unhide HF, unhide HB4⟩
  · have hp0 : 0 < ny := by omega
    have M1 : Hid (Y.length = Nat.min ny ny) := by show Y.length = _; rw [lY]; exact (Nat.min_self _).symm
    have M2 : Hid (0 < Y.length → some (⟨w.heap.size, nx, none⟩ : Addr) = some ⟨w.heap.size, nx, none⟩ ∧ ∃ ad, a2 = some ad ∧ ∀ j u, Y[j]? = some u → w3.cell? (ad.add j) = some u) := fun hp => ⟨rfl, unhide HP2 _ hB3 hp⟩
    go_wp2_with (refine wpList_copy_splice rfl _ _ _ _ rfl 2 Try.underlying24 size_int (some ⟨w.heap.size, nx, none⟩) a2 ny ny ny d2 (by rfl) (by rfl) w.heap.size nx _ 2 (unhide HG3) Y (unhide M1) (unhide M2) (unhide M3) (unhide HC2) w.heap.size w hB3 (Nat.le_refl _) ?_)
    intro w4 HG4 hB4
    have HF : Hid (w4.ownsRow w.heap.size 2 1 (.slice (some ⟨w.heap.size, 0, none⟩) (nx + ny) (nx + ny)) (nx + ny) ((xs ++ ys).map (Value.int .i64))) := by
      refine full_own (xs := (xs ++ ys).map (Value.int .i64)) ?_ (Nat.le_refl _) ?_ (by unfold maxLen; omega)
      · have hg := unhide HG4
        rw [← lX, splice_second X Y _ _ (by omega)] at hg
        rw [List.map_append, ← unhide HX, ← unhide HY]
        exact hg
      · rw [List.map_append, ← unhide HX, ← unhide HY, List.length_append]; omega
    have HB4 := hide hB4
    clear HG3 HG4 hB3 hB4 M1 M2 M3
    go_wp2_with fail
    go_ret
    exact ⟨_, rfl, rfl, unhide HF, unhide HB4⟩

end Go.Proofs.Ytipomhpimmnchaa

namespace Go.Proofs.Ytipomhpimmnchaa
open Go.RowKit

set_option maxRecDepth 100000 in
set_option maxHeartbeats 4000000 in
theorem implSyncLog (cs : List Value) (x : DLog) (w : World) (h : Lay.tLog.Reads w cs x) (n1 : x.sure.length ≤ 10000000) (n2 : x.loose.length ≤ 10000000) :
    Calls Try.prog 44 #[.agg cs.toArray] w fun e w' => ∃ cs, e = .returned (.agg cs.toArray) ∧ Lay.tLogResult.OwnIn w' cs (syncLogR x) w.heap.size w'.heap.size ∧ Below w.heap.size w w' := by
  obtain ⟨a0, d0, a1, d1, rfl, R0, R1⟩ := open_Log h
  have nb : Below w.heap.size w ((w.alloc (.cells #[.slice a0 x.sure.length d0, .slice a1 x.loose.length d1] 48)).alloc (.cells #[.int .i64 0, .int .i64 0, .slice none 0 0, .slice none 0 0] 56)) := ((Below.refl _ _).alloc (Nat.le_refl _) _).alloc (by simp) _
  have bX : Box w.heap.size #[.slice a0 x.sure.length d0, .slice a1 x.loose.length d1] 48 ((w.alloc (.cells #[.slice a0 x.sure.length d0, .slice a1 x.loose.length d1] 48)).alloc (.cells #[.int .i64 0, .int .i64 0, .slice none 0 0, .slice none 0 0] 56)) w.heap.size := (newBox (Nat.le_refl _)).grow _
  have bR : Box 0 #[.int .i64 0, .int .i64 0, .slice none 0 0, .slice none 0 0] 56 ((w.alloc (.cells #[.slice a0 x.sure.length d0, .slice a1 x.loose.length d1] 48)).alloc (.cells #[.int .i64 0, .int .i64 0, .slice none 0 0, .slice none 0 0] 56)) (w.heap.size + 1) := newBoxAt (Nat.zero_le _) (by simp)
  have HL := hide (implLogFault _ x _ (h.later nb) n1 n2)
  have H0 := hide R0
  have H1 := hide R1
  have HX0 := hide bX
  have HR0 := hide bR
  have HB0 := hide nb
  clear h nb bX bR R0 R1
  go_enter Try.func44, Try.ntmps44
  go_wp2_with fail
  generalize (w.alloc (.cells #[.slice a0 x.sure.length d0, .slice a1 x.loose.length d1] 48)).alloc (.cells #[.int .i64 0, .int .i64 0, .slice none 0 0, .slice none 0 0] 56) = W0 at *
  refine (unhide HL).mono ?_
  rintro e W2 ⟨rfl, hb⟩
  have HX := hide ((unhide HX0).keep hb)
  have HR := hide ((unhide HR0).keep hb)
  have HB2 := hide ((unhide HB0).trans (hb.mono (unhide HB0).size))
  clear hb HL HX0 HR0 HB0
  by_cases hf : logFault x = 0
  · obtain ⟨hn, hs, hl⟩ := logFault_zero hf
    have HF := hide hf
    have HSU := hide hs
    have HLO := hide hl
    rw [hf]
    clear hf hs hl
    have HY : Hid (syncLogR x = logOf (x.sure ++ x.loose) []) := by show syncLogR x = _; rw [syncLogR, if_pos (unhide HF)]
    have HWA : Hid (∀ z ∈ x.sure ++ x.loose, (Lit.int .i64 z).wf = true) := by
      intro z hz
      rcases List.mem_append.1 hz with hz | hz
      · exact (Lay.ints_reads (unhide H0)).wf z hz
      · exact (Lay.ints_reads (unhide H1)).wf z hz
    have LJ := hide (implJoined _ _ x.sure x.loose W2 ((unhide H0).later (unhide HB2)) ((unhide H1).later (unhide HB2)) n1 n2)
    have x0 := (unhide HX).at 0 _ rfl
    have x1 := (unhide HX).at 1 _ rfl
    simp only [List.getElem_toArray, List.getElem_cons_zero, List.getElem_cons_succ] at x0 x1
    go_wp2_with fail
    refine (unhide LJ).mono ?_
    rintro e w3 ⟨m, hm, rfl, O3, hb3⟩
    have hO3 := Lay.ownInts (zs := x.sure ++ x.loose) (unhide HWA) (by rw [List.length_append]; omega) (by rw [List.length_append, ← hm]; exact O3)
    have bR3 := (unhide HR).keep hb3
    have hH3 := (unhide HB2).trans (hb3.mono (unhide HB2).size)
    have HO3 := hide hO3
    have HR3 := hide bR3
    have HH3 := hide hH3
    have HLT := hide (unhide HR).lt
    have HBS := hide (unhide HB2).size
    have HM := hide hm
    have HLL : Hid (W2.heap.size ≤ w3.heap.size) := hb3.size
    have hm9 : m ≤ 1000 := by omega
    have LC := hide (implCounted (some ⟨W2.heap.size, 0, none⟩) m m none 0 0 w3 (by omega) (by omega))
    clear LJ O3 hO3 hb3 bR3 hH3 hm x0 x1
    go_wp2_with fail
    refine (unhide LC).mono ?_
    rintro e w4 ⟨cn, hcn, rfl, hb4⟩
    have hlo : w.heap.size + 1 < W2.heap.size := unhide HLT
    have hlo4 : w.heap.size ≤ W2.heap.size := unhide HBS
    have hOW : Lay.tLogResult.OwnIn w4 [.int .i64 0, .int .i64 cn, .slice (some ⟨W2.heap.size, 0, none⟩) m m, .slice none 0 0] (logOf (x.sure ++ x.loose) []) W2.heap.size w4.heap.size := by
      have hcw : (Lit.int .i64 cn).wf = true := by rw [hcn]; exact count_wf (by omega)
      have e : logOf (x.sure ++ x.loose) [] = ⟨0, cn, ⟨x.sure ++ x.loose, []⟩⟩ := by rw [logOf, hcn, List.length_append, ← unhide HM]; rfl
      rw [e]
      have h3 := (unhide HO3).later hb4
      have hz := hb4.size
      have hz2 : W2.heap.size ≤ w3.heap.size := by have := unhide HLL; exact this
      exact own_logR (by decide) hcw h3 (nil_own (lo := w3.heap.size) (hi := w4.heap.size)) (Nat.le_refl _) hz2 hz
    have bR := (unhide HR3).keep hb4
    have hH4 := (unhide HH3).trans (hb4.mono (unhide HH3).size)
    clear hb4 LC HR3 HO3 HR hcn
    have z0 := bR.at 0 _ rfl
    have z1 := bR.at 1 _ rfl
    have z2 := bR.at 2 _ rfl
    have z3 := bR.at 3 _ rfl
    have ff := bR.soft
    have l0 := bR.lt
    simp only [List.getElem_toArray, List.getElem_cons_zero, List.getElem_cons_succ] at z0 z1 z2 z3
    have HFIN := hide (own_store' (s := w.heap.size + 1) (vs := [.int .i64 0, .int .i64 cn, .slice (some ⟨W2.heap.size, 0, none⟩) m m, .slice none 0 0]) hOW hlo)
    have HBF := hide (below_setAll hH4 (w.heap.size + 1) 0 [.int .i64 0, .int .i64 cn, .slice (some ⟨W2.heap.size, 0, none⟩) m m, .slice none 0 0] (by omega))
    have HSF := hide (size_setAll w4 (w.heap.size + 1) 0 [.int .i64 0, .int .i64 cn, .slice (some ⟨W2.heap.size, 0, none⟩) m m, .slice none 0 0])
    have HLO4 := hide hlo4
    clear hOW hH4 bR hlo hlo4
    go_wp2_with fail
    refine bodyPost_ret (v := .agg #[.int .i64 0, .int .i64 cn, .slice (some ⟨W2.heap.size, 0, none⟩) m m, .slice none 0 0]) (by simp [results, Try.results44, go_sem, z0, z1, z2, z3]) rfl ?_
    rw [unhide HY]
    refine ⟨[.int .i64 0, .int .i64 cn, .slice (some ⟨W2.heap.size, 0, none⟩) m m, .slice none 0 0], rfl, ?_, unhide HBF⟩
    refine (unhide HFIN).mono (unhide HLO4) ?_
    exact Nat.le_of_eq (unhide HSF).symm
  · have hd : (logFault x != 0) = true := by simpa using hf
    have HY : Hid (syncLogR x = badLog (logFault x)) := by show syncLogR x = _; rw [syncLogR, if_neg hf]
    have HW := hide (logFault_wf x)
    generalize logFault x = c at *
    clear hf
    have bR := unhide HR
    have z0 := bR.at 0 _ rfl
    have z1 := bR.at 1 _ rfl
    have z2 := bR.at 2 _ rfl
    have z3 := bR.at 3 _ rfl
    have ff := bR.soft
    have l0 := bR.lt
    simp only [List.getElem_toArray, List.getElem_cons_zero, List.getElem_cons_succ] at z0 z1 z2 z3
    clear bR
    go_wp2_with fail
    refine bodyPost_ret (v := .agg #[.int .i64 c, .int .i64 0, .slice none 0 0, .slice none 0 0]) (by simp [results, Try.results44, go_sem, z0, z1, z2, z3]) rfl ?_
    rw [unhide HY]
    have hB9 := below_setAll (unhide HB2) (w.heap.size + 1) 0 [.int .i64 c, .int .i64 0, .slice none 0 0, .slice none 0 0] (by omega)
    exact ⟨[.int .i64 c, .int .i64 0, .slice none 0 0, .slice none 0 0], rfl, own_badLog (unhide HW) (by have := hB9.size; exact this), hB9⟩

end Go.Proofs.Ytipomhpimmnchaa

namespace Go.Proofs.Ytipomhpimmnchaa
open Go.RowKit

theorem vec_small {x : DWrite} (h : wF x = 0) : x.vec.length ≤ 3 := by
  obtain ⟨-, -, -, hk⟩ := writeFault_zero h
  rcases hk with ⟨-, hv⟩ | ⟨-, hv⟩
  · have := (vecFault_zero hv).1; omega
  · rw [hv]; simp
theorem ints_cnt (l : List Int) : cntAll Lay.int.cnt l = l.length := by
  induction l with
  | nil => rfl
  | cons y ys ih => simp only [cntAll, List.length_cons, ih]; show 1 + ys.length = _; omega
theorem writes_small {ws : List DWrite} (h : ∀ x ∈ ws, wF x = 0) : cntAll Lay.tWrite.cnt ws ≤ 10 * ws.length := by
  induction ws with
  | nil => simp [cntAll]
  | cons x xs ih =>
    have h1 := ih fun y hy => h y (List.mem_cons_of_mem _ hy)
    have h2 := vec_small (h x (by simp))
    have h3 : Lay.tWrite.cnt x = x.vec.length + 4 := by
      have e := ints_cnt x.vec
      show 1 + (1 + (cntAll Lay.int.cnt x.vec + (1 + 1))) = _
      omega
    simp only [cntAll, List.length_cons]
    omega
theorem readLog_few (zs : List Int) : Lay.tWritesResult.vcnt (readLogR zs) ≤ 100000000 := by
  rw [vcnt_WritesResult]
  show cntAll Lay.tWrite.cnt (readLogR zs).writes ≤ 100000000
  unfold readLogR
  split
  · exact Nat.zero_le _
  · have h1 := writes_small (readL_right zs)
    have h2 := cnt_le zs
    rw [read_len] at h1
    show cntAll Lay.tWrite.cnt (readL zs) ≤ 100000000
    omega
theorem packAll_few (ws : List DWrite) : Lay.tIntsResult.vcnt (packAllR ws) ≤ 100000000 := by
  rw [vcnt_IntsResult]
  show cntAll Lay.int.cnt (packAllR ws).list ≤ 100000000
  rw [ints_cnt]
  unfold packAllR
  split
  · exact Nat.zero_le _
  · split
    · rename_i h
      show (packs ws).length ≤ _
      rw [packs_len ws (wsFrom_zero h)]
      omega
    · exact Nat.zero_le _
theorem log_few (y : DLogResult) (h : y.log.sure.length + y.log.loose.length ≤ 100000000) : Lay.tLogResult.vcnt y ≤ 100000000 := by
  rw [vcnt_LogResult]
  show cntAll Lay.int.cnt y.log.sure + cntAll Lay.int.cnt y.log.loose ≤ 100000000
  rw [ints_cnt, ints_cnt]
  exact h

end Go.Proofs.Ytipomhpimmnchaa

namespace Go.Proofs.Ytipomhpimmnchaa
open Go.RowKit

theorem syncLog_few {x : DLog} (n1 : x.sure.length ≤ 10000000) (n2 : x.loose.length ≤ 10000000) : Lay.tLogResult.vcnt (syncLogR x) ≤ 100000000 := by
  refine log_few _ ?_
  unfold syncLogR
  split
  · simp only [logOf, List.length_append, List.length_nil]; omega
  · simp [badLog, noLog]
theorem lawSyncLog (cs : List Value) (x : DLog) (w : World) (h : Lay.tLog.Reads w cs x) :
    Calls Try.prog 7 #[.agg cs.toArray] w fun e w' => e = .returned (.bool true) ∧ Below w.heap.size w w' := by
  by_cases hn : Lay.tLog.sz x ≤ 1048576
  · obtain ⟨n1, n2⟩ := sz_log hn
    refine lawx_SyncLog cs x (syncLogR x) w h hn (fun W a ha => (specSyncLog a x W ha n1 n2).mono fun e w' q => ?_) (fun W a ha => implSyncLog a x W ha n1 n2) (syncLog_few n1 n2)
    obtain ⟨cs, q1, q2, q3⟩ := q
    exact ⟨cs, q1, q2.reads, q3⟩
  · exact lawover_SyncLog cs x w h (by omega)

end Go.Proofs.Ytipomhpimmnchaa

namespace Go.Proofs.Ytipomhpimmnchaa
open Go.RowKit Go.ChangeShapes Go.WideShapes

/-- Whatever reads as data of the type t lies as A says. -/
def Opens {α : Type} (A : Lay α) (t : TypeId) : Prop :=
  ∀ {H : Type} (enc : TypeId × Value → H) (W : World) (base : Nat) (spare : Nat → Bool) (held : Bool) (fuel : Nat) (cs : List Value) (x : DataW H × List MemPlace), DataW.trod enc Try.prog W base spare held fuel t cs = some x → ∃ y, A.Reads W cs y

theorem reads_pair {α β : Type} {A : Lay α} {B : Lay β} {W : World} {c1 c2 : List Value} {x : α} {y : β} (h : A.Reads W c1 x) (k : B.Reads W c2 y) : (Lay.pair A B).Reads W (c1 ++ c2) (x, y) := by
  obtain ⟨b1, h⟩ := h
  obtain ⟨b2, k⟩ := k
  exact ⟨b1 ++ b2, c1, c2, b1, b2, rfl, rfl, h, k⟩

theorem opens_int {t : TypeId} (ht : Try.prog.underlying t = some (.int .i64)) : Opens Lay.int t := by
  intro H enc W base spare held fuel cs x h
  obtain ⟨n, rfl, -, hw⟩ := DataW.trod_int ht h
  exact ⟨n, [], rfl, hw, rfl⟩
theorem opens_bool {t : TypeId} (ht : Try.prog.underlying t = some .bool) : Opens Lay.bool t := by
  intro H enc W base spare held fuel cs x h
  obtain ⟨b, rfl, -⟩ := DataW.trod_bool ht h
  exact ⟨b, [], rfl, rfl⟩
theorem opens_str {t : TypeId} (ht : Try.prog.underlying t = some .string) : Opens Lay.str t := by
  intro H enc W base spare held fuel cs x h
  obtain ⟨s, rfl, -, -⟩ := DataW.trod_string ht h
  exact ⟨s, [], rfl, rfl⟩

theorem opens_sl {α : Type} {A : Lay α} {t e : TypeId} (ht : Try.prog.underlying t = some (.slice e)) (hn : Try.prog.cellsOf e = A.n) (h0 : 0 < A.n) (h : Opens A e) : Opens (Lay.sl A) t := by
  intro H enc W base spare held fuel cs x hx
  rcases Go.Deep.open_slice ht hx with ⟨rfl, -⟩ | ⟨a, len, cap, m, n, D, Pl, rfl, hb, hl, hm, hmm, -, hel⟩
  · exact ⟨[], [], none, 0, rfl, ⟨Nat.le_refl _, by simp⟩, Or.inl ⟨rfl, rfl⟩⟩
  · have hlm : len ≤ m := by rw [hmm]; split <;> omega
    rw [hn] at hel
    have each : ∀ i, i < len → ∃ q : List Value × α, (∀ j, j < A.n → W.cell? (a.add (i * A.n + j)) = q.1[j]?) ∧ q.1.length = A.n ∧ A.Reads W q.1 q.2 := by
      intro i hi
      obtain ⟨cs', h1, h2⟩ := hel i (by omega)
      obtain ⟨-, hlen, hc⟩ := World.cells?_some h1
      obtain ⟨y, hy⟩ := h enc W base spare held n cs' _ h2
      refine ⟨(cs', y), fun j hj => ?_, hlen, hy⟩
      have := hc j hj
      rw [Addr.add_add] at this
      exact this
    by_cases hp : 0 < len
    · obtain ⟨b, off, spot⟩ := a
      obtain ⟨q0, c0, l0, -⟩ := each 0 hp
      have hc0 := c0 0 h0
      have hs0 : ∃ v, W.cell? ((⟨b, off, spot⟩ : Addr).add (0 * A.n + 0)) = some v := ⟨_, hc0.trans (List.getElem?_eq_getElem (by omega))⟩
      obtain ⟨v0, hv0⟩ := hs0
      have hspot : spot = none := by simpa [Addr.add] using World.cell?_spot hv0
      subst hspot
      have hbl : b < W.heap.size := by
        have := World.block_lt_of_cell? _ _ hv0
        simpa [Addr.add] using this
      have pick : ∃ f : (i : Nat) → i < len → List Value × α, ∀ i (hi : i < len), (∀ j, j < A.n → W.cell? ((⟨b, off, none⟩ : Addr).add (i * A.n + j)) = (f i hi).1[j]?) ∧ (f i hi).1.length = A.n ∧ A.Reads W (f i hi).1 (f i hi).2 :=
        ⟨fun i hi => Classical.choose (each i hi), fun i hi => Classical.choose_spec (each i hi)⟩
      obtain ⟨f, hf⟩ := pick
      have pick2 : ∃ g : (i : Nat) → i < len → List Nat, ∀ i (hi : i < len), A.lies W (f i hi).1 (f i hi).2 (g i hi) :=
        ⟨fun i hi => Classical.choose (hf i hi).2.2, fun i hi => Classical.choose_spec (hf i hi).2.2⟩
      obtain ⟨g, hg⟩ := pick2
      refine ⟨(List.finRange len).map (fun i => (f i.1 i.2).2), b :: ((List.finRange len).map (fun i => g i.1 i.2)).flatten, some ⟨b, off, none⟩, cap, by simp, ⟨by simpa using hl, by simp; unfold maxLen at hm; omega⟩, Or.inr ⟨b, off, (List.finRange len).map (fun i => (f i.1 i.2).1), (List.finRange len).map (fun i => g i.1 i.2), rfl, hbl, rfl, by simp, by simp, fun j h1 h2 h3 => ?_⟩⟩
      have hj : j < len := by simpa using h1
      refine ⟨fun k hk => ?_, ?_⟩
      · have := (hf j hj).1 k hk
        rw [Addr.add_lit] at this
        simpa [Nat.add_assoc] using this
      · simpa using hg j hj
    · obtain rfl : len = 0 := by omega
      exact ⟨[], [], some a, cap, rfl, ⟨hl, by simp⟩, Or.inl ⟨rfl, rfl⟩⟩

theorem open_arg {α : Type} {A : Lay α} {t : TypeId} (O : Opens A t) {H : Type} {enc : TypeId × Value → H} {W : World} {base : Nat} {spare : Nat → Bool} {held : Bool} {a : Option Addr} {len cap : Nat} {d : DataW H} {p : List MemPlace}
    (h : DataW.Trod enc Try.prog W base spare held t (.slice a len cap) d p) : ∃ y, A.Reads W [.slice a len cap] y := by
  obtain ⟨fuel, hf⟩ := h
  exact O enc W base spare held fuel _ _ (by simpa [Value.cells] using hf)
theorem open_arg_st {α : Type} {A : Lay α} {t : TypeId} (O : Opens A t) {H : Type} {enc : TypeId × Value → H} {W : World} {base : Nat} {spare : Nat → Bool} {held : Bool} {cs : Array Value} {d : DataW H} {p : List MemPlace}
    (h : DataW.Trod enc Try.prog W base spare held t (.agg cs) d p) : ∃ y, A.Reads W cs.toList y := by
  obtain ⟨fuel, hf⟩ := h
  exact O enc W base spare held fuel _ _ (by simpa [Value.cells] using hf)

end Go.Proofs.Ytipomhpimmnchaa

namespace Go.Proofs.Ytipomhpimmnchaa
open Go.RowKit

set_option maxRecDepth 10000 in
theorem opens_Log : Opens Lay.tLog 45 := by
  intro H enc W base spare held fuel cs x h
  obtain ⟨xs, n, _, _, hlen, hl, hfi⟩ := DataW.trod_struct Try.underlying45 h
  rw [show Try.prog.cellsOf 45 = 2 by kernel_rfl] at hlen
  match cs, hlen with
  | [c0, c1], _ =>
  match xs, hl with
  | [y0, y1], _ =>
  have z0 : Try.prog.cellsOf 24 = 1 := by kernel_rfl
  have f0 : DataW.trod enc Try.prog W base spare held n 24 (([c0, c1].drop 0).take (Try.prog.cellsOf 24)) = some y0 := hfi 0 _ rfl
  rw [z0] at f0
  obtain ⟨d0, r0⟩ := (opens_sl Try.underlying24 (by kernel_rfl) (by decide) (opens_int Try.underlying2)) enc W base spare held n _ _ f0
  have f1 : DataW.trod enc Try.prog W base spare held n 24 (([c0, c1].drop 1).take (Try.prog.cellsOf 24)) = some y1 := hfi 1 _ rfl
  rw [z0] at f1
  obtain ⟨d1, r1⟩ := (opens_sl Try.underlying24 (by kernel_rfl) (by decide) (opens_int Try.underlying2)) enc W base spare held n _ _ f1
  exact ⟨⟨d0, d1⟩, (reads_pair r0 r1)⟩

end Go.Proofs.Ytipomhpimmnchaa
