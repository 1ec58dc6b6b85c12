/-
  Texts of this proof in one: ImplJoined, CopyExt, SpecPack8, ImplPackAll, ClearRow.
  Their conditions stand in their theorems.
-/
import Derived.Test.YtipomhpimmnchaaChecked
import Derived.Test.YtipomhpimmnchaaCq07
import Derived.Test.YtipomhpimmnchaaCq05
import Derived.Laws.CopyOwn
import Derived.Test.YtipomhpimmnchaaCq01
import Derived.Deep.CutRange
import Derived.Test.YtipomhpimmnchaaCq08
import Derived.Deep.RegionHeld3
import Derived.Lib.SliceRun

namespace Go.Proofs.Ytipomhpimmnchaa
open Go.RowKit

theorem own_full {w : World} {base e g n : Nat} {xs : List Value} (h : w.ownsRow base e 1 (.slice (some ⟨g, 0, none⟩) n n) n xs) : w.heap[g]? = some (.cells xs.toArray e (0, 0)) ∧ base ≤ g ∧ xs.length = n := by
  obtain ⟨hl, h⟩ := h
  rcases h with ⟨h, -⟩ | ⟨g', cap, cur, hv, hb, hh, -, -, hs, ht⟩
  · cases h
  · simp only [Value.slice.injEq, Option.some.injEq, Addr.mk.injEq, and_true, true_and] at hv
    obtain ⟨rfl, rfl⟩ := hv
    refine ⟨?_, hb, by omega⟩
    rw [hh]
    rw [List.take_of_length_le (by simp; omega)] at ht
    rw [← ht]
theorem full_own {w : World} {base e g n : Nat} {xs : List Value} (h : w.heap[g]? = some (.cells xs.toArray e (0, 0))) (hb : base ≤ g) (hl : xs.length = n) (hn : n ≤ maxLen) : w.ownsRow base e 1 (.slice (some ⟨g, 0, none⟩) n n) n xs :=
  ⟨by omega, Or.inr ⟨g, n, xs.toArray, rfl, hb, h, Nat.le_refl _, hn, by simpa using hl, by rw [Nat.mul_one, ← hl, List.take_length]⟩⟩
theorem news_reads {w : World} {ao : Option Addr} {n cap : Nat} {zs : List Int} (h : (Lay.sl Lay.int).Reads w [.slice ao n cap] zs) (hp : 0 < zs.length) : ∃ ad, ao = some ad ∧ ∀ j u, (zs.map (Value.int .i64))[j]? = some u → w.cell? (ad.add j) = some u := by
  have hc := h.cap.1
  subst hc
  obtain ⟨b, off, rfl, -⟩ := Lay.sl_addr h hp
  exact ⟨_, rfl, (Lay.ints_reads h).news hp⟩
theorem size_int : (Try.prog.info? 2).map (·.size) = some 1 := by kernel_rfl
theorem splice_first (n : Nat) (X : List Value) (z : Value) : splice (List.replicate n z) 0 X = X ++ List.replicate (n - X.length) z := by
  simp [splice]
theorem splice_second (X Y : List Value) (m : Nat) (z : Value) (h : Y.length = m) : splice (X ++ List.replicate m z) X.length Y = X ++ Y := by
  simp [splice, h]

theorem splice_end (X Y : List Value) (h : Y.length = 0) : splice X X.length Y = X ++ Y := by
  obtain rfl := List.eq_nil_of_length_eq_zero h
  simp [splice]

set_option maxRecDepth 100000 in
set_option maxHeartbeats 2000000 in
theorem implJoined (u v : Value) (xs ys : List Int) (w : World) (h1 : (Lay.sl Lay.int).Reads w [u] xs) (h2 : (Lay.sl Lay.int).Reads w [v] ys) (n1 : xs.length ≤ 10000000) (n2 : ys.length ≤ 10000000) :
    Calls Try.prog 69 #[u, v] w fun e w' => ∃ m, m = xs.length + ys.length ∧ e = .returned (.slice (some ⟨w.heap.size, 0, none⟩) m m) ∧ w'.ownsRow w.heap.size 2 1 (.slice (some ⟨w.heap.size, 0, none⟩) m m) m ((xs ++ ys).map (Value.int .i64)) ∧ Below w.heap.size w w' := by
  obtain ⟨a1, d1, rfl⟩ := open_sl h1
  obtain ⟨a2, d2, rfl⟩ := open_sl h2
  obtain ⟨i0, hi, hz0, hz1, hz2⟩ := info_parts info2
  obtain ⟨X, hX⟩ : ∃ X, X = xs.map (Value.int .i64) := ⟨_, rfl⟩
  obtain ⟨Y, hY⟩ : ∃ Y, Y = ys.map (Value.int .i64) := ⟨_, rfl⟩
  have lX : X.length = xs.length := by rw [hX, List.length_map]
  have lY : Y.length = ys.length := by rw [hY, List.length_map]
  have HX := hide hX
  have HY := hide hY
  have H1 := hide h1
  have H2 := hide h2
  have HP1 : Hid (∀ W, Below w.heap.size w W → 0 < X.length → ∃ ad, a1 = some ad ∧ ∀ j u, X[j]? = some u → W.cell? (ad.add j) = some u) := fun W hW hp => by rw [hX]; exact news_reads (h1.later hW) (by omega)
  have HP2 : Hid (∀ W, Below w.heap.size w W → 0 < Y.length → ∃ ad, a2 = some ad ∧ ∀ j u, Y[j]? = some u → W.cell? (ad.add j) = some u) := fun W hW hp => by rw [hY]; exact news_reads (h2.later hW) (by omega)
  have HC1 : Hid (∀ v ∈ X, v.oneCell' = true) := by rw [hX]; intro v hv; obtain ⟨z, -, rfl⟩ := List.mem_map.1 hv; rfl
  have HC2 : Hid (∀ v ∈ Y, v.oneCell' = true) := by rw [hY]; intro v hv; obtain ⟨z, -, rfl⟩ := List.mem_map.1 hv; rfl
  generalize xs.length = nx at *
  generalize ys.length = ny at *
  clear h1 h2 hX hY
  go_enter Try.func69, Try.ntmps69
  go_wp2_with (at_make; refine wpList_make_full _ rfl _ _ 24 rfl w.heap.size 2 i0 (.int .i64 0) 1 Try.underlying24 hi hz0 hz1 _ _ _ _ (nx + ny) rfl rfl ?c0 ?c01 ?c1 ?c2 ?c3 ?_)
  case c0 => simp
  case c01 => simp
  case c1 => rw [hz2]; omega
  case c2 => unfold maxLen; omega
  case c3 => exact Nat.le_refl _
  intro w2 hown hgrow
  have hB : Below w.heap.size w w2 := (Below.refl _ _).grown hgrow (Nat.le_refl _) (by simp)
  rw [toList_madeCells_one] at hown
  obtain ⟨hh, -, -⟩ := own_full hown
  clear hgrow hi hz0 hz1 hz2 hown
  have M1 : Hid (X.length = Nat.min nx (nx + ny)) := by show X.length = _; rw [lX]; exact (Nat.min_eq_left (by omega)).symm
  have M2 : Hid (0 < X.length → some (⟨w.heap.size, 0, none⟩ : Addr) = some ⟨w.heap.size, 0, none⟩ ∧ ∃ ad, a1 = some ad ∧ ∀ j u, X[j]? = some u → w2.cell? (ad.add j) = some u) := fun hp => ⟨rfl, unhide HP1 _ hB hp⟩
  have M3 : Hid (0 + X.length ≤ (List.replicate (nx + ny) (Value.int .i64 0)).length) := by show _ ≤ _; rw [List.length_replicate]; omega
  have HH := hide hh
  clear hh
  go_wp2_with (refine wpList_copy_splice rfl _ _ _ _ rfl 2 Try.underlying24 size_int (some ⟨w.heap.size, 0, none⟩) a1 (nx + ny) (nx + ny) nx d1 (by rfl) (by rfl) w.heap.size 0 _ 2 (unhide HH) X (unhide M1) (unhide M2) (unhide M3) (unhide HC1) w.heap.size w hB (Nat.le_refl _) ?_)
  intro w3 HG3 hB3
  rw [splice_first] at HG3
  clear HH hB M1 M2 M3
  have M3 : Hid (nx + Y.length ≤ (X ++ List.replicate (nx + ny - X.length) (Value.int .i64 0)).length) := by show _ ≤ _; rw [List.length_append, List.length_replicate]; omega
  by_cases h0 : ny = 0
  · subst h0
    have M1 : Hid (Y.length = Nat.min 0 0) := lY
    have M2 : Hid (0 < Y.length → some (⟨w.heap.size, 0, none⟩ : Addr) = some ⟨w.heap.size, nx, none⟩ ∧ ∃ ad, a2 = some ad ∧ ∀ j u, Y[j]? = some u → w3.cell? (ad.add j) = some u) := fun hp => by omega
    go_wp2_with (refine wpList_copy_splice rfl _ _ _ _ rfl 2 Try.underlying24 size_int (some ⟨w.heap.size, 0, none⟩) a2 0 0 0 d2 (by rfl) (by rfl) w.heap.size nx _ 2 (unhide HG3) Y (unhide M1) (unhide M2) (unhide M3) (unhide HC2) w.heap.size w hB3 (Nat.le_refl _) ?_)
    intro w4 HG4 hB4
    have HF : Hid (w4.ownsRow w.heap.size 2 1 (.slice (some ⟨w.heap.size, 0, none⟩) nx nx) nx ((xs ++ ys).map (Value.int .i64))) := by
      refine full_own (xs := (xs ++ ys).map (Value.int .i64)) ?_ (Nat.le_refl _) ?_ (by unfold maxLen; omega)
      · have hg := unhide HG4
        rw [← lX, splice_end X Y (by omega)] at hg
        rw [List.map_append, ← unhide HX, ← unhide HY]
        exact hg
      · rw [List.map_append, ← unhide HX, ← unhide HY, List.length_append]; omega
    have HB4 := hide hB4
    clear HG3 HG4 hB3 hB4 M1 M2 M3
    go_wp2_with fail
    go_ret
    exact ⟨_, rfl, rfl, unhide HF, unhide HB4⟩
  · have hp0 : 0 < ny := by omega
    have M1 : Hid (Y.length = Nat.min ny ny) := by show Y.length = _; rw [lY]; exact (Nat.min_self _).symm
    have M2 : Hid (0 < Y.length → some (⟨w.heap.size, nx, none⟩ : Addr) = some ⟨w.heap.size, nx, none⟩ ∧ ∃ ad, a2 = some ad ∧ ∀ j u, Y[j]? = some u → w3.cell? (ad.add j) = some u) := fun hp => ⟨rfl, unhide HP2 _ hB3 hp⟩
    go_wp2_with (refine wpList_copy_splice rfl _ _ _ _ rfl 2 Try.underlying24 size_int (some ⟨w.heap.size, nx, none⟩) a2 ny ny ny d2 (by rfl) (by rfl) w.heap.size nx _ 2 (unhide HG3) Y (unhide M1) (unhide M2) (unhide M3) (unhide HC2) w.heap.size w hB3 (Nat.le_refl _) ?_)
    intro w4 HG4 hB4
    have HF : Hid (w4.ownsRow w.heap.size 2 1 (.slice (some ⟨w.heap.size, 0, none⟩) (nx + ny) (nx + ny)) (nx + ny) ((xs ++ ys).map (Value.int .i64))) := by
      refine full_own (xs := (xs ++ ys).map (Value.int .i64)) ?_ (Nat.le_refl _) ?_ (by unfold maxLen; omega)
      · have hg := unhide HG4
        rw [← lX, splice_second X Y _ _ (by omega)] at hg
        rw [List.map_append, ← unhide HX, ← unhide HY]
        exact hg
      · rw [List.map_append, ← unhide HX, ← unhide HY, List.length_append]; omega
    have HB4 := hide hB4
    clear HG3 HG4 hB3 hB4 M1 M2 M3
    go_wp2_with fail
    go_ret
    exact ⟨_, rfl, rfl, unhide HF, unhide HB4⟩

end Go.Proofs.Ytipomhpimmnchaa

namespace Go.Proofs.Ytipomhpimmnchaa
open Go.RowKit

theorem ext_setRow (w : World) (g : Nat) (cs : Array Value) : Ext (fun q => q = g) w (w.setRow g cs) := ⟨rfl, rfl, rfl, by simp [World.setRow], fun k _ hn => setRow_other w g k cs (fun e => hn e)⟩
theorem step_copy_ext {P : Program} {ops : Array Oper} {o : Oper} {a : Act} {w : World} {K : Act → World → Prop} {Q : Exit → Act → World → Prop} {E : Prop} (hgd : o.guard = none) (d s : Operand) (dT sT : TypeId)
    (ho : o.op = .call { callee := .builtin .copy, args := #[d, s], argTypes := #[dT, sT] }) (elem : TypeId) (hu : P.underlying dT = some (.slice elem)) (hsz : (P.info? elem).map (·.size) = some 1)
    (dp sp : Option Addr) (dLen dCap sLen sCap : Nat) (hd : a.eval d = .slice dp dLen dCap) (hs : a.eval s = .slice sp sLen sCap)
    (g off : Nat) (cur : List Value) (t : TypeId) (hg : w.heap[g]? = some (.cells cur.toArray t (0, 0))) (cs : List Value) (hn : cs.length = Nat.min sLen dLen)
    (hpos : 0 < cs.length → dp = some ⟨g, off, none⟩ ∧ ∃ ad, sp = some ad ∧ ∀ j v, cs[j]? = some v → w.cell? (ad.add j) = some v)
    (hfit : off + cs.length ≤ cur.length) (h1 : ∀ v ∈ cs, v.oneCell' = true)
    (h : ∀ w', Hid (w'.heap[g]? = some (.cells (splice cur off cs).toArray t (0, 0))) → Ext (fun q => q = g) w w' → K (a.put o.dst (goInt cs.length)) w') :
    if Region.wanted o (yielded ops a.tmps) = true then Oper.wp P o a w K Q else E := by
  have hw : Region.wanted o (yielded ops a.tmps) = true := by simp [Region.wanted, hgd]
  rw [if_pos hw]
  by_cases h0 : cs.length = 0
  · obtain rfl : cs = [] := List.eq_nil_of_length_eq_zero h0
    have hrun := run_copy_none (P := P) w dT sT o.type elem dp sp dLen dCap sLen sCap hu hsz (by simpa using hn.symm)
    unfold Oper.wp
    simp [execOp, ho, resolve, invoke, builtin, hd, hs, hrun, Result.andThen]
    exact h w (show _ = _ by simpa [splice] using hg) (Ext.refl _ _)
  · obtain ⟨rfl, ad, rfl, hsrc⟩ := hpos (by omega)
    have hrun := run_copy_row (P := P) w dT sT o.type elem g off dLen dCap ad sLen sCap cur.toArray t cs hu hsz hg hn hsrc (by simpa using hfit) h1
    unfold Oper.wp
    simp [execOp, ho, resolve, invoke, builtin, hd, hs, hrun, Result.andThen]
    exact h _ (show _ = _ by simpa [splice] using setRow_heap w g _ _ t _ hg) (ext_setRow w g _)

end Go.Proofs.Ytipomhpimmnchaa

namespace Go.Proofs.Ytipomhpimmnchaa
open Go.RowKit

theorem packs_snoc (ws : List DWrite) (k : Nat) (h : k < ws.length) : packs (ws.take (k + 1)) = packs (ws.take k) ++ packD ws[k] := by
  rw [packs, List.take_succ_eq_append_getElem h, List.flatMap_append]
  simp [packs]
theorem packs_wf (ws : List DWrite) : ∀ z ∈ packs ws, (Lit.int .i64 z).wf = true := by
  intro z hz
  obtain ⟨x, -, hx⟩ := List.mem_flatMap.1 hz
  exact packList_wf z hx
theorem take_right {ws : List DWrite} (h : ∀ x ∈ ws, wF x = 0) (k : Nat) : ∀ x ∈ ws.take k, wF x = 0 := fun x hx => h x (List.mem_of_mem_take hx)

set_option maxRecDepth 100000 in
set_option maxHeartbeats 4000000 in
theorem pack8_pos (b off cap : Nat) (ws : List DWrite) (w : World) (h : (Lay.sl Lay.tWrite).Reads w [.slice (some ⟨b, off, none⟩) ws.length cap] ws) (hbl : b < w.heap.size) (hn : ws.length ≤ 1000000) (hf : ∀ x ∈ ws, wF x = 0) :
    Calls Try.prog 54 #[.slice (some ⟨b, off, none⟩) ws.length cap] w fun e w' => ∃ v', e = .returned v' ∧ w'.ownsRow w.heap.size 2 1 v' (packs ws).length ((packs ws).map (Value.int .i64)) ∧ Below w.heap.size w w' := by
  have H := hide h
  have HF := hide hf
  clear h hf
  have HO0 : Hid ((w.alloc (.cells #[] 2)).ownsRow w.heap.size 2 1 (.slice (some ⟨w.heap.size, 0, none⟩) 0 0) 0 []) := World.ownsRow_lit w _ 0 (Nat.le_refl _) (by unfold maxLen; omega) rfl
  have HB0 := hide ((Below.refl w.heap.size w).alloc (Nat.le_refl _) (.cells #[] 2))
  go_enter Try.func54, Try.ntmps54
  go_wp2_with fail
  go_loopw [3, 4] (fun v i wr => ∃ k : Nat, k ≤ ws.length ∧ i = .int .i64 k ∧ wr.ownsRow w.heap.size 2 1 v (packs (ws.take k)).length ((packs (ws.take k)).map (Value.int .i64)) ∧ Below w.heap.size w wr) (fun _ i _ => ws.length - (intOf i).toNat)
  case atStart => exact ⟨0, Nat.zero_le _, rfl, unhide HO0, unhide HB0⟩
  case round =>
    obtain ⟨k, hk, rfl, hO, hB⟩ := hrel
    clear HO0 HB0
    by_cases hlt : k < ws.length
    · obtain ⟨row, hc, hr⟩ := Lay.row_at ((unhide H).later hB) hlt
      obtain ⟨a2, d2, rfl, R2⟩ := open_Write hr
      have c0 : wr.cell? ⟨b, off + k * 5, none⟩ = some (.int .i64 (ws[k]).kind) := hc 0 (by decide)
      have c1 : wr.cell? ⟨b, off + k * 5 + 1, none⟩ = some (.int .i64 (ws[k]).id) := hc 1 (by decide)
      have c2 : wr.cell? ⟨b, off + k * 5 + 2, none⟩ = some (.slice a2 (ws[k]).vec.length d2) := hc 2 (by decide)
      have c3 : wr.cell? ⟨b, off + k * 5 + 3, none⟩ = some (.int .i64 (ws[k]).session) := hc 3 (by decide)
      have c4 : wr.cell? ⟨b, off + k * 5 + 4, none⟩ = some (.int .i64 (ws[k]).seq) := hc 4 (by decide)
      have HT := hide (packs_snoc ws k hlt)
      have hfx : wF ws[k] = 0 := unhide HF ws[k] (List.getElem_mem hlt)
      have hLn : (packs (ws.take k)).length = 8 * k := by rw [packs_len _ (take_right (unhide HF) k), List.length_take]; omega
      have HL := hide (l3PackO b (off + k * 5) _ _ _ _ _ ws[k].vec wr ⟨c0, c1, c2, c3, c4⟩ (Lay.ints_reads R2) hfx)
      have HPD : Hid (packD ws[k] = wordsOf ws[k].kind ws[k].id ws[k].vec ws[k].session ws[k].seq) := by
        show packD ws[k] = _
        rw [packD, packList, if_pos (show writeFault ws[k].kind ws[k].id ws[k].vec ws[k].session ws[k].seq = 0 from hfx)]
      have HWF : Hid (∀ z ∈ packD ws[k], (Lit.int .i64 z).wf = true) := fun z hz => packList_wf z hz
      have hl8 : (packD ws[k]).length = 8 := packD_len hfx
      have hbr : b < wr.heap.size := Nat.lt_of_lt_of_le hbl hB.size
      clear hc hr R2 c0 c1 c2 c3 c4 hfx
      have HO := hide hO
      have HB := hide hB
      rw [← unhide HPD] at HL
      clear hO hB HPD
      generalize packD ws[k] = pd at *
      have HLn := hide hLn
      clear hLn
      go_wp2_with fail
      refine (unhide HL).mono ?_
      rintro e w2 ⟨g2, rfl, O2, hb⟩
      have I2 := isInts_row (unhide HWF) (by rw [hl8]; exact O2)
      have O3 := own_below (unhide HO) hb
      have HB2 := hide ((unhide HB).trans (hb.mono (unhide HB).size))
      have hz := (unhide HB2).size
      have hN : (packs (ws.take k)).length + pd.length ≤ 100000000 := by rw [unhide HLn, hl8]; omega
      clear HL HO HB hb O2
      go_wp2_with (at_builtin; refine wpList_append_ints O3 I2 rfl _ _ rfl rfl rfl hN hz ?_)
      rintro v5 w5 O5 - hb5
      have HO5 := hide O5
      have HB5 := hide ((unhide HB2).trans hb5)
      clear O3 I2 hN hz O5 hb5 HB2
      go_wp2_with fail
      go_roundw
      case rel =>
        refine ⟨k + 1, by omega, by go_num, ?_, unhide HB5⟩
        rw [unhide HT, List.length_append, List.map_append, hl8]
        exact unhide HO5
      case measure => simp [intOf]; omega
    · obtain rfl : k = ws.length := by omega
      rw [List.take_length] at hO
      have HO := hide hO
      have HB := hide hB
      clear hO hB H
      go_wp2_with fail
      go_ret
      exact ⟨_, rfl, unhide HO, unhide HB⟩

set_option maxHeartbeats 400000 in
/-- l8Pack of the model. -/
theorem pack8C (v : Value) (ws : List DWrite) (w : World) (h : (Lay.sl Lay.tWrite).Reads w [v] ws) (hn : ws.length ≤ 1000000) (hf : ∀ x ∈ ws, wF x = 0) :
    Calls Try.prog 54 #[v] w fun e w' => ∃ v', e = .returned v' ∧ w'.ownsRow w.heap.size 2 1 v' (packs ws).length ((packs ws).map (Value.int .i64)) ∧ Below w.heap.size w w' := by
  obtain ⟨ao, cap, rfl⟩ := open_sl h
  by_cases hp : 0 < ws.length
  · obtain ⟨b, off, rfl, hbl⟩ := Lay.sl_addr h hp
    exact pack8_pos b off cap ws w h hbl hn hf
  · obtain rfl : ws = [] := List.eq_nil_of_length_eq_zero (by omega)
    clear h hp hn hf
    have HB := hide ((Below.refl w.heap.size w).alloc (Nat.le_refl _) (.cells #[] 2))
    have HO0 : Hid ((w.alloc (.cells #[] 2)).ownsRow w.heap.size 2 1 (.slice (some ⟨w.heap.size, 0, none⟩) 0 0) 0 []) := World.ownsRow_lit w _ 0 (Nat.le_refl _) (by unfold maxLen; omega) rfl
    go_enter Try.func54, Try.ntmps54
    go_wp2_with fail
    refine wp_loop_rounds 1 ?_
    rw [rounds_succ]
    go_wp2_with fail
    go_ret
    exact ⟨_, rfl, unhide HO0, unhide HB⟩

end Go.Proofs.Ytipomhpimmnchaa

namespace Go.Proofs.Ytipomhpimmnchaa
open Go.RowKit

theorem splice_at (ws : List DWrite) (k : Nat) (hk : k < ws.length) (hf : ∀ x ∈ ws.take (k + 1), wF x = 0) (h : wF ws[k] = 0) :
    splice ((packs (ws.take k)).map (Value.int .i64) ++ List.replicate (8 * (ws.length - k)) (Value.int .i64 0)) (8 * k) ((packD ws[k]).map (Value.int .i64)) = (packs (ws.take (k + 1))).map (Value.int .i64) ++ List.replicate (8 * (ws.length - (k + 1))) (Value.int .i64 0) := by
  have h0 : ∀ x ∈ ws.take k, wF x = 0 := fun x hx => hf x (by rw [List.take_succ_eq_append_getElem hk]; exact List.mem_append_left _ hx)
  have hl : ((packs (ws.take k)).map (Value.int .i64)).length = 8 * k := by rw [List.length_map, packs_len _ h0, List.length_take]; omega
  have h8 : ((packD ws[k]).map (Value.int .i64)).length = 8 := by rw [List.length_map, packD_len h]
  rw [packs_snoc ws k hk, List.map_append, List.append_assoc]
  unfold splice
  rw [h8, List.take_append_of_le_length (by omega), List.take_of_length_le (by omega)]
  congr 2
  rw [List.drop_append, List.drop_eq_nil_of_le (by omega), List.nil_append, hl, List.drop_replicate]
  congr 1
  omega

set_option maxRecDepth 100000 in
set_option maxHeartbeats 8000000 in
theorem implPackAll_few (ao : Option Addr) (cap : Nat) (ws : List DWrite) (w : World) (h : (Lay.sl Lay.tWrite).Reads w [.slice ao ws.length cap] ws) (hn : ws.length ≤ 40) :
    Calls Try.prog 14 #[.slice ao ws.length cap] w fun e w' => ∃ cs, e = .returned (.agg cs.toArray) ∧ Lay.tIntsResult.OwnIn w' cs (packAllR ws) w.heap.size w'.heap.size ∧ Below w.heap.size w w' := by
  have hnn : ¬ 40 < ws.length := by omega
  have nb : Below w.heap.size w (w.alloc (.cells #[.int .i64 0, .slice none 0 0] 26)) := (Below.refl _ _).alloc (Nat.le_refl _) _
  have bR : Box w.heap.size #[.int .i64 0, .slice none 0 0] 26 (w.alloc (.cells #[.int .i64 0, .slice none 0 0] 26)) w.heap.size := newBox (Nat.le_refl _)
  have H := hide h
  have HB := hide nb
  have HR := hide bR
  have hbig := h.big
  obtain ⟨i0, hi, hz0, hz1, hz2⟩ := info_parts info2
  clear h nb bR
  go_enter Try.func14, Try.ntmps14
  go_wp2_with (at_make; refine wpList_make_full _ rfl _ _ 24 rfl w.heap.size 2 i0 (.int .i64 0) 1 Try.underlying24 hi hz0 hz1 _ _ _ _ (8 * ws.length) rfl rfl ?c0 ?c01 ?c1 ?c2 ?c3 ?_)
  case c0 => simp
  case c01 => simp
  case c1 => rw [hz2]; omega
  case c2 => unfold maxLen; omega
  case c3 => simp
  generalize w.alloc (.cells #[.int .i64 0, .slice none 0 0] 26) = W0 at *
  intro w2 hown hgrow
  rw [toList_madeCells_one] at hown
  have hB2 : Below W0.heap.size W0 w2 := (Below.refl _ _).grown hgrow (Nat.le_refl _) (by simp)
  obtain ⟨hh, -, -⟩ := own_full hown
  have HH := hide hh
  have HR2 := hide ((unhide HR).keep hB2)
  have HB2 := hide ((unhide HB).trans (hB2.mono (unhide HB).size))
  obtain ⟨g0, hg0⟩ : ∃ g0, g0 = w.heap.size + 1 := ⟨_, rfl⟩
  have HPG : Hid (w.heap.size < g0) := by show w.heap.size < g0; omega
  rw [← hg0] at HH ⊢
  clear hgrow hi hz0 hz1 hz2 hown hh hB2 HR HB hg0
  go_wp2_with fail
  go_loopw [17] (fun i wr => ∃ k : Nat, k ≤ ws.length ∧ i = .int .i64 k ∧ (∀ j (hj : j < ws.length), j < k → wF ws[j] = 0) ∧ wr.heap[g0]? = some (.cells ((packs (ws.take k)).map (Value.int .i64) ++ List.replicate (8 * (ws.length - k)) (Value.int .i64 0)).toArray 2 (0, 0)) ∧ Box w.heap.size #[.int .i64 0, .slice none 0 0] 26 wr w.heap.size ∧ Below w.heap.size w wr) (fun i _ => ws.length - (intOf i).toNat)
  case atStart => exact ⟨0, Nat.zero_le _, rfl, fun _ _ h => by omega, unhide HH, unhide HR2, unhide HB2⟩
  case round =>
    obtain ⟨k, hk, rfl, hz, hrow, hR, hB⟩ := hrel
    clear HH HR2 HB2
    by_cases hlt : k < ws.length
    · obtain ⟨b, off, rfl, hbl⟩ := Lay.sl_addr (unhide H) (by omega)
      obtain ⟨row, hc, hr⟩ := Lay.row_at ((unhide H).later hB) hlt
      obtain ⟨a2, d2, rfl, R2⟩ := open_Write hr
      have c0 : wr.cell? ⟨b, off + k * 5, none⟩ = some (.int .i64 (ws[k]).kind) := hc 0 (by decide)
      have c1 : wr.cell? ⟨b, off + k * 5 + 1, none⟩ = some (.int .i64 (ws[k]).id) := hc 1 (by decide)
      have c2 : wr.cell? ⟨b, off + k * 5 + 2, none⟩ = some (.slice a2 (ws[k]).vec.length d2) := hc 2 (by decide)
      have c3 : wr.cell? ⟨b, off + k * 5 + 3, none⟩ = some (.int .i64 (ws[k]).session) := hc 3 (by decide)
      have c4 : wr.cell? ⟨b, off + k * 5 + 4, none⟩ = some (.int .i64 (ws[k]).seq) := hc 4 (by decide)
      have hbr : b < wr.heap.size := Nat.lt_of_lt_of_le hbl hB.size
      have HAT := hide (wsFrom_at ws k hlt hz)
      have HNX0 : Hid (wF ws[k] = 0 → ∀ j (hj : j < ws.length), j < k + 1 → wF ws[j] = 0) := by
        intro e j hj h1
        by_cases h2 : j = k
        · subst h2; exact e
        · exact hz j hj (by omega)
      have HSP : Hid ((∀ x ∈ ws.take (k + 1), wF x = 0) → wF ws[k] = 0 → splice ((packs (ws.take k)).map (Value.int .i64) ++ List.replicate (8 * (ws.length - k)) (Value.int .i64 0)) (8 * k) ((packD ws[k]).map (Value.int .i64)) = (packs (ws.take (k + 1))).map (Value.int .i64) ++ List.replicate (8 * (ws.length - (k + 1))) (Value.int .i64 0)) := splice_at ws k hlt
      have HPK : Hid (packList ws[k].kind ws[k].id ws[k].vec ws[k].session ws[k].seq = packD ws[k]) := rfl
      have HWX : Hid (writeFault ws[k].kind ws[k].id ws[k].vec ws[k].session ws[k].seq = wF ws[k]) := rfl
      have hcl : ((packs (ws.take k)).map (Value.int .i64) ++ List.replicate (8 * (ws.length - k)) (Value.int .i64 0)).length = 8 * ws.length := by
        rw [List.length_append, List.length_map, List.length_replicate, packs_len (ws.take k) (fun x hx => by
          obtain ⟨j, hj, rfl⟩ := List.getElem_of_mem hx
          rw [List.getElem_take]
          rw [List.length_take] at hj
          exact hz j (by omega) (by omega)), List.length_take]
        omega
      have HCL := hide hcl
      have HZ := hide hz
      clear hc hr hz hcl
      generalize hx : ws[k] = x at *
      clear hx
      have nb1 : Below wr.heap.size wr (wr.alloc (.cells #[.int .i64 x.kind, .int .i64 x.id, .slice a2 x.vec.length d2, .int .i64 x.session, .int .i64 x.seq] 58)) := (Below.refl _ _).alloc (Nat.le_refl _) _
      have L := hide (implPack x.kind x.id _ x.session x.seq x.vec _ ((Lay.ints_reads R2).later nb1))
      rw [unhide HPK, unhide HWX] at L
      have HN1 := hide nb1
      have HROW := hide hrow
      have HRB := hide hR
      have HBB := hide hB
      clear nb1 R2 hrow hR hB HPK HWX
      go_wp2_with fail
      refine (unhide L).mono ?_
      clear c0 c1 c2 c3 c4
      have HZ1 : Hid ((wr.alloc (.cells #[.int .i64 x.kind, .int .i64 x.id, .slice a2 x.vec.length d2, .int .i64 x.session, .int .i64 x.seq] 58)).heap.size = wr.heap.size + 1) := by show _ = _; simp
      generalize wr.alloc (.cells #[.int .i64 x.kind, .int .i64 x.id, .slice a2 x.vec.length d2, .int .i64 x.session, .int .i64 x.seq] 58) = W1 at *
      rintro e w3 ⟨r3, rfl, O3, hb3⟩
      obtain ⟨a4, c4, rfl⟩ := own_shape O3
      have hOI := Lay.ownInts (zs := packD x) (fun z hz => packList_wf z hz) (Nat.le_trans packList_len (by omega)) O3
      have nb5 : Below w3.heap.size w3 (w3.alloc (.cells #[.int .i64 (wF x), .slice a4 (packD x).length c4] 26)) := (Below.refl _ _).alloc (Nat.le_refl _) _
      have hB13 : Below wr.heap.size wr w3 := (unhide HN1).trans (hb3.mono (unhide HN1).size)
      have hB15 := hB13.trans (nb5.mono hB13.size)
      have HOI := hide (hOI.later nb5)
      have HP5 : Hid (Box 0 #[.int .i64 (wF x), .slice a4 (packD x).length c4] 26 (w3.alloc (.cells #[.int .i64 (wF x), .slice a4 (packD x).length c4] 26)) w3.heap.size) := newBox (Nat.zero_le _)
      have HR5 := hide ((unhide HRB).keep hB15)
      have HB5 := hide ((unhide HBB).trans (hB15.mono (unhide HBB).size))
      have HROW5 := hide ((hB15.block g0 (Array.getElem?_eq_some_iff.1 (unhide HROW)).1).trans (unhide HROW))
      have HG1 : Hid (g0 < W1.heap.size ∧ g0 < w3.heap.size) := by
        have h1 := (Array.getElem?_eq_some_iff.1 (unhide HROW)).1
        have h2 := unhide HZ1
        have h3 := hb3.size
        exact ⟨by omega, by omega⟩
      have HWF := hide (wF_wf x)
      have HPL : Hid ((packD x).length = if wF x = 0 then 8 else 0) := by
        show (packD x).length = _
        by_cases e : wF x = 0
        · rw [if_pos e, packD_len e]
        · rw [if_neg e, packD, packList, if_neg (show ¬ writeFault x.kind x.id x.vec x.session x.seq = 0 from e)]; rfl
      simp only [intsRes]
      clear L O3 hb3 hOI nb5 hB13 hB15 HROW HRB HBB HN1 HZ1
      have p0 := (unhide HP5).at 0 _ rfl
      simp only [List.getElem_toArray, List.getElem_cons_zero] at p0
      by_cases hx0 : wF x = 0
      · have h8 : (packD x).length = 8 := by rw [unhide HPL, if_pos hx0]
        have HNX := hide (unhide HNX0 hx0)
        obtain ⟨CS, hCS⟩ : ∃ CS, CS = (packD x).map (Value.int .i64) := ⟨_, rfl⟩
        have hcs8 : CS.length = 8 := by rw [hCS, List.length_map, h8]
        have K1 : Hid (CS.length = Nat.min 8 (8 * ws.length - 8 * k)) := by show CS.length = _; rw [hcs8]; exact (Nat.min_eq_left (by omega)).symm
        have K3 : Hid (8 * k + CS.length ≤ ((packs (ws.take k)).map (Value.int .i64) ++ List.replicate (8 * (ws.length - k)) (Value.int .i64 0)).length) := by show _ ≤ _; rw [unhide HCL, hcs8]; omega
        have K4 : Hid (∀ v ∈ CS, v.oneCell' = true) := by rw [hCS]; intro v hv; obtain ⟨z, -, rfl⟩ := List.mem_map.1 hv; rfl
        have K5 : Hid (splice ((packs (ws.take k)).map (Value.int .i64) ++ List.replicate (8 * (ws.length - k)) (Value.int .i64 0)) (8 * k) CS = (packs (ws.take (k + 1))).map (Value.int .i64) ++ List.replicate (8 * (ws.length - (k + 1))) (Value.int .i64 0)) := by
          show splice _ _ _ = _
          rw [hCS]
          refine unhide HSP (fun y hy => ?_) hx0
          obtain ⟨j, hj, rfl⟩ := List.getElem_of_mem hy
          rw [List.getElem_take]
          rw [List.length_take] at hj
          exact unhide HNX j (by omega) (by omega)
        have K2 : Hid (∀ W, Ext (fun q => q = g0) (w3.alloc (.cells #[.int .i64 (wF x), .slice a4 (packD x).length c4] 26)) W → 0 < CS.length → ∃ ad, a4 = some ad ∧ ∀ j v, CS[j]? = some v → W.cell? (ad.add j) = some v) := fun W hE hp => by
          rw [hCS]
          exact news_reads ((unhide HOI).lies.ext hE (fun q h1 h2 h3 => by have := (unhide HG1).1; omega)).reads (by omega)
        rw [h8] at HP5 HOI K2 HR5 HB5 HROW5 p0 ⊢
        rw [hx0] at HP5 HOI K2 HR5 HB5 HROW5 p0 ⊢
        clear HAT HNX0 HSP HZ hCS HPL HCL HWF HOI
        go_wp2_with fail
        clear p0
        generalize w3.alloc (.cells #[.int .i64 0, .slice a4 8 c4] 26) = W5 at *
        have hRow : W5.drew.heap[g0]? = some (.cells ((packs (ws.take k)).map (Value.int .i64) ++ List.replicate (8 * (ws.length - k)) (Value.int .i64 0)).toArray 2 (0, 0)) := unhide HROW5
        have HPB : Hid (g0 < w3.heap.size) := (unhide HG1).2
        refine wp_region_noPanic ?_
        refine wp_region_held_drew (S := fun w' => Ext (fun q => q = g0) W5 w') (by kernel_rfl) ⟨rfl, rfl, rfl, Nat.le_refl _, fun _ _ _ => rfl⟩ (fun hHeld => ?_)
        generalize W5.drew = wD at hHeld hRow ⊢
        refine wpAnyH_take (i := 0) (oi := { dst := some 30, op := Go.Op.move (Go.Operand.tmp 3), type := 24, pos := "l08_log.go:112", after := #[], guard := none }) (v := ?v0_1) rfl (by kernel_rfl) (by kernel_rfl) (by kernel_rfl) (fun _ _ _ h => h) (Or.inl ⟨by rfl, ?h0_1⟩) hHeld ?r0_1
        case h0_1 =>
          intro wS hSw
          (try dsimp only at hSw)
          go_simp
          try with_reducible rfl
        case r0_1 =>
        simp only [Act.put, List.setIfInBounds_toArray, List.set_cons_zero, List.set_cons_succ]
        refine wpAnyH_take (i := 1) (oi := { dst := some 31, op := Go.Op.move (Go.Operand.tmp 4), type := 3, pos := "l08_log.go:112", after := #[], guard := none }) (v := ?v1_2) rfl (by kernel_rfl) (by kernel_rfl) (by kernel_rfl) (fun _ _ _ h => h) (Or.inl ⟨by rfl, ?h1_2⟩) hHeld ?r1_2
        case h1_2 =>
          intro wS hSw
          (try dsimp only at hSw)
          go_simp
          try with_reducible rfl
        case r1_2 =>
        simp only [Act.put, List.setIfInBounds_toArray, List.set_cons_zero, List.set_cons_succ]
        refine wpAnyH_take (i := 2) (oi := { dst := some 32, op := Go.Op.binOp Go.BinOp.mul 3 (Go.Operand.const (Go.Value.int Go.IntKind.i64 8)) (Go.Operand.tmp 31) 3, type := 3, pos := "l08_log.go:112", after := #[{ on := 1, ground := Go.Ground.data }], guard := none }) (v := ?v2_3) rfl (by kernel_rfl) (by kernel_rfl) (by kernel_rfl) (fun _ _ _ h => h) (Or.inl ⟨by rfl, ?h2_3⟩) hHeld ?r2_3
        case h2_3 =>
          intro wS hSw
          clear hSw
          have hwr : IntKind.i64.wrap (8 * (k : Int)) = 8 * (k : Int) := by rw [IntKind.wrap_i64]; omega
          (try dsimp only at hSw)
          go_simp
          try with_reducible rfl
        case r2_3 =>
        simp only [Act.put, List.setIfInBounds_toArray, List.set_cons_zero, List.set_cons_succ]
        refine wpAnyH_take (i := 3) (oi := { dst := some 33, op := Go.Op.slice 24 (Go.Operand.tmp 30) (some (Go.Operand.tmp 32)) none none, type := 24, pos := "l08_log.go:112", after := #[{ on := 0, ground := Go.Ground.data }, { on := 2, ground := Go.Ground.data }], guard := none }) (v := ?v3_4) rfl (by kernel_rfl) (by kernel_rfl) (by kernel_rfl) (fun _ _ _ h => h) (Or.inl ⟨by rfl, ?h3_4⟩) hHeld ?r3_4
        case h3_4 =>
          intro wS hSw
          clear hSw
          have hwr : IntKind.i64.wrap (8 * (k : Int)) = 8 * (k : Int) := by rw [IntKind.wrap_i64]; omega
          have s1 : (8 : Int) * (k : Int) ≤ 8 * (ws.length : Int) := by omega
          have s3 : (0 : Int) ≤ 8 * (k : Int) := by omega
          have s4 : (8 * (k : Int)).toNat = 8 * k := by omega
          have s2 : ¬ 8 * ws.length = 8 * k := by omega
          (try dsimp only at hSw)
          go_simp
          try with_reducible rfl
        case r3_4 =>
        simp only [Act.put, List.setIfInBounds_toArray, List.set_cons_zero, List.set_cons_succ]
        refine wpAnyH_take (i := 4) (oi := { dst := some 34, op := Go.Op.fieldAddr 26 (Go.Operand.tmp 6) 1, type := 0, pos := "l08_log.go:112", after := #[], guard := none }) (v := ?v4_5) rfl (by kernel_rfl) (by kernel_rfl) (by kernel_rfl) (fun _ _ _ h => h) (Or.inl ⟨by rfl, ?h4_5⟩) hHeld ?r4_5
        case h4_5 =>
          intro wS hSw
          (try dsimp only at hSw)
          go_simp
          try with_reducible rfl
        case r4_5 =>
        simp only [Act.put, List.setIfInBounds_toArray, List.set_cons_zero, List.set_cons_succ]
        refine wpAnyH_take (i := 5) (oi := { dst := some 35, op := Go.Op.load 24 (Go.Operand.tmp 34), type := 24, pos := "l08_log.go:112", after := #[{ on := 4, ground := Go.Ground.data }], guard := none }) (v := ?v5_6) rfl (by kernel_rfl) (by kernel_rfl) (by kernel_rfl) (fun _ _ _ h => h) (Or.inl ⟨by rfl, ?h5_6⟩) hHeld ?r5_6
        case h5_6 =>
          intro wS hSw
          have y1 := ((unhide HP5).ext hSw (by have := unhide HPB; omega)).at 1 _ rfl
          simp only [List.getElem_toArray, List.getElem_cons_zero, List.getElem_cons_succ] at y1
          clear hSw
          (try dsimp only at hSw)
          go_simp
          try with_reducible rfl
        case r5_6 =>
        simp only [Act.put, List.setIfInBounds_toArray, List.set_cons_zero, List.set_cons_succ]
        refine wpAnyH_ready (rs := [6]) (by kernel_rfl) (by simp) ?_
        refine AllReadyH.cons (o := { dst := some 36, op := Go.Op.call { callee := Go.Callee.builtin Go.Builtin.copy, args := #[Go.Operand.tmp 33, Go.Operand.tmp 35], argTypes := #[24, 24] }, type := 3, pos := "l08_log.go:112", after := #[{ on := 3, ground := Go.Ground.data }, { on := 5, ground := Go.Ground.data }], guard := none }) rfl (fun K hK => ?_) AllReadyH.nil
        refine step_copy_ext rfl _ _ _ _ rfl 2 Try.underlying24 size_int (some ⟨g0, 8 * k, none⟩) a4 (8 * ws.length - 8 * k) (8 * ws.length - 8 * k) 8 c4 (by rfl) (by rfl) g0 (8 * k) _ 2 hRow CS (unhide K1) (fun hp => ⟨rfl, unhide K2 _ hHeld hp⟩) (unhide K3) (unhide K4) ?_
        intro w6 HG6 hE6
        refine hK.out _ _ (hHeld.trans hE6) (fun hHeld => ?_)
        clear hK K
        try simp only [Act.put, List.setIfInBounds_toArray, List.set_cons_zero, List.set_cons_succ]
        refine wpAnyH_done (by kernel_rfl) ?_ _
        refine NoPanic.normal ?_
        have HG9 : Hid (w6.heap[g0]? = some (.cells ((packs (ws.take (k + 1))).map (Value.int .i64) ++ List.replicate (8 * (ws.length - (k + 1))) (Value.int .i64 0)).toArray 2 (0, 0))) := by
          have hg := unhide HG6
          rw [unhide K5] at hg
          exact hg
        have HE9 := hide hHeld
        clear hHeld HG6 hE6 hRow
        go_wp2_with fail
        go_roundw
        case rel => exact ⟨k + 1, by omega, by go_num, unhide HNX, unhide HG9, (unhide HR5).ext (unhide HE9) (by have := unhide HPG; omega), (unhide HB5).trans ((unhide HE9).below (unhide HB5).size (fun q hq e => by have := unhide HPG; omega))⟩
        case measure => simp [intOf]; omega
      · have hd : (wF x != 0) = true := by simpa using hx0
        have hl0 : (packD x).length = 0 := by rw [unhide HPL, if_neg hx0]
        have HY : Hid (packAllR ws = ⟨wF x, []⟩) := by
          have e := unhide HAT hx0
          show packAllR ws = _
          rw [packAllR, if_neg hnn, e, if_neg hx0]
        have bR := unhide HR5
        have z0 := bR.at 0 _ rfl
        have z1 := bR.at 1 _ rfl
        have f0 := bR.soft 0
        have f1 := bR.soft 1
        have l0 := bR.lt
        simp only [List.getElem_toArray, List.getElem_cons_zero, List.getElem_cons_succ] at z0 z1
        clear HAT HNX0 HSP HZ HPL HCL HOI HP5 HROW5 HG1 hx0 bR HR5 hl0
        generalize wF x = c at *
        go_wp2_with fail
        refine bodyPost_ret (v := .agg #[.int .i64 c, .slice none 0 0]) (by simp [results, Try.results14, go_sem, z0, z1]) rfl ?_
        rw [unhide HY]
        exact ⟨[.int .i64 c, .slice none 0 0], rfl, own_isR (unhide HWF) nil_own, below_setAll (unhide HB5) w.heap.size 0 [.int .i64 c, .slice none 0 0] (Nat.le_refl _)⟩
    · obtain rfl : k = ws.length := by omega
      have hall : wsFrom ws = 0 := wsFrom_all ws fun j hj => hz j hj hj
      have HY : Hid (packAllR ws = ⟨0, packs ws⟩) := by show packAllR ws = _; rw [packAllR, if_neg hnn, if_pos hall]
      have hpl := packs_len ws (wsFrom_zero hall)
      rw [List.take_length, Nat.sub_self, Nat.mul_zero, List.replicate_zero, List.append_nil] at hrow
      have hO := full_own (n := 8 * ws.length) (base := g0) hrow (Nat.le_refl _) (by rw [List.length_map, hpl]) (by unfold maxLen; omega)
      have hOI := Lay.ownInts (zs := packs ws) (packs_wf ws) (by omega) (by rw [hpl]; exact hO)
      have HOI := hide hOI
      have HBB := hide hB
      have HRB := hide hR
      have z0 := hR.at 0 _ rfl
      have z1 := hR.at 1 _ rfl
      have f0 := hR.soft 0
      have f1 := hR.soft 1
      have l0 := hR.lt
      simp only [List.getElem_toArray, List.getElem_cons_zero, List.getElem_cons_succ] at z0 z1
      clear hz hrow hO hOI hB hR hall hpl
      go_wp2_with fail
      refine bodyPost_ret (v := .agg #[.int .i64 0, .slice (some ⟨g0, 0, none⟩) (8 * ws.length) (8 * ws.length)]) (by simp [results, Try.results14, go_sem, z0, z1]) rfl ?_
      rw [unhide HY]
      exact ⟨[.int .i64 0, .slice (some ⟨g0, 0, none⟩) (8 * ws.length) (8 * ws.length)], rfl, own_store (vs := [.int .i64 0, .slice (some ⟨g0, 0, none⟩) (8 * ws.length) (8 * ws.length)]) (own_isR (by decide) (unhide HOI)) (unhide HPG) (Nat.le_refl _), below_setAll (unhide HBB) w.heap.size 0 [.int .i64 0, .slice (some ⟨g0, 0, none⟩) (8 * ws.length) (8 * ws.length)] (Nat.le_refl _)⟩

set_option maxHeartbeats 400000 in
/-- PackAll of the program. -/
theorem implPackAll (v : Value) (ws : List DWrite) (w : World) (h : (Lay.sl Lay.tWrite).Reads w [v] ws) :
    Calls Try.prog 14 #[v] w fun e w' => ∃ cs, e = .returned (.agg cs.toArray) ∧ Lay.tIntsResult.OwnIn w' cs (packAllR ws) w.heap.size w'.heap.size ∧ Below w.heap.size w w' := by
  obtain ⟨ao, cap, rfl⟩ := open_sl h
  have hbig := h.big
  by_cases hn : 40 < ws.length
  · have HY : Hid (packAllR ws = ⟨2, []⟩) := by show packAllR ws = _; rw [packAllR, if_pos hn]
    clear h
    go_enter Try.func14, Try.ntmps14
    go_wp2_with fail
    refine bodyPost_ret (v := .agg #[.int .i64 2, .slice none 0 0]) (by simp [results, Try.results14, go_sem]) rfl ?_
    rw [unhide HY]
    exact ⟨[.int .i64 2, .slice none 0 0], rfl, own_isR (by decide) nil_own, (Below.refl _ _).alloc (Nat.le_refl _) _⟩
  · exact implPackAll_few ao cap ws w h (by omega)

end Go.Proofs.Ytipomhpimmnchaa

namespace Go.Proofs.Ytipomhpimmnchaa
open Go.RowKit

theorem setCells_eq (W : World) (s i : Nat) (vs : List Value) : W.setCells s i vs = setAll W s i vs := by
  induction vs generalizing W i with
  | nil => rfl
  | cons v r ih => exact ih _ _
theorem zero_int (w : World) : (zeroValue 2).run Try.prog w = .ok (.int .i64 0) w := by kernel_rfl
theorem run_clear_none {P : Program} (w : World) (t e ty : TypeId) (ht : P.underlying t = some (.slice e)) (dp : Option Addr) (c : Nat) :
    (Builtin.clear_ #[t] ty #[.slice dp 0 c]).run P w = .ok (.tuple #[]) w := by
  cases dp <;> simp [Builtin.clear_, run_underlying ht]
theorem wpList_clear_row {w : World} {ops : Array Oper} {rest : List Oper} {o : Oper} {a : Act} {Q : Exit → Act → World → Prop} (hgd : o.guard = none) (d : Operand) (dT : TypeId)
    (ho : o.op = .call { callee := .builtin .clear, args := #[d], argTypes := #[dT] }) (hu : Try.prog.underlying dT = some (.slice 2)) (dp : Option Addr) (n c : Nat) (hd : a.eval d = .slice dp n c)
    (base g off m : Nat) (xs : List Value) (hown : w.ownsRow base 2 1 (.slice (some ⟨g, 0, none⟩) m m) m xs) (hp : 0 < n → dp = some ⟨g, off, none⟩) (hfit : off + n = m)
    (h : ∀ w', Hid (w'.ownsRow base 2 1 (.slice (some ⟨g, 0, none⟩) m m) m (xs.take off ++ List.replicate n (.int .i64 0))) → Ext (fun q => q = g) w w' → wpList Try.prog ops Q rest (a.put o.dst (.tuple #[])) w') :
    wpList Try.prog ops Q (o :: rest) a w := by
  refine wpList_plain hgd fun K hK => ?_
  have hl : xs.length = m := by have := hown.1; omega
  by_cases h0 : n = 0
  · subst h0
    have hrun := run_clear_none (P := Try.prog) w dT 2 o.type hu dp c
    unfold Oper.wp
    simp [execOp, ho, resolve, invoke, builtin, hd, hrun, Result.andThen]
    refine hK _ _ (h w ?_ (Ext.refl _ _))
    rw [List.replicate_zero, List.append_nil, List.take_of_length_le (by omega)]
    exact hown
  · obtain rfl := hp (by omega)
    have hcell : ∀ j, j < n → (w.cell? ⟨g, off + j, none⟩).isSome = true := fun j hj => by
      rw [hown.cellAt (off + j) (by omega), List.getElem?_eq_getElem (by omega)]
      rfl
    have hrun := Go.Lib.run_clear_slice (P := Try.prog) w dT 2 o.type (.int .i64 0) hu zero_int rfl rfl g off n c (by omega) hcell (fun j _ => hown.frozenAt (off + j))
    rw [setCells_eq] at hrun
    unfold Oper.wp
    simp [execOp, ho, resolve, invoke, builtin, hd, hrun, Result.andThen]
    refine hK _ _ (h _ ?_ (ext_setAll (fun q => q = g) (Ext.refl _ _) g off _ rfl))
    have h1 := own_setAll hown off (List.replicate n (.int .i64 0))
    have h2 : setFrom xs off (List.replicate n (.int .i64 0)) = xs.take off ++ List.replicate n (.int .i64 0) := by
      have h3 := setFrom_app (xs.take off) (xs.drop off) (List.replicate n (.int .i64 0)) (by simp; omega)
      rw [List.take_append_drop, List.length_take, Nat.min_eq_left (by omega)] at h3
      rw [h3, List.length_replicate, List.drop_eq_nil_of_le (by simp; omega), List.append_nil]
    rw [h2] at h1
    exact h1

end Go.Proofs.Ytipomhpimmnchaa
