/-
  Texts of this proof in one: LogPlain, LogPieces, OwnLogResult, OwnWritesResult, LogKit, SpecPack8, SpecIntsB, DrawL8, RangeKit, DrawB8, NextBig, DrawCrash8, SamePlain, TornPlain, Big, RegIn, ChunkPlain, ImplChunk, AppWriteIn, WsGrow, VecOf.
  Their conditions stand in their theorems.
-/
import Derived.Test.YtipomhpimmnchaaTq02
import Derived.Test.YtipomhpimmnchaaTq01
import Derived.Test.YtipomhpimmnchaaChecked
import Derived.Deep.CutRange
import Derived.BigQuiet
import Derived.Deep.QuietTactic
import Derived.WalkSmall
import Derived.Deep.RegionHeld3
import Derived.RangeFuncNested
import Derived.RangeFuncBound
import Derived.RangeFuncCalls
import Derived.RangeFuncLeaves
import Derived.Shelf.Abstract
import Derived.Shelf.RegionOpen
import Derived.WalkKit
import Derived.OwnWalkIn
import Derived.TacticsInMore
import Derived.LoopNIn
import Derived.LoopIn
import Derived.Outline

namespace Go.Proofs.Ytipomhpimmnchaa
open Go.RowKit

def pieceAt (zs : List Int) (j : Nat) : List Int := (zs.drop (8 * j)).take 8
def okAt (zs : List Int) (j : Nat) : Bool := decide ((unpackR (pieceAt zs j)).code = 0)
def wAt (zs : List Int) (j : Nat) : DWrite := (unpackR (pieceAt zs j)).write
def cntF (zs : List Int) : Nat → Nat → Nat
  | 0, k => k
  | f + 1, k => if okAt zs k then cntF zs f (k + 1) else k
/-- How many writes stand at the head. -/
def cnt (zs : List Int) : Nat := cntF zs zs.length 0
/-- The writes at the head. -/
def readL (zs : List Int) : List DWrite := (List.range (cnt zs)).map (wAt zs)
def packs (ws : List DWrite) : List Int := ws.flatMap packD
def logFault (x : DLog) : Int := if 320 < x.sure.length + x.loose.length then 2 else if 8 * cnt x.sure = x.sure.length ∧ 8 * cnt x.loose = x.loose.length then 0 else 5
def noLog : DLog := ⟨[], []⟩
def readLogR (zs : List Int) : DWritesResult := if 320 < zs.length then ⟨2, []⟩ else ⟨0, readL zs⟩
def packAllR (ws : List DWrite) : DIntsResult := if 40 < ws.length then ⟨2, []⟩ else if wsFrom ws = 0 then ⟨0, packs ws⟩ else ⟨wsFrom ws, []⟩
def logOf (sure loose : List Int) : DLogResult := ⟨0, ((sure.length + loose.length) / 8 : Nat), ⟨sure, loose⟩⟩
def badLog (c : Int) : DLogResult := ⟨c, 0, noLog⟩
def appendLogR (x : DLog) (y : DWrite) : DLogResult := if logFault x = 0 then (if wF y = 0 then (if 320 ≤ x.sure.length + x.loose.length then badLog 2 else logOf x.sure (x.loose ++ packD y)) else badLog (wF y)) else badLog (logFault x)
def syncLogR (x : DLog) : DLogResult := if logFault x = 0 then logOf (x.sure ++ x.loose) [] else badLog (logFault x)
def keptOf (x : DLog) (kept : Int) : List Int := x.sure ++ x.loose.take kept.toNat
def crashLogR (x : DLog) (kept : Int) : DLogResult := if logFault x = 0 then (if 0 ≤ kept ∧ kept ≤ x.loose.length then logOf ((keptOf x kept).take (8 * cnt (keptOf x kept))) [] else badLog 3) else badLog (logFault x)

theorem unpackR_ok {zs : List Int} (h : (unpackR zs).code = 0) : zs.length = 8 ∧ packD (unpackR zs).write = zs ∧ wF (unpackR zs).write = 0 := by
  have hp := pack_unpack h
  have hl : zs.length = 8 := by
    by_cases e : zs.length = 8
    · exact e
    · rw [unpackR_len e] at h
      cases h
  refine ⟨hl, hp, ?_⟩
  by_cases e : wF (unpackR zs).write = 0
  · exact e
  · rw [packList, if_neg (show ¬ writeFault (unpackR zs).write.kind (unpackR zs).write.id (unpackR zs).write.vec (unpackR zs).write.session (unpackR zs).write.seq = 0 from e)] at hp
    rw [← hp] at hl
    cases hl
theorem ok_piece {zs : List Int} {j : Nat} (h : okAt zs j = true) : (unpackR (pieceAt zs j)).code = 0 := by simpa [okAt] using h
theorem piece_len {zs : List Int} {j : Nat} : (pieceAt zs j).length = min 8 (zs.length - 8 * j) := by simp [pieceAt]
theorem ok_len {zs : List Int} {j : Nat} (h : okAt zs j = true) : 8 * j + 8 ≤ zs.length := by
  have h1 := (unpackR_ok (ok_piece h)).1
  rw [piece_len] at h1
  omega
theorem cntF_spec (zs : List Int) : ∀ f k, zs.length < 8 * (k + f) + 8 → (∀ j, j < k → okAt zs j = true) → (∀ j, j < cntF zs f k → okAt zs j = true) ∧ okAt zs (cntF zs f k) = false
  | 0, k, h, hk => by
    refine ⟨hk, ?_⟩
    rw [cntF]
    by_cases e : okAt zs k = true
    · have := ok_len e
      omega
    · simpa using e
  | f + 1, k, h, hk => by
    rw [cntF]
    by_cases e : okAt zs k = true
    · rw [if_pos e]
      refine cntF_spec zs f (k + 1) (by omega) fun j hj => ?_
      by_cases h2 : j = k
      · rw [h2]; exact e
      · exact hk j (by omega)
    · rw [if_neg e]
      exact ⟨hk, by simpa using e⟩
theorem cnt_ok (zs : List Int) : ∀ j, j < cnt zs → okAt zs j = true := (cntF_spec zs zs.length 0 (by omega) (fun _ h => by omega)).1
theorem cnt_not (zs : List Int) : okAt zs (cnt zs) = false := (cntF_spec zs zs.length 0 (by omega) (fun _ h => by omega)).2
theorem cnt_of {zs : List Int} {k : Nat} (h : ∀ j, j < k → okAt zs j = true) (hn : okAt zs k = false) : cnt zs = k := by
  rcases Nat.lt_trichotomy (cnt zs) k with e | e | e
  · have := h _ e
    rw [cnt_not] at this
    cases this
  · exact e
  · have := cnt_ok zs _ e
    rw [hn] at this
    cases this
theorem cnt_le (zs : List Int) : 8 * cnt zs ≤ zs.length := by
  by_cases h : cnt zs = 0
  · omega
  · have := ok_len (cnt_ok zs (cnt zs - 1) (by omega))
    omega
theorem read_len (zs : List Int) : (readL zs).length = cnt zs := by simp [readL]
theorem read_at (zs : List Int) (j : Nat) (h : j < (readL zs).length) : (readL zs)[j] = wAt zs j := by simp [readL]
theorem read_of {zs : List Int} {k : Nat} (h : ∀ j, j < k → okAt zs j = true) (hn : okAt zs k = false) : readL zs = (List.range k).map (wAt zs) := by rw [readL, cnt_of h hn]
theorem reads_snoc (zs : List Int) (k : Nat) : (List.range (k + 1)).map (wAt zs) = (List.range k).map (wAt zs) ++ [wAt zs k] := by rw [List.range_succ, List.map_append]; rfl
theorem readL_right (zs : List Int) : ∀ x ∈ readL zs, wF x = 0 := by
  intro x hx
  simp only [readL, List.mem_map, List.mem_range] at hx
  obtain ⟨j, hj, rfl⟩ := hx
  exact (unpackR_ok (ok_piece (cnt_ok zs j hj))).2.2

/-- A piece within the first list. -/
theorem piece_left {xs ys : List Int} {j : Nat} (h : 8 * j + 8 ≤ xs.length) : pieceAt (xs ++ ys) j = pieceAt xs j := by
  simp only [pieceAt]
  rw [List.drop_append_of_le_length (by omega), List.take_append_of_le_length (by simp; omega)]
theorem piece_right {xs ys : List Int} {c j : Nat} (h : 8 * c = xs.length) : pieceAt (xs ++ ys) (c + j) = pieceAt ys j := by
  simp only [pieceAt]
  rw [show 8 * (c + j) = xs.length + 8 * j by omega, List.drop_length_add_append]
theorem ok_left {xs ys : List Int} {j : Nat} (h : 8 * j + 8 ≤ xs.length) : okAt (xs ++ ys) j = okAt xs j := by rw [okAt, piece_left h]; rfl
theorem ok_right {xs ys : List Int} {c j : Nat} (h : 8 * c = xs.length) : okAt (xs ++ ys) (c + j) = okAt ys j := by rw [okAt, piece_right h]; rfl
/-- Whole writes, then others. -/
theorem cnt_append {xs ys : List Int} (h : 8 * cnt xs = xs.length) : cnt (xs ++ ys) = cnt xs + cnt ys := by
  refine cnt_of (fun j hj => ?_) ?_
  · by_cases h2 : j < cnt xs
    · rw [ok_left (by omega)]
      exact cnt_ok xs j h2
    · obtain ⟨i, rfl⟩ : ∃ i, j = cnt xs + i := ⟨j - cnt xs, by omega⟩
      rw [ok_right h]
      exact cnt_ok ys i (by omega)
  · rw [ok_right h]
    exact cnt_not ys
theorem ok_short {zs : List Int} {j : Nat} (h : zs.length < 8 * j + 8) : okAt zs j = false := by
  by_cases e : okAt zs j = true
  · have := ok_len e
    omega
  · simpa using e
/-- The first words of whole writes. -/
theorem cnt_take {xs : List Int} (h : 8 * cnt xs = xs.length) {m : Nat} (hm : m ≤ xs.length) : cnt (xs.take m) = m / 8 := by
  refine cnt_of (fun j hj => ?_) (ok_short (by rw [List.length_take]; omega))
  have e : xs = xs.take m ++ xs.drop m := (List.take_append_drop m xs).symm
  have h1 : okAt xs j = true := cnt_ok xs j (by omega)
  rw [e, ok_left (by rw [List.length_take]; omega)] at h1
  exact h1
/-- The words of the writes that are read are the first words. -/
theorem packs_range (zs : List Int) (k : Nat) (h : ∀ j, j < k → okAt zs j = true) : packs ((List.range k).map (wAt zs)) = zs.take (8 * k) := by
  induction k with
  | zero => simp [packs]
  | succ k ih =>
    have h1 := unpackR_ok (ok_piece (h k (by omega)))
    rw [reads_snoc, packs, List.flatMap_append]
    have h2 := ih (fun j hj => h j (by omega))
    rw [packs] at h2
    rw [h2]
    simp only [List.flatMap_cons, List.flatMap_nil, List.append_nil]
    rw [wAt, h1.2.1, pieceAt, show 8 * (k + 1) = 8 * k + 8 by omega, List.take_add]
theorem packs_read (zs : List Int) : packs (readL zs) = zs.take (8 * cnt zs) := packs_range zs _ (cnt_ok zs)
theorem packD_len {x : DWrite} (h : wF x = 0) : (packD x).length = 8 := by
  rw [packD, packList, if_pos (show writeFault x.kind x.id x.vec x.session x.seq = 0 from h)]
  rfl
theorem packs_len (ws : List DWrite) (h : ∀ x ∈ ws, wF x = 0) : (packs ws).length = 8 * ws.length := by
  induction ws with
  | nil => rfl
  | cons x xs ih =>
    rw [packs, List.flatMap_cons, List.length_append, packD_len (h x (by simp)), List.length_cons]
    have := ih fun y hy => h y (List.mem_cons_of_mem _ hy)
    rw [packs] at this
    omega
/-- Packed, then read. -/
theorem ok_packD {x : DWrite} (h : wF x = 0) : okAt (packD x) 0 = true ∧ wAt (packD x) 0 = x := by
  have h1 : pieceAt (packD x) 0 = packD x := by simp [pieceAt, List.take_of_length_le, packD_len h]
  have h2 := unpack_pack h
  rw [okAt, wAt, h1, packD, h2]
  simp
theorem packs_ok (ws : List DWrite) (h : ∀ x ∈ ws, wF x = 0) : ∀ j (hj : j < ws.length), okAt (packs ws) j = true ∧ wAt (packs ws) j = ws[j] := by
  induction ws with
  | nil => intro j hj; simp at hj
  | cons x xs ih =>
    intro j hj
    have hx := h x (by simp)
    have h8 : 8 * 1 = (packD x).length := by rw [packD_len hx]
    have e : packs (x :: xs) = packD x ++ packs xs := rfl
    match j, hj with
    | 0, _ =>
      obtain ⟨h1, h2⟩ := ok_packD hx
      refine ⟨by rw [e, ok_left (by omega)]; exact h1, ?_⟩
      rw [wAt, e, piece_left (by omega)]
      exact h2
    | i + 1, hj =>
      obtain ⟨h1, h2⟩ := ih (fun y hy => h y (List.mem_cons_of_mem _ hy)) i (by simpa using hj)
      refine ⟨by rw [Nat.add_comm i 1, e, ok_right h8]; exact h1, ?_⟩
      have h3 : pieceAt (packs (x :: xs)) (i + 1) = pieceAt (packs xs) i := by rw [Nat.add_comm i 1, e, piece_right h8]
      rw [wAt, h3]
      exact h2
theorem cnt_packs (ws : List DWrite) (h : ∀ x ∈ ws, wF x = 0) : cnt (packs ws) = ws.length :=
  cnt_of (fun j hj => (packs_ok ws h j hj).1) (ok_short (by rw [packs_len ws h]; omega))
theorem read_packs (ws : List DWrite) (h : ∀ x ∈ ws, wF x = 0) : readL (packs ws) = ws := by
  refine List.ext_getElem (by rw [read_len, cnt_packs ws h]) fun j h1 h2 => ?_
  rw [read_at]
  exact (packs_ok ws h j h2).2
theorem wsFrom_of {ws : List DWrite} (h : ∀ x ∈ ws, wF x = 0) : wsFrom ws = 0 := wsFrom_all ws fun _ hj => h _ (List.getElem_mem hj)
/-- A piece of zeros is no write. -/
theorem zeros_not (n : Nat) : okAt (List.replicate n 0) 0 = false := by
  by_cases e : okAt (List.replicate n 0) 0 = true
  · have h8 := ok_len e
    have h1 := unpackR_ok (ok_piece e)
    rw [List.length_replicate] at h8
    have h2 : pieceAt (List.replicate n (0 : Int)) 0 = List.replicate 8 0 := by simp [pieceAt, Nat.min_eq_left (show 8 ≤ n by omega)]
    have h3 := ok_piece e
    rw [h2] at h3
    exact absurd h3 (by decide)
  · simpa using e
theorem cnt_zeros (n : Nat) : cnt (List.replicate n 0) = 0 := cnt_of (fun _ h => by omega) (zeros_not n)
/-- A torn write that is cleared leaves the same first writes. -/
theorem cnt_clear {xs ys : List Int} (hx : 8 * cnt xs = xs.length) (hy : 8 * cnt ys = ys.length) {k : Nat} (hk : k ≤ ys.length) (n : Nat) :
    cnt (xs ++ (ys.take (8 * (k / 8)) ++ List.replicate n 0)) = cnt (xs ++ ys.take k) ∧ (xs ++ (ys.take (8 * (k / 8)) ++ List.replicate n 0)).take (8 * cnt (xs ++ ys.take k)) = (xs ++ ys.take k).take (8 * cnt (xs ++ ys.take k)) := by
  have h1 : cnt (ys.take (8 * (k / 8))) = k / 8 := by rw [cnt_take hy (by omega)]; omega
  have h2 : 8 * cnt (ys.take (8 * (k / 8))) = (ys.take (8 * (k / 8))).length := by rw [h1, List.length_take]; omega
  have h3 : cnt (ys.take k) = k / 8 := cnt_take hy hk
  refine ⟨by rw [cnt_append hx, cnt_append hx, cnt_append h2, h1, h3, cnt_zeros, Nat.add_zero], ?_⟩
  rw [cnt_append hx, h3, Nat.mul_add, hx, List.take_length_add_append, List.take_length_add_append]
  congr 1
  rw [List.take_append_of_le_length (by rw [List.length_take]; omega), List.take_take, List.take_take]
  congr 1
  omega

end Go.Proofs.Ytipomhpimmnchaa

namespace Go.Proofs.Ytipomhpimmnchaa
open Go.RowKit

theorem getD_piece {zs : List Int} {k j : Nat} (hj : j < 8) : (pieceAt zs k).getD j 0 = zs.getD (8 * k + j) 0 := by
  simp only [pieceAt, List.getD]
  rw [List.getElem?_take, if_pos hj, List.getElem?_drop]
theorem len_piece {zs : List Int} {k : Nat} (h : 8 * k + 8 ≤ zs.length) : (pieceAt zs k).length = 8 := by rw [piece_len]; omega
theorem mem_piece {zs : List Int} {k : Nat} {z : Int} (h : z ∈ pieceAt zs k) : z ∈ zs := List.mem_of_mem_drop (List.mem_of_mem_take h)
/-- Any part of a list of numbers that stands in memory. -/
theorem part_reads {w : World} {b off cap : Nat} {zs : List Int} (h : (Lay.sl Lay.int).Reads w [.slice (some ⟨b, off, none⟩) zs.length cap] zs) (m n c : Nat) (hm : m + n ≤ zs.length) (hc : n ≤ c) :
    (Lay.sl Lay.int).Reads w [.slice (some ⟨b, off + m, none⟩) n c] ((zs.drop m).take n) := by
  have hi := Lay.ints_reads h
  have hbig := h.big
  obtain ⟨ao, cp, e, hwf, hcs⟩ := hi
  have hlen : ((zs.drop m).take n).length = n := by simp; omega
  refine Lay.reads_ints ?_ (fun ao' cap' e' => ?_) (by rw [hlen]; omega)
  · refine ⟨_, c, by rw [hlen], fun z hz => hwf z (List.mem_of_mem_drop (List.mem_of_mem_take hz)), fun hp => ⟨b, off + m, rfl, fun j hj => ?_⟩⟩
    rw [hlen] at hp hj
    obtain ⟨b', off', hao, hc1⟩ := hcs (by omega)
    simp only [Value.slice.injEq] at e
    obtain ⟨rfl, -, -⟩ := e
    simp only [Option.some.injEq, Addr.mk.injEq, and_true] at hao
    obtain ⟨rfl, rfl⟩ := hao
    rw [Nat.add_assoc, hc1 (m + j) (by omega)]
    simp only [List.getD]
    rw [List.getElem?_take, if_pos hj, List.getElem?_drop]
  · simp only [Value.slice.injEq] at e'
    rw [hlen]
    omega
theorem piece_reads {w : World} {b off cap : Nat} {zs : List Int} (h : (Lay.sl Lay.int).Reads w [.slice (some ⟨b, off, none⟩) zs.length cap] zs) (k c : Nat) (hk : 8 * k + 8 ≤ zs.length) (hc : 8 ≤ c) :
    (Lay.sl Lay.int).Reads w [.slice (some ⟨b, off + 8 * k, none⟩) 8 c] (pieceAt zs k) := part_reads h (8 * k) 8 c (by omega) hc
/-- The first numbers of a list. -/
theorem take_reads {w : World} {ao : Option Addr} {n cap : Nat} {zs : List Int} (h : (Lay.sl Lay.int).Reads w [.slice ao n cap] zs) (k : Nat) (hk : k ≤ zs.length) :
    (Lay.sl Lay.int).Reads w [.slice ao k cap] (zs.take k) := by
  have hc := h.cap
  by_cases h0 : k = 0
  · subst h0
    rw [List.take_zero]
    exact Lay.reads_ints ⟨ao, cap, rfl, by simp, fun hp => by simp at hp⟩ (fun _ _ _ => by simp) (by simp)
  · have hi := Lay.ints_reads h
    obtain ⟨ao', cp, e, hwf, hcs⟩ := hi
    obtain ⟨b', off', hao, hc1⟩ := hcs (by omega)
    simp only [Value.slice.injEq] at e
    obtain ⟨rfl, rfl, rfl⟩ := e
    subst hao
    have := part_reads h 0 k cap (by omega) (by omega)
    simpa using this

end Go.Proofs.Ytipomhpimmnchaa

namespace Go.Proofs.Ytipomhpimmnchaa
open Go.RowKit

theorem vcnt_LogResult (x : DLogResult) : Lay.tLogResult.vcnt x = Lay.tLog.vcnt x.log := by
  show 0 + (0 + (Lay.tLog.vcnt x.log)) = Lay.tLog.vcnt x.log
  omega
theorem mkv_LogResult (k : Int) (x : DLogResult) : Lay.tLogResult.mkv k x = ⟨x.code, x.count, Lay.tLog.mkv (k) x.log⟩ := by
  simp [Lay.tLogResult, Lay.via, Lay.pair, Lay.int]
theorem own_LogResult {w : World} {cs : List Value} {x : DLogResult} {bl : List Nat} (h : Lay.tLogResult.Own w cs x bl) : ∃ (a2 : Option Addr) (d2 : Nat) (a3 : Option Addr) (d3 : Nat) (g2 : List Nat), cs = [.int .i64 x.code, .int .i64 x.count, .slice a2 x.log.sure.length d2, .slice a3 x.log.loose.length d3] ∧ bl = g2 ∧ Lay.tLog.Own w [.slice a2 x.log.sure.length d2, .slice a3 x.log.loose.length d3] x.log g2 ∧ (Lit.int .i64 x.code).wf = true ∧ (Lit.int .i64 x.count).wf = true := by
  obtain ⟨hl, hn, hf⟩ := h
  obtain ⟨a2, d2, b2, a3, d3, b3, rfl, hbl, w0, w1, l2, l3⟩ := lies_LogResult.1 hl
  rw [hbl] at hn hf
  simp only [List.nodup_append, List.mem_append] at hn hf
  exact ⟨a2, d2, a3, d3, (b2 ++ b3), rfl, by first | exact hbl | (rw [hbl]; simp only [List.append_assoc]), ⟨lies_Log.2 ⟨a2, d2, b2, a3, d3, b3, rfl, rfl, l2, l3⟩, by simp_all [List.nodup_append], fun b hb => hf b (by simp_all)⟩, w0, w1⟩
theorem mkOwn_LogResult {w : World} {x : DLogResult} {c2 : List Value} {g2 : List Nat} (O2 : Lay.tLog.Own w c2 x.log g2) (v0 : (Lit.int .i64 x.code).wf = true) (v1 : (Lit.int .i64 x.count).wf = true) (hn : (g2).Nodup) : Lay.tLogResult.Own w ([.int .i64 x.code] ++ ([.int .i64 x.count] ++ c2)) x (g2) := by
  refine ⟨⟨[.int .i64 x.code], [.int .i64 x.count] ++ c2, [], [] ++ g2, rfl, by simp, ⟨rfl, v0, rfl⟩, ⟨[.int .i64 x.count], c2, [], g2, rfl, rfl, ⟨rfl, v1, rfl⟩, O2.1⟩⟩, hn, ?_⟩
  intro b hb o
  exact O2.2.2 b hb o

end Go.Proofs.Ytipomhpimmnchaa

namespace Go.Proofs.Ytipomhpimmnchaa
open Go.RowKit

theorem vcnt_WritesResult (x : DWritesResult) : Lay.tWritesResult.vcnt x = (Lay.sl Lay.tWrite).vcnt x.writes := by
  show 0 + ((Lay.sl Lay.tWrite).vcnt x.writes) = (Lay.sl Lay.tWrite).vcnt x.writes
  omega
theorem mkv_WritesResult (k : Int) (x : DWritesResult) : Lay.tWritesResult.mkv k x = ⟨x.code, (Lay.sl Lay.tWrite).mkv (k) x.writes⟩ := by
  simp [Lay.tWritesResult, Lay.via, Lay.pair, Lay.int]
theorem own_WritesResult {w : World} {cs : List Value} {x : DWritesResult} {bl : List Nat} (h : Lay.tWritesResult.Own w cs x bl) : ∃ (a1 : Option Addr) (d1 : Nat) (g1 : List Nat), cs = [.int .i64 x.code, .slice a1 x.writes.length d1] ∧ bl = g1 ∧ (Lay.sl Lay.tWrite).Own w [.slice a1 x.writes.length d1] x.writes g1 ∧ (Lit.int .i64 x.code).wf = true := by
  obtain ⟨hl, hn, hf⟩ := h
  obtain ⟨a1, d1, b1, rfl, hbl, w0, l1⟩ := lies_WritesResult.1 hl
  rw [hbl] at hn hf
  exact ⟨a1, d1, b1, rfl, hbl, ⟨l1, hn, hf⟩, w0⟩
theorem mkOwn_WritesResult {w : World} {x : DWritesResult} {c1 : List Value} {g1 : List Nat} (O1 : (Lay.sl Lay.tWrite).Own w c1 x.writes g1) (v0 : (Lit.int .i64 x.code).wf = true) (hn : (g1).Nodup) : Lay.tWritesResult.Own w ([.int .i64 x.code] ++ c1) x (g1) := by
  refine ⟨⟨[.int .i64 x.code], c1, [], g1, rfl, by simp, ⟨rfl, v0, rfl⟩, O1.1⟩, hn, ?_⟩
  intro b hb o
  exact O1.2.2 b hb o

end Go.Proofs.Ytipomhpimmnchaa

namespace Go.Proofs.Ytipomhpimmnchaa
open Go.RowKit

theorem lies_store {α : Type} {A : Lay α} {w w4 : World} {cs vs : List Value} {y : α} {lo hi : Nat} (h : A.LiesIn w4 cs y lo hi) (hlo : w.heap.size < lo) (hhi : hi ≤ w4.heap.size) :
    A.LiesIn (setAll w4 w.heap.size 0 vs) cs y w.heap.size (setAll w4 w.heap.size 0 vs).heap.size := by
  rw [size_setAll]
  exact (h.ext (ext_setAll (fun q => q = w.heap.size) (Ext.refl _ _) _ _ _ rfl) (fun q h1 h2 h3 => by omega)).mono (by omega) hhi
theorem own_store {α : Type} {A : Lay α} {w w4 : World} {cs vs : List Value} {y : α} {lo hi : Nat} (h : A.OwnIn w4 cs y lo hi) (hlo : w.heap.size < lo) (hhi : hi ≤ w4.heap.size) :
    A.OwnIn (setAll w4 w.heap.size 0 vs) cs y w.heap.size (setAll w4 w.heap.size 0 vs).heap.size := by
  rw [size_setAll]
  exact (h.ext (ext_setAll (fun q => q = w.heap.size) (Ext.refl _ _) _ _ _ rfl) (fun q h1 h2 h3 => by omega)).mono (by omega) hhi

/-- The block s alone may turn, and it is none of those that the answer lies in. -/
theorem lies_store' {α : Type} {A : Lay α} {w4 : World} {s : Nat} {cs vs : List Value} {y : α} {lo hi : Nat} (h : A.LiesIn w4 cs y lo hi) (hs : s < lo) : A.LiesIn (setAll w4 s 0 vs) cs y lo hi :=
  h.ext (ext_setAll (fun q => q = s) (Ext.refl _ _) _ _ _ rfl) (fun q h1 h2 h3 => by omega)
theorem own_store' {α : Type} {A : Lay α} {w4 : World} {s : Nat} {cs vs : List Value} {y : α} {lo hi : Nat} (h : A.OwnIn w4 cs y lo hi) (hs : s < lo) : A.OwnIn (setAll w4 s 0 vs) cs y lo hi :=
  h.ext (ext_setAll (fun q => q = s) (Ext.refl _ _) _ _ _ rfl) (fun q h1 h2 h3 => by omega)

theorem nil_own {α : Type} {A : Lay α} {w : World} {lo hi : Nat} : (Lay.sl A).OwnIn w [.slice none 0 0] [] lo hi := ⟨[], ⟨⟨none, 0, rfl, by simp, Or.inl ⟨rfl, rfl⟩⟩, by simp, by simp⟩, by simp⟩
theorem own_wsR {w : World} {c : Int} {v : Value} {xs : List DWrite} {lo hi : Nat} (hc : (Lit.int .i64 c).wf = true) (h : (Lay.sl Lay.tWrite).OwnIn w [v] xs lo hi) : Lay.tWritesResult.OwnIn w [.int .i64 c, v] ⟨c, xs⟩ lo hi := by
  obtain ⟨bl, ⟨l, n, f⟩, r⟩ := h
  exact ⟨bl, ⟨⟨[.int .i64 c], [v], [], bl, rfl, by simp, ⟨rfl, hc, rfl⟩, l⟩, n, f⟩, r⟩
theorem lies_wsR {w : World} {c : Int} {v : Value} {xs : List DWrite} {lo hi : Nat} (hc : (Lit.int .i64 c).wf = true) (h : (Lay.sl Lay.tWrite).LiesIn w [v] xs lo hi) : Lay.tWritesResult.LiesIn w [.int .i64 c, v] ⟨c, xs⟩ lo hi := by
  obtain ⟨bl, l, r⟩ := h
  exact ⟨bl, ⟨[.int .i64 c], [v], [], bl, rfl, by simp, ⟨rfl, hc, rfl⟩, l⟩, r⟩
theorem own_isR {w : World} {c : Int} {v : Value} {xs : List Int} {lo hi : Nat} (hc : (Lit.int .i64 c).wf = true) (h : (Lay.sl Lay.int).OwnIn w [v] xs lo hi) : Lay.tIntsResult.OwnIn w [.int .i64 c, v] ⟨c, xs⟩ lo hi := by
  obtain ⟨bl, ⟨l, n, f⟩, r⟩ := h
  exact ⟨bl, ⟨⟨[.int .i64 c], [v], [], bl, rfl, by simp, ⟨rfl, hc, rfl⟩, l⟩, n, f⟩, r⟩
theorem lies_isR {w : World} {c : Int} {v : Value} {xs : List Int} {lo hi : Nat} (hc : (Lit.int .i64 c).wf = true) (h : (Lay.sl Lay.int).LiesIn w [v] xs lo hi) : Lay.tIntsResult.LiesIn w [.int .i64 c, v] ⟨c, xs⟩ lo hi := by
  obtain ⟨bl, l, r⟩ := h
  exact ⟨bl, ⟨[.int .i64 c], [v], [], bl, rfl, by simp, ⟨rfl, hc, rfl⟩, l⟩, r⟩

/-- A log of two rows that lie apart. -/
theorem own_logR {w : World} {c n : Int} {u v : Value} {xs ys : List Int} {lo m m' hi : Nat} (hc : (Lit.int .i64 c).wf = true) (hn : (Lit.int .i64 n).wf = true) (h : (Lay.sl Lay.int).OwnIn w [u] xs lo m) (k : (Lay.sl Lay.int).OwnIn w [v] ys m' hi) (hm : m ≤ m') (hlo : lo ≤ m') (hhi : m ≤ hi) :
    Lay.tLogResult.OwnIn w [.int .i64 c, .int .i64 n, u, v] ⟨c, n, ⟨xs, ys⟩⟩ lo hi := by
  obtain ⟨bl, ⟨l, nd, f⟩, r⟩ := Lay.ownIn_pair h k hm hlo hhi
  exact ⟨bl, ⟨⟨[.int .i64 c], [.int .i64 n, u, v], [], bl, rfl, by simp, ⟨rfl, hc, rfl⟩, ⟨[.int .i64 n], [u, v], [], bl, rfl, by simp, ⟨rfl, hn, rfl⟩, l⟩⟩, nd, f⟩, r⟩
theorem lies_logR {w : World} {c n : Int} {u v : Value} {xs ys : List Int} {lo hi : Nat} (hc : (Lit.int .i64 c).wf = true) (hn : (Lit.int .i64 n).wf = true) (h : (Lay.sl Lay.int).LiesIn w [u] xs lo hi) (k : (Lay.sl Lay.int).LiesIn w [v] ys lo hi) :
    Lay.tLogResult.LiesIn w [.int .i64 c, .int .i64 n, u, v] ⟨c, n, ⟨xs, ys⟩⟩ lo hi := by
  obtain ⟨b1, l1, r1⟩ := h
  obtain ⟨b2, l2, r2⟩ := k
  refine ⟨b1 ++ b2, ⟨[.int .i64 c], [.int .i64 n, u, v], [], b1 ++ b2, rfl, by simp, ⟨rfl, hc, rfl⟩, ⟨[.int .i64 n], [u, v], [], b1 ++ b2, rfl, by simp, ⟨rfl, hn, rfl⟩, ⟨[u], [v], b1, b2, rfl, rfl, l1, l2⟩⟩⟩, fun b hb => ?_⟩
  rcases List.mem_append.1 hb with hb | hb
  · exact r1 b hb
  · exact r2 b hb
theorem own_badLog {w : World} {c : Int} {lo hi : Nat} (hc : (Lit.int .i64 c).wf = true) (hlh : lo ≤ hi) : Lay.tLogResult.OwnIn w [.int .i64 c, .int .i64 0, .slice none 0 0, .slice none 0 0] (badLog c) lo hi :=
  own_logR hc (by decide) (nil_own (lo := lo) (hi := lo)) (nil_own (lo := lo) (hi := hi)) (Nat.le_refl _) (Nat.le_refl _) hlh
theorem logFault_wf (x : DLog) : (Lit.int .i64 (logFault x)).wf = true := by
  unfold logFault
  split
  · decide
  · split <;> decide
theorem logFault_zero {x : DLog} (h : logFault x = 0) : x.sure.length + x.loose.length ≤ 320 ∧ 8 * cnt x.sure = x.sure.length ∧ 8 * cnt x.loose = x.loose.length := by
  unfold logFault at h
  split at h
  · simp at h
  · rename_i h1
    split at h
    · rename_i h2
      exact ⟨by omega, h2⟩
    · simp at h
end Go.Proofs.Ytipomhpimmnchaa

namespace Go.Proofs.Ytipomhpimmnchaa
open Go.RowKit

theorem packs_snoc (ws : List DWrite) (k : Nat) (h : k < ws.length) : packs (ws.take (k + 1)) = packs (ws.take k) ++ packD ws[k] := by
  rw [packs, List.take_succ_eq_append_getElem h, List.flatMap_append]
  simp [packs]
theorem packs_wf (ws : List DWrite) : ∀ z ∈ packs ws, (Lit.int .i64 z).wf = true := by
  intro z hz
  obtain ⟨x, -, hx⟩ := List.mem_flatMap.1 hz
  exact packList_wf z hx
theorem take_right {ws : List DWrite} (h : ∀ x ∈ ws, wF x = 0) (k : Nat) : ∀ x ∈ ws.take k, wF x = 0 := fun x hx => h x (List.mem_of_mem_take hx)

set_option maxRecDepth 100000 in
set_option maxHeartbeats 4000000 in
theorem pack8_pos (b off cap : Nat) (ws : List DWrite) (w : World) (h : (Lay.sl Lay.tWrite).Reads w [.slice (some ⟨b, off, none⟩) ws.length cap] ws) (hbl : b < w.heap.size) (hn : ws.length ≤ 1000000) (hf : ∀ x ∈ ws, wF x = 0) :
    Calls Try.prog 54 #[.slice (some ⟨b, off, none⟩) ws.length cap] w fun e w' => ∃ v', e = .returned v' ∧ w'.ownsRow w.heap.size 2 1 v' (packs ws).length ((packs ws).map (Value.int .i64)) ∧ Below w.heap.size w w' := by
  have H := hide h
  have HF := hide hf
  clear h hf
  have HO0 : Hid ((w.alloc (.cells #[] 2)).ownsRow w.heap.size 2 1 (.slice (some ⟨w.heap.size, 0, none⟩) 0 0) 0 []) := World.ownsRow_lit w _ 0 (Nat.le_refl _) (by unfold maxLen; omega) rfl
  have HB0 := hide ((Below.refl w.heap.size w).alloc (Nat.le_refl _) (.cells #[] 2))
  go_enter Try.func54, Try.ntmps54
  go_wp2_with fail
  go_loopw [3, 4] (fun v i wr => ∃ k : Nat, k ≤ ws.length ∧ i = .int .i64 k ∧ wr.ownsRow w.heap.size 2 1 v (packs (ws.take k)).length ((packs (ws.take k)).map (Value.int .i64)) ∧ Below w.heap.size w wr) (fun _ i _ => ws.length - (intOf i).toNat)
  case atStart => exact ⟨0, Nat.zero_le _, rfl, unhide HO0, unhide HB0⟩
  case round =>
    obtain ⟨k, hk, rfl, hO, hB⟩ := hrel
    clear HO0 HB0
    by_cases hlt : k < ws.length
    · obtain ⟨row, hc, hr⟩ := Lay.row_at ((unhide H).later hB) hlt
      obtain ⟨a2, d2, rfl, R2⟩ := open_Write hr
      have c0 : wr.cell? ⟨b, off + k * 5, none⟩ = some (.int .i64 (ws[k]).kind) := hc 0 (by decide)
      have c1 : wr.cell? ⟨b, off + k * 5 + 1, none⟩ = some (.int .i64 (ws[k]).id) := hc 1 (by decide)
      have c2 : wr.cell? ⟨b, off + k * 5 + 2, none⟩ = some (.slice a2 (ws[k]).vec.length d2) := hc 2 (by decide)
      have c3 : wr.cell? ⟨b, off + k * 5 + 3, none⟩ = some (.int .i64 (ws[k]).session) := hc 3 (by decide)
      have c4 : wr.cell? ⟨b, off + k * 5 + 4, none⟩ = some (.int .i64 (ws[k]).seq) := hc 4 (by decide)
      have HT := hide (packs_snoc ws k hlt)
      have hfx : wF ws[k] = 0 := unhide HF ws[k] (List.getElem_mem hlt)
      have hLn : (packs (ws.take k)).length = 8 * k := by rw [packs_len _ (take_right (unhide HF) k), List.length_take]; omega
      have HL := hide (l3PackO b (off + k * 5) _ _ _ _ _ ws[k].vec wr ⟨c0, c1, c2, c3, c4⟩ (Lay.ints_reads R2) hfx)
      have HPD : Hid (packD ws[k] = wordsOf ws[k].kind ws[k].id ws[k].vec ws[k].session ws[k].seq) := by
        show packD ws[k] = _
        rw [packD, packList, if_pos (show writeFault ws[k].kind ws[k].id ws[k].vec ws[k].session ws[k].seq = 0 from hfx)]
      have HWF : Hid (∀ z ∈ packD ws[k], (Lit.int .i64 z).wf = true) := fun z hz => packList_wf z hz
      have hl8 : (packD ws[k]).length = 8 := packD_len hfx
      have hbr : b < wr.heap.size := Nat.lt_of_lt_of_le hbl hB.size
      clear hc hr R2 c0 c1 c2 c3 c4 hfx
      have HO := hide hO
      have HB := hide hB
      rw [← unhide HPD] at HL
      clear hO hB HPD
      generalize packD ws[k] = pd at *
      have HLn := hide hLn
      clear hLn
      go_wp2_with fail
      refine (unhide HL).mono ?_
      rintro e w2 ⟨g2, rfl, O2, hb⟩
      have I2 := isInts_row (unhide HWF) (by rw [hl8]; exact O2)
      have O3 := own_below (unhide HO) hb
      have HB2 := hide ((unhide HB).trans (hb.mono (unhide HB).size))
      have hz := (unhide HB2).size
      have hN : (packs (ws.take k)).length + pd.length ≤ 100000000 := by rw [unhide HLn, hl8]; omega
      clear HL HO HB hb O2
      go_wp2_with (at_builtin; refine wpList_append_ints O3 I2 rfl _ _ rfl rfl rfl hN hz ?_)
      rintro v5 w5 O5 - hb5
      have HO5 := hide O5
      have HB5 := hide ((unhide HB2).trans hb5)
      clear O3 I2 hN hz O5 hb5 HB2
      go_wp2_with fail
      go_roundw
      case rel =>
        refine ⟨k + 1, by omega, by go_num, ?_, unhide HB5⟩
        rw [unhide HT, List.length_append, List.map_append, hl8]
        exact unhide HO5
      case measure => simp [intOf]; omega
    · obtain rfl : k = ws.length := by omega
      rw [List.take_length] at hO
      have HO := hide hO
      have HB := hide hB
      clear hO hB H
      go_wp2_with fail
      go_ret
      exact ⟨_, rfl, unhide HO, unhide HB⟩

set_option maxHeartbeats 400000 in
/-- l8Pack of the model. -/
theorem pack8C (v : Value) (ws : List DWrite) (w : World) (h : (Lay.sl Lay.tWrite).Reads w [v] ws) (hn : ws.length ≤ 1000000) (hf : ∀ x ∈ ws, wF x = 0) :
    Calls Try.prog 54 #[v] w fun e w' => ∃ v', e = .returned v' ∧ w'.ownsRow w.heap.size 2 1 v' (packs ws).length ((packs ws).map (Value.int .i64)) ∧ Below w.heap.size w w' := by
  obtain ⟨ao, cap, rfl⟩ := open_sl h
  by_cases hp : 0 < ws.length
  · obtain ⟨b, off, rfl, hbl⟩ := Lay.sl_addr h hp
    exact pack8_pos b off cap ws w h hbl hn hf
  · obtain rfl : ws = [] := List.eq_nil_of_length_eq_zero (by omega)
    clear h hp hn hf
    have HB := hide ((Below.refl w.heap.size w).alloc (Nat.le_refl _) (.cells #[] 2))
    have HO0 : Hid ((w.alloc (.cells #[] 2)).ownsRow w.heap.size 2 1 (.slice (some ⟨w.heap.size, 0, none⟩) 0 0) 0 []) := World.ownsRow_lit w _ 0 (Nat.le_refl _) (by unfold maxLen; omega) rfl
    go_enter Try.func54, Try.ntmps54
    go_wp2_with fail
    refine wp_loop_rounds 1 ?_
    rw [rounds_succ]
    go_wp2_with fail
    go_ret
    exact ⟨_, rfl, unhide HO0, unhide HB⟩

end Go.Proofs.Ytipomhpimmnchaa

namespace Go.Proofs.Ytipomhpimmnchaa
open Go.RowKit

set_option maxHeartbeats 400000 in
theorem l1Ints (v : Value) (zs : List Int) (w : World) (h : IsInts w v zs) (hn : zs.length ≤ 100000000) :
    Calls Try.prog 65 #[v] w fun e w' => ∃ v', e = .returned v' ∧ w'.ownsRow w.heap.size 2 1 v' zs.length (zs.map (Value.int .i64)) ∧ Below w.heap.size w w' := by
  have nb : Below w.heap.size w (w.alloc (.cells #[] 2)) := (Below.refl _ _).alloc (Nat.le_refl _) _
  have O : (w.alloc (.cells #[] 2)).ownsRow w.heap.size 2 1 (.slice (some ⟨w.heap.size, 0, none⟩) 0 0) 0 [] := World.ownsRow_lit w _ 0 (Nat.le_refl _) (by unfold maxLen; omega) rfl
  have h1 := h.later nb
  obtain ⟨ao, cap, rfl, -⟩ := h
  have HB := hide nb
  clear nb
  go_enter Try.func65, Try.ntmps65
  go_wp2_with (at_builtin; refine wpList_append_ints O h1 rfl _ _ rfl rfl rfl (by omega) (by simp) ?_)
  rintro v' w' O2 - hb
  have HB2 := hide ((unhide HB).trans hb)
  clear O h1 hb HB
  go_wp2_with fail
  go_ret
  exact ⟨v', rfl, by simpa using O2, unhide HB2⟩

end Go.Proofs.Ytipomhpimmnchaa

namespace Go.Proofs.Ytipomhpimmnchaa
open Go.RowKit

theorem own_ext8 {S : Nat → Prop} {w w' : World} {base T sz : Nat} {v : Value} {n : Nat} {xs : List Value} (h : w.ownsRow base T sz v n xs) (e : Ext S w w') (hs : ∀ c, v.ownBlock = some c → ¬ S c) : w'.ownsRow base T sz v n xs := by
  refine ⟨h.1, ?_⟩
  rcases h.2 with h2 | ⟨g, cap, cur, hv, hg, hh, r⟩
  · exact Or.inl h2
  · exact Or.inr ⟨g, cap, cur, hv, hg, (e.block g (lt_of_block hh) (hs g (by rw [hv]; rfl))).trans hh, r⟩
/-- A log of the draw's own; the source has gone on. -/
def LogPost (b m : Nat) (cv : Value) (w : World) (e : Ending) (w' : World) : Prop :=
  ∃ (u v : Value) (xs ys : List Int) (m' : Nat), e = .returned (.agg #[u, v]) ∧ w'.ownsRow (w.heap.size + 1) 2 1 u xs.length (xs.map (Value.int .i64)) ∧ w'.ownsRow (w.heap.size + 1) 2 1 v ys.length (ys.map (Value.int .i64)) ∧ (∀ c, u.ownBlock = some c → v.ownBlock ≠ some c) ∧
    (∀ z ∈ xs, (Lit.int .i64 z).wf = true) ∧ (∀ z ∈ ys, (Lit.int .i64 z).wf = true) ∧ xs.length ≤ 100 ∧ ys.length ≤ 100 ∧ SrcAt w' b cv m' ∧ m' ≤ m + 2000 ∧ IsCode b w' cv ∧ w.grownBy w' (some b)
theorem closeL {b m m' : Nat} {cv : Value} {w w3 F : World} {u v : Value} {xs ys : List Int} (hE : Ext (fun q => q = b ∨ w.heap.size ≤ q) w w3) (hS : SrcAt w3 b cv m') (hC : IsCode b w3 cv) (hb : b < w.heap.size) (hm : m' ≤ m + 2000) (hF : Ext (fun q => q = w.heap.size) w3 F)
    (o4 : F.ownsRow (w.heap.size + 1) 2 1 u xs.length (xs.map (Value.int .i64))) (o5 : F.ownsRow (w.heap.size + 1) 2 1 v ys.length (ys.map (Value.int .i64))) (hd : ∀ c, u.ownBlock = some c → v.ownBlock ≠ some c)
    (w1 : ∀ z ∈ xs, (Lit.int .i64 z).wf = true) (w2 : ∀ z ∈ ys, (Lit.int .i64 z).wf = true) (l1 : xs.length ≤ 100) (l2 : ys.length ≤ 100) : LogPost b m cv w (.returned (.agg #[u, v])) F := by
  have hz := hE.size
  refine ⟨u, v, xs, ys, m', rfl, o4, o5, hd, w1, w2, l1, l2, hS.extW hF (fun e => by omega), hm, hC.extW (by omega) hF (fun k hk e => by omega), ?_⟩
  exact ⟨hF.os.trans hE.os, hF.tape.trans hE.tape, hF.output.trans hE.output, Nat.le_trans hE.size hF.size, fun i hi hn => (hF.block i (by omega) (fun e => by omega)).trans (hE.block i hi (fun e => by
      rcases e with e | e
      · exact hn (by rw [e])
      · omega))⟩

set_option maxRecDepth 100000 in
set_option maxHeartbeats 4000000 in
theorem drawRight8 (b m : Nat) (cv : Value) (w : World) (hs : SrcAt w b cv m) (hc : IsCode b w cv) (hm : m ≤ 100) :
    Calls Try.prog 94 #[.pointer (some ⟨b, 0, none⟩)] w (LogPost b m cv w) := by
  have hbw0 := hs.lt
  have nb : Below w.heap.size w (w.alloc (.cells #[.slice none 0 0, .slice none 0 0] 48)) := (Below.refl _ _).alloc (Nat.le_refl _) _
  have bR : Box 0 #[.slice none 0 0, .slice none 0 0] 48 (w.alloc (.cells #[.slice none 0 0, .slice none 0 0] 48)) w.heap.size := newBox (Nat.zero_le _)
  have L := hide (drawRightR b m 9 cv _ (hs.onW nb) (hc.onW (Nat.le_of_lt hbw0) nb) (by omega) (by omega) (by omega))
  have HE0 := hide (ext_of_below nb (fun q => q = b ∨ w.heap.size ≤ q))
  have HR0 := hide bR
  clear nb bR hs hc
  go_enter Try.func94, Try.ntmps94
  go_wp2_with fail
  generalize w.alloc (.cells #[.slice none 0 0, .slice none 0 0] 48) = W0 at *
  refine (unhide L).mono ?_
  rintro e w1 ⟨v1, rows, xs, bls, m1, rfl, hG, -, hlen, hq, s1, hm1, c1, g1⟩
  have hall : ∀ y ∈ xs, wF y = 0 := fun y hy => (hq y hy).1
  have hR1 := hG.toReads (by omega)
  obtain ⟨ao1, cp1, rfl⟩ := open_sl hR1
  have L2 := hide (pack8C _ xs w1 hR1 (by omega) hall)
  have HPL : Hid ((packs xs).length = 8 * xs.length) := packs_len xs hall
  have HE1 := hide ((unhide HE0).trans ((ext_grown g1).mono fun k _ h => Or.inl h))
  have HR1 := hide ((unhide HR0).ext (ext_grown g1) (by omega))
  have HS1 := hide s1
  have HC1 := hide c1
  have HPW := hide (packs_wf xs)
  clear L HE0 HR0 hG hq hall hR1 s1 c1 g1
  go_wp2_with fail
  refine (unhide L2).mono ?_
  rintro e w2 ⟨v2, rfl, O2, hb2⟩
  obtain ⟨ps, hps⟩ : ∃ ps, ps = packs xs := ⟨_, rfl⟩
  rw [← hps] at O2 HPL HPW
  obtain ⟨ao, cap, rfl⟩ := own_shape O2
  have hcap : ps.length ≤ cap := by
    rcases O2.2 with ⟨h1, h2⟩ | ⟨g, cp, cur, h1, -, -, h2, -⟩
    · omega
    · simp only [Value.slice.injEq] at h1; omega
  have hsome : cap ≠ 0 → ∃ g, ao = some ⟨g, 0, none⟩ := fun hc0 => by
    rcases O2.2 with ⟨h1, -⟩ | ⟨g, cp, cur, h1, -⟩
    · simp only [Value.slice.injEq] at h1; omega
    · simp only [Value.slice.injEq] at h1; exact ⟨g, h1.1⟩
  have hOI := Lay.ownInts (zs := ps) (unhide HPW) (by have := unhide HPL; omega) O2
  have hsx : SrcAt w2 b cv m1 := (unhide HS1).onW hb2
  have hcx : IsCode b w2 cv := (unhide HC1).onW (by have := (unhide HS1).lt; omega) hb2
  have L3 := hide (next b m1 cv (((xs.length : Nat) : Int) + 1) w2 hsx hcx (by omega) (by omega) (by omega))
  have HE2 := hide ((unhide HE1).trans (ext_of_below hb2 _))
  have HR2 := hide ((unhide HR1).keep hb2)
  have HLO : Hid (w.heap.size < w1.heap.size) := (unhide HR1).lt
  have HOI := hide hOI
  have hdiv : ((ps.length : Int)).tdiv 8 = (xs.length : Int) := by
    rw [unhide HPL, Int.tdiv_eq_ediv_of_nonneg (by omega)]
    omega
  have HB1 : Hid (b < w1.heap.size) := by show b < w1.heap.size; have := unhide HLO; omega
  clear O2 hOI hb2 HE1 HR1 HS1 HC1 hsx hcx L2 hps
  go_wp2_with fail
  refine (unhide L3).mono ?_
  rintro e w3 ⟨r, rfl, hr, s3, c3, g3⟩
  have HE3 := hide ((unhide HE2).trans ((ext_grown g3).mono fun k _ h => Or.inl h))
  have HR3 := hide ((unhide HR2).ext (ext_grown g3) (by omega))
  have HS3 := hide s3
  have HC3 := hide c3
  have HRX := hide ((unhide HOI).lies.ext (ext_grown g3) (fun q h1 h2 e => by have := unhide HB1; omega))
  have hr8 : 8 * r ≤ ps.length := by have := unhide HPL; omega
  have hpl9 : ps.length ≤ 72 := by have := unhide HPL; omega
  have HRD0 : Hid (∀ W, Ext (fun q => q = w.heap.size) w3 W → (Lay.sl Lay.int).Reads W [.slice ao ps.length cap] ps) := fun W hW => ((unhide HRX).ext hW (fun q h1 h2 e => by have := unhide HLO; omega)).reads
  have HRA : Hid (∀ W, Ext (fun q => q = w.heap.size) w3 W → (Lay.sl Lay.int).Reads W [.slice ao (8 * r) cap] (ps.take (8 * r))) := fun W hW => take_reads (unhide HRD0 W hW) (8 * r) hr8
  clear s3 c3 g3 L3 HE2 HR2 HOI hdiv
  go_wp2_with fail
  have hRD : Box 0 #[.slice none 0 0, .slice none 0 0] 48 w3.drew w.heap.size := (unhide HR3).drew
  by_cases hck : cap = 8 * r
  · subst hck
    have hl0 : ps.length = 8 * r := by omega
    have HRB : Hid (∀ W, Ext (fun q => q = w.heap.size) w3 W → (Lay.sl Lay.int).Reads W [.slice ao 0 0] (ps.drop (8 * r))) := fun W hW => by
      rw [List.drop_eq_nil_of_le (by omega)]
      exact Lay.reads_ints ⟨ao, _, rfl, by simp, fun hp => by simp at hp⟩ (fun _ _ _ => by simp) (by simp)
    have HL0 := hide hl0
    clear hl0
    refine wp_region_noPanic ?_
    refine wp_region_held_drew (S := fun w' => Ext (fun q => q = w.heap.size) w3 w') (by kernel_rfl) ⟨rfl, rfl, rfl, Nat.le_refl _, fun _ _ _ => rfl⟩ (fun hHeld => ?_)
    generalize w3.drew = wD at hHeld hRD ⊢
    refine wpAnyH_take (i := 0) (oi := { dst := some 15, op := Go.Op.move (Go.Operand.tmp 3), type := 24, pos := "l08_log.go:105", after := #[], guard := none }) (v := ?va0_1) rfl (by kernel_rfl) (by kernel_rfl) (by kernel_rfl) (fun _ _ _ h => h) (Or.inl ⟨by rfl, ?ha0_1⟩) hHeld ?ra0_1
    case ha0_1 =>
      intro wS hSw
      (try dsimp only at hSw)
      go_simp
      try with_reducible rfl
    case ra0_1 =>
    simp only [Act.put, List.setIfInBounds_toArray, List.set_cons_zero, List.set_cons_succ]
    refine wpAnyH_take (i := 1) (oi := { dst := some 16, op := Go.Op.move (Go.Operand.tmp 4), type := 2, pos := "l08_log.go:105", after := #[], guard := none }) (v := ?va1_2) rfl (by kernel_rfl) (by kernel_rfl) (by kernel_rfl) (fun _ _ _ h => h) (Or.inl ⟨by rfl, ?ha1_2⟩) hHeld ?ra1_2
    case ha1_2 =>
      intro wS hSw
      (try dsimp only at hSw)
      go_simp
      try with_reducible rfl
    case ra1_2 =>
    simp only [Act.put, List.setIfInBounds_toArray, List.set_cons_zero, List.set_cons_succ]
    refine wpAnyH_take (i := 2) (oi := { dst := some 17, op := Go.Op.slice 24 (Go.Operand.tmp 15) none (some (Go.Operand.tmp 16)) none, type := 24, pos := "l08_log.go:105", after := #[{ on := 0, ground := Go.Ground.data }, { on := 1, ground := Go.Ground.data }], guard := none }) (v := ?va2_3) rfl (by kernel_rfl) (by kernel_rfl) (by kernel_rfl) (fun _ _ _ h => h) (Or.inl ⟨by rfl, ?ha2_3⟩) hHeld ?ra2_3
    case ha2_3 =>
      intro wS hSw
      clear hSw
      have t0 : 8 * (r : Int) ≤ (ps.length : Int) := by omega
      have t2 : (0 : Int) ≤ 8 * (r : Int) := by omega
      have t3 : (8 * (r : Int)).toNat = 8 * r := by omega
      (try dsimp only at hSw)
      go_simp
      try with_reducible rfl
    case ra2_3 =>
    simp only [Act.put, List.setIfInBounds_toArray, List.set_cons_zero, List.set_cons_succ]
    refine wpAnyH_take (i := 4) (oi := { dst := some 19, op := Go.Op.move (Go.Operand.tmp 3), type := 24, pos := "l08_log.go:105", after := #[], guard := none }) (v := ?va4_4) rfl (by kernel_rfl) (by kernel_rfl) (by kernel_rfl) (fun _ _ _ h => h) (Or.inl ⟨by rfl, ?ha4_4⟩) hHeld ?ra4_4
    case ha4_4 =>
      intro wS hSw
      (try dsimp only at hSw)
      go_simp
      try with_reducible rfl
    case ra4_4 =>
    simp only [Act.put, List.setIfInBounds_toArray, List.set_cons_zero, List.set_cons_succ]
    refine wpAnyH_take (i := 5) (oi := { dst := some 20, op := Go.Op.move (Go.Operand.tmp 4), type := 2, pos := "l08_log.go:105", after := #[], guard := none }) (v := ?va5_5) rfl (by kernel_rfl) (by kernel_rfl) (by kernel_rfl) (fun _ _ _ h => h) (Or.inl ⟨by rfl, ?ha5_5⟩) hHeld ?ra5_5
    case ha5_5 =>
      intro wS hSw
      (try dsimp only at hSw)
      go_simp
      try with_reducible rfl
    case ra5_5 =>
    simp only [Act.put, List.setIfInBounds_toArray, List.set_cons_zero, List.set_cons_succ]
    refine wpAnyH_take (i := 6) (oi := { dst := some 21, op := Go.Op.slice 24 (Go.Operand.tmp 19) (some (Go.Operand.tmp 20)) none none, type := 24, pos := "l08_log.go:105", after := #[{ on := 4, ground := Go.Ground.data }, { on := 5, ground := Go.Ground.data }], guard := none }) (v := ?va6_6) rfl (by kernel_rfl) (by kernel_rfl) (by kernel_rfl) (fun _ _ _ h => h) (Or.inl ⟨by rfl, ?ha6_6⟩) hHeld ?ra6_6
    case ha6_6 =>
      intro wS hSw
      clear hSw
      have t0 : 8 * (r : Int) ≤ (ps.length : Int) := by omega
      have t2 : (0 : Int) ≤ 8 * (r : Int) := by omega
      have t3 : (8 * (r : Int)).toNat = 8 * r := by omega
      (try dsimp only at hSw)
      go_simp
      try with_reducible rfl
    case ra6_6 =>
    simp only [Act.put, List.setIfInBounds_toArray, List.set_cons_zero, List.set_cons_succ]
    refine wpAnyH_ready (rs := [3]) (by kernel_rfl) (by simp) ?_
    refine AllReadyH.cons (o := { dst := some 18, op := Go.Op.call { callee := Go.Callee.value (Go.Operand.func 65), args := #[Go.Operand.tmp 17], argTypes := #[24] }, type := 24, pos := "l08_log.go:105", after := #[{ on := 2, ground := Go.Ground.data }], guard := none }) rfl (fun K hK => ?_) AllReadyH.nil
    go_simp
    go_at_call 65
    refine (l1Ints _ (ps.take (8 * r)) _ (Lay.ints_reads (unhide HRA _ hHeld)) (by rw [List.length_take]; omega)).mono ?_
    rintro e w4 ⟨v4, rfl, O4, hbw⟩
    obtain ⟨a4, c4, rfl⟩ := own_shape O4
    have hS4 := hHeld.trans (ext_of_below hbw _)
    have bR4 := hRD.keep hbw
    have hz4 := hbw.size
    have hzD := hRD.lt
    obtain ⟨n4, hn4⟩ : ∃ n4, n4 = (ps.take (8 * r)).length := ⟨_, rfl⟩
    rw [← hn4] at O4 ⊢
    have HN4 := hide hn4
    have HO4 := hide O4
    clear hn4 O4
    try go_wp2_with fail
    refine hK.out _ _ hS4 (fun hHeld => ?_)
    clear hK K
    try simp only [Act.put, List.setIfInBounds_toArray, List.set_cons_zero, List.set_cons_succ]
    refine wpAnyH_ready (rs := [7]) (by kernel_rfl) (by simp) ?_
    refine AllReadyH.cons (o := { dst := some 22, op := Go.Op.call { callee := Go.Callee.value (Go.Operand.func 65), args := #[Go.Operand.tmp 21], argTypes := #[24] }, type := 24, pos := "l08_log.go:105", after := #[{ on := 6, ground := Go.Ground.data }, { on := 3, ground := Go.Ground.chain }], guard := none }) rfl (fun K hK => ?_) AllReadyH.nil
    go_simp
    go_at_call 65
    refine (l1Ints _ (ps.drop (8 * r)) _ (Lay.ints_reads (unhide HRB _ hS4)) (by rw [List.length_drop]; omega)).mono ?_
    rintro e w5 ⟨v5, rfl, O5, hbw5⟩
    obtain ⟨a5, c5, rfl⟩ := own_shape O5
    have hS5 := hS4.trans (ext_of_below hbw5 _)
    have bR5 := bR4.keep hbw5
    have hz5 := hbw5.size
    obtain ⟨n5, hn5⟩ : ∃ n5, n5 = (ps.drop (8 * r)).length := ⟨_, rfl⟩
    rw [← hn5] at O5 ⊢
    have HN5 := hide hn5
    have hE9 : Ext (fun q => q = w.heap.size) w5 (setAll w5 w.heap.size 0 [.slice a4 n4 c4, .slice a5 n5 c5]) := ext_setAll (fun q => q = w.heap.size) (Ext.refl _ _) w.heap.size 0 [.slice a4 n4 c4, .slice a5 n5 c5] rfl
    have HO49 := hide (own_mono (b' := w.heap.size + 1) (by omega) (own_ext8 (own_below (unhide HO4) hbw5) hE9 (fun c hc e => by have := ((unhide HO4).lt c hc).1; omega)))
    have HO59 := hide (own_mono (b' := w.heap.size + 1) (by omega) (own_ext8 O5 hE9 (fun c hc e => by have := (O5.lt c hc).1; omega)))
    have HDI : Hid (∀ c, (Value.slice a4 n4 c4).ownBlock = some c → (Value.slice a5 n5 c5).ownBlock ≠ some c) := fun c h1 h2 => by
      have q1 := ((unhide HO4).lt c h1).2
      have q2 := (O5.lt c h2).1
      omega
    clear O5 hE9 hn5
    try go_wp2_with fail
    refine hK.out _ _ hS5 (fun hHeld => ?_)
    clear hK K
    try simp only [Act.put, List.setIfInBounds_toArray, List.set_cons_zero, List.set_cons_succ]
    refine wpAnyH_take (i := 8) (oi := { dst := some 23, op := Go.Op.build 48 #[(0, Go.Operand.tmp 18), (1, Go.Operand.tmp 22)], type := 48, pos := "l08_log.go:105", after := #[{ on := 3, ground := Go.Ground.data }, { on := 7, ground := Go.Ground.data }], guard := none }) (v := ?va8_7) rfl (by kernel_rfl) (by kernel_rfl) (by kernel_rfl) (fun _ _ _ h => h) (Or.inl ⟨by rfl, ?ha8_7⟩) hHeld ?ra8_7
    case ha8_7 =>
      intro wS hSw
      (try dsimp only at hSw)
      go_simp
      try with_reducible rfl
    case ra8_7 =>
    simp only [Act.put, List.setIfInBounds_toArray, List.set_cons_zero, List.set_cons_succ]
    refine wpAnyH_ready (rs := [9]) (by kernel_rfl) (by simp) ?_
    refine AllReadyH.cons (o := { dst := none, op := Go.Op.store 48 (Go.Operand.tmp 2) (Go.Operand.tmp 23), type := 0, pos := "l08_log.go:105", after := #[{ on := 8, ground := Go.Ground.data }, { on := 7, ground := Go.Ground.chain }, { on := 0, ground := Go.Ground.phase }, { on := 1, ground := Go.Ground.phase }, { on := 2, ground := Go.Ground.phase }, { on := 3, ground := Go.Ground.phase }, { on := 4, ground := Go.Ground.phase }, { on := 5, ground := Go.Ground.phase }, { on := 6, ground := Go.Ground.phase }, { on := 7, ground := Go.Ground.phase }, { on := 8, ground := Go.Ground.phase }], guard := none }) rfl (fun K hK => ?_) AllReadyH.nil
    have z0 := bR5.at 0 _ rfl
    have z1 := bR5.at 1 _ rfl
    have ff := bR5.soft
    have l0 := bR5.lt
    simp only [List.getElem_toArray, List.getElem_cons_zero, List.getElem_cons_succ] at z0 z1
    go_simp
    try go_wp2_with fail
    refine hK.out _ _ (ext_setAll (fun q => q = w.heap.size) hS5 w.heap.size 0 [.slice a4 n4 c4, .slice a5 n5 c5] rfl) (fun hHeld => ?_)
    clear hK K
    try simp only [Act.put, List.setIfInBounds_toArray, List.set_cons_zero, List.set_cons_succ]
    refine wpAnyH_done (by kernel_rfl) ?_ _
    refine NoPanic.normal ?_
    have HS9 := hide hHeld
    clear hHeld
    go_wp2_with fail
    refine bodyPost_ret (v := .agg #[.slice a4 n4 c4, .slice a5 n5 c5]) (by simp [results, Try.results94, go_sem, z0, z1]) rfl ?_
    have h4 := unhide HO49
    have h5 := unhide HO59
    rw [unhide HN4] at h4
    rw [unhide HN5] at h5
    refine closeL (xs := ps.take (8 * r)) (ys := ps.drop (8 * r)) (unhide HE3) (unhide HS3) (unhide HC3) hbw0 (by omega) (unhide HS9) (by rw [unhide HN4]; exact h4) (by rw [unhide HN5]; exact h5) (unhide HDI) (fun z hz => unhide HPW z (List.mem_of_mem_take hz)) (fun z hz => unhide HPW z (List.mem_of_mem_drop hz)) (by rw [List.length_take]; omega) (by rw [List.length_drop]; omega)
  · obtain ⟨g, rfl⟩ := hsome (by omega)
    have HRB : Hid (∀ W, Ext (fun q => q = w.heap.size) w3 W → (Lay.sl Lay.int).Reads W [.slice (some ⟨g, 8 * r, none⟩) (ps.length - 8 * r) (cap - 8 * r)] (ps.drop (8 * r))) := fun W hW => by
      have h1 := part_reads (unhide HRD0 W hW) (8 * r) (ps.length - 8 * r) (cap - 8 * r) (by omega) (by omega)
      rw [List.take_of_length_le (by rw [List.length_drop]; omega), Nat.zero_add] at h1
      exact h1
    refine wp_region_noPanic ?_
    refine wp_region_held_drew (S := fun w' => Ext (fun q => q = w.heap.size) w3 w') (by kernel_rfl) ⟨rfl, rfl, rfl, Nat.le_refl _, fun _ _ _ => rfl⟩ (fun hHeld => ?_)
    generalize w3.drew = wD at hHeld hRD ⊢
    refine wpAnyH_take (i := 0) (oi := { dst := some 15, op := Go.Op.move (Go.Operand.tmp 3), type := 24, pos := "l08_log.go:105", after := #[], guard := none }) (v := ?vb0_1) rfl (by kernel_rfl) (by kernel_rfl) (by kernel_rfl) (fun _ _ _ h => h) (Or.inl ⟨by rfl, ?hb0_1⟩) hHeld ?rb0_1
    case hb0_1 =>
      intro wS hSw
      (try dsimp only at hSw)
      go_simp
      try with_reducible rfl
    case rb0_1 =>
    simp only [Act.put, List.setIfInBounds_toArray, List.set_cons_zero, List.set_cons_succ]
    refine wpAnyH_take (i := 1) (oi := { dst := some 16, op := Go.Op.move (Go.Operand.tmp 4), type := 2, pos := "l08_log.go:105", after := #[], guard := none }) (v := ?vb1_2) rfl (by kernel_rfl) (by kernel_rfl) (by kernel_rfl) (fun _ _ _ h => h) (Or.inl ⟨by rfl, ?hb1_2⟩) hHeld ?rb1_2
    case hb1_2 =>
      intro wS hSw
      (try dsimp only at hSw)
      go_simp
      try with_reducible rfl
    case rb1_2 =>
    simp only [Act.put, List.setIfInBounds_toArray, List.set_cons_zero, List.set_cons_succ]
    refine wpAnyH_take (i := 2) (oi := { dst := some 17, op := Go.Op.slice 24 (Go.Operand.tmp 15) none (some (Go.Operand.tmp 16)) none, type := 24, pos := "l08_log.go:105", after := #[{ on := 0, ground := Go.Ground.data }, { on := 1, ground := Go.Ground.data }], guard := none }) (v := ?vb2_3) rfl (by kernel_rfl) (by kernel_rfl) (by kernel_rfl) (fun _ _ _ h => h) (Or.inl ⟨by rfl, ?hb2_3⟩) hHeld ?rb2_3
    case hb2_3 =>
      intro wS hSw
      clear hSw
      have t1 : 8 * (r : Int) ≤ (cap : Int) := by omega
      have t0 : 8 * (r : Int) ≤ (ps.length : Int) := by omega
      have t2 : (0 : Int) ≤ 8 * (r : Int) := by omega
      have t3 : (8 * (r : Int)).toNat = 8 * r := by omega
      (try dsimp only at hSw)
      go_simp
      try with_reducible rfl
    case rb2_3 =>
    simp only [Act.put, List.setIfInBounds_toArray, List.set_cons_zero, List.set_cons_succ]
    refine wpAnyH_take (i := 4) (oi := { dst := some 19, op := Go.Op.move (Go.Operand.tmp 3), type := 24, pos := "l08_log.go:105", after := #[], guard := none }) (v := ?vb4_4) rfl (by kernel_rfl) (by kernel_rfl) (by kernel_rfl) (fun _ _ _ h => h) (Or.inl ⟨by rfl, ?hb4_4⟩) hHeld ?rb4_4
    case hb4_4 =>
      intro wS hSw
      (try dsimp only at hSw)
      go_simp
      try with_reducible rfl
    case rb4_4 =>
    simp only [Act.put, List.setIfInBounds_toArray, List.set_cons_zero, List.set_cons_succ]
    refine wpAnyH_take (i := 5) (oi := { dst := some 20, op := Go.Op.move (Go.Operand.tmp 4), type := 2, pos := "l08_log.go:105", after := #[], guard := none }) (v := ?vb5_5) rfl (by kernel_rfl) (by kernel_rfl) (by kernel_rfl) (fun _ _ _ h => h) (Or.inl ⟨by rfl, ?hb5_5⟩) hHeld ?rb5_5
    case hb5_5 =>
      intro wS hSw
      (try dsimp only at hSw)
      go_simp
      try with_reducible rfl
    case rb5_5 =>
    simp only [Act.put, List.setIfInBounds_toArray, List.set_cons_zero, List.set_cons_succ]
    refine wpAnyH_take (i := 6) (oi := { dst := some 21, op := Go.Op.slice 24 (Go.Operand.tmp 19) (some (Go.Operand.tmp 20)) none none, type := 24, pos := "l08_log.go:105", after := #[{ on := 4, ground := Go.Ground.data }, { on := 5, ground := Go.Ground.data }], guard := none }) (v := ?vb6_6) rfl (by kernel_rfl) (by kernel_rfl) (by kernel_rfl) (fun _ _ _ h => h) (Or.inl ⟨by rfl, ?hb6_6⟩) hHeld ?rb6_6
    case hb6_6 =>
      intro wS hSw
      clear hSw
      have t1 : 8 * (r : Int) ≤ (cap : Int) := by omega
      have t0 : 8 * (r : Int) ≤ (ps.length : Int) := by omega
      have t2 : (0 : Int) ≤ 8 * (r : Int) := by omega
      have t3 : (8 * (r : Int)).toNat = 8 * r := by omega
      (try dsimp only at hSw)
      go_simp
      try with_reducible rfl
    case rb6_6 =>
    simp only [Act.put, List.setIfInBounds_toArray, List.set_cons_zero, List.set_cons_succ]
    refine wpAnyH_ready (rs := [3]) (by kernel_rfl) (by simp) ?_
    refine AllReadyH.cons (o := { dst := some 18, op := Go.Op.call { callee := Go.Callee.value (Go.Operand.func 65), args := #[Go.Operand.tmp 17], argTypes := #[24] }, type := 24, pos := "l08_log.go:105", after := #[{ on := 2, ground := Go.Ground.data }], guard := none }) rfl (fun K hK => ?_) AllReadyH.nil
    go_simp
    go_at_call 65
    refine (l1Ints _ (ps.take (8 * r)) _ (Lay.ints_reads (unhide HRA _ hHeld)) (by rw [List.length_take]; omega)).mono ?_
    rintro e w4 ⟨v4, rfl, O4, hbw⟩
    obtain ⟨a4, c4, rfl⟩ := own_shape O4
    have hS4 := hHeld.trans (ext_of_below hbw _)
    have bR4 := hRD.keep hbw
    have hz4 := hbw.size
    have hzD := hRD.lt
    obtain ⟨n4, hn4⟩ : ∃ n4, n4 = (ps.take (8 * r)).length := ⟨_, rfl⟩
    rw [← hn4] at O4 ⊢
    have HN4 := hide hn4
    have HO4 := hide O4
    clear hn4 O4
    try go_wp2_with fail
    refine hK.out _ _ hS4 (fun hHeld => ?_)
    clear hK K
    try simp only [Act.put, List.setIfInBounds_toArray, List.set_cons_zero, List.set_cons_succ]
    refine wpAnyH_ready (rs := [7]) (by kernel_rfl) (by simp) ?_
    refine AllReadyH.cons (o := { dst := some 22, op := Go.Op.call { callee := Go.Callee.value (Go.Operand.func 65), args := #[Go.Operand.tmp 21], argTypes := #[24] }, type := 24, pos := "l08_log.go:105", after := #[{ on := 6, ground := Go.Ground.data }, { on := 3, ground := Go.Ground.chain }], guard := none }) rfl (fun K hK => ?_) AllReadyH.nil
    go_simp
    go_at_call 65
    refine (l1Ints _ (ps.drop (8 * r)) _ (Lay.ints_reads (unhide HRB _ hS4)) (by rw [List.length_drop]; omega)).mono ?_
    rintro e w5 ⟨v5, rfl, O5, hbw5⟩
    obtain ⟨a5, c5, rfl⟩ := own_shape O5
    have hS5 := hS4.trans (ext_of_below hbw5 _)
    have bR5 := bR4.keep hbw5
    have hz5 := hbw5.size
    obtain ⟨n5, hn5⟩ : ∃ n5, n5 = (ps.drop (8 * r)).length := ⟨_, rfl⟩
    rw [← hn5] at O5 ⊢
    have HN5 := hide hn5
    have hE9 : Ext (fun q => q = w.heap.size) w5 (setAll w5 w.heap.size 0 [.slice a4 n4 c4, .slice a5 n5 c5]) := ext_setAll (fun q => q = w.heap.size) (Ext.refl _ _) w.heap.size 0 [.slice a4 n4 c4, .slice a5 n5 c5] rfl
    have HO49 := hide (own_mono (b' := w.heap.size + 1) (by omega) (own_ext8 (own_below (unhide HO4) hbw5) hE9 (fun c hc e => by have := ((unhide HO4).lt c hc).1; omega)))
    have HO59 := hide (own_mono (b' := w.heap.size + 1) (by omega) (own_ext8 O5 hE9 (fun c hc e => by have := (O5.lt c hc).1; omega)))
    have HDI : Hid (∀ c, (Value.slice a4 n4 c4).ownBlock = some c → (Value.slice a5 n5 c5).ownBlock ≠ some c) := fun c h1 h2 => by
      have q1 := ((unhide HO4).lt c h1).2
      have q2 := (O5.lt c h2).1
      omega
    clear O5 hE9 hn5
    try go_wp2_with fail
    refine hK.out _ _ hS5 (fun hHeld => ?_)
    clear hK K
    try simp only [Act.put, List.setIfInBounds_toArray, List.set_cons_zero, List.set_cons_succ]
    refine wpAnyH_take (i := 8) (oi := { dst := some 23, op := Go.Op.build 48 #[(0, Go.Operand.tmp 18), (1, Go.Operand.tmp 22)], type := 48, pos := "l08_log.go:105", after := #[{ on := 3, ground := Go.Ground.data }, { on := 7, ground := Go.Ground.data }], guard := none }) (v := ?vb8_7) rfl (by kernel_rfl) (by kernel_rfl) (by kernel_rfl) (fun _ _ _ h => h) (Or.inl ⟨by rfl, ?hb8_7⟩) hHeld ?rb8_7
    case hb8_7 =>
      intro wS hSw
      (try dsimp only at hSw)
      go_simp
      try with_reducible rfl
    case rb8_7 =>
    simp only [Act.put, List.setIfInBounds_toArray, List.set_cons_zero, List.set_cons_succ]
    refine wpAnyH_ready (rs := [9]) (by kernel_rfl) (by simp) ?_
    refine AllReadyH.cons (o := { dst := none, op := Go.Op.store 48 (Go.Operand.tmp 2) (Go.Operand.tmp 23), type := 0, pos := "l08_log.go:105", after := #[{ on := 8, ground := Go.Ground.data }, { on := 7, ground := Go.Ground.chain }, { on := 0, ground := Go.Ground.phase }, { on := 1, ground := Go.Ground.phase }, { on := 2, ground := Go.Ground.phase }, { on := 3, ground := Go.Ground.phase }, { on := 4, ground := Go.Ground.phase }, { on := 5, ground := Go.Ground.phase }, { on := 6, ground := Go.Ground.phase }, { on := 7, ground := Go.Ground.phase }, { on := 8, ground := Go.Ground.phase }], guard := none }) rfl (fun K hK => ?_) AllReadyH.nil
    have z0 := bR5.at 0 _ rfl
    have z1 := bR5.at 1 _ rfl
    have ff := bR5.soft
    have l0 := bR5.lt
    simp only [List.getElem_toArray, List.getElem_cons_zero, List.getElem_cons_succ] at z0 z1
    go_simp
    try go_wp2_with fail
    refine hK.out _ _ (ext_setAll (fun q => q = w.heap.size) hS5 w.heap.size 0 [.slice a4 n4 c4, .slice a5 n5 c5] rfl) (fun hHeld => ?_)
    clear hK K
    try simp only [Act.put, List.setIfInBounds_toArray, List.set_cons_zero, List.set_cons_succ]
    refine wpAnyH_done (by kernel_rfl) ?_ _
    refine NoPanic.normal ?_
    have HS9 := hide hHeld
    clear hHeld
    go_wp2_with fail
    refine bodyPost_ret (v := .agg #[.slice a4 n4 c4, .slice a5 n5 c5]) (by simp [results, Try.results94, go_sem, z0, z1]) rfl ?_
    have h4 := unhide HO49
    have h5 := unhide HO59
    rw [unhide HN4] at h4
    rw [unhide HN5] at h5
    refine closeL (xs := ps.take (8 * r)) (ys := ps.drop (8 * r)) (unhide HE3) (unhide HS3) (unhide HC3) hbw0 (by omega) (unhide HS9) (by rw [unhide HN4]; exact h4) (by rw [unhide HN5]; exact h5) (unhide HDI) (fun z hz => unhide HPW z (List.mem_of_mem_take hz)) (fun z hz => unhide HPW z (List.mem_of_mem_drop hz)) (by rw [List.length_take]; omega) (by rw [List.length_drop]; omega)

end Go.Proofs.Ytipomhpimmnchaa

namespace Go.Proofs.Ytipomhpimmnchaa
open Go.RowKit

/-- Blocks below n that are not in S are as they were. -/
def KpS (n : Nat) (S : Nat → Prop) (W W' : World) : Prop := W.heap.size ≤ W'.heap.size ∧ ∀ b, b < n → ¬ S b → W'.heap[b]? = W.heap[b]?
theorem KpS.refl (n : Nat) (S : Nat → Prop) (W : World) : KpS n S W W := ⟨Nat.le_refl _, fun _ _ _ => rfl⟩
theorem KpS.trans {n : Nat} {S : Nat → Prop} {a b c : World} (h : KpS n S a b) (k : KpS n S b c) : KpS n S a c := ⟨Nat.le_trans h.1 k.1, fun i h1 h2 => (k.2 i h1 h2).trans (h.2 i h1 h2)⟩
theorem KpS.put {n : Nat} (S : Nat → Prop) (W : World) (l : Nat) (o' : Obj) (hl : n ≤ l) : KpS n S W (W.putObj l o') :=
  ⟨by simp, fun b hb _ => World.putObj_heap_other (by omega)⟩
theorem KpS.of_ext {n : Nat} {S T : Nat → Prop} {a b : World} (h : Ext T a b) (hn : n ≤ a.heap.size) (hs : ∀ k, k < n → T k → S k) : KpS n S a b :=
  ⟨h.size, fun k hk hS => h.block k (by omega) fun ht => hS (hs k hk ht)⟩
theorem KpS.of_below {n : Nat} (S : Nat → Prop) {a b : World} (h : Below a.heap.size a b) (hn : n ≤ a.heap.size) : KpS n S a b := ⟨h.size, fun k hk _ => h.block k (by omega)⟩
theorem ext_of_grownBy {A B : World} {row : Option Nat} (h : A.grownBy B row) : Ext (fun q => row = some q) A B := ⟨h.os, h.tape, h.output, h.size, fun k hk hn => h.block k hk fun e => hn e.symm⟩
theorem keepsFrom_ext {B : Nat} {S : Nat → Prop} {a b : World} (h : Ext S a b) (hs : ∀ k o, B ≤ k → a.heap[k]? = some o → o.isCells = false → ¬ S k) : KeepsFrom B a b :=
  ⟨h.size, fun k o hB hk ho => (h.block k (Array.getElem?_eq_some_iff.1 hk).1 (hs k o hB hk ho)).trans hk⟩
theorem keepsFrom_below {B : Nat} {a b : World} (h : Below a.heap.size a b) : KeepsFrom B a b :=
  ⟨h.size, fun k _ _ hk _ => (h.block k (Array.getElem?_eq_some_iff.1 hk).1).trans hk⟩
/-- A block of cells is not turned. -/
theorem grown_cells {A B : World} {row : Option Nat} (h : A.grownBy B row) {n : Nat} (hr : ∀ r, row = some r → n ≤ r ∧ ∃ o : Obj, A.heap[r]? = some o ∧ o.isCells = false) {b : Nat} {o : Obj} (hb : A.heap[b]? = some o) (ho : b < n ∨ o.isCells = true) : B.heap[b]? = some o := by
  refine (h.block b (Array.getElem?_eq_some_iff.1 hb).1 fun e => ?_).trans hb
  obtain ⟨h1, o', h2, h3⟩ := hr b e.symm
  rcases ho with ho | ho
  · omega
  · rw [hb] at h2
    cases h2
    rw [ho] at h3
    cases h3
theorem box_grown {A B : World} {row : Option Nat} (h : A.grownBy B row) {n lo : Nat} (hr : ∀ r, row = some r → n ≤ r ∧ ∃ o : Obj, A.heap[r]? = some o ∧ o.isCells = false) {cs : Array Value} {T s : Nat} (hb : Box lo cs T A s) : Box lo cs T B s :=
  ⟨hb.1, grown_cells h hr hb.2 (Or.inr rfl)⟩
theorem below_grown {A B w : World} {row : Option Nat} (h : A.grownBy B row) {n m : Nat} (hr : ∀ r, row = some r → n ≤ r ∧ ∃ o : Obj, A.heap[r]? = some o ∧ o.isCells = false) (hb : Below m w A) (hm : m ≤ n) (hw : m ≤ w.heap.size) : Below m w B :=
  hb.grown h (Nat.le_trans hw hb.size) fun k e => by have := (hr k e).1; omega

end Go.Proofs.Ytipomhpimmnchaa

namespace Go.Proofs.Ytipomhpimmnchaa
open Go.RowKit

/-- A log of the draw's own, right or not; the source has gone on. -/
def BentL (b m : Nat) (cv : Value) (w : World) (e : Ending) (w' : World) : Prop :=
  ∃ (cs : List Value) (x : DLog) (m' : Nat), e = .returned (.agg cs.toArray) ∧ Lay.tLog.LiesIn w' cs x (w.heap.size + 1) w'.heap.size ∧ x.sure.length ≤ 400 ∧ x.loose.length ≤ 400 ∧ SrcAt w' b cv m' ∧ m' ≤ m + 3000 ∧ IsCode b w' cv ∧ w.grownBy w' (some b)
theorem closeB {b m m' : Nat} {cv : Value} {w W F : World} {a1 a2 : Option Addr} {c1 c2 n1 n2 : Nat} {xs ys : List Int} (hE : Ext (fun q => q = b ∨ w.heap.size ≤ q) w W) (hS : SrcAt W b cv m') (hC : IsCode b W cv) (hb : b < w.heap.size) (hm : m' ≤ m + 3000) (hF : Ext (fun q => q = w.heap.size) W F) (e1 : n1 = xs.length) (e2 : n2 = ys.length)
    (o4 : W.ownsRow (w.heap.size + 1) 2 1 (.slice a1 n1 c1) n1 (xs.map (Value.int .i64))) (o5 : W.ownsRow (w.heap.size + 1) 2 1 (.slice a2 n2 c2) n2 (ys.map (Value.int .i64)))
    (w1 : ∀ z ∈ xs, (Lit.int .i64 z).wf = true) (w2 : ∀ z ∈ ys, (Lit.int .i64 z).wf = true) (l1 : xs.length ≤ 400) (l2 : ys.length ≤ 400) : BentL b m cv w (.returned (.agg #[.slice a1 n1 c1, .slice a2 n2 c2])) F := by
  subst e1 e2
  have hz := hE.size
  refine ⟨[.slice a1 xs.length c1, .slice a2 ys.length c2], ⟨xs, ys⟩, m', rfl, ?_, l1, l2, hS.extW hF (fun e => by omega), hm, hC.extW (by omega) hF (fun k hk e => by omega), ?_⟩
  · obtain ⟨b1, k1, r1⟩ := ((Lay.ownInts w1 (by omega) o4).lies.ext hF (fun q h1 h2 e => by omega)).mono (Nat.le_refl _) hF.size
    obtain ⟨b2, k2, r2⟩ := ((Lay.ownInts w2 (by omega) o5).lies.ext hF (fun q h1 h2 e => by omega)).mono (Nat.le_refl _) hF.size
    refine ⟨b1 ++ b2, ⟨[.slice a1 xs.length c1], [.slice a2 ys.length c2], b1, b2, rfl, rfl, k1, k2⟩, fun c hc => ?_⟩
    rcases List.mem_append.1 hc with hc | hc
    · exact r1 c hc
    · exact r2 c hc
  · exact ⟨hF.os.trans hE.os, hF.tape.trans hE.tape, hF.output.trans hE.output, Nat.le_trans hE.size hF.size, fun i hi hn => (hF.block i (by omega) (fun e => by omega)).trans (hE.block i hi (fun e => by
      rcases e with e | e
      · exact hn (by rw [e])
      · omega))⟩
theorem box_ne {w : World} {base T1 T2 lo s : Nat} {v : Value} {n : Nat} {xs : List Value} {cs : Array Value} (h : w.ownsRow base T1 1 v n xs) (k : Box lo cs T2 w s) (hT : T1 ≠ T2) : ∀ c, v.ownBlock = some c → c ≠ s := fun c hc e => by
  subst e
  rcases h.2 with ⟨rfl, -⟩ | ⟨g, cap, cur, rfl, -, hh, -⟩
  · simp [Value.ownBlock] at hc
  · obtain rfl : g = c := by simpa [Value.ownBlock] using hc
    rw [k.2] at hh
    simp only [Option.some.injEq, Obj.cells.injEq] at hh
    exact hT hh.2.1.symm
theorem snoc_wf {xs zs : List Int} (h : ∀ z ∈ xs, (Lit.int .i64 z).wf = true) (k : ∀ z ∈ zs, (Lit.int .i64 z).wf = true) : ∀ z ∈ xs ++ zs, (Lit.int .i64 z).wf = true := fun z hz => by
  rcases List.mem_append.1 hz with hz | hz
  · exact h z hz
  · exact k z hz

set_option maxRecDepth 100000 in
set_option maxHeartbeats 4000000 in
theorem drawBent8 (b m : Nat) (cv : Value) (w : World) (hs : SrcAt w b cv m) (hc : IsCode b w cv) (hm : m ≤ 100) :
    Calls Try.prog 76 #[.pointer (some ⟨b, 0, none⟩)] w (BentL b m cv w) := by
  have hbw0 := hs.lt
  have nb : Below w.heap.size w (w.alloc (.cells #[.slice none 0 0, .slice none 0 0] 48)) := (Below.refl _ _).alloc (Nat.le_refl _) _
  have bR : Box 0 #[.slice none 0 0, .slice none 0 0] 48 (w.alloc (.cells #[.slice none 0 0, .slice none 0 0] 48)) w.heap.size := newBox (Nat.zero_le _)
  have L := hide (drawRight8 b m cv _ (hs.onW nb) (hc.onW (Nat.le_of_lt hbw0) nb) (by omega))
  have HE0 := hide (ext_of_below nb (fun q => q = b ∨ w.heap.size ≤ q))
  have HR0 := hide bR
  have HZ0 : Hid ((w.alloc (.cells #[.slice none 0 0, .slice none 0 0] 48)).heap.size = w.heap.size + 1) := by show _ = _; simp
  clear nb bR hs hc
  go_enter Try.func76, Try.ntmps76
  go_wp2_with fail
  generalize w.alloc (.cells #[.slice none 0 0, .slice none 0 0] 48) = W0 at *
  refine (unhide L).mono ?_
  rintro e w1 ⟨u, v, xs, ys, m1, rfl, o4, o5, hdis, wf1, wf2, l1, l2, s1, hm1, c1', g1⟩
  obtain ⟨a1, c1, rfl⟩ := own_shape o4
  obtain ⟨a2, c2, rfl⟩ := own_shape o5
  have hb4 : ∀ c, (Value.slice a1 xs.length c1).ownBlock = some c → w.heap.size + 1 < c ∧ c < w1.heap.size := fun c hc => ⟨by have h1 := (o4.lt c hc).1; have h2 := unhide HZ0; omega, (o4.lt c hc).2⟩
  have hb5 : ∀ c, (Value.slice a2 ys.length c2).ownBlock = some c → w.heap.size + 1 < c ∧ c < w1.heap.size := fun c hc => ⟨by have h1 := (o5.lt c hc).1; have h2 := unhide HZ0; omega, (o5.lt c hc).2⟩
  have nb2 : Below w1.heap.size w1 (w1.alloc (.cells #[.slice a1 xs.length c1, .slice a2 ys.length c2] 48)) := (Below.refl _ _).alloc (Nat.le_refl _) _
  have bL : Box 0 #[.slice a1 xs.length c1, .slice a2 ys.length c2] 48 (w1.alloc (.cells #[.slice a1 xs.length c1, .slice a2 ys.length c2] 48)) w1.heap.size := newBox (Nat.zero_le _)
  have hz1 : w.heap.size < w1.heap.size := by have h1 := (unhide HR0).lt; have h2 := g1.size; omega
  have L2 := hide (next b m1 cv 14 _ (s1.onW nb2) (c1'.onW (by omega) nb2) (by omega) (by omega) (by omega))
  have HE1 := hide (((unhide HE0).trans ((ext_grown g1).mono fun k _ h => Or.inl h)).trans (ext_of_below nb2 _))
  have HR1 := hide (((unhide HR0).ext (ext_grown g1) (by omega)).keep nb2)
  have HBL := hide bL
  have HO4 := hide (own_mono (b' := w.heap.size + 1) (by have := unhide HZ0; omega) (own_below o4 nb2))
  have HO5 := hide (own_mono (b' := w.heap.size + 1) (by have := unhide HZ0; omega) (own_below o5 nb2))
  have HDI := hide hdis
  have HB4 := hide hb4
  have HB5 := hide hb5
  have HW1 := hide wf1
  have HW2 := hide wf2
  clear L HE0 HR0 nb2 bL s1 c1' g1 o4 o5 hdis hb4 hb5 wf1 wf2
  go_wp2_with fail
  refine (unhide L2).mono ?_
  generalize w1.alloc (.cells #[.slice a1 xs.length c1, .slice a2 ys.length c2] 48) = Wx at *
  rintro e w3 ⟨q, rfl, hq, s3, c3, g3⟩
  have HE := hide ((unhide HE1).trans ((ext_grown g3).mono fun k _ h => Or.inl h))
  have HR := hide ((unhide HR1).ext (ext_grown g3) (by omega))
  have HL := hide ((unhide HBL).ext (ext_grown g3) (by omega))
  replace HO4 := hide (own_ext8 (unhide HO4) (ext_grown g3) (fun c hc e => by have := unhide HB4 c hc; omega))
  replace HO5 := hide (own_ext8 (unhide HO5) (ext_grown g3) (fun c hc e => by have := unhide HB5 c hc; omega))
  have HS := hide s3
  have HC := hide c3
  clear L2 HE1 HR1 HBL s3 c3 g3
  have hLl := (unhide HL).lt
  rcases (show q = 0 ∨ q = 1 ∨ q = 2 ∨ 3 ≤ q by omega) with rfl | rfl | rfl | h3
  · have y0 := (unhide HL).at 0 _ rfl
    have y1 := (unhide HL).at 1 _ rfl
    have yf := (unhide HL).soft
    simp only [List.getElem_toArray, List.getElem_cons_zero, List.getElem_cons_succ] at y0 y1
    have nbn : Below w3.heap.size w3 (w3.alloc (.cells #[.int .i64 1] 2)) := (Below.refl _ _).alloc (Nat.le_refl _) _
    have bN : Box 0 #[.int .i64 1] 2 (w3.alloc (.cells #[.int .i64 1] 2)) w3.heap.size := newBox (Nat.zero_le _)
    have hI : IsInts (w3.alloc (.cells #[.int .i64 1] 2)) (.slice (some ⟨w3.heap.size, 0, none⟩) 1 1) [1] := ⟨_, _, rfl, by decide, fun _ => ⟨w3.heap.size, 0, rfl, fun j hj => by
      have hj2 : j < 1 := hj
      rw [Nat.zero_add]
      exact bN.at j _ (by rcases j with _ | _ | _ | j <;> first | rfl | omega)⟩⟩
    have hOw := own_below (unhide HO4) nbn
    have hZ : w.heap.size + 1 ≤ (w3.alloc (.cells #[.int .i64 1] 2)).heap.size := by simp; omega
    have HLN := hide ((unhide HL).keep nbn)
    have HRN := hide ((unhide HR).keep nbn)
    have HON := hide (own_below (unhide HO5) nbn)
    have HEN := hide ((unhide HE).trans (ext_of_below nbn _))
    have HSN := hide ((unhide HS).onW nbn)
    have HCN := hide ((unhide HC).onW (by omega) nbn)
    clear nbn bN
    go_wp2_with (at_builtin; refine wpList_append_ints hOw hI rfl _ _ rfl rfl rfl (by simp; omega) hZ ?_)
    rintro v7 w7 O7 hg7 hb7
    have E7 := ext_of_grownBy hg7
    obtain ⟨a7, c7, rfl⟩ := own_shape O7
    have hself : ∀ q, (Value.slice a1 xs.length c1).ownBlock = some q → w.heap.size + 1 < q ∧ q < w1.heap.size := unhide HB4
    have bL7 := (unhide HLN).ext E7 (fun e => by have := hself _ e; omega)
    have hnew := box_ne O7 bL7 (by decide)
    have EF : Ext (fun q => q = w1.heap.size) w7 (w7.setCell ⟨w1.heap.size, 0, none⟩ (.slice a7 (xs.length + 1) c7)) := (Ext.refl (fun q => q = w1.heap.size) _).setCell ⟨w1.heap.size, 0, none⟩ _ rfl
    have HoN : Hid (World.ownsRow (w7.setCell ⟨w1.heap.size, 0, none⟩ (.slice a7 (xs.length + 1) c7)) (w.heap.size + 1) 2 1 (.slice a7 (xs.length + 1) c7) (xs.length + 1) ((xs ++ [1]).map (Value.int .i64))) := by
      have := own_ext8 O7 EF (fun c hc e => hnew c hc e)
      rw [List.map_append]
      exact this
    have HoO := hide (own_ext8 (own_ext8 (unhide HON) E7 (fun c hc e => unhide HDI c e hc)) EF (fun c hc e => by have := unhide HB5 c hc; omega))
    have HbL := hide (bL7.set 0 (.slice a7 (xs.length + 1) c7))
    have HbR := hide (((unhide HRN).ext E7 (fun e => by have := hself _ e; omega)).other ⟨w1.heap.size, 0, none⟩ (.slice a7 (xs.length + 1) c7) (by simp; omega))
    have HEF := hide (((unhide HEN).trans (E7.mono fun k _ h => Or.inr (by have := hself _ h; omega))).trans (EF.mono fun k _ h => Or.inr (by omega)))
    have HSF := hide (((unhide HSN).extW E7 (fun e => by have := hself _ e; omega)).extW EF (by omega))
    have HCF := hide (((unhide HCN).extW (by have := hself; simp; omega) E7 (fun k hk e => by have := hself _ e; omega)).extW (by have := E7.size; simp at this; omega) EF (fun k hk e => by omega))
    have yl7 := bL7.lt
    have yf7 := bL7.soft 0
    have y7 := bL7.at 0 _ rfl
    simp only [List.getElem_toArray, List.getElem_cons_zero] at y7
    clear hOw hI hZ O7 hg7 hb7 E7 bL7 hnew EF y0 y1 yf HLN HRN HON HEN HSN HCN hself
    go_upto_region 9 with fail
    generalize w7.setCell ⟨w1.heap.size, 0, none⟩ (.slice a7 (xs.length + 1) c7) = WF at *
    have bR := unhide HbR
    have bL := unhide HbL
    simp only [List.setIfInBounds_toArray, List.set_cons_zero] at bL
    have E := unhide HEF
    have S := unhide HSF
    have C := unhide HCF
    have oN := unhide HoN
    have oO := unhide HoO
    have o4 := oN
    have o5 := oO
    have E1 : xs.length + 1 = (xs ++ [1]).length := by simp
    have E2 : ys.length = ys.length := rfl
    have W1 := snoc_wf (zs := [1]) (unhide HW1) (by decide)
    have W2 := unhide HW2
    have N1 : (xs ++ [1]).length ≤ 400 := by simp; omega
    have N2 : ys.length ≤ 400 := by omega
    clear oN oO
    have z0 := bR.at 0 _ rfl
    have z1 := bR.at 1 _ rfl
    have ff := bR.soft
    have l0 := bR.lt
    have y0 := bL.at 0 _ rfl
    have y1 := bL.at 1 _ rfl
    have yl := bL.lt
    simp only [List.getElem_toArray, List.getElem_cons_zero, List.getElem_cons_succ] at z0 z1 y0 y1
    have HF := hide (closeB (m := m) (m' := m1 + 1) E S C hbw0 (by omega) (ext_setAll (fun q => q = w.heap.size) (Ext.refl _ _) w.heap.size 0 [.slice a7 (xs.length + 1) c7, .slice a2 ys.length c2] rfl) E1 E2 o4 o5 W1 W2 N1 N2)
    clear bR bL E S C o4 o5 W1 W2 N1 N2 E1 E2
    go_wp2_with fail
    refine bodyPost_ret (v := .agg #[.slice a7 (xs.length + 1) c7, .slice a2 ys.length c2]) (by simp [results, Try.results76, go_sem, z0, z1]) rfl ?_
    exact unhide HF
  · have y0 := (unhide HL).at 0 _ rfl
    have y1 := (unhide HL).at 1 _ rfl
    have yf := (unhide HL).soft
    simp only [List.getElem_toArray, List.getElem_cons_zero, List.getElem_cons_succ] at y0 y1
    have nbn : Below w3.heap.size w3 (w3.alloc (.cells #[.int .i64 1, .int .i64 2, .int .i64 3] 2)) := (Below.refl _ _).alloc (Nat.le_refl _) _
    have bN : Box 0 #[.int .i64 1, .int .i64 2, .int .i64 3] 2 (w3.alloc (.cells #[.int .i64 1, .int .i64 2, .int .i64 3] 2)) w3.heap.size := newBox (Nat.zero_le _)
    have hI : IsInts (w3.alloc (.cells #[.int .i64 1, .int .i64 2, .int .i64 3] 2)) (.slice (some ⟨w3.heap.size, 0, none⟩) 3 3) [1, 2, 3] := ⟨_, _, rfl, by decide, fun _ => ⟨w3.heap.size, 0, rfl, fun j hj => by
      have hj2 : j < 3 := hj
      rw [Nat.zero_add]
      exact bN.at j _ (by rcases j with _ | _ | _ | j <;> first | rfl | omega)⟩⟩
    have hOw := own_below (unhide HO5) nbn
    have hZ : w.heap.size + 1 ≤ (w3.alloc (.cells #[.int .i64 1, .int .i64 2, .int .i64 3] 2)).heap.size := by simp; omega
    have HLN := hide ((unhide HL).keep nbn)
    have HRN := hide ((unhide HR).keep nbn)
    have HON := hide (own_below (unhide HO4) nbn)
    have HEN := hide ((unhide HE).trans (ext_of_below nbn _))
    have HSN := hide ((unhide HS).onW nbn)
    have HCN := hide ((unhide HC).onW (by omega) nbn)
    clear nbn bN
    go_wp2_with (at_builtin; refine wpList_append_ints hOw hI rfl _ _ rfl rfl rfl (by simp; omega) hZ ?_)
    rintro v7 w7 O7 hg7 hb7
    have E7 := ext_of_grownBy hg7
    obtain ⟨a7, c7, rfl⟩ := own_shape O7
    have hself : ∀ q, (Value.slice a2 ys.length c2).ownBlock = some q → w.heap.size + 1 < q ∧ q < w1.heap.size := unhide HB5
    have bL7 := (unhide HLN).ext E7 (fun e => by have := hself _ e; omega)
    have hnew := box_ne O7 bL7 (by decide)
    have EF : Ext (fun q => q = w1.heap.size) w7 (w7.setCell ⟨w1.heap.size, 1, none⟩ (.slice a7 (ys.length + 3) c7)) := (Ext.refl (fun q => q = w1.heap.size) _).setCell ⟨w1.heap.size, 1, none⟩ _ rfl
    have HoN : Hid (World.ownsRow (w7.setCell ⟨w1.heap.size, 1, none⟩ (.slice a7 (ys.length + 3) c7)) (w.heap.size + 1) 2 1 (.slice a7 (ys.length + 3) c7) (ys.length + 3) ((ys ++ [1, 2, 3]).map (Value.int .i64))) := by
      have := own_ext8 O7 EF (fun c hc e => hnew c hc e)
      rw [List.map_append]
      exact this
    have HoO := hide (own_ext8 (own_ext8 (unhide HON) E7 (fun c hc e => unhide HDI c hc e)) EF (fun c hc e => by have := unhide HB4 c hc; omega))
    have HbL := hide (bL7.set 1 (.slice a7 (ys.length + 3) c7))
    have HbR := hide (((unhide HRN).ext E7 (fun e => by have := hself _ e; omega)).other ⟨w1.heap.size, 1, none⟩ (.slice a7 (ys.length + 3) c7) (by simp; omega))
    have HEF := hide (((unhide HEN).trans (E7.mono fun k _ h => Or.inr (by have := hself _ h; omega))).trans (EF.mono fun k _ h => Or.inr (by omega)))
    have HSF := hide (((unhide HSN).extW E7 (fun e => by have := hself _ e; omega)).extW EF (by omega))
    have HCF := hide (((unhide HCN).extW (by have := hself; simp; omega) E7 (fun k hk e => by have := hself _ e; omega)).extW (by have := E7.size; simp at this; omega) EF (fun k hk e => by omega))
    have yl7 := bL7.lt
    have yf7 := bL7.soft 1
    have y7 := bL7.at 1 _ rfl
    simp only [List.getElem_toArray, List.getElem_cons_zero, List.getElem_cons_succ] at y7
    clear hOw hI hZ O7 hg7 hb7 E7 bL7 hnew EF y0 y1 yf HLN HRN HON HEN HSN HCN hself
    go_upto_region 9 with fail
    generalize w7.setCell ⟨w1.heap.size, 1, none⟩ (.slice a7 (ys.length + 3) c7) = WF at *
    have bR := unhide HbR
    have bL := unhide HbL
    simp only [List.setIfInBounds_toArray, List.set_cons_zero, List.set_cons_succ] at bL
    have E := unhide HEF
    have S := unhide HSF
    have C := unhide HCF
    have oN := unhide HoN
    have oO := unhide HoO
    have o4 := oO
    have o5 := oN
    have E1 : xs.length = xs.length := rfl
    have E2 : ys.length + 3 = (ys ++ [1, 2, 3]).length := by simp
    have W1 := unhide HW1
    have W2 := snoc_wf (zs := [1, 2, 3]) (unhide HW2) (by decide)
    have N1 : xs.length ≤ 400 := by omega
    have N2 : (ys ++ [1, 2, 3]).length ≤ 400 := by simp; omega
    clear oN oO
    have z0 := bR.at 0 _ rfl
    have z1 := bR.at 1 _ rfl
    have ff := bR.soft
    have l0 := bR.lt
    have y0 := bL.at 0 _ rfl
    have y1 := bL.at 1 _ rfl
    have yl := bL.lt
    simp only [List.getElem_toArray, List.getElem_cons_zero, List.getElem_cons_succ] at z0 z1 y0 y1
    have HF := hide (closeB (m := m) (m' := m1 + 1) E S C hbw0 (by omega) (ext_setAll (fun q => q = w.heap.size) (Ext.refl _ _) w.heap.size 0 [.slice a1 xs.length c1, .slice a7 (ys.length + 3) c7] rfl) E1 E2 o4 o5 W1 W2 N1 N2)
    clear bR bL E S C o4 o5 W1 W2 N1 N2 E1 E2
    go_wp2_with fail
    refine bodyPost_ret (v := .agg #[.slice a1 xs.length c1, .slice a7 (ys.length + 3) c7]) (by simp [results, Try.results76, go_sem, z0, z1]) rfl ?_
    exact unhide HF
  · obtain ⟨i0, hi, hz0, hz1, hz2⟩ := info_parts info2
    have y1 := (unhide HL).at 1 _ rfl
    have yf := (unhide HL).soft 1
    simp only [List.getElem_toArray, List.getElem_cons_zero, List.getElem_cons_succ] at y1
    go_wp2_with (at_make; refine wpList_make_full _ rfl _ _ 24 rfl w3.heap.size 2 i0 (.int .i64 0) 1 Try.underlying24 hi hz0 hz1 _ _ _ _ 321 rfl rfl rfl rfl ?c1 ?c2 ?c3 ?_)
    case c1 => rw [hz2]; omega
    case c2 => unfold maxLen; omega
    case c3 => exact Nat.le_refl _
    intro w7 O7 hg7
    rw [toList_madeCells_one] at O7
    have hb7 : Below w3.heap.size w3 w7 := (Below.refl _ _).grown hg7 (Nat.le_refl _) (by simp)
    have bL7 := (unhide HL).keep hb7
    have EF : Ext (fun q => q = w1.heap.size) w7 (w7.setCell ⟨w1.heap.size, 1, none⟩ (.slice (some ⟨w3.heap.size, 0, none⟩) 321 321)) := (Ext.refl (fun q => q = w1.heap.size) _).setCell ⟨w1.heap.size, 1, none⟩ _ rfl
    have HoN : Hid (World.ownsRow (w7.setCell ⟨w1.heap.size, 1, none⟩ (.slice (some ⟨w3.heap.size, 0, none⟩) 321 321)) (w.heap.size + 1) 2 1 (.slice (some ⟨w3.heap.size, 0, none⟩) 321 321) 321 ((List.replicate 321 (0 : Int)).map (Value.int .i64))) := by
      have := own_mono (b' := w.heap.size + 1) (by omega) (own_ext8 O7 EF (fun c hc e => by have := (O7.lt c hc).1; omega))
      rw [List.map_replicate]
      exact this
    have HoO := hide (own_ext8 (own_below (unhide HO4) hb7) EF (fun c hc e => by have := unhide HB4 c hc; omega))
    have HbL := hide (bL7.set 1 (.slice (some ⟨w3.heap.size, 0, none⟩) 321 321))
    have HbR := hide (((unhide HR).keep hb7).other ⟨w1.heap.size, 1, none⟩ (.slice (some ⟨w3.heap.size, 0, none⟩) 321 321) (by simp; omega))
    have HEF := hide (((unhide HE).trans (ext_of_below hb7 _)).trans (EF.mono fun k _ h => Or.inr (by omega)))
    have HSF := hide (((unhide HS).onW hb7).extW EF (by omega))
    have HCF := hide (((unhide HC).onW (by omega) hb7).extW (by have := hb7.size; omega) EF (fun k hk e => by omega))
    have yl7 := bL7.lt
    have yf7 := bL7.soft 1
    have y7 := bL7.at 1 _ rfl
    simp only [List.getElem_toArray, List.getElem_cons_zero, List.getElem_cons_succ] at y7
    clear O7 hg7 hb7 bL7 EF y1 yf hi hz0 hz1 hz2
    go_upto_region 9 with fail
    generalize w7.setCell ⟨w1.heap.size, 1, none⟩ (.slice (some ⟨w3.heap.size, 0, none⟩) 321 321) = WF at *
    have bR := unhide HbR
    have bL := unhide HbL
    simp only [List.setIfInBounds_toArray, List.set_cons_zero, List.set_cons_succ] at bL
    have E := unhide HEF
    have S := unhide HSF
    have C := unhide HCF
    have o4 := unhide HoO
    have o5 := unhide HoN
    have E1 : xs.length = xs.length := rfl
    have E2 : 321 = (List.replicate 321 (0 : Int)).length := by simp
    have W1 := unhide HW1
    have W2 : ∀ z ∈ List.replicate 321 (0 : Int), (Lit.int .i64 z).wf = true := fun z hz => by rw [List.eq_of_mem_replicate hz]; decide
    have N1 : xs.length ≤ 400 := by omega
    have N2 : (List.replicate 321 (0 : Int)).length ≤ 400 := by simp
    have z0 := bR.at 0 _ rfl
    have z1 := bR.at 1 _ rfl
    have ff := bR.soft
    have l0 := bR.lt
    have y0 := bL.at 0 _ rfl
    have y1 := bL.at 1 _ rfl
    have yl := bL.lt
    simp only [List.getElem_toArray, List.getElem_cons_zero, List.getElem_cons_succ] at z0 z1 y0 y1
    have HF := hide (closeB (m := m) (m' := m1 + 1) E S C hbw0 (by omega) (ext_setAll (fun q => q = w.heap.size) (Ext.refl _ _) w.heap.size 0 [.slice a1 xs.length c1, .slice (some ⟨w3.heap.size, 0, none⟩) 321 321] rfl) E1 E2 o4 o5 W1 W2 N1 N2)
    clear bR bL E S C o4 o5 W1 W2 N1 N2 E1 E2
    go_wp2_with fail
    refine bodyPost_ret (v := .agg #[.slice a1 xs.length c1, .slice (some ⟨w3.heap.size, 0, none⟩) 321 321]) (by simp [results, Try.results76, go_sem, z0, z1]) rfl ?_
    exact unhide HF
  · have hd0 : ((q : Int) == 0) = false := by simp; omega
    have hd1 : ((q : Int) == 1) = false := by simp; omega
    have hd2 : ((q : Int) == 2) = false := by simp; omega
    have bR := unhide HR
    have bL := unhide HL
    have E := unhide HE
    have S := unhide HS
    have C := unhide HC
    have o4 := unhide HO4
    have o5 := unhide HO5
    have E1 : xs.length = xs.length := rfl
    have E2 : ys.length = ys.length := rfl
    have W1 := unhide HW1
    have W2 := unhide HW2
    have N1 : xs.length ≤ 400 := by omega
    have N2 : ys.length ≤ 400 := by omega
    have z0 := bR.at 0 _ rfl
    have z1 := bR.at 1 _ rfl
    have ff := bR.soft
    have l0 := bR.lt
    have y0 := bL.at 0 _ rfl
    have y1 := bL.at 1 _ rfl
    have yl := bL.lt
    simp only [List.getElem_toArray, List.getElem_cons_zero, List.getElem_cons_succ] at z0 z1 y0 y1
    have HF := hide (closeB (m := m) (m' := m1 + 1) E S C hbw0 (by omega) (ext_setAll (fun q => q = w.heap.size) (Ext.refl _ _) w.heap.size 0 [.slice a1 xs.length c1, .slice a2 ys.length c2] rfl) E1 E2 o4 o5 W1 W2 N1 N2)
    clear bR bL E S C o4 o5 W1 W2 N1 N2 E1 E2
    go_wp2_with fail
    refine bodyPost_ret (v := .agg #[.slice a1 xs.length c1, .slice a2 ys.length c2]) (by simp [results, Try.results76, go_sem, z0, z1]) rfl ?_
    exact unhide HF
end Go.Proofs.Ytipomhpimmnchaa

namespace Go.Proofs.Ytipomhpimmnchaa
open Go.RowKit

set_option maxHeartbeats 2000000 in
theorem nextB_some (b m cb off k cap : Nat) (n : Int) (w : World) (hs : SrcAt w b (.slice (some ⟨cb, off, none⟩) k cap) m) (hm : m ≤ 1000000000) (hn : 200 < n) (hn2 : n ≤ 1000) (hk : 0 < k) (hk2 : k ≤ 1048576) (hcb : cb < b)
    (hc : ∀ j, j < k → ∃ z : Int, w.cell? ⟨cb, off + j, none⟩ = some (.int .u8 z) ∧ 0 ≤ z ∧ z ≤ 255) :
    Calls Try.prog 74 #[.pointer (some ⟨b, 0, none⟩), .int .i64 n] w fun e w' => ∃ r : Int, e = .returned (.int .i64 r) ∧ (0 ≤ r ∧ r < n) ∧ SrcAt w' b (.slice (some ⟨cb, off, none⟩) k cap) (m + 1) ∧ w.grownBy w' (some b) := by
  have c0 := hs.c0
  have c1 := hs.c1
  have fz := hs.fz
  have HS := hide hs.set
  clear hs
  obtain ⟨z, hz, z1, z2⟩ := hc (m % k) (Nat.mod_lt _ hk)
  obtain ⟨y, hy, y1, y2⟩ := hc ((m + 1) % k) (Nat.mod_lt _ hk)
  obtain ⟨q1, q2⟩ := quot_bd m k hm
  have hd : (n == 0) = false := by rw [beq_eq_false_iff_ne]; omega
  have hd2 : ((k : Int) == 0) = false := by rw [beq_eq_false_iff_ne]; omega
  have hne : ¬ cb = b := by omega
  have hne2 : ¬ b = cb := by omega
  have r1 : 0 ≤ (m : Int) % (k : Int) := Int.emod_nonneg _ (by omega)
  have r2 : (m : Int) % (k : Int) < (k : Int) := Int.emod_lt_of_pos _ (by omega)
  have r3 : 0 ≤ ((m : Int) + 1) % (k : Int) := Int.emod_nonneg _ (by omega)
  have r4 : ((m : Int) + 1) % (k : Int) < (k : Int) := Int.emod_lt_of_pos _ (by omega)
  have e1 : (((m : Int) + 1) % (k : Int)).toNat = (m + 1) % k := by
    have h : ((m : Int) + 1) % (k : Int) = (((m + 1) % k : Nat) : Int) := by rw [Int.natCast_emod]; rfl
    rw [h]
    exact Int.toNat_natCast _
  clear hc
  go_enter Try.func74, Try.ntmps74
  go_wp2
  go_quiet (fail)
  go_wp2
  go_quiet (fail)
  go_wp2
  go_ret
  exact ⟨_, rfl, ⟨Int.emod_nonneg _ (by omega), Int.emod_lt_of_pos _ (by omega)⟩, unhide HS, grown_drawn (grown_set _ _ _ _) _⟩

/-- l1Next: a number below n. -/
theorem nextAll (b m : Nat) (cv : Value) (n : Int) (w : World) (hs : SrcAt w b cv m) (hc : IsCode b w cv) (hm : m ≤ 1000000000) (hn : 1 ≤ n) (hn2 : n ≤ 1000) :
    Calls Try.prog 74 #[.pointer (some ⟨b, 0, none⟩), .int .i64 n] w fun e w' => ∃ r : Nat, e = .returned (.int .i64 r) ∧ (r : Int) < n ∧ SrcAt w' b cv (m + 1) ∧ IsCode b w' cv ∧ w.grownBy w' (some b) := by
  by_cases h2 : n ≤ 200
  · exact next b m cv n w hs hc hm hn h2
  · have fin : ∀ (e : Ending) (w' : World), (∃ r : Int, e = .returned (.int .i64 r) ∧ (0 ≤ r ∧ r < n) ∧ SrcAt w' b cv (m + 1) ∧ w.grownBy w' (some b)) → ∃ r : Nat, e = .returned (.int .i64 r) ∧ (r : Int) < n ∧ SrcAt w' b cv (m + 1) ∧ IsCode b w' cv ∧ w.grownBy w' (some b) := by
      rintro e w' ⟨r, rfl, ⟨h1, h2⟩, h3, h4⟩
      obtain ⟨j, rfl⟩ := Int.eq_ofNat_of_zero_le h1
      exact ⟨j, rfl, h2, h3, hc.later (below_of_grown h4 (Nat.le_of_lt hs.lt)), h4⟩
    obtain ⟨ao, len, cap, rfl, hl, hc1⟩ := hc
    by_cases hp : 0 < len
    · obtain ⟨cb, off, rfl, hB, hc2⟩ := hc1 hp
      exact (nextB_some b m cb off len cap n w hs hm (by omega) hn2 hp hl hB hc2).mono fin
    · obtain rfl : len = 0 := by omega
      exact (next_empty b m ao cap n w hs hm hn).mono fin

end Go.Proofs.Ytipomhpimmnchaa

namespace Go.Proofs.Ytipomhpimmnchaa
open Go.RowKit

theorem isCode_up {w w' : World} {cv : Value} (h : IsCode w.heap.size w cv) (hb : Below w.heap.size w w') : IsCode (w.heap.size + 1) w' cv := by
  obtain ⟨ao, len, cap, rfl, hl, h1⟩ := h.later hb
  refine ⟨ao, len, cap, rfl, hl, fun hp => ?_⟩
  obtain ⟨b, off, e, hB, hc⟩ := h1 hp
  exact ⟨b, off, e, by omega, hc⟩

set_option maxRecDepth 100000 in
set_option maxHeartbeats 4000000 in
theorem drawCrash (ao : Option Addr) (len cap : Nat) (w : World) (hc : IsCode w.heap.size w (.slice ao len cap)) :
    Calls Try.prog 52 #[.slice ao len cap] w fun e w' => ∃ (cs : List Value) (x : DLog) (kept : Int), e = .returned (.tuple #[.agg cs.toArray, .int .i64 kept]) ∧ Lay.tLog.Reads w' cs x ∧ x.sure.length ≤ 400 ∧ x.loose.length ≤ 400 ∧ (Lit.int .i64 kept).wf = true ∧ Below w.heap.size w w' := by
  obtain ⟨cv, hcv⟩ : ∃ cv, cv = Value.slice ao len cap := ⟨_, rfl⟩
  have nb : Below w.heap.size w ((w.alloc (.cells #[.slice none 0 0, .slice none 0 0] 48)).alloc (.cells #[.slice ao len cap, .int .i64 0] 115)) := ((Below.refl _ _).alloc (Nat.le_refl _) _).alloc (by simp) _
  have bR : Box 0 #[.slice none 0 0, .slice none 0 0] 48 ((w.alloc (.cells #[.slice none 0 0, .slice none 0 0] 48)).alloc (.cells #[.slice ao len cap, .int .i64 0] 115)) w.heap.size := (newBox (Nat.zero_le _)).grow _
  have LS := hide (source ao len cap (w.alloc (.cells #[.slice none 0 0, .slice none 0 0] 48)))
  have hS : SrcAt ((w.alloc (.cells #[.slice none 0 0, .slice none 0 0] 48)).alloc (.cells #[.slice ao len cap, .int .i64 0] 115)) (w.heap.size + 1) cv 0 := by
    rw [hcv]
    have := src_new (w.alloc (.cells #[.slice none 0 0, .slice none 0 0] 48)) (.slice ao len cap)
    simpa using this
  have hC : IsCode (w.heap.size + 1) ((w.alloc (.cells #[.slice none 0 0, .slice none 0 0] 48)).alloc (.cells #[.slice ao len cap, .int .i64 0] 115)) cv := by
    rw [hcv]
    exact isCode_up hc nb
  have hz : ((w.alloc (.cells #[.slice none 0 0, .slice none 0 0] 48)).alloc (.cells #[.slice ao len cap, .int .i64 0] 115)).heap.size = w.heap.size + 1 + 1 := by simp
  have HB := hide nb
  have HR := hide bR
  have HZ := hide hz
  have HS := hide hS
  have HC := hide hC
  clear nb bR hS hC hc hz
  go_enter Try.func52, Try.ntmps52
  go_wp2_with fail
  refine (unhide LS).mono ?_
  rintro e W1 ⟨rfl, hW1⟩
  subst hW1
  generalize (w.alloc (.cells #[.slice none 0 0, .slice none 0 0] 48)).alloc (.cells #[.slice ao len cap, .int .i64 0] 115) = W1 at *
  have L := hide (drawBent8 (w.heap.size + 1) 0 cv W1 (unhide HS) (unhide HC) (by omega))
  have hzw : (w.alloc (.cells #[.slice none 0 0, .slice none 0 0] 48)).heap.size = w.heap.size + 1 := by simp
  rw [hzw]
  clear LS HS HC hcv hzw
  go_wp2_with fail
  refine (unhide L).mono ?_
  rintro e w2 ⟨cs, x, m2, rfl, hLI, n1, n2, s2, hm2, c2, g2⟩
  obtain ⟨a1, d1, a2, d2, rfl, -, -⟩ := open_Log hLI.reads
  have nb3 : Below w2.heap.size w2 (w2.alloc (.cells #[.slice a1 x.sure.length d1, .slice a2 x.loose.length d2] 48)) := (Below.refl _ _).alloc (Nat.le_refl _) _
  have HL : Hid (Box 0 #[.slice a1 x.sure.length d1, .slice a2 x.loose.length d2] 48 (w2.alloc (.cells #[.slice a1 x.sure.length d1, .slice a2 x.loose.length d2] 48)) w2.heap.size) := newBox (Nat.zero_le _)
  have HR3 := hide (((unhide HR).ext (ext_grown g2) (by omega)).keep nb3)
  have HS3 := hide (s2.onW nb3)
  have HC3 := hide (c2.onW (by have := s2.lt; omega) nb3)
  have HB2 := hide ((unhide HB).trans ((ext_grown g2).below (unhide HB).size (fun q hq e => by omega)))
  have HB3 := hide ((unhide HB2).trans (nb3.mono (unhide HB2).size))
  have HLI := hide (hLI.later nb3)
  have HLB : Hid (w.heap.size + 1 < w2.heap.size) := s2.lt
  have hZW : W1.heap.size = w.heap.size + 1 + 1 := unhide HZ
  have HZW := hide hZW
  rw [hZW] at HLI
  have l1 := (unhide HL).at 1 _ rfl
  simp only [List.getElem_toArray, List.getElem_cons_zero, List.getElem_cons_succ] at l1
  have ll := (unhide HL).lt
  clear L hLI s2 c2 g2 nb3 HR HB HB2 hZW HZ HZW
  go_wp2_with fail
  clear l1 ll
  generalize w2.alloc (.cells #[.slice a1 x.sure.length d1, .slice a2 x.loose.length d2] 48) = W3 at *
  have hRD : Box 0 #[.slice none 0 0, .slice none 0 0] 48 W3.drew w.heap.size := (unhide HR3).drew
  have hSD : SrcAt W3.drew (w.heap.size + 1) cv m2 := unhide HS3
  have hCD : IsCode (w.heap.size + 1) W3.drew cv := unhide HC3
  refine wp_region_noPanic ?_
  refine wp_region_held_drew (S := fun w' => Ext (fun q => q = w.heap.size ∨ q = w.heap.size + 1) W3 w') (by kernel_rfl) ⟨rfl, rfl, rfl, Nat.le_refl _, fun _ _ _ => rfl⟩ (fun hHeld => ?_)
  generalize W3.drew = wD at hHeld hRD hSD hCD ⊢
  refine wpAnyH_take (i := 0) (oi := { dst := some 14, op := Go.Op.load 48 (Go.Operand.tmp 5), type := 48, pos := "l08_log.go:134", after := #[], guard := none }) (v := ?v0_1) rfl (by kernel_rfl) (by kernel_rfl) (by kernel_rfl) (fun _ _ _ h => h) (Or.inl ⟨by rfl, ?h0_1⟩) hHeld ?r0_1
  case h0_1 =>
    intro wS hSw
    have y0 := ((unhide HL).ext hSw (by have := unhide HLB; omega)).at 0 _ rfl
    have y1 := ((unhide HL).ext hSw (by have := unhide HLB; omega)).at 1 _ rfl
    simp only [List.getElem_toArray, List.getElem_cons_zero, List.getElem_cons_succ] at y0 y1
    clear hSw
    (try dsimp only at hSw)
    go_simp
    try with_reducible rfl
  case r0_1 =>
  simp only [Act.put, List.setIfInBounds_toArray, List.set_cons_zero, List.set_cons_succ]
  refine wpAnyH_take (i := 1) (oi := { dst := some 15, op := Go.Op.move (Go.Operand.tmp 4), type := 94, pos := "l08_log.go:134", after := #[], guard := none }) (v := ?v1_2) rfl (by kernel_rfl) (by kernel_rfl) (by kernel_rfl) (fun _ _ _ h => h) (Or.inl ⟨by rfl, ?h1_2⟩) hHeld ?r1_2
  case h1_2 =>
    intro wS hSw
    (try dsimp only at hSw)
    go_simp
    try with_reducible rfl
  case r1_2 =>
  simp only [Act.put, List.setIfInBounds_toArray, List.set_cons_zero, List.set_cons_succ]
  refine wpAnyH_take (i := 2) (oi := { dst := some 16, op := Go.Op.move (Go.Operand.tmp 4), type := 94, pos := "l08_log.go:134", after := #[], guard := none }) (v := ?v2_3) rfl (by kernel_rfl) (by kernel_rfl) (by kernel_rfl) (fun _ _ _ h => h) (Or.inl ⟨by rfl, ?h2_3⟩) hHeld ?r2_3
  case h2_3 =>
    intro wS hSw
    (try dsimp only at hSw)
    go_simp
    try with_reducible rfl
  case r2_3 =>
  simp only [Act.put, List.setIfInBounds_toArray, List.set_cons_zero, List.set_cons_succ]
  refine wpAnyH_take (i := 3) (oi := { dst := some 17, op := Go.Op.move (Go.Operand.tmp 6), type := 2, pos := "l08_log.go:134", after := #[], guard := none }) (v := ?v3_4) rfl (by kernel_rfl) (by kernel_rfl) (by kernel_rfl) (fun _ _ _ h => h) (Or.inl ⟨by rfl, ?h3_4⟩) hHeld ?r3_4
  case h3_4 =>
    intro wS hSw
    (try dsimp only at hSw)
    go_simp
    try with_reducible rfl
  case r3_4 =>
  simp only [Act.put, List.setIfInBounds_toArray, List.set_cons_zero, List.set_cons_succ]
  refine wpAnyH_take (i := 4) (oi := { dst := some 18, op := Go.Op.binOp Go.BinOp.add 2 (Go.Operand.tmp 17) (Go.Operand.const (Go.Value.int Go.IntKind.i64 1)) 2, type := 2, pos := "l08_log.go:134", after := #[{ on := 3, ground := Go.Ground.data }], guard := none }) (v := ?v4_5) rfl (by kernel_rfl) (by kernel_rfl) (by kernel_rfl) (fun _ _ _ h => h) (Or.inl ⟨by rfl, ?h4_5⟩) hHeld ?r4_5
  case h4_5 =>
    intro wS hSw
    clear hSw
    have hwr : IntKind.i64.wrap ((x.loose.length : Int) + 1) = (x.loose.length : Int) + 1 := by rw [IntKind.wrap_i64]; omega
    (try dsimp only at hSw)
    go_simp
    try with_reducible rfl
  case r4_5 =>
  simp only [Act.put, List.setIfInBounds_toArray, List.set_cons_zero, List.set_cons_succ]
  refine wpAnyH_take (i := 6) (oi := { dst := some 20, op := Go.Op.move (Go.Operand.tmp 4), type := 94, pos := "l08_log.go:134", after := #[], guard := none }) (v := ?v6_6) rfl (by kernel_rfl) (by kernel_rfl) (by kernel_rfl) (fun _ _ _ h => h) (Or.inl ⟨by rfl, ?h6_6⟩) hHeld ?r6_6
  case h6_6 =>
    intro wS hSw
    (try dsimp only at hSw)
    go_simp
    try with_reducible rfl
  case r6_6 =>
  simp only [Act.put, List.setIfInBounds_toArray, List.set_cons_zero, List.set_cons_succ]
  refine wpAnyH_take (i := 7) (oi := { dst := some 21, op := Go.Op.move (Go.Operand.tmp 6), type := 2, pos := "l08_log.go:134", after := #[], guard := none }) (v := ?v7_7) rfl (by kernel_rfl) (by kernel_rfl) (by kernel_rfl) (fun _ _ _ h => h) (Or.inl ⟨by rfl, ?h7_7⟩) hHeld ?r7_7
  case h7_7 =>
    intro wS hSw
    (try dsimp only at hSw)
    go_simp
    try with_reducible rfl
  case r7_7 =>
  simp only [Act.put, List.setIfInBounds_toArray, List.set_cons_zero, List.set_cons_succ]
  refine wpAnyH_take (i := 8) (oi := { dst := some 22, op := Go.Op.binOp Go.BinOp.add 2 (Go.Operand.tmp 21) (Go.Operand.const (Go.Value.int Go.IntKind.i64 1)) 2, type := 2, pos := "l08_log.go:134", after := #[{ on := 7, ground := Go.Ground.data }], guard := none }) (v := ?v8_8) rfl (by kernel_rfl) (by kernel_rfl) (by kernel_rfl) (fun _ _ _ h => h) (Or.inl ⟨by rfl, ?h8_8⟩) hHeld ?r8_8
  case h8_8 =>
    intro wS hSw
    clear hSw
    have hwr : IntKind.i64.wrap ((x.loose.length : Int) + 1) = (x.loose.length : Int) + 1 := by rw [IntKind.wrap_i64]; omega
    (try dsimp only at hSw)
    go_simp
    try with_reducible rfl
  case r8_8 =>
  simp only [Act.put, List.setIfInBounds_toArray, List.set_cons_zero, List.set_cons_succ]
  refine wpAnyH_take (i := 10) (oi := { dst := some 24, op := Go.Op.move (Go.Operand.tmp 6), type := 2, pos := "l08_log.go:134", after := #[], guard := none }) (v := ?v10_9) rfl (by kernel_rfl) (by kernel_rfl) (by kernel_rfl) (fun _ _ _ h => h) (Or.inl ⟨by rfl, ?h10_9⟩) hHeld ?r10_9
  case h10_9 =>
    intro wS hSw
    (try dsimp only at hSw)
    go_simp
    try with_reducible rfl
  case r10_9 =>
  simp only [Act.put, List.setIfInBounds_toArray, List.set_cons_zero, List.set_cons_succ]
  refine wpAnyH_take (i := 11) (oi := { dst := some 25, op := Go.Op.move (Go.Operand.tmp 6), type := 2, pos := "l08_log.go:134", after := #[], guard := none }) (v := ?v11_10) rfl (by kernel_rfl) (by kernel_rfl) (by kernel_rfl) (fun _ _ _ h => h) (Or.inl ⟨by rfl, ?h11_10⟩) hHeld ?r11_10
  case h11_10 =>
    intro wS hSw
    (try dsimp only at hSw)
    go_simp
    try with_reducible rfl
  case r11_10 =>
  simp only [Act.put, List.setIfInBounds_toArray, List.set_cons_zero, List.set_cons_succ]
  refine wpAnyH_take (i := 12) (oi := { dst := some 26, op := Go.Op.binOp Go.BinOp.add 2 (Go.Operand.tmp 25) (Go.Operand.const (Go.Value.int Go.IntKind.i64 1)) 2, type := 2, pos := "l08_log.go:134", after := #[{ on := 11, ground := Go.Ground.data }], guard := none }) (v := ?v12_11) rfl (by kernel_rfl) (by kernel_rfl) (by kernel_rfl) (fun _ _ _ h => h) (Or.inl ⟨by rfl, ?h12_11⟩) hHeld ?r12_11
  case h12_11 =>
    intro wS hSw
    clear hSw
    have hwr : IntKind.i64.wrap ((x.loose.length : Int) + 1) = (x.loose.length : Int) + 1 := by rw [IntKind.wrap_i64]; omega
    (try dsimp only at hSw)
    go_simp
    try with_reducible rfl
  case r12_11 =>
  simp only [Act.put, List.setIfInBounds_toArray, List.set_cons_zero, List.set_cons_succ]
  refine wpAnyH_ready (rs := [5]) (by kernel_rfl) (by simp) ?_
  refine AllReadyH.cons (o := { dst := some 19, op := Go.Op.call { callee := Go.Callee.value (Go.Operand.func 74), args := #[Go.Operand.tmp 16, Go.Operand.tmp 18], argTypes := #[94, 2] }, type := 2, pos := "l08_log.go:134", after := #[{ on := 2, ground := Go.Ground.data }, { on := 4, ground := Go.Ground.data }], guard := none }) rfl (fun K hK => ?_) AllReadyH.nil
  go_simp
  go_at_call 74
  refine (nextAll (w.heap.size + 1) m2 cv ((x.loose.length : Int) + 1) _ hSD hCD (by omega) (by omega) (by omega)).mono ?_
  rintro e w4 ⟨r1, rfl, hr1, sw4, cw4, gw4⟩
  have hSw4 := hHeld.trans ((ext_grown gw4).mono fun k _ h => Or.inr h)
  have bRw4 := hRD.ext (ext_grown gw4) (by omega)
  try go_wp2_with fail
  refine hK.out _ _ hSw4 (fun hHeld => ?_)
  clear hK K
  try simp only [Act.put, List.setIfInBounds_toArray, List.set_cons_zero, List.set_cons_succ]
  refine wpAnyH_ready (rs := [9]) (by kernel_rfl) (by simp) ?_
  refine AllReadyH.cons (o := { dst := some 23, op := Go.Op.call { callee := Go.Callee.value (Go.Operand.func 74), args := #[Go.Operand.tmp 20, Go.Operand.tmp 22], argTypes := #[94, 2] }, type := 2, pos := "l08_log.go:134", after := #[{ on := 6, ground := Go.Ground.data }, { on := 8, ground := Go.Ground.data }, { on := 5, ground := Go.Ground.chain }], guard := none }) rfl (fun K hK => ?_) AllReadyH.nil
  go_simp
  go_at_call 74
  refine (nextAll (w.heap.size + 1) (m2 + 1) cv ((x.loose.length : Int) + 1) _ sw4 cw4 (by omega) (by omega) (by omega)).mono ?_
  rintro e w5 ⟨r2, rfl, hr2, sw5, cw5, gw5⟩
  have hSw5 := hSw4.trans ((ext_grown gw5).mono fun k _ h => Or.inr h)
  have bRw5 := bRw4.ext (ext_grown gw5) (by omega)
  try go_wp2_with fail
  refine hK.out _ _ hSw5 (fun hHeld => ?_)
  clear hK K
  try simp only [Act.put, List.setIfInBounds_toArray, List.set_cons_zero, List.set_cons_succ]
  refine wpAnyH_ready (rs := [13]) (by kernel_rfl) (by simp) ?_
  refine AllReadyH.cons (o := { dst := some 27, op := Go.Op.buildSlice 24 6 #[(0, Go.Operand.tmp 19), (1, Go.Operand.tmp 23), (2, Go.Operand.tmp 24), (3, Go.Operand.const (Go.Value.int Go.IntKind.i64 0)), (4, Go.Operand.tmp 26), (5, Go.Operand.const (Go.Value.int Go.IntKind.i64 (-1)))], type := 24, pos := "l08_log.go:134", after := #[{ on := 5, ground := Go.Ground.data }, { on := 9, ground := Go.Ground.data }, { on := 10, ground := Go.Ground.data }, { on := 12, ground := Go.Ground.data }], guard := none }) rfl (fun K hK => ?_) AllReadyH.nil
  have nb6 : Below w5.heap.size w5 (w5.alloc (.cells #[.int .i64 (r1 : Int), .int .i64 (r2 : Int), .int .i64 (x.loose.length : Int), .int .i64 0, .int .i64 ((x.loose.length : Int) + 1), .int .i64 (-1)] 2)) := (Below.refl _ _).alloc (Nat.le_refl _) _
  have b6 : Box 0 #[.int .i64 (r1 : Int), .int .i64 (r2 : Int), .int .i64 (x.loose.length : Int), .int .i64 0, .int .i64 ((x.loose.length : Int) + 1), .int .i64 (-1)] 2 (w5.alloc (.cells #[.int .i64 (r1 : Int), .int .i64 (r2 : Int), .int .i64 (x.loose.length : Int), .int .i64 0, .int .i64 ((x.loose.length : Int) + 1), .int .i64 (-1)] 2)) w5.heap.size := newBox (Nat.zero_le _)
  have s6 := sw5.onW nb6
  have c6 := cw5.onW (by have := bRw5.lt; have := sw5.lt; omega) nb6
  have bR6 := bRw5.keep nb6
  have hS6 := hSw5.trans (ext_of_below nb6 _)
  go_simp
  try go_wp2_with fail
  refine hK.out _ _ hS6 (fun hHeld => ?_)
  clear hK K
  try simp only [Act.put, List.setIfInBounds_toArray, List.set_cons_zero, List.set_cons_succ]
  refine wpAnyH_ready (rs := [14]) (by kernel_rfl) (by simp) ?_
  refine AllReadyH.cons (o := { dst := some 28, op := Go.Op.call { callee := Go.Callee.value (Go.Operand.func 78), args := #[Go.Operand.tmp 15, Go.Operand.tmp 27], argTypes := #[94, 24] }, type := 2, pos := "l08_log.go:134", after := #[{ on := 1, ground := Go.Ground.data }, { on := 13, ground := Go.Ground.data }, { on := 9, ground := Go.Ground.chain }], guard := none }) rfl (fun K hK => ?_) AllReadyH.nil
  go_simp
  go_at_call 78
  refine (pick (w.heap.size + 1) (m2 + 1 + 1) w5.heap.size cv [(r1 : Int), (r2 : Int), (x.loose.length : Int), 0, (x.loose.length : Int) + 1, -1] _ s6 c6 (by omega) (by simp) (by simp) b6.2 (by have := sw5.lt; omega)).mono ?_
  rintro e w7 ⟨kept, rfl, hkept, s7, c7, g7⟩
  have hS7 := hS6.trans ((ext_grown g7).mono fun k _ h => Or.inr h)
  have bR7 := bR6.ext (ext_grown g7) (by omega)
  have HKW : Hid ((Lit.int .i64 kept).wf = true) := by
    have hk9 : -1 ≤ kept ∧ kept ≤ 1000 := by
      simp only [List.mem_cons, List.not_mem_nil, or_false] at hkept
      omega
    exact wf_of_bd (by omega)
  clear hkept
  try go_wp2_with fail
  refine hK.out _ _ hS7 (fun hHeld => ?_)
  clear hK K
  try simp only [Act.put, List.setIfInBounds_toArray, List.set_cons_zero, List.set_cons_succ]
  refine wpAnyH_ready (rs := [15]) (by kernel_rfl) (by simp) ?_
  refine AllReadyH.cons (o := { dst := none, op := Go.Op.store 48 (Go.Operand.tmp 2) (Go.Operand.tmp 14), type := 0, pos := "l08_log.go:134", after := #[{ on := 0, ground := Go.Ground.data }, { on := 14, ground := Go.Ground.chain }, { on := 0, ground := Go.Ground.phase }, { on := 1, ground := Go.Ground.textOnly Go.Departure.lateStores }, { on := 2, ground := Go.Ground.textOnly Go.Departure.lateStores }, { on := 3, ground := Go.Ground.textOnly Go.Departure.lateStores }, { on := 4, ground := Go.Ground.textOnly Go.Departure.lateStores }, { on := 5, ground := Go.Ground.textOnly Go.Departure.lateStoresUnsure }, { on := 6, ground := Go.Ground.textOnly Go.Departure.lateStores }, { on := 7, ground := Go.Ground.textOnly Go.Departure.lateStores }, { on := 8, ground := Go.Ground.textOnly Go.Departure.lateStores }, { on := 9, ground := Go.Ground.textOnly Go.Departure.lateStoresUnsure }, { on := 10, ground := Go.Ground.textOnly Go.Departure.lateStores }, { on := 11, ground := Go.Ground.textOnly Go.Departure.lateStores }, { on := 12, ground := Go.Ground.textOnly Go.Departure.lateStores }, { on := 13, ground := Go.Ground.textOnly Go.Departure.lateStores }, { on := 14, ground := Go.Ground.textOnly Go.Departure.lateStoresUnsure }], guard := none }) rfl (fun K hK => ?_) AllReadyH.nil
  have z0 := bR7.at 0 _ rfl
  have z1 := bR7.at 1 _ rfl
  have ff := bR7.soft
  have l0 := bR7.lt
  simp only [List.getElem_toArray, List.getElem_cons_zero, List.getElem_cons_succ] at z0 z1
  go_simp
  try go_wp2_with fail
  refine hK.out _ _ (ext_setAll (fun q => q = w.heap.size ∨ q = w.heap.size + 1) hS7 w.heap.size 0 [.slice a1 x.sure.length d1, .slice a2 x.loose.length d2] (Or.inl rfl)) (fun hHeld => ?_)
  clear hK K
  try simp only [Act.put, List.setIfInBounds_toArray, List.set_cons_zero, List.set_cons_succ]
  refine wpAnyH_take (i := 16) (oi := { dst := some 3, op := Go.Op.assign (Go.Operand.tmp 28), type := 2, pos := "l08_log.go:134", after := #[{ on := 14, ground := Go.Ground.data }, { on := 15, ground := Go.Ground.chain }, { on := 0, ground := Go.Ground.phase }, { on := 1, ground := Go.Ground.phase }, { on := 2, ground := Go.Ground.phase }, { on := 3, ground := Go.Ground.phase }, { on := 4, ground := Go.Ground.phase }, { on := 5, ground := Go.Ground.phase }, { on := 6, ground := Go.Ground.phase }, { on := 7, ground := Go.Ground.phase }, { on := 8, ground := Go.Ground.phase }, { on := 9, ground := Go.Ground.phase }, { on := 10, ground := Go.Ground.phase }, { on := 11, ground := Go.Ground.phase }, { on := 12, ground := Go.Ground.phase }, { on := 13, ground := Go.Ground.phase }, { on := 14, ground := Go.Ground.phase }, { on := 15, ground := Go.Ground.phase }], guard := none }) (v := ?v16_12) rfl (by kernel_rfl) (by kernel_rfl) (by kernel_rfl) (fun _ _ _ h => h) (Or.inl ⟨by rfl, ?h16_12⟩) hHeld ?r16_12
  case h16_12 =>
    intro wS hSw
    (try dsimp only at hSw)
    go_simp
    try with_reducible rfl
  case r16_12 =>
  simp only [Act.put, List.setIfInBounds_toArray, List.set_cons_zero, List.set_cons_succ]
  refine wpAnyH_done (by kernel_rfl) ?_ _
  refine NoPanic.normal ?_
  have HS9 := hide hHeld
  clear hHeld
  go_wp2_with fail
  refine bodyPost_ret (v := .tuple #[.agg #[.slice a1 x.sure.length d1, .slice a2 x.loose.length d2], .int .i64 kept]) (by simp [results, Try.results52, go_sem, z0, z1]) rfl ?_
  refine ⟨_, x, kept, rfl, ((unhide HLI).ext (unhide HS9) (fun q h1 h2 e => by omega)).reads, by omega, by omega, unhide HKW, ?_⟩
  exact (unhide HB3).trans ((unhide HS9).below (unhide HB3).size (fun q hq e => by omega))

end Go.Proofs.Ytipomhpimmnchaa

namespace Go.Proofs.Ytipomhpimmnchaa
open Go.RowKit

def sameW (x y : DWrite) : Bool := x.kind == y.kind && (x.id == y.id && (x.session == y.session && (x.seq == y.seq && decide (x.vec = y.vec))))
def sameWs : List DWrite → List DWrite → Bool
  | [], [] => true
  | x :: xs, y :: ys => sameW x y && sameWs xs ys
  | _, _ => false
theorem sameWs_len {xs ys : List DWrite} (h : xs.length ≠ ys.length) : sameWs xs ys = false := by
  induction xs generalizing ys with
  | nil => match ys, h with | y :: ys, _ => rfl
  | cons x xs ih =>
    match ys, h with
    | [], _ => rfl
    | y :: ys, h => rw [sameWs, ih (by simpa using h), Bool.and_false]
theorem sameWs_at {xs ys : List DWrite} (k : Nat) (h1 : k < xs.length) (h2 : k < ys.length) (h : sameW xs[k] ys[k] = false) : sameWs xs ys = false := by
  induction xs generalizing ys k with
  | nil => simp at h1
  | cons x xs ih =>
    match ys, k with
    | y :: ys, 0 => rw [sameWs, show sameW x y = false by simpa using h, Bool.false_and]
    | y :: ys, k + 1 => rw [sameWs, ih k (by simpa using h1) (by simpa using h2) (by simpa using h), Bool.and_false]
theorem sameWs_all {xs ys : List DWrite} (hl : xs.length = ys.length) (h : ∀ k (h1 : k < xs.length) (h2 : k < ys.length), sameW xs[k] ys[k] = true) : sameWs xs ys = true := by
  induction xs generalizing ys with
  | nil => match ys, hl with | [], _ => rfl
  | cons x xs ih =>
    match ys, hl with
    | y :: ys, hl =>
      rw [sameWs, show sameW x y = true from h 0 (by simp) (by simp), ih (by simpa using hl) fun k h1 h2 => h (k + 1) (by simpa using h1) (by simpa using h2), Bool.true_and]
theorem sameWs_refl_self (x : DWrite) : sameW x x = true := by simp [sameW]

end Go.Proofs.Ytipomhpimmnchaa

namespace Go.Proofs.Ytipomhpimmnchaa
open Go.RowKit

/-- A drop of the item 1, the first of session 1. -/
def dropOne : DWrite := ⟨2, 1, [], 1, 1⟩
theorem sameWs_self (xs : List DWrite) : sameWs xs xs = true := sameWs_all rfl fun _ _ _ => sameWs_refl_self _
theorem read_take_all (zs : List Int) : cnt (zs.take (8 * cnt zs)) = cnt zs ∧ readL (zs.take (8 * cnt zs)) = readL zs := by
  have h := packs_read zs
  have hr := readL_right zs
  rw [← h]
  exact ⟨by rw [cnt_packs _ hr, read_len], read_packs _ hr⟩
theorem read_first {zs ys : List Int} {k : Nat} (h1 : k ≤ cnt zs) (h2 : ∀ j, j < k → pieceAt zs j = pieceAt ys j) (h3 : cnt ys = k) : readL ys = (readL zs).take k := by
  refine List.ext_getElem (by rw [List.length_take, read_len, read_len]; omega) fun j a b => ?_
  have hj : j < k := by rw [read_len] at a; omega
  rw [read_at, List.getElem_take, read_at, wAt, wAt, h2 j hj]
theorem torn_plain {x : DLog} {kept : Int} (hf : logFault x = 0) (hk : 0 ≤ kept ∧ kept ≤ x.loose.length) :
    ∃ (SS : List Int) (n A : Nat) (NW AW SW : List DWrite) (c ca : Int) (lo : DLog), crashLogR x kept = ⟨0, (n : Int), ⟨SS, []⟩⟩ ∧ SS.length ≤ 320 ∧ logFault ⟨SS, []⟩ = 0 ∧ readLogR x.sure = ⟨0, SW⟩ ∧ SW.length ≤ n ∧
      readLogR (x.sure ++ x.loose) = ⟨0, AW⟩ ∧ AW.length = A ∧ n ≤ A ∧ A ≤ 40 ∧ readLogR SS = ⟨0, NW⟩ ∧ NW.length = n ∧ sameWs NW (AW.take n) = true ∧ syncLogR x = ⟨0, (A : Int), ⟨x.sure ++ x.loose, []⟩⟩ ∧
      appendLogR x dropOne = ⟨c, ca, lo⟩ ∧ (c = 2 ∨ c = 0 ∧ ca = (A : Int) + 1) := by
  obtain ⟨hn, hs, hl⟩ := logFault_zero hf
  obtain ⟨k, rfl⟩ : ∃ k : Nat, kept = (k : Int) := ⟨kept.toNat, by omega⟩
  have hk1 : k ≤ x.loose.length := by omega
  obtain ⟨zs, hzs⟩ : ∃ zs, zs = x.sure ++ x.loose.take k := ⟨_, rfl⟩
  have hcz : cnt zs = cnt x.sure + k / 8 := by rw [hzs, cnt_append hs, cnt_take hl hk1]
  have hca : cnt (x.sure ++ x.loose) = cnt x.sure + cnt x.loose := cnt_append hs
  have hzl : zs.length = x.sure.length + k := by rw [hzs, List.length_append, List.length_take]; omega
  have hclz := cnt_le zs
  obtain ⟨t1, t2⟩ := read_take_all zs
  have hSl : (zs.take (8 * cnt zs)).length = 8 * cnt zs := by rw [List.length_take]; omega
  have hsame : readL zs = (readL (x.sure ++ x.loose)).take (cnt zs) := by
    refine read_first (by rw [hcz, hca]; omega) (fun j hj => ?_) rfl
    have e : x.sure ++ x.loose = zs ++ x.loose.drop k := by rw [hzs, List.append_assoc, List.take_append_drop]
    rw [e, piece_left (by omega)]
  have hcr : crashLogR x (k : Int) = ⟨0, ((cnt zs : Nat) : Int), ⟨zs.take (8 * cnt zs), []⟩⟩ := by
    rw [crashLogR, if_pos hf, if_pos hk, keptOf, Int.toNat_natCast, ← hzs, logOf, hSl]
    have : (8 * cnt zs + ([] : List Int).length) / 8 = cnt zs := by simp
    rw [this]
  have hdr : wF dropOne = 0 := by decide
  have h8 := packD_len hdr
  refine ⟨zs.take (8 * cnt zs), cnt zs, cnt x.sure + cnt x.loose, readL zs, readL (x.sure ++ x.loose), readL x.sure, (appendLogR x dropOne).code, (appendLogR x dropOne).count, (appendLogR x dropOne).log, hcr, by omega, ?_, ?_, by rw [read_len]; omega, ?_, by rw [read_len, hca], by omega, by omega, ?_, read_len zs, ?_, ?_, rfl, ?_⟩
  · rw [logFault, if_neg (by simp only [List.length_nil]; omega), if_pos ⟨by show 8 * cnt (zs.take (8 * cnt zs)) = _; rw [t1]; exact hSl.symm, by rfl⟩]
  · rw [readLogR, if_neg (by omega)]
  · rw [readLogR, if_neg (by rw [List.length_append]; omega)]
  · rw [readLogR, if_neg (by omega), t2]
  · rw [hsame]
    exact sameWs_self _
  · rw [syncLogR, if_pos hf, logOf, List.length_append, List.length_nil]
    have : (x.sure.length + x.loose.length + 0) / 8 = cnt x.sure + cnt x.loose := by omega
    rw [this]
  · unfold appendLogR
    rw [if_pos hf, if_pos hdr]
    by_cases hm : 320 ≤ x.sure.length + x.loose.length
    · rw [if_pos hm]
      exact Or.inl rfl
    · rw [if_neg hm]
      refine Or.inr ⟨rfl, ?_⟩
      show (((x.sure.length + (x.loose ++ packD dropOne).length) / 8 : Nat) : Int) = _
      rw [List.length_append, h8]
      have : (x.sure.length + (x.loose.length + 8)) / 8 = cnt x.sure + cnt x.loose + 1 := by omega
      rw [this]
      omega

end Go.Proofs.Ytipomhpimmnchaa

namespace Go.Proofs.Ytipomhpimmnchaa
open Go.RowKit

theorem big_no (ao : Option Addr) (len cap : Nat) (w : World) (hn : len ≤ 1048576) :
    Calls Try.prog 47 #[.slice ao len cap] w fun e w' => e = .returned (.bool false) ∧ w' = w := by
  have hd : decide (1048576 < (len : Int)) = false := by simp; omega
  go_enter Try.func47, Try.ntmps47
  go_wp2
  go_ret
  exact ⟨rfl, rfl⟩

theorem big_yes (ao : Option Addr) (len cap : Nat) (w : World) (hn : 1048576 < len) :
    Calls Try.prog 47 #[.slice ao len cap] w fun e w' => e = .returned (.bool true) ∧ w' = w := by
  have hd : decide (1048576 < (len : Int)) = true := by simp; omega
  go_enter Try.func47, Try.ntmps47
  go_wp2
  go_ret
  exact ⟨rfl, rfl⟩

/-- A function that computes: what it answers wherever w1 stands. -/
def Tells (P : Program) (f : Nat) (args : Array Value) (w1 : World) (v : Value) : Prop :=
  ∀ W, Below w1.heap.size w1 W → Calls P f args W fun e w' => e = .returned v ∧ Below W.heap.size W w'

theorem below_step {w1 W W' : World} (h : Below w1.heap.size w1 W) (k : Below W.heap.size W W') : Below w1.heap.size w1 W' := h.trans (k.mono h.size)

end Go.Proofs.Ytipomhpimmnchaa

namespace Go.Proofs.Ytipomhpimmnchaa
open Go.RowKit

variable {P : Program} {ops : Array Oper} {Q : Exit → Act → World → Prop}

def noDefer (o : Oper) : Bool := match o.op with | .defer _ => false | _ => true
theorem upon_in (l n : Nat) {o : Oper} {a : Act} {K : Act → World → Prop} {r : Result Next} (h : o.upon P a K Q r) : o.uponIn (Fence.wide.inRound l) n P a K Q r := by
  cases r with
  | ok x w' =>
    cases x with
    | value v => exact h
    | skip => exact h
    | defer d => exact h
    | enter f args => exact ⟨fun e => by simp [Fence.wide] at e, CallsIn.inRound l (callsIn_wide.2 h)⟩
    | row row args =>
      refine ⟨fun e => by simp [Fence.wide] at e, fun c cs _ => ?_⟩
      obtain ⟨v, w2, h1, h2⟩ := h c cs
      exact ⟨v, w2, h1, stepsIn_wide.2 h2⟩
    | _ => exact h.elim
  | halt x w' =>
    cases x with
    | panic v => exact h
    | _ => exact h.elim
theorem wp_in (l n : Nat) {o : Oper} {a : Act} {w : World} {K : Act → World → Prop} (hd : noDefer o = true) (h : o.wp P a w K Q) : o.wpIn (Fence.wide.inRound l) n P a w K Q := by
  refine ⟨fun _ _ => trivial, ?_⟩
  rw [show (Fence.wide.inRound l).round = some l from rfl, Oper.semAt_some l _ _ (by intro c hc; rw [noDefer, hc] at hd; cases hd)]
  exact upon_in l n h
theorem any_in (l n : Nat) {md : Region.Mode} (hd : ∀ (i : Nat) (o : Oper), ops[i]? = some o → noDefer o = true) (hL : ¬ LetsOut Q) : ∀ (fuel : Nat) (listed : Array Bool) (a : Act) (w : World), wpAny P md ops Q fuel listed a w → wpAnyIn (Fence.wide.inRound l) n P md ops Q fuel listed a w
  | 0, _, _, _, h => h
  | fuel + 1, listed, a, w, h => by
    refine ⟨h.1, fun i hi => ?_⟩
    have h2 := h.2 i hi
    unfold wpOp at h2
    unfold wpOpIn
    cases ho : ops[i]? with
    | none => rw [ho] at h2; exact any_in l n hd hL fuel _ _ _ h2
    | some o =>
      rw [ho] at h2
      simp only at h2 ⊢
      by_cases hw : Region.wanted o (yielded ops a.tmps) = true
      · rw [if_pos hw] at h2 ⊢
        rcases h2 with h2 | h2
        · exact Oper.wpIn_mono (any_in l n hd hL fuel _) (wp_in l n (hd i o ho) h2)
        · exact absurd h2.2 hL
      · rw [if_neg hw] at h2 ⊢
        exact ⟨fun _ _ => trivial, any_in l n hd hL fuel _ _ _ h2⟩
theorem noDefers (h : ops.all noDefer = true) : ∀ (i : Nat) (o : Oper), ops[i]? = some o → noDefer o = true := fun i o ho => by
  obtain ⟨hi, rfl⟩ := Array.getElem?_eq_some_iff.1 ho
  rw [Array.all_eq_true] at h
  exact h i hi
/-- Only the way behind the region. -/
def OnlyN (Q : Exit → Act → World → Prop) : Exit → Act → World → Prop
  | .normal, a, w => Q .normal a w
  | _, _, _ => False
theorem OnlyN.normal {a : Act} {w : World} (h : Q .normal a w) : OnlyN Q .normal a w := h
/-- The first move of a walk through such a region. -/
theorem wpIn_region_np {l n id : Nat} {S : World → Prop} {a : Act} {w : World} (hm : P.follows .mixedOrders = true) (hd : ops.all noDefer = true) (hS : S w.drew)
    (h : S w.drew → wpAnyH P .any ops (OnlyN Q) S ops.size (Array.replicate ops.size false) a w.drew) : (Code.region id ops true).wpIn (Fence.wide.inRound l) n P Q a w := by
  refine wpIn_mono (Q := OnlyN Q) (wpIn_region_any hm (any_in l n (noDefers hd) ?_ _ _ _ _ (wpAny_of_held _ _ _ _ (h hS)))) ?_
  · rintro ⟨a2, w2, h2⟩
    exact (show False from h2)
  · intro e a2 w2 h2
    cases e with
    | normal => exact h2
    | _ => exact (show False from h2).elim

end Go.Proofs.Ytipomhpimmnchaa

namespace Go.Proofs.Ytipomhpimmnchaa
open Go.RowKit

/-- A piece's place. -/
abbrev Pc (m : Nat) := { j : Nat // j < m }
def allPc (m : Nat) : List (Pc m) := (List.range m).pmap (fun j h => ⟨j, h⟩) (fun _ h => List.mem_range.1 h)
theorem allPc_len (m : Nat) : (allPc m).length = m := by simp [allPc]
theorem allPc_at (m i : Nat) (h : i < (allPc m).length) : (allPc m)[i].1 = i := by simp [allPc]
/-- How many pieces there are. -/
def np (zs : List Int) : Nat := (zs.length + 7) / 8
theorem np_lt {zs : List Int} {j : Nat} : j < np zs ↔ 8 * j < zs.length := by unfold np; omega
theorem pre_at {m : Nat} {pre : List (Pc m)} (h : pre <+: allPc m) (i : Nat) (hi : i < pre.length) : pre[i].1 = i := by
  have h2 : i < (allPc m).length := Nat.lt_of_lt_of_le hi h.length_le
  rw [h.getElem hi, allPc_at m i h2]
theorem pre_range {m : Nat} {pre : List (Pc m)} (h : pre <+: allPc m) : pre.map (·.1) = List.range pre.length := by
  refine List.ext_getElem (by simp) fun i h1 h2 => ?_
  rw [List.getElem_map, List.getElem_range]
  exact pre_at h i (by simpa using h1)
/-- The writes of the pieces so far. -/
def wsP (zs : List Int) {m : Nat} (pre : List (Pc m)) : List DWrite := pre.map fun p => wAt zs p.1
theorem wsP_range {zs : List Int} {m : Nat} {pre : List (Pc m)} (h : pre <+: allPc m) : wsP zs pre = (List.range pre.length).map (wAt zs) := by
  rw [← pre_range h, List.map_map]
  rfl
theorem wsP_snoc (zs : List Int) {m : Nat} (pre : List (Pc m)) (p : Pc m) : wsP zs (pre ++ [p]) = wsP zs pre ++ [wAt zs p.1] := by simp [wsP]
theorem wsP_len (zs : List Int) {m : Nat} (pre : List (Pc m)) : (wsP zs pre).length = pre.length := by simp [wsP]
/-- All pieces are writes. -/
theorem read_all {zs : List Int} (h : ∀ p ∈ allPc (np zs), okAt zs p.1 = true) : readL zs = wsP zs (allPc (np zs)) := by
  rw [wsP_range (List.prefix_refl _), allPc_len]
  refine read_of (fun j hj => ?_) (ok_short (by unfold np; omega))
  have h1 : j < (allPc (np zs)).length := by rw [allPc_len]; exact hj
  have := h _ (List.getElem_mem h1)
  rwa [allPc_at] at this
/-- The first pieces are writes, the next is none. -/
theorem read_stop {zs : List Int} {pre : List (Pc (np zs))} {p : Pc (np zs)} (hp : pre ++ [p] <+: allPc (np zs)) (h : ∀ q ∈ pre, okAt zs q.1 = true) (hn : okAt zs p.1 = false) : readL zs = wsP zs pre := by
  have hpre : pre <+: allPc (np zs) := (List.prefix_append _ _).trans hp
  rw [wsP_range hpre]
  refine read_of (fun j hj => ?_) ?_
  · have := h _ (List.getElem_mem hj)
    rwa [pre_at hpre] at this
  · have := pre_at hp pre.length (by simp)
    simp only [List.getElem_append_right (Nat.le_refl _), Nat.sub_self, List.getElem_cons_zero] at this
    rw [← this]
    exact hn
/-- The piece as a slice. -/
def pcV (b off : Nat) (zs : List Int) (j : Nat) : Value := .slice (some ⟨b, off + 8 * j, none⟩) (min 8 (zs.length - 8 * j)) (min 8 (zs.length - 8 * j))
theorem pcV_reads {w : World} {b off cap : Nat} {zs : List Int} (h : (Lay.sl Lay.int).Reads w [.slice (some ⟨b, off, none⟩) zs.length cap] zs) (j : Nat) (hj : 8 * j < zs.length) : (Lay.sl Lay.int).Reads w [pcV b off zs j] (pieceAt zs j) := by
  have := part_reads h (8 * j) (min 8 (zs.length - 8 * j)) (min 8 (zs.length - 8 * j)) (by omega) (Nat.le_refl _)
  have e : (zs.drop (8 * j)).take (min 8 (zs.length - 8 * j)) = pieceAt zs j := by
    rw [pieceAt]
    by_cases h8 : 8 ≤ zs.length - 8 * j
    · rw [Nat.min_eq_left h8]
    · rw [Nat.min_eq_right (by omega), List.take_of_length_le (by simp), List.take_of_length_le (by simp; omega)]
  rw [e] at this
  exact this

end Go.Proofs.Ytipomhpimmnchaa

namespace Go.Proofs.Ytipomhpimmnchaa
open Go.RowKit Go.Shelf
attribute [local go_sem] Oper.semAt_some

set_option maxRecDepth 100000 in
set_option maxHeartbeats 2000000 in
theorem chunk1 (l n Bs Bn b off cap : Nat) (ao : Option Addr) (zs : List Int) (N : Nat) (S : Nat → Prop) (hzs : zs.length ≤ 100000) (hcap : zs.length ≤ cap) (hao : 0 < zs.length → ao = some ⟨b, off, none⟩)
    (k1 : Bs < N ∧ ¬ S Bs) (k2 : Bn < N ∧ ¬ S Bn) (J Jx : List (Pc (np zs)) → World → Prop) (hab : ∀ pre W m, J pre W → J pre (W.drewN m))
    (hY : ∀ pre x W, J pre W → pre.length < np zs → YieldAt Fence.wide (n - 1) Try.prog l #[pcV b off zs x.1] W fun e W' =>
      (e = .returned (.bool true) ∧ J (pre ++ [x]) W' ∧ KpS N S W W') ∨ (e = .returned (.bool false) ∧ Jx (pre ++ [x]) W'))
    (W : World) (hs : W.cell? ⟨Bs, 0, none⟩ = some (.slice ao zs.length cap)) (hn : W.cell? ⟨Bn, 0, none⟩ = some (.int .i64 8)) (h0 : J [] W) :
    CallsIn Fence.wide n Try.prog 88 #[.func (.yield l) #[] #[], .pointer (some ⟨Bs, 0, none⟩), .pointer (some ⟨Bn, 0, none⟩)] W fun e W' => (∃ v, e = .returned v) ∧
      ((∃ ys, ys = allPc (np zs) ∧ J ys W') ∨ (∃ pre, pre <+: allPc (np zs) ∧ Jx pre W')) := by
  refine callsIn_of_wp Try.func88 rfl trivial ?_ rfl
  simp only [Try.ntmps88, List.size_toArray, List.length_cons, List.length_nil, Nat.reduceAdd, Nat.reduceSub, Array.replicate_succ, Array.replicate_zero, List.push_toArray, List.append_toArray, List.nil_append, List.cons_append]
  gi_wp2
  gi_loopw [4] (fun i wr => ∃ k : Nat, k ≤ np zs ∧ i = .int .i64 ((8 * k : Nat) : Int) ∧ J ((allPc (np zs)).take k) wr ∧ wr.cell? ⟨Bs, 0, none⟩ = some (.slice ao zs.length cap) ∧ wr.cell? ⟨Bn, 0, none⟩ = some (.int .i64 8)) (fun i _ => zs.length + 8 - (intOf i).toNat)
  case atStart => exact ⟨0, Nat.zero_le _, rfl, h0, hs, hn⟩
  case round =>
    obtain ⟨k, hk, rfl, hJ, hs1, hn1⟩ := hrel
    clear hs hn h0
    have hlen := allPc_len (np zs)
    by_cases hlt : 8 * k < zs.length
    · have hkn : k < np zs := np_lt.2 hlt
      obtain rfl := hao (by omega)
      obtain ⟨x, hxv, htk⟩ : ∃ x : Pc (np zs), x.1 = k ∧ (allPc (np zs)).take (k + 1) = (allPc (np zs)).take k ++ [x] := ⟨(allPc (np zs))[k]'(by omega), allPc_at (np zs) k (by omega), List.take_succ_eq_append_getElem (by omega)⟩
      have HPL : Hid (((allPc (np zs)).take k).length < np zs) := by show _ < _; rw [List.length_take]; omega
      have HXV := hide hxv
      have hi1 : (8 * k : Nat) ≤ cap := by omega
      have hi2 : ¬ cap = 8 * k := by omega
      have HTK := hide htk
      have HJ := hide hJ
      clear htk hJ hlen hxv
      gi_wp2
      refine wpIn_wide.2 ?_
      go_quiet (fail)
      have hJ2 := hab _ _ nq (unhide HJ)
      have hs2 : (wr.drewN nq).cell? ⟨Bs, 0, none⟩ = some (.slice (some ⟨b, off, none⟩) zs.length cap) := hs1
      have hn2 : (wr.drewN nq).cell? ⟨Bn, 0, none⟩ = some (.int .i64 8) := hn1
      obtain ⟨e, he⟩ : ∃ e, e = min 8 (zs.length - 8 * k) := ⟨_, rfl⟩
      have he1 : e ≤ 8 := by omega
      have he2 : 8 * k + e ≤ zs.length := by omega
      have he3 : 0 < e := by omega
      have he4 : e = 8 ∨ 8 * k + e = zs.length := by omega
      have hE : (if ((zs.length - 8 * k : Nat) : Int) < 8 then ((zs.length - 8 * k : Nat) : Int) else 8) = ((e : Nat) : Int) := by split <;> omega
      rw [hE]
      have HPV : Hid (pcV b off zs x.1 = .slice (some ⟨b, off + 8 * k, none⟩) e e) := by show pcV b off zs x.1 = _; rw [unhide HXV, pcV, he]
      obtain ⟨fn, tmps, assign, body, hy, hR⟩ := hY _ x _ hJ2 (unhide HPL)
      rw [unhide HPV] at hy
      generalize wr.drewN nq = W2 at *
      clear hs1 hn1 HJ hJ2 hE he HPL HPV
      gi_wp2
      refine ⟨fun h => by simp [Fence.wide] at h, hR.mono ?_⟩
      rintro e9 W3 (⟨rfl, hJ3, hk3⟩ | ⟨rfl, hJx3⟩)
      · have s3 : W3.cell? ⟨Bs, 0, none⟩ = some (.slice (some ⟨b, off, none⟩) zs.length cap) := (cell_of_heap (hk3.2 Bs k1.1 k1.2) 0).trans hs2
        have n3 : W3.cell? ⟨Bn, 0, none⟩ = some (.int .i64 8) := (cell_of_heap (hk3.2 Bn k2.1 k2.2) 0).trans hn2
        clear hs2 hn2 hy
        gi_wp2
        go_roundw
        case rel => exact ⟨k + 1, by omega, by go_num, by rw [unhide HTK]; exact hJ3, s3, n3⟩
        case measure => simp [intOf]; omega
      · clear hs2 hn2 hy
        gi_wp2
        refine bodyPost_ret (results_none rfl _ _ _) rfl ?_
        exact ⟨⟨_, rfl⟩, .inr ⟨_, by rw [← unhide HTK]; exact List.take_prefix _ _, hJx3⟩⟩
    · have hkn : k = np zs := by have := np_lt (zs := zs) (j := k); omega
      have hJ2 : J (allPc (np zs)) wr := by
        rw [List.take_of_length_le (by omega)] at hJ
        exact hJ
      clear hJ
      gi_wp2
      go_end0
      exact ⟨⟨_, rfl⟩, .inl ⟨_, rfl, hJ2⟩⟩

/-- What slices.Chunk hands back tells the pieces, all or the first ones. -/
theorem chunk_stops (n Bs Bn b off cap : Nat) (ao : Option Addr) (zs : List Int) (N : Nat) (S : Nat → Prop) (hzs : zs.length ≤ 100000) (hcap : zs.length ≤ cap) (hao : 0 < zs.length → ao = some ⟨b, off, none⟩)
    (k1 : Bs < N ∧ ¬ S Bs) (k2 : Bn < N ∧ ¬ S Bn) (w : World) (l1 : Bs < w.heap.size) (l2 : Bn < w.heap.size) (hs : w.cell? ⟨Bs, 0, none⟩ = some (.slice ao zs.length cap)) (hn : w.cell? ⟨Bn, 0, none⟩ = some (.int .i64 8)) :
    SeqStopsK Fence.wide n Try.prog 88 #[.pointer (some ⟨Bs, 0, none⟩), .pointer (some ⟨Bn, 0, none⟩)] (fun x : Pc (np zs) => #[pcV b off zs x.1]) (KpS N S) (fun ys => ys = allPc (np zs)) (fun pre => pre <+: allPc (np zs)) (np zs) w :=
  fun l J Jx W hW hJ _ hY h0 => chunk1 l n Bs Bn b off cap ao zs N S hzs hcap hao k1 k2 J Jx (fun pre W m h => hJ pre W (W.drewN m) none h ⟨rfl, rfl, rfl, Nat.le_refl _, fun _ _ _ => rfl⟩ (fun r e => by cases e)) hY W ((hW.cell (p := ⟨Bs, 0, none⟩) l1).trans hs) ((hW.cell (p := ⟨Bn, 0, none⟩) l2).trans hn) h0

/-- slices.Chunk: the list and the length of a piece are boxed; the function value captures the boxes. -/
theorem implChunk (ap : Option Addr) (m cp : Nat) (w : World) :
    Calls Try.prog 58 #[.slice ap m cp, .int .i64 8] w fun e w' => e = .returned (.func (.func 88) #[] #[.pointer (some ⟨w.heap.size, 0, none⟩), .pointer (some ⟨w.heap.size + 1, 0, none⟩)]) ∧ w' = (w.alloc (.cells #[.slice ap m cp] 24)).alloc (.cells #[.int .i64 8] 3) := by
  go_enter Try.func58, Try.ntmps58
  go_wp2_with fail
  go_ret
  exact ⟨rfl, rfl⟩

end Go.Proofs.Ytipomhpimmnchaa

namespace Go.Proofs.Ytipomhpimmnchaa
open Go.RowKit

theorem wpListIn_append_Write {l nF : Nat} {w1 : World} {base : Nat} {v : Value} {rows : List (List Value)} {xs : List DWrite} {bls : List (List Nat)} (hG : Grow Lay.tWrite w1 base 58 v rows xs bls) {row : List Value} {x : DWrite} {bl : List Nat} (hl : Lay.tWrite.lies w1 row x bl) (hbl : ∀ b ∈ bl, v.ownBlock ≠ some b) {ops : Array Oper} {rest : List Oper} {o : Oper} {a : Act} {Q : Exit → Act → World → Prop} (hgd : o.guard = none) (s y : Operand)
    (ho : o.op = .call { callee := .builtin .append, args := #[s, y], argTypes := #[28, 28] }) (hs : a.eval s = v) (hy : a.eval y = .slice (some ⟨w1.heap.size, 0, none⟩) 1 1) (hn : xs.length + 1 ≤ 100000000) (hbase : base ≤ w1.heap.size)
    (h : ∀ g cap w', Grow Lay.tWrite w' base 58 (.slice (some ⟨g, 0, none⟩) (xs.length + 1) cap) (rows ++ [row]) (xs ++ [x]) (bls ++ [bl]) → Below base w1 w' → Ext (fun q => v.ownBlock = some q) w1 w' → g < w'.heap.size → w1.heap.size ≤ w'.heap.size → (v.ownBlock = some g ∨ w1.heap.size ≤ g) → wpListIn (Fence.wide.inRound l) nF Try.prog ops Q rest (a.put o.dst (.slice (some ⟨g, 0, none⟩) (xs.length + 1) cap)) w') :
    wpListIn (Fence.wide.inRound l) nF Try.prog ops Q (o :: rest) a (w1.alloc (.cells row.toArray 58)) := by
  refine wpListIn_plain hgd fun K hK => wp_in l nF (by simp [noDefer, ho]) ?_
  have := step_append_Write (ops := ops) (K := K) (Q := Q) (E := True) hG hl hbl hgd s y ho hs hy hn hbase (fun g cap w' q1 q2 q3 q4 q5 q6 => hK _ _ (h g cap w' q1 q2 q3 q4 q5 q6))
  rwa [if_pos (show Region.wanted o (yielded ops a.tmps) = true by simp [Region.wanted, hgd])] at this

theorem wpListIn_append_WriteH {l nF : Nat} {w1 : World} {base : Nat} {v : Value} {rows : List (List Value)} {xs : List DWrite} {bls : List (List Nat)} (hG : Grow Lay.tWrite w1 base 58 v rows xs bls) {row : List Value} {x : DWrite} {bl : List Nat} (hl : Lay.tWrite.lies w1 row x bl) (hbl : ∀ b ∈ bl, v.ownBlock ≠ some b) {ops : Array Oper} {rest : List Oper} {o : Oper} {a : Act} {Q : Exit → Act → World → Prop} (hgd : o.guard = none) (s y : Operand)
    (ho : o.op = .call { callee := .builtin .append, args := #[s, y], argTypes := #[28, 28] }) (hs : a.eval s = v) {H : Nat} (hH : w1.heap.size = H) (hy : a.eval y = .slice (some ⟨H, 0, none⟩) 1 1) (hn : xs.length + 1 ≤ 100000000) (hbase : base ≤ w1.heap.size)
    (h : ∀ g cap w', Grow Lay.tWrite w' base 58 (.slice (some ⟨g, 0, none⟩) (xs.length + 1) cap) (rows ++ [row]) (xs ++ [x]) (bls ++ [bl]) → Below base w1 w' → Ext (fun q => v.ownBlock = some q) w1 w' → g < w'.heap.size → w1.heap.size ≤ w'.heap.size → (v.ownBlock = some g ∨ w1.heap.size ≤ g) → wpListIn (Fence.wide.inRound l) nF Try.prog ops Q rest (a.put o.dst (.slice (some ⟨g, 0, none⟩) (xs.length + 1) cap)) w') :
    wpListIn (Fence.wide.inRound l) nF Try.prog ops Q (o :: rest) a (w1.alloc (.cells row.toArray 58)) :=
  wpListIn_append_Write hG hl hbl hgd s y ho hs (by rw [hH]; exact hy) hn hbase h

end Go.Proofs.Ytipomhpimmnchaa

namespace Go.Proofs.Ytipomhpimmnchaa
open Go.RowKit

/-- A block of cells that may be written. -/
def SoftB (W : World) (c : Nat) : Prop := (∃ o : Obj, W.heap[c]? = some o ∧ o.isCells = true) ∧ ∀ o, W.frozen? ⟨c, o, none⟩ = false
theorem SoftB.keep {W W' : World} {c : Nat} (h : SoftB W c) (hk : W'.heap[c]? = W.heap[c]?) : SoftB W' c := by
  obtain ⟨⟨o, h1, h2⟩, h3⟩ := h
  exact ⟨⟨o, hk.trans h1, h2⟩, fun o => (frozen_of_heap hk o).trans (h3 o)⟩
theorem cells_of_cell {W : World} {b o : Nat} {v : Value} (h : W.cell? ⟨b, o, none⟩ = some v) : ∃ ob : Obj, W.heap[b]? = some ob ∧ ob.isCells = true := by
  unfold World.cell? at h
  simp only at h
  cases hb : W.heap[b]? with
  | none => rw [hb] at h; simp at h
  | some ob =>
    rw [hb] at h
    cases ob with
    | cells cs T fr => exact ⟨_, rfl, rfl⟩
    | _ => simp at h
theorem ints_soft {w : World} {v : Value} {zs : List Int} {bl : List Nat} (h : (Lay.sl Lay.int).Own w [v] zs bl) : ∃ bl', (Lay.sl Lay.int).lies w [v] zs bl' ∧ bl'.Nodup ∧ ∀ b ∈ bl', b ∈ bl ∧ SoftB w b := by
  obtain ⟨hl, hd, hf⟩ := h
  obtain ⟨ao, cap, h1, h2, h3, h4⟩ := Lay.lies_ints.1 hl
  by_cases h0 : zs = []
  · exact ⟨[], Lay.lies_ints.2 ⟨ao, cap, h1, h2, h3, Or.inl ⟨h0, rfl⟩⟩, by simp, by simp⟩
  · rcases h4 with ⟨h5, -⟩ | ⟨b, off, ha, hb, rfl, hc⟩
    · exact absurd h5 h0
    · refine ⟨[b], hl, hd, fun c hcc => ⟨hcc, ?_⟩⟩
      rw [List.mem_singleton.1 hcc]
      exact ⟨cells_of_cell (hc 0 (List.length_pos_iff.2 h0)), hf b (by simp)⟩
theorem write_soft {w : World} {cs : List Value} {x : DWrite} {lo hi : Nat} (h : Lay.tWrite.OwnIn w cs x lo hi) : ∃ bl, Lay.tWrite.lies w cs x bl ∧ bl.Nodup ∧ ∀ b ∈ bl, (lo ≤ b ∧ b < hi) ∧ SoftB w b := by
  obtain ⟨bl, ⟨hl, hd, hf⟩, hr⟩ := h
  obtain ⟨a2, d2, b2, rfl, rfl, q1, q2, q3, q4, q5⟩ := lies_Write.1 hl
  obtain ⟨bl', k1, k2, k3⟩ := ints_soft ⟨q3, hd, hf⟩
  exact ⟨bl', lies_Write.2 ⟨a2, d2, bl', rfl, rfl, q1, q2, k1, q4, q5⟩, k2, fun b hb => ⟨hr b (k3 b hb).1, (k3 b hb).2⟩⟩

/-- A row of writes of the call's own. -/
def Ws (W : World) (base : Nat) (v : Value) (xs : List DWrite) : Prop := ∃ rows bls, Grow Lay.tWrite W base 58 v rows xs bls ∧ bls.flatten.Nodup ∧ ∀ c ∈ bls.flatten, base ≤ c ∧ SoftB W c
theorem Ws.nil (W : World) (base : Nat) : Ws W base (.slice none 0 0) [] := ⟨[], [], Grow.nil (World.ownsRow_nil _ _ _ _), by simp, by simp⟩
theorem Ws.own {W : World} {base : Nat} {v : Value} {xs : List DWrite} (h : Ws W base v xs) (hn : xs.length ≤ 9223372036854775807) : (Lay.sl Lay.tWrite).OwnIn W [v] xs base W.heap.size := by
  obtain ⟨rows, bls, hG, hd, hs⟩ := h
  exact hG.toOwn hn hd fun c hc => ⟨(hs c hc).1, (hs c hc).2.2⟩
theorem Ws.keep {W W' : World} {base : Nat} {v : Value} {xs : List DWrite} (h : Ws W base v xs) (hk : ∀ c (o : Obj), base ≤ c → W.heap[c]? = some o → o.isCells = true → W'.heap[c]? = W.heap[c]?) : Ws W' base v xs := by
  obtain ⟨rows, bls, hG, hd, hs⟩ := h
  have hb : ∀ c ∈ bls.flatten, W'.heap[c]? = W.heap[c]? := fun c hc => by
    obtain ⟨h1, ⟨o, h2, h3⟩, -⟩ := hs c hc
    exact hk c o h1 h2 h3
  refine ⟨rows, bls, hG.kept ?_ hb, hd, fun c hc => ⟨(hs c hc).1, (hs c hc).2.keep (hb c hc)⟩⟩
  obtain ⟨h1, h2⟩ := hG.own
  refine ⟨h1, ?_⟩
  rcases h2 with h2 | ⟨gb, cap', cur, hv, hg, hh, r⟩
  · exact Or.inl h2
  · exact Or.inr ⟨gb, cap', cur, hv, hg, (hk gb _ hg hh rfl).trans hh, r⟩
theorem Ws.later {W W' : World} {base : Nat} {v : Value} {xs : List DWrite} (h : Ws W base v xs) (hb : Below W.heap.size W W') : Ws W' base v xs := h.keep fun c _ _ ho _ => hb.block c (Array.getElem?_eq_some_iff.1 ho).1
theorem Ws.form {W : World} {base : Nat} {v : Value} {xs : List DWrite} (h : Ws W base v xs) : ∃ ao cap, v = .slice ao xs.length cap := by
  obtain ⟨rows, bls, hG, -, -⟩ := h
  rcases hG.form with ⟨rfl, rfl⟩ | ⟨g, cap, rfl, -⟩
  · exact ⟨none, 0, rfl⟩
  · exact ⟨_, cap, rfl⟩
theorem Ws.block {W : World} {base : Nat} {v : Value} {xs : List DWrite} (h : Ws W base v xs) {c : Nat} (e : v.ownBlock = some c) : base ≤ c ∧ c < W.heap.size ∧ ∃ o : Obj, W.heap[c]? = some o ∧ o.isCells = true := by
  obtain ⟨rows, bls, hG, -, -⟩ := h
  refine ⟨(hG.own.lt c e).1, (hG.own.lt c e).2, ?_⟩
  obtain ⟨-, h2⟩ := hG.own
  rcases h2 with ⟨rfl, -⟩ | ⟨gb, cap', cur, rfl, hg, hh, -⟩
  · simp [Value.ownBlock] at e
  · obtain rfl : gb = c := by simpa [Value.ownBlock] using e
    exact ⟨_, hh, rfl⟩

end Go.Proofs.Ytipomhpimmnchaa

namespace Go.Proofs.Ytipomhpimmnchaa
open Go.RowKit

theorem bcell {W w1 : World} (hb : Below W.heap.size W w1) : (∀ b o, b < W.heap.size → w1.cell? ⟨b, o, none⟩ = W.cell? ⟨b, o, none⟩) ∧ (∀ b o, b < W.heap.size → w1.frozen? ⟨b, o, none⟩ = W.frozen? ⟨b, o, none⟩) :=
  ⟨fun b o h => hb.cell (p := ⟨b, o, none⟩) h, fun b o h => hb.frozen (p := ⟨b, o, none⟩) h⟩

/-- Two blocks of three cells that were laid ahead of a call are there behind it, and may be written. -/
theorem two_kept {w w1 : World} {T : TypeId} {x0 x1 x2 y0 y1 y2 : Value} (hb : Below ((w.alloc (.cells #[x0, x1, x2] T)).alloc (.cells #[y0, y1, y2] T)).heap.size ((w.alloc (.cells #[x0, x1, x2] T)).alloc (.cells #[y0, y1, y2] T)) w1) :
    (w1.cell? ⟨w.heap.size, 0, none⟩ = some x0 ∧ w1.cell? ⟨w.heap.size, 1, none⟩ = some x1 ∧ w1.cell? ⟨w.heap.size, 2, none⟩ = some x2) ∧
    (w1.cell? ⟨w.heap.size + 1, 0, none⟩ = some y0 ∧ w1.cell? ⟨w.heap.size + 1, 1, none⟩ = some y1 ∧ w1.cell? ⟨w.heap.size + 1, 2, none⟩ = some y2) ∧
    (∀ o, w1.frozen? ⟨w.heap.size, o, none⟩ = false) ∧ (∀ o, w1.frozen? ⟨w.heap.size + 1, o, none⟩ = false) := by
  refine ⟨⟨?_, ?_, ?_⟩, ⟨?_, ?_, ?_⟩, fun o => ?_, fun o => ?_⟩
  all_goals first | rw [hb.cell (by simp [World.size_alloc]; try omega)] | rw [hb.frozen (by simp [World.size_alloc]; try omega)]
  all_goals simp [go_sem]

/-- Three numbers as an array. -/
def arr3 (x y z : Int) : Value := .agg #[.int .i64 x, .int .i64 y, .int .i64 z]

theorem IsInts.three {w : World} {v : Value} {zs : List Int} (h : IsInts w v zs) (h3 : zs.length = 3) :
    ∃ b off cap x y z, zs = [x, y, z] ∧ v = .slice (some ⟨b, off, none⟩) 3 cap ∧ b < w.heap.size ∧ w.cell? ⟨b, off, none⟩ = some (.int .i64 x) ∧ w.cell? ⟨b, off + 1, none⟩ = some (.int .i64 y) ∧ w.cell? ⟨b, off + 2, none⟩ = some (.int .i64 z) := by
  obtain ⟨ao, cap, rfl, hwf, hc⟩ := h
  match zs, h3 with
  | [x, y, z], _ =>
    obtain ⟨b, off, rfl, hc1⟩ := hc (by simp)
    have c0 := hc1 0 (by simp)
    have c1 := hc1 1 (by simp)
    have c2 := hc1 2 (by simp)
    exact ⟨b, off, cap, x, y, z, rfl, rfl, World.block_lt_of_cell? _ _ c0, by simpa using c0, by simpa using c1, by simpa using c2⟩

set_option maxHeartbeats 400000 in
theorem vectorOf_bad (v : Value) (zs : List Int) (w : World) (h : IsInts w v zs) (hf : vecFault zs ≠ 0) :
    Calls Try.prog 99 #[v] w fun e w' => e = .returned (.tuple #[arr3 0 0 0, .int .i64 (vecFault zs)]) ∧ Below w.heap.size w w' := by
  go_enter Try.func99, Try.ntmps99
  go_wp2_with fail
  refine (implFault v zs _ (h.later (((Below.refl _ _).alloc (Nat.le_refl _) _).alloc (by simp) _))).mono ?_
  rintro e w' ⟨rfl, rfl⟩
  have hne : (vecFault zs != 0) = true := by rw [bne_iff_ne]; exact hf
  go_wp2_with fail
  refine bodyPost_ret (v := .tuple #[arr3 0 0 0, .int .i64 (vecFault zs)]) (by simp [results, Try.results99, go_sem, arr3]) rfl ⟨rfl, ?_⟩
  exact ((Below.refl _ _).alloc (Nat.le_refl _) _).alloc (by simp) _

set_option maxHeartbeats 1000000 in
theorem vectorOf_three (b off cap : Nat) (x y z : Int) (w : World) (hbl : b < w.heap.size) (c0 : w.cell? ⟨b, off, none⟩ = some (.int .i64 x)) (c1 : w.cell? ⟨b, off + 1, none⟩ = some (.int .i64 y)) (c2 : w.cell? ⟨b, off + 2, none⟩ = some (.int .i64 z))
    (h : IsInts w (.slice (some ⟨b, off, none⟩) 3 cap) [x, y, z]) (hf : vecFault [x, y, z] = 0) :
    Calls Try.prog 99 #[.slice (some ⟨b, off, none⟩) 3 cap] w fun e w' => e = .returned (.tuple #[arr3 x y z, .int .i64 0]) ∧ Below w.heap.size w w' := by
  go_enter Try.func99, Try.ntmps99
  go_wp2_with fail
  refine (implFault _ [x, y, z] _ (h.later (((Below.refl _ _).alloc (Nat.le_refl _) _).alloc (by simp) _))).mono ?_
  rintro e w' ⟨rfl, rfl⟩
  rw [hf]
  clear h hf
  go_wp2_with fail
  refine wp_loop_rounds 4 ?_
  rw [rounds_succ]
  go_wp2
  rw [rounds_succ]
  go_wp2
  rw [rounds_succ]
  go_wp2
  rw [rounds_succ]
  go_wp2
  refine bodyPost_ret (v := .tuple #[arr3 x y z, .int .i64 0]) (by simp [results, Try.results99, go_sem, arr3]) rfl ⟨rfl, ?_⟩
  exact ((Below.refl _ _).alloc (Nat.le_refl _) _).alloc (by simp) _

theorem vectorOf_ok (v : Value) (x y z : Int) (w : World) (h : IsInts w v [x, y, z]) (hf : vecFault [x, y, z] = 0) :
    Calls Try.prog 99 #[v] w fun e w' => e = .returned (.tuple #[arr3 x y z, .int .i64 0]) ∧ Below w.heap.size w w' := by
  obtain ⟨b, off, cap, x', y', z', he, rfl, hbl, c0, c1, c2⟩ := h.three rfl
  simp only [List.cons.injEq, and_true] at he
  obtain ⟨rfl, rfl, rfl⟩ := he
  exact vectorOf_three b off cap x y z w hbl c0 c1 c2 h hf

end Go.Proofs.Ytipomhpimmnchaa
