/-
  Texts of this proof in one: LogPlain, LogPieces, SpecRead8, OwnWritesResult, LogKit, SpecLogF, SpecOf8, AppIntsAt, SpecCrash.
  Their conditions stand in their theorems.
-/
import Derived.Test.YtipomhpimmnchaaCq06
import Derived.Test.YtipomhpimmnchaaCq02
import Derived.Test.YtipomhpimmnchaaCq04
import Derived.Test.YtipomhpimmnchaaCq01
import Derived.Test.YtipomhpimmnchaaChecked
import Derived.Deep.CutRange
import Derived.Test.YtipomhpimmnchaaCq05
import Derived.Deep.RegionHeld3

namespace Go.Proofs.Ytipomhpimmnchaa
open Go.RowKit

def pieceAt (zs : List Int) (j : Nat) : List Int := (zs.drop (8 * j)).take 8
def okAt (zs : List Int) (j : Nat) : Bool := decide ((unpackR (pieceAt zs j)).code = 0)
def wAt (zs : List Int) (j : Nat) : DWrite := (unpackR (pieceAt zs j)).write
def cntF (zs : List Int) : Nat → Nat → Nat
  | 0, k => k
  | f + 1, k => if okAt zs k then cntF zs f (k + 1) else k
/-- How many writes stand at the head. -/
def cnt (zs : List Int) : Nat := cntF zs zs.length 0
/-- The writes at the head. -/
def readL (zs : List Int) : List DWrite := (List.range (cnt zs)).map (wAt zs)
def packs (ws : List DWrite) : List Int := ws.flatMap packD
def logFault (x : DLog) : Int := if 320 < x.sure.length + x.loose.length then 2 else if 8 * cnt x.sure = x.sure.length ∧ 8 * cnt x.loose = x.loose.length then 0 else 5
def noLog : DLog := ⟨[], []⟩
def readLogR (zs : List Int) : DWritesResult := if 320 < zs.length then ⟨2, []⟩ else ⟨0, readL zs⟩
def packAllR (ws : List DWrite) : DIntsResult := if 40 < ws.length then ⟨2, []⟩ else if wsFrom ws = 0 then ⟨0, packs ws⟩ else ⟨wsFrom ws, []⟩
def logOf (sure loose : List Int) : DLogResult := ⟨0, ((sure.length + loose.length) / 8 : Nat), ⟨sure, loose⟩⟩
def badLog (c : Int) : DLogResult := ⟨c, 0, noLog⟩
def appendLogR (x : DLog) (y : DWrite) : DLogResult := if logFault x = 0 then (if wF y = 0 then (if 320 ≤ x.sure.length + x.loose.length then badLog 2 else logOf x.sure (x.loose ++ packD y)) else badLog (wF y)) else badLog (logFault x)
def syncLogR (x : DLog) : DLogResult := if logFault x = 0 then logOf (x.sure ++ x.loose) [] else badLog (logFault x)
def keptOf (x : DLog) (kept : Int) : List Int := x.sure ++ x.loose.take kept.toNat
def crashLogR (x : DLog) (kept : Int) : DLogResult := if logFault x = 0 then (if 0 ≤ kept ∧ kept ≤ x.loose.length then logOf ((keptOf x kept).take (8 * cnt (keptOf x kept))) [] else badLog 3) else badLog (logFault x)

theorem unpackR_ok {zs : List Int} (h : (unpackR zs).code = 0) : zs.length = 8 ∧ packD (unpackR zs).write = zs ∧ wF (unpackR zs).write = 0 := by
  have hp := pack_unpack h
  have hl : zs.length = 8 := by
    by_cases e : zs.length = 8
    · exact e
    · rw [unpackR_len e] at h
      cases h
  refine ⟨hl, hp, ?_⟩
  by_cases e : wF (unpackR zs).write = 0
  · exact e
  · rw [packList, if_neg (show ¬ writeFault (unpackR zs).write.kind (unpackR zs).write.id (unpackR zs).write.vec (unpackR zs).write.session (unpackR zs).write.seq = 0 from e)] at hp
    rw [← hp] at hl
    cases hl
theorem ok_piece {zs : List Int} {j : Nat} (h : okAt zs j = true) : (unpackR (pieceAt zs j)).code = 0 := by simpa [okAt] using h
theorem piece_len {zs : List Int} {j : Nat} : (pieceAt zs j).length = min 8 (zs.length - 8 * j) := by simp [pieceAt]
theorem ok_len {zs : List Int} {j : Nat} (h : okAt zs j = true) : 8 * j + 8 ≤ zs.length := by
  have h1 := (unpackR_ok (ok_piece h)).1
  rw [piece_len] at h1
  omega
theorem cntF_spec (zs : List Int) : ∀ f k, zs.length < 8 * (k + f) + 8 → (∀ j, j < k → okAt zs j = true) → (∀ j, j < cntF zs f k → okAt zs j = true) ∧ okAt zs (cntF zs f k) = false
  | 0, k, h, hk => by
    refine ⟨hk, ?_⟩
    rw [cntF]
    by_cases e : okAt zs k = true
    · have := ok_len e
      omega
    · simpa using e
  | f + 1, k, h, hk => by
    rw [cntF]
    by_cases e : okAt zs k = true
    · rw [if_pos e]
      refine cntF_spec zs f (k + 1) (by omega) fun j hj => ?_
      by_cases h2 : j = k
      · rw [h2]; exact e
      · exact hk j (by omega)
    · rw [if_neg e]
      exact ⟨hk, by simpa using e⟩
theorem cnt_ok (zs : List Int) : ∀ j, j < cnt zs → okAt zs j = true := (cntF_spec zs zs.length 0 (by omega) (fun _ h => by omega)).1
theorem cnt_not (zs : List Int) : okAt zs (cnt zs) = false := (cntF_spec zs zs.length 0 (by omega) (fun _ h => by omega)).2
theorem cnt_of {zs : List Int} {k : Nat} (h : ∀ j, j < k → okAt zs j = true) (hn : okAt zs k = false) : cnt zs = k := by
  rcases Nat.lt_trichotomy (cnt zs) k with e | e | e
  · have := h _ e
    rw [cnt_not] at this
    cases this
  · exact e
  · have := cnt_ok zs _ e
    rw [hn] at this
    cases this
theorem cnt_le (zs : List Int) : 8 * cnt zs ≤ zs.length := by
  by_cases h : cnt zs = 0
  · omega
  · have := ok_len (cnt_ok zs (cnt zs - 1) (by omega))
    omega
theorem read_len (zs : List Int) : (readL zs).length = cnt zs := by simp [readL]
theorem read_at (zs : List Int) (j : Nat) (h : j < (readL zs).length) : (readL zs)[j] = wAt zs j := by simp [readL]
theorem read_of {zs : List Int} {k : Nat} (h : ∀ j, j < k → okAt zs j = true) (hn : okAt zs k = false) : readL zs = (List.range k).map (wAt zs) := by rw [readL, cnt_of h hn]
theorem reads_snoc (zs : List Int) (k : Nat) : (List.range (k + 1)).map (wAt zs) = (List.range k).map (wAt zs) ++ [wAt zs k] := by rw [List.range_succ, List.map_append]; rfl
theorem readL_right (zs : List Int) : ∀ x ∈ readL zs, wF x = 0 := by
  intro x hx
  simp only [readL, List.mem_map, List.mem_range] at hx
  obtain ⟨j, hj, rfl⟩ := hx
  exact (unpackR_ok (ok_piece (cnt_ok zs j hj))).2.2

/-- A piece within the first list. -/
theorem piece_left {xs ys : List Int} {j : Nat} (h : 8 * j + 8 ≤ xs.length) : pieceAt (xs ++ ys) j = pieceAt xs j := by
  simp only [pieceAt]
  rw [List.drop_append_of_le_length (by omega), List.take_append_of_le_length (by simp; omega)]
theorem piece_right {xs ys : List Int} {c j : Nat} (h : 8 * c = xs.length) : pieceAt (xs ++ ys) (c + j) = pieceAt ys j := by
  simp only [pieceAt]
  rw [show 8 * (c + j) = xs.length + 8 * j by omega, List.drop_length_add_append]
theorem ok_left {xs ys : List Int} {j : Nat} (h : 8 * j + 8 ≤ xs.length) : okAt (xs ++ ys) j = okAt xs j := by rw [okAt, piece_left h]; rfl
theorem ok_right {xs ys : List Int} {c j : Nat} (h : 8 * c = xs.length) : okAt (xs ++ ys) (c + j) = okAt ys j := by rw [okAt, piece_right h]; rfl
/-- Whole writes, then others. -/
theorem cnt_append {xs ys : List Int} (h : 8 * cnt xs = xs.length) : cnt (xs ++ ys) = cnt xs + cnt ys := by
  refine cnt_of (fun j hj => ?_) ?_
  · by_cases h2 : j < cnt xs
    · rw [ok_left (by omega)]
      exact cnt_ok xs j h2
    · obtain ⟨i, rfl⟩ : ∃ i, j = cnt xs + i := ⟨j - cnt xs, by omega⟩
      rw [ok_right h]
      exact cnt_ok ys i (by omega)
  · rw [ok_right h]
    exact cnt_not ys
theorem ok_short {zs : List Int} {j : Nat} (h : zs.length < 8 * j + 8) : okAt zs j = false := by
  by_cases e : okAt zs j = true
  · have := ok_len e
    omega
  · simpa using e
/-- The first words of whole writes. -/
theorem cnt_take {xs : List Int} (h : 8 * cnt xs = xs.length) {m : Nat} (hm : m ≤ xs.length) : cnt (xs.take m) = m / 8 := by
  refine cnt_of (fun j hj => ?_) (ok_short (by rw [List.length_take]; omega))
  have e : xs = xs.take m ++ xs.drop m := (List.take_append_drop m xs).symm
  have h1 : okAt xs j = true := cnt_ok xs j (by omega)
  rw [e, ok_left (by rw [List.length_take]; omega)] at h1
  exact h1
/-- The words of the writes that are read are the first words. -/
theorem packs_range (zs : List Int) (k : Nat) (h : ∀ j, j < k → okAt zs j = true) : packs ((List.range k).map (wAt zs)) = zs.take (8 * k) := by
  induction k with
  | zero => simp [packs]
  | succ k ih =>
    have h1 := unpackR_ok (ok_piece (h k (by omega)))
    rw [reads_snoc, packs, List.flatMap_append]
    have h2 := ih (fun j hj => h j (by omega))
    rw [packs] at h2
    rw [h2]
    simp only [List.flatMap_cons, List.flatMap_nil, List.append_nil]
    rw [wAt, h1.2.1, pieceAt, show 8 * (k + 1) = 8 * k + 8 by omega, List.take_add]
theorem packs_read (zs : List Int) : packs (readL zs) = zs.take (8 * cnt zs) := packs_range zs _ (cnt_ok zs)
theorem packD_len {x : DWrite} (h : wF x = 0) : (packD x).length = 8 := by
  rw [packD, packList, if_pos (show writeFault x.kind x.id x.vec x.session x.seq = 0 from h)]
  rfl
theorem packs_len (ws : List DWrite) (h : ∀ x ∈ ws, wF x = 0) : (packs ws).length = 8 * ws.length := by
  induction ws with
  | nil => rfl
  | cons x xs ih =>
    rw [packs, List.flatMap_cons, List.length_append, packD_len (h x (by simp)), List.length_cons]
    have := ih fun y hy => h y (List.mem_cons_of_mem _ hy)
    rw [packs] at this
    omega
/-- Packed, then read. -/
theorem ok_packD {x : DWrite} (h : wF x = 0) : okAt (packD x) 0 = true ∧ wAt (packD x) 0 = x := by
  have h1 : pieceAt (packD x) 0 = packD x := by simp [pieceAt, List.take_of_length_le, packD_len h]
  have h2 := unpack_pack h
  rw [okAt, wAt, h1, packD, h2]
  simp
theorem packs_ok (ws : List DWrite) (h : ∀ x ∈ ws, wF x = 0) : ∀ j (hj : j < ws.length), okAt (packs ws) j = true ∧ wAt (packs ws) j = ws[j] := by
  induction ws with
  | nil => intro j hj; simp at hj
  | cons x xs ih =>
    intro j hj
    have hx := h x (by simp)
    have h8 : 8 * 1 = (packD x).length := by rw [packD_len hx]
    have e : packs (x :: xs) = packD x ++ packs xs := rfl
    match j, hj with
    | 0, _ =>
      obtain ⟨h1, h2⟩ := ok_packD hx
      refine ⟨by rw [e, ok_left (by omega)]; exact h1, ?_⟩
      rw [wAt, e, piece_left (by omega)]
      exact h2
    | i + 1, hj =>
      obtain ⟨h1, h2⟩ := ih (fun y hy => h y (List.mem_cons_of_mem _ hy)) i (by simpa using hj)
      refine ⟨by rw [Nat.add_comm i 1, e, ok_right h8]; exact h1, ?_⟩
      have h3 : pieceAt (packs (x :: xs)) (i + 1) = pieceAt (packs xs) i := by rw [Nat.add_comm i 1, e, piece_right h8]
      rw [wAt, h3]
      exact h2
theorem cnt_packs (ws : List DWrite) (h : ∀ x ∈ ws, wF x = 0) : cnt (packs ws) = ws.length :=
  cnt_of (fun j hj => (packs_ok ws h j hj).1) (ok_short (by rw [packs_len ws h]; omega))
theorem read_packs (ws : List DWrite) (h : ∀ x ∈ ws, wF x = 0) : readL (packs ws) = ws := by
  refine List.ext_getElem (by rw [read_len, cnt_packs ws h]) fun j h1 h2 => ?_
  rw [read_at]
  exact (packs_ok ws h j h2).2
theorem wsFrom_of {ws : List DWrite} (h : ∀ x ∈ ws, wF x = 0) : wsFrom ws = 0 := wsFrom_all ws fun _ hj => h _ (List.getElem_mem hj)
/-- A piece of zeros is no write. -/
theorem zeros_not (n : Nat) : okAt (List.replicate n 0) 0 = false := by
  by_cases e : okAt (List.replicate n 0) 0 = true
  · have h8 := ok_len e
    have h1 := unpackR_ok (ok_piece e)
    rw [List.length_replicate] at h8
    have h2 : pieceAt (List.replicate n (0 : Int)) 0 = List.replicate 8 0 := by simp [pieceAt, Nat.min_eq_left (show 8 ≤ n by omega)]
    have h3 := ok_piece e
    rw [h2] at h3
    exact absurd h3 (by decide)
  · simpa using e
theorem cnt_zeros (n : Nat) : cnt (List.replicate n 0) = 0 := cnt_of (fun _ h => by omega) (zeros_not n)
/-- A torn write that is cleared leaves the same first writes. -/
theorem cnt_clear {xs ys : List Int} (hx : 8 * cnt xs = xs.length) (hy : 8 * cnt ys = ys.length) {k : Nat} (hk : k ≤ ys.length) (n : Nat) :
    cnt (xs ++ (ys.take (8 * (k / 8)) ++ List.replicate n 0)) = cnt (xs ++ ys.take k) ∧ (xs ++ (ys.take (8 * (k / 8)) ++ List.replicate n 0)).take (8 * cnt (xs ++ ys.take k)) = (xs ++ ys.take k).take (8 * cnt (xs ++ ys.take k)) := by
  have h1 : cnt (ys.take (8 * (k / 8))) = k / 8 := by rw [cnt_take hy (by omega)]; omega
  have h2 : 8 * cnt (ys.take (8 * (k / 8))) = (ys.take (8 * (k / 8))).length := by rw [h1, List.length_take]; omega
  have h3 : cnt (ys.take k) = k / 8 := cnt_take hy hk
  refine ⟨by rw [cnt_append hx, cnt_append hx, cnt_append h2, h1, h3, cnt_zeros, Nat.add_zero], ?_⟩
  rw [cnt_append hx, h3, Nat.mul_add, hx, List.take_length_add_append, List.take_length_add_append]
  congr 1
  rw [List.take_append_of_le_length (by rw [List.length_take]; omega), List.take_take, List.take_take]
  congr 1
  omega

end Go.Proofs.Ytipomhpimmnchaa

namespace Go.Proofs.Ytipomhpimmnchaa
open Go.RowKit

theorem getD_piece {zs : List Int} {k j : Nat} (hj : j < 8) : (pieceAt zs k).getD j 0 = zs.getD (8 * k + j) 0 := by
  simp only [pieceAt, List.getD]
  rw [List.getElem?_take, if_pos hj, List.getElem?_drop]
theorem len_piece {zs : List Int} {k : Nat} (h : 8 * k + 8 ≤ zs.length) : (pieceAt zs k).length = 8 := by rw [piece_len]; omega
theorem mem_piece {zs : List Int} {k : Nat} {z : Int} (h : z ∈ pieceAt zs k) : z ∈ zs := List.mem_of_mem_drop (List.mem_of_mem_take h)
/-- Any part of a list of numbers that stands in memory. -/
theorem part_reads {w : World} {b off cap : Nat} {zs : List Int} (h : (Lay.sl Lay.int).Reads w [.slice (some ⟨b, off, none⟩) zs.length cap] zs) (m n c : Nat) (hm : m + n ≤ zs.length) (hc : n ≤ c) :
    (Lay.sl Lay.int).Reads w [.slice (some ⟨b, off + m, none⟩) n c] ((zs.drop m).take n) := by
  have hi := Lay.ints_reads h
  have hbig := h.big
  obtain ⟨ao, cp, e, hwf, hcs⟩ := hi
  have hlen : ((zs.drop m).take n).length = n := by simp; omega
  refine Lay.reads_ints ?_ (fun ao' cap' e' => ?_) (by rw [hlen]; omega)
  · refine ⟨_, c, by rw [hlen], fun z hz => hwf z (List.mem_of_mem_drop (List.mem_of_mem_take hz)), fun hp => ⟨b, off + m, rfl, fun j hj => ?_⟩⟩
    rw [hlen] at hp hj
    obtain ⟨b', off', hao, hc1⟩ := hcs (by omega)
    simp only [Value.slice.injEq] at e
    obtain ⟨rfl, -, -⟩ := e
    simp only [Option.some.injEq, Addr.mk.injEq, and_true] at hao
    obtain ⟨rfl, rfl⟩ := hao
    rw [Nat.add_assoc, hc1 (m + j) (by omega)]
    simp only [List.getD]
    rw [List.getElem?_take, if_pos hj, List.getElem?_drop]
  · simp only [Value.slice.injEq] at e'
    rw [hlen]
    omega
theorem piece_reads {w : World} {b off cap : Nat} {zs : List Int} (h : (Lay.sl Lay.int).Reads w [.slice (some ⟨b, off, none⟩) zs.length cap] zs) (k c : Nat) (hk : 8 * k + 8 ≤ zs.length) (hc : 8 ≤ c) :
    (Lay.sl Lay.int).Reads w [.slice (some ⟨b, off + 8 * k, none⟩) 8 c] (pieceAt zs k) := part_reads h (8 * k) 8 c (by omega) hc
/-- The first numbers of a list. -/
theorem take_reads {w : World} {ao : Option Addr} {n cap : Nat} {zs : List Int} (h : (Lay.sl Lay.int).Reads w [.slice ao n cap] zs) (k : Nat) (hk : k ≤ zs.length) :
    (Lay.sl Lay.int).Reads w [.slice ao k cap] (zs.take k) := by
  have hc := h.cap
  by_cases h0 : k = 0
  · subst h0
    rw [List.take_zero]
    exact Lay.reads_ints ⟨ao, cap, rfl, by simp, fun hp => by simp at hp⟩ (fun _ _ _ => by simp) (by simp)
  · have hi := Lay.ints_reads h
    obtain ⟨ao', cp, e, hwf, hcs⟩ := hi
    obtain ⟨b', off', hao, hc1⟩ := hcs (by omega)
    simp only [Value.slice.injEq] at e
    obtain ⟨rfl, rfl, rfl⟩ := e
    subst hao
    have := part_reads h 0 k cap (by omega) (by omega)
    simpa using this

end Go.Proofs.Ytipomhpimmnchaa

namespace Go.Proofs.Ytipomhpimmnchaa
open Go.RowKit

/-- What l8Read tells. -/
def Told8 (w w' : World) (e : Ending) (zs : List Int) : Prop := ∃ v, e = .returned (.tuple #[v, .int .i64 ((8 * cnt zs : Nat) : Int)]) ∧ (Lay.sl Lay.tWrite).LiesIn w' [v] (readL zs) w.heap.size w'.heap.size ∧ Below w.heap.size w w'

set_option maxRecDepth 100000 in
set_option maxHeartbeats 4000000 in
theorem read8_pos (b off cap : Nat) (zs : List Int) (w : World) (h : (Lay.sl Lay.int).Reads w [.slice (some ⟨b, off, none⟩) zs.length cap] zs) (hbl : b < w.heap.size) (hn : zs.length ≤ 10000000) :
    Calls Try.prog 57 #[.slice (some ⟨b, off, none⟩) zs.length cap] w fun e w' => Told8 w w' e zs := by
  have hcap := h.cap.2
  have H := hide h
  clear h
  have HG0 : Hid (Grow Lay.tWrite (w.alloc (.cells #[] 58)) w.heap.size 58 (.slice (some ⟨w.heap.size, 0, none⟩) 0 0) [] [] []) := Grow.nil (World.ownsRow_lit w #[] 0 (Nat.le_refl _) (Nat.zero_le _) rfl)
  have HB0 := hide ((Below.refl w.heap.size w).alloc (Nat.le_refl _) (.cells #[] 58))
  go_enter Try.func57, Try.ntmps57
  go_wp2_with fail
  go_loopw [4, 5] (fun v i wr => ∃ (k : Nat) (rows : List (List Value)) (bls : List (List Nat)), (∀ j, j < k → okAt zs j = true) ∧ 8 * k ≤ zs.length ∧ i = .int .i64 ((8 * k : Nat) : Int) ∧ Grow Lay.tWrite wr w.heap.size 58 v rows ((List.range k).map (wAt zs)) bls ∧ (∀ c ∈ bls.flatten, w.heap.size ≤ c) ∧ Below w.heap.size w wr) (fun _ i _ => zs.length - (intOf i).toNat)
  case atStart => exact ⟨0, [], [], fun _ h => by omega, Nat.zero_le _, rfl, unhide HG0, by simp, unhide HB0⟩
  case round =>
    obtain ⟨k, rows, bls, hok, hk, rfl, hG, hSB, hB⟩ := hrel
    have HSB := hide hSB
    have HOK := hide hok
    clear HG0 HB0 hSB hok
    by_cases hlt : 8 * k + 8 ≤ zs.length
    · have HL := hide (l3Unpack _ (pieceAt zs k) wr (piece_reads ((unhide H).later hB) k (cap - 8 * k) hlt (by omega)))
      have hbr : b < wr.heap.size := Nat.lt_of_lt_of_le hbl hB.size
      have HLn : Hid (((List.range k).map (wAt zs)).length = k) := by show ((List.range k).map (wAt zs)).length = k; simp
      have HG := hide hG
      have HB := hide hB
      clear hG hB
      go_wp2_with fail
      refine (unhide HL).mono ?_
      rintro e w2 ⟨x, ok, ⟨cs, rfl, R, hb⟩, hu⟩
      obtain ⟨a2, d2, rfl, -⟩ := open_Write R.reads
      have hl : ∃ bl, Lay.tWrite.lies w2 [.int .i64 x.kind, .int .i64 x.id, .slice a2 x.vec.length d2, .int .i64 x.session, .int .i64 x.seq] x bl ∧ ∀ c ∈ bl, wr.heap.size ≤ c ∧ c < w2.heap.size := R
      obtain ⟨bl2, hl2, hr2⟩ := hl
      have hG2 := (unhide HG).later hb
      have HB2 := hide ((unhide HB).trans (hb.mono (unhide HB).size))
      have HZW : Hid (w.heap.size ≤ wr.heap.size) := (unhide HB).size
      have HOW : Hid (∀ c, u4.ownBlock = some c → c < wr.heap.size) := fun c hc => ((unhide HG).own.lt c hc).2
      have hZ2 := hb.size
      have nb : Below w2.heap.size w2 (w2.alloc (.cells #[.int .i64 x.kind, .int .i64 x.id, .slice a2 x.vec.length d2, .int .i64 x.session, .int .i64 x.seq] 58)) := (Below.refl _ _).alloc (Nat.le_refl _) _
      have bI : Box 0 #[.int .i64 x.kind, .int .i64 x.id, .slice a2 x.vec.length d2, .int .i64 x.session, .int .i64 x.seq] 58 (w2.alloc (.cells #[.int .i64 x.kind, .int .i64 x.id, .slice a2 x.vec.length d2, .int .i64 x.session, .int .i64 x.seq] 58)) w2.heap.size := newBox (Nat.zero_le _)
      have hl3 := Lay.tWrite.keep hl2 (w' := w2.alloc (.cells #[.int .i64 x.kind, .int .i64 x.id, .slice a2 x.vec.length d2, .int .i64 x.session, .int .i64 x.seq] 58)) (fun c hc => nb.block c (hr2 c hc).2)
      have hG3 := hG2.later nb
      have hoff : ∀ c ∈ bl2, u4.ownBlock ≠ some c := fun c hc e => by have h1 := (hr2 c hc).1; have h2 := unhide HOW c e; omega
      have HB3 := hide ((unhide HB2).trans (nb.mono (unhide HB2).size))
      have hZ3 : w.heap.size ≤ (w2.alloc (.cells #[.int .i64 x.kind, .int .i64 x.id, .slice a2 x.vec.length d2, .int .i64 x.session, .int .i64 x.seq] 58)).heap.size := (unhide HB3).size
      have hK : ((List.range k).map (wAt zs)).length + 1 ≤ 100000000 := by rw [unhide HLn]; omega
      have HSB5 : Hid (∀ c ∈ (bls ++ [bl2]).flatten, w.heap.size ≤ c) := by
        intro c hc
        rw [List.flatten_append] at hc
        rcases List.mem_append.1 hc with hc | hc
        · exact unhide HSB c hc
        · have h1 := (hr2 c (by simpa using hc)).1
          have h2 := unhide HZW
          omega
      have HU := hide hu
      have HG2 := hide hG2
      clear R hl2 hb HG HL HB hr2 hu hG2 nb
      cases ok with
      | true =>
        have HX : Hid (okAt zs k = true ∧ wAt zs k = x) := by
          have e := unhide HU
          rw [if_pos rfl] at e
          exact ⟨by rw [okAt, e]; rfl, by rw [wAt, e]⟩
        have HLI := hide hl3
        have HGI := hide hG3
        have HBI := hide bI
        have HOF := hide hoff
        clear hl3 hG3 bI hoff HU HG2
        go_upto_region 6 with fail
        generalize hW3 : w2.alloc (.cells #[.int .i64 x.kind, .int .i64 x.id, .slice a2 x.vec.length d2, .int .i64 x.session, .int .i64 x.seq] 58) = W3 at *
        clear hW3
        have hl3 := unhide HLI
        have hG3 := unhide HGI
        have hoff := unhide HOF
        have z0 : W3.cell? ⟨w2.heap.size, 0, none⟩ = some (.int .i64 x.kind) := (unhide HBI).at 0 _ rfl
        have z1 : W3.cell? ⟨w2.heap.size, 1, none⟩ = some (.int .i64 x.id) := (unhide HBI).at 1 _ rfl
        have z2 : W3.cell? ⟨w2.heap.size, 2, none⟩ = some (.slice a2 x.vec.length d2) := (unhide HBI).at 2 _ rfl
        have z3 : W3.cell? ⟨w2.heap.size, 3, none⟩ = some (.int .i64 x.session) := (unhide HBI).at 3 _ rfl
        have z4 : W3.cell? ⟨w2.heap.size, 4, none⟩ = some (.int .i64 x.seq) := (unhide HBI).at 4 _ rfl
        clear HLI HGI HBI HOF
        go_wp2_with (at_builtin; refine wpList_append_Write hG3 hl3 hoff rfl _ _ rfl rfl rfl hK hZ3 ?_)
        intro g5 cap5 w5 hG5 hb5 hE5 hg5 hz5 hor5
        have HG5 := hide hG5
        have HB5 := hide ((unhide HB3).trans hb5)
        clear hG3 hl3 hoff hZ3 hK hG5 hb5 hE5 hg5 hz5 hor5 HB3 z0 z1 z2 z3 z4
        go_wp2_with fail
        go_roundw
        case rel =>
          have hg := unhide HG5
          rw [← (unhide HX).2, ← reads_snoc] at hg
          try rw [unhide HLn] at hg
          refine ⟨k + 1, _, _, fun j hj => ?_, by omega, by go_num, hg, unhide HSB5, unhide HB5⟩
          by_cases h2 : j = k
          · rw [h2]; exact (unhide HX).1
          · exact unhide HOK j (by omega)
        case measure => simp [intOf]; omega
      | false =>
        have HX : Hid (okAt zs k = false) := by
          have e := unhide HU
          rw [if_neg (by simp)] at e
          show okAt zs k = false
          rw [okAt, e]
          rfl
        have HGI := hide hG3
        clear hl3 hG3 bI hoff HU HG2 HSB5
        go_wp2_with fail
        refine bodyPost_ret (v := .tuple #[u4, .int .i64 ((8 * k : Nat) : Int)]) (by simp [results, Try.results57, go_sem]) rfl ?_
        refine ⟨_, by rw [cnt_of (unhide HOK) (unhide HX)], ?_, unhide HB3⟩
        rw [read_of (unhide HOK) (unhide HX)]
        exact (unhide HGI).toLies (by rw [unhide HLn]; omega) (unhide HSB)
    · have HX : Hid (okAt zs k = false) := ok_short (by omega)
      have HLn : Hid (((List.range k).map (wAt zs)).length = k) := by show ((List.range k).map (wAt zs)).length = k; simp
      have HG := hide hG
      have HB := hide hB
      clear hG hB H
      go_wp2_with fail
      refine bodyPost_ret (v := .tuple #[u4, .int .i64 ((8 * k : Nat) : Int)]) (by simp [results, Try.results57, go_sem]) rfl ?_
      refine ⟨_, by rw [cnt_of (unhide HOK) (unhide HX)], ?_, unhide HB⟩
      rw [read_of (unhide HOK) (unhide HX)]
      exact (unhide HG).toLies (by rw [unhide HLn]; omega) (unhide HSB)

set_option maxRecDepth 100000 in
set_option maxHeartbeats 1000000 in
/-- l8Read of the model. -/
theorem read8C (v : Value) (zs : List Int) (w : World) (h : (Lay.sl Lay.int).Reads w [v] zs) (hn : zs.length ≤ 10000000) :
    Calls Try.prog 57 #[v] w fun e w' => Told8 w w' e zs := by
  obtain ⟨ao, cap, rfl⟩ := open_sl h
  by_cases hp : 0 < zs.length
  · obtain ⟨b, off, rfl, hbl⟩ := Lay.sl_addr h hp
    exact read8_pos b off cap zs w h hbl hn
  · obtain rfl : zs = [] := List.eq_nil_of_length_eq_zero (by omega)
    clear h hp hn
    have HB := hide ((Below.refl w.heap.size w).alloc (Nat.le_refl _) (.cells #[] 58))
    have HG0 : Hid (Grow Lay.tWrite (w.alloc (.cells #[] 58)) w.heap.size 58 (.slice (some ⟨w.heap.size, 0, none⟩) 0 0) [] [] []) := Grow.nil (World.ownsRow_lit w #[] 0 (Nat.le_refl _) (Nat.zero_le _) rfl)
    go_enter Try.func57, Try.ntmps57
    go_wp2_with fail
    refine wp_loop_rounds 1 ?_
    rw [rounds_succ]
    go_wp2_with fail
    refine bodyPost_ret (v := .tuple #[.slice (some ⟨w.heap.size, 0, none⟩) 0 0, .int .i64 0]) (by simp [results, Try.results57, go_sem]) rfl ?_
    exact ⟨_, rfl, (unhide HG0).toLies (by simp) (by simp), unhide HB⟩

end Go.Proofs.Ytipomhpimmnchaa

namespace Go.Proofs.Ytipomhpimmnchaa
open Go.RowKit

theorem vcnt_WritesResult (x : DWritesResult) : Lay.tWritesResult.vcnt x = (Lay.sl Lay.tWrite).vcnt x.writes := by
  show 0 + ((Lay.sl Lay.tWrite).vcnt x.writes) = (Lay.sl Lay.tWrite).vcnt x.writes
  omega
theorem mkv_WritesResult (k : Int) (x : DWritesResult) : Lay.tWritesResult.mkv k x = ⟨x.code, (Lay.sl Lay.tWrite).mkv (k) x.writes⟩ := by
  simp [Lay.tWritesResult, Lay.via, Lay.pair, Lay.int]
theorem own_WritesResult {w : World} {cs : List Value} {x : DWritesResult} {bl : List Nat} (h : Lay.tWritesResult.Own w cs x bl) : ∃ (a1 : Option Addr) (d1 : Nat) (g1 : List Nat), cs = [.int .i64 x.code, .slice a1 x.writes.length d1] ∧ bl = g1 ∧ (Lay.sl Lay.tWrite).Own w [.slice a1 x.writes.length d1] x.writes g1 ∧ (Lit.int .i64 x.code).wf = true := by
  obtain ⟨hl, hn, hf⟩ := h
  obtain ⟨a1, d1, b1, rfl, hbl, w0, l1⟩ := lies_WritesResult.1 hl
  rw [hbl] at hn hf
  exact ⟨a1, d1, b1, rfl, hbl, ⟨l1, hn, hf⟩, w0⟩
theorem mkOwn_WritesResult {w : World} {x : DWritesResult} {c1 : List Value} {g1 : List Nat} (O1 : (Lay.sl Lay.tWrite).Own w c1 x.writes g1) (v0 : (Lit.int .i64 x.code).wf = true) (hn : (g1).Nodup) : Lay.tWritesResult.Own w ([.int .i64 x.code] ++ c1) x (g1) := by
  refine ⟨⟨[.int .i64 x.code], c1, [], g1, rfl, by simp, ⟨rfl, v0, rfl⟩, O1.1⟩, hn, ?_⟩
  intro b hb o
  exact O1.2.2 b hb o

end Go.Proofs.Ytipomhpimmnchaa

namespace Go.Proofs.Ytipomhpimmnchaa
open Go.RowKit

theorem lies_store {α : Type} {A : Lay α} {w w4 : World} {cs vs : List Value} {y : α} {lo hi : Nat} (h : A.LiesIn w4 cs y lo hi) (hlo : w.heap.size < lo) (hhi : hi ≤ w4.heap.size) :
    A.LiesIn (setAll w4 w.heap.size 0 vs) cs y w.heap.size (setAll w4 w.heap.size 0 vs).heap.size := by
  rw [size_setAll]
  exact (h.ext (ext_setAll (fun q => q = w.heap.size) (Ext.refl _ _) _ _ _ rfl) (fun q h1 h2 h3 => by omega)).mono (by omega) hhi
theorem own_store {α : Type} {A : Lay α} {w w4 : World} {cs vs : List Value} {y : α} {lo hi : Nat} (h : A.OwnIn w4 cs y lo hi) (hlo : w.heap.size < lo) (hhi : hi ≤ w4.heap.size) :
    A.OwnIn (setAll w4 w.heap.size 0 vs) cs y w.heap.size (setAll w4 w.heap.size 0 vs).heap.size := by
  rw [size_setAll]
  exact (h.ext (ext_setAll (fun q => q = w.heap.size) (Ext.refl _ _) _ _ _ rfl) (fun q h1 h2 h3 => by omega)).mono (by omega) hhi

/-- The block s alone may turn, and it is none of those that the answer lies in. -/
theorem lies_store' {α : Type} {A : Lay α} {w4 : World} {s : Nat} {cs vs : List Value} {y : α} {lo hi : Nat} (h : A.LiesIn w4 cs y lo hi) (hs : s < lo) : A.LiesIn (setAll w4 s 0 vs) cs y lo hi :=
  h.ext (ext_setAll (fun q => q = s) (Ext.refl _ _) _ _ _ rfl) (fun q h1 h2 h3 => by omega)
theorem own_store' {α : Type} {A : Lay α} {w4 : World} {s : Nat} {cs vs : List Value} {y : α} {lo hi : Nat} (h : A.OwnIn w4 cs y lo hi) (hs : s < lo) : A.OwnIn (setAll w4 s 0 vs) cs y lo hi :=
  h.ext (ext_setAll (fun q => q = s) (Ext.refl _ _) _ _ _ rfl) (fun q h1 h2 h3 => by omega)

theorem nil_own {α : Type} {A : Lay α} {w : World} {lo hi : Nat} : (Lay.sl A).OwnIn w [.slice none 0 0] [] lo hi := ⟨[], ⟨⟨none, 0, rfl, by simp, Or.inl ⟨rfl, rfl⟩⟩, by simp, by simp⟩, by simp⟩
theorem own_wsR {w : World} {c : Int} {v : Value} {xs : List DWrite} {lo hi : Nat} (hc : (Lit.int .i64 c).wf = true) (h : (Lay.sl Lay.tWrite).OwnIn w [v] xs lo hi) : Lay.tWritesResult.OwnIn w [.int .i64 c, v] ⟨c, xs⟩ lo hi := by
  obtain ⟨bl, ⟨l, n, f⟩, r⟩ := h
  exact ⟨bl, ⟨⟨[.int .i64 c], [v], [], bl, rfl, by simp, ⟨rfl, hc, rfl⟩, l⟩, n, f⟩, r⟩
theorem lies_wsR {w : World} {c : Int} {v : Value} {xs : List DWrite} {lo hi : Nat} (hc : (Lit.int .i64 c).wf = true) (h : (Lay.sl Lay.tWrite).LiesIn w [v] xs lo hi) : Lay.tWritesResult.LiesIn w [.int .i64 c, v] ⟨c, xs⟩ lo hi := by
  obtain ⟨bl, l, r⟩ := h
  exact ⟨bl, ⟨[.int .i64 c], [v], [], bl, rfl, by simp, ⟨rfl, hc, rfl⟩, l⟩, r⟩
theorem own_isR {w : World} {c : Int} {v : Value} {xs : List Int} {lo hi : Nat} (hc : (Lit.int .i64 c).wf = true) (h : (Lay.sl Lay.int).OwnIn w [v] xs lo hi) : Lay.tIntsResult.OwnIn w [.int .i64 c, v] ⟨c, xs⟩ lo hi := by
  obtain ⟨bl, ⟨l, n, f⟩, r⟩ := h
  exact ⟨bl, ⟨⟨[.int .i64 c], [v], [], bl, rfl, by simp, ⟨rfl, hc, rfl⟩, l⟩, n, f⟩, r⟩
theorem lies_isR {w : World} {c : Int} {v : Value} {xs : List Int} {lo hi : Nat} (hc : (Lit.int .i64 c).wf = true) (h : (Lay.sl Lay.int).LiesIn w [v] xs lo hi) : Lay.tIntsResult.LiesIn w [.int .i64 c, v] ⟨c, xs⟩ lo hi := by
  obtain ⟨bl, l, r⟩ := h
  exact ⟨bl, ⟨[.int .i64 c], [v], [], bl, rfl, by simp, ⟨rfl, hc, rfl⟩, l⟩, r⟩

/-- A log of two rows that lie apart. -/
theorem own_logR {w : World} {c n : Int} {u v : Value} {xs ys : List Int} {lo m m' hi : Nat} (hc : (Lit.int .i64 c).wf = true) (hn : (Lit.int .i64 n).wf = true) (h : (Lay.sl Lay.int).OwnIn w [u] xs lo m) (k : (Lay.sl Lay.int).OwnIn w [v] ys m' hi) (hm : m ≤ m') (hlo : lo ≤ m') (hhi : m ≤ hi) :
    Lay.tLogResult.OwnIn w [.int .i64 c, .int .i64 n, u, v] ⟨c, n, ⟨xs, ys⟩⟩ lo hi := by
  obtain ⟨bl, ⟨l, nd, f⟩, r⟩ := Lay.ownIn_pair h k hm hlo hhi
  exact ⟨bl, ⟨⟨[.int .i64 c], [.int .i64 n, u, v], [], bl, rfl, by simp, ⟨rfl, hc, rfl⟩, ⟨[.int .i64 n], [u, v], [], bl, rfl, by simp, ⟨rfl, hn, rfl⟩, l⟩⟩, nd, f⟩, r⟩
theorem lies_logR {w : World} {c n : Int} {u v : Value} {xs ys : List Int} {lo hi : Nat} (hc : (Lit.int .i64 c).wf = true) (hn : (Lit.int .i64 n).wf = true) (h : (Lay.sl Lay.int).LiesIn w [u] xs lo hi) (k : (Lay.sl Lay.int).LiesIn w [v] ys lo hi) :
    Lay.tLogResult.LiesIn w [.int .i64 c, .int .i64 n, u, v] ⟨c, n, ⟨xs, ys⟩⟩ lo hi := by
  obtain ⟨b1, l1, r1⟩ := h
  obtain ⟨b2, l2, r2⟩ := k
  refine ⟨b1 ++ b2, ⟨[.int .i64 c], [.int .i64 n, u, v], [], b1 ++ b2, rfl, by simp, ⟨rfl, hc, rfl⟩, ⟨[.int .i64 n], [u, v], [], b1 ++ b2, rfl, by simp, ⟨rfl, hn, rfl⟩, ⟨[u], [v], b1, b2, rfl, rfl, l1, l2⟩⟩⟩, fun b hb => ?_⟩
  rcases List.mem_append.1 hb with hb | hb
  · exact r1 b hb
  · exact r2 b hb
theorem own_badLog {w : World} {c : Int} {lo hi : Nat} (hc : (Lit.int .i64 c).wf = true) (hlh : lo ≤ hi) : Lay.tLogResult.OwnIn w [.int .i64 c, .int .i64 0, .slice none 0 0, .slice none 0 0] (badLog c) lo hi :=
  own_logR hc (by decide) (nil_own (lo := lo) (hi := lo)) (nil_own (lo := lo) (hi := hi)) (Nat.le_refl _) (Nat.le_refl _) hlh
theorem logFault_wf (x : DLog) : (Lit.int .i64 (logFault x)).wf = true := by
  unfold logFault
  split
  · decide
  · split <;> decide
theorem logFault_zero {x : DLog} (h : logFault x = 0) : x.sure.length + x.loose.length ≤ 320 ∧ 8 * cnt x.sure = x.sure.length ∧ 8 * cnt x.loose = x.loose.length := by
  unfold logFault at h
  split at h
  · simp at h
  · rename_i h1
    split at h
    · rename_i h2
      exact ⟨by omega, h2⟩
    · simp at h
end Go.Proofs.Ytipomhpimmnchaa

namespace Go.Proofs.Ytipomhpimmnchaa
open Go.RowKit

/-- A log that is pointed at. -/
def LogAt (w : World) (b : Nat) (u v : Value) : Prop := w.cell? ⟨b, 0, none⟩ = some u ∧ w.cell? ⟨b, 1, none⟩ = some v

set_option maxRecDepth 100000 in
set_option maxHeartbeats 2000000 in
theorem l8Fault (b : Nat) (u v : Value) (x : DLog) (w : World) (hc : LogAt w b u v) (h1 : (Lay.sl Lay.int).Reads w [u] x.sure) (h2 : (Lay.sl Lay.int).Reads w [v] x.loose) (n1 : x.sure.length ≤ 10000000) (n2 : x.loose.length ≤ 10000000) :
    Calls Try.prog 62 #[.pointer (some ⟨b, 0, none⟩)] w fun e w' => e = .returned (.int .i64 (logFault x)) ∧ Below w.heap.size w w' := by
  obtain ⟨c0, c1⟩ := hc
  obtain ⟨a1, d1, rfl⟩ := open_sl h1
  obtain ⟨a2, d2, rfl⟩ := open_sl h2
  have H1 := hide h1
  have H2 := hide h2
  clear h1 h2
  have hbl : b < w.heap.size := World.block_lt_of_cell? _ _ c0
  by_cases hn : 320 < x.sure.length + x.loose.length
  · have HF : Hid (logFault x = 2) := by show logFault x = 2; rw [logFault, if_pos hn]
    have hd : (decide ((320 : Int) < (x.sure.length : Int) + (x.loose.length : Int))) = true := by simp; omega
    go_enter Try.func62, Try.ntmps62
    go_wp2_with fail
    go_quiet (fail)
    go_wp2_with fail
    go_ret
    exact ⟨by rw [unhide HF]; rfl, below_drewN (Below.refl _ _) _⟩
  · have hd : (decide ((320 : Int) < (x.sure.length : Int) + (x.loose.length : Int))) = false := by simp; omega
    go_enter Try.func62, Try.ntmps62
    go_wp2_with fail
    go_quiet (fail)
    have hB0 : Below w.heap.size w (w.drewN nq) := below_drewN (Below.refl _ _) _
    have hnq : nq = nq := rfl
    generalize w.drewN nq = W at *
    have e0 := cell_keep hB0 c0
    have e1 := cell_keep hB0 c1
    have HL := hide (read8C _ x.sure W ((unhide H1).later hB0) n1)
    have HB0 := hide hB0
    clear c0 c1 hB0 hnq hd
    go_wp2_with fail
    refine (unhide HL).mono ?_
    rintro e w2 ⟨v2, rfl, R, hb⟩
    obtain ⟨a3, c3, rfl⟩ := open_sl R.reads
    replace e0 := cell_keep hb e0
    replace e1 := cell_keep hb e1
    have HB2 := hide ((unhide HB0).trans (hb.mono (unhide HB0).size))
    clear HL R hb HB0
    by_cases hs : 8 * cnt x.sure = x.sure.length
    · have hd1 : (((8 * cnt x.sure : Nat) : Int) != (x.sure.length : Int)) = false := by rw [hs]; simp
      have HW : Hid (logFault x = if 8 * cnt x.loose = x.loose.length then 0 else 5) := by
        show logFault x = _
        rw [logFault, if_neg hn]
        by_cases h9 : 8 * cnt x.loose = x.loose.length
        · rw [if_pos ⟨hs, h9⟩, if_pos h9]
        · rw [if_neg (fun q => h9 q.2), if_neg h9]
      have hc1 := cnt_le x.sure
      generalize (readL x.sure).length = r1 at *
      generalize hq1 : (8 * cnt x.sure : Nat) = q1 at *
      clear hs hq1
      have HL := hide (read8C _ x.loose w2 ((unhide H2).later (unhide HB2)) n2)
      go_wp2_with fail
      refine (unhide HL).mono ?_
      rintro e w3 ⟨v3, rfl, R, hb⟩
      obtain ⟨a4, c4, rfl⟩ := open_sl R.reads
      replace e0 := cell_keep hb e0
      replace e1 := cell_keep hb e1
      have HB3 := hide ((unhide HB2).trans (hb.mono (unhide HB2).size))
      clear HL R hb HB2
      generalize (readL x.loose).length = r2 at *
      have hc2 := cnt_le x.loose
      by_cases hl : 8 * cnt x.loose = x.loose.length
      · have hd2 : (((8 * cnt x.loose : Nat) : Int) != (x.loose.length : Int)) = false := by rw [hl]; simp
        have HX : Hid (logFault x = 0) := by show logFault x = 0; rw [unhide HW, if_pos hl]
        generalize hq2 : (8 * cnt x.loose : Nat) = q2 at *
        clear hl HW hq2
        go_wp2_with fail
        go_ret
        exact ⟨by rw [unhide HX]; rfl, unhide HB3⟩
      · have hd2 : (((8 * cnt x.loose : Nat) : Int) != (x.loose.length : Int)) = true := by rw [bne_iff_ne]; omega
        have HX : Hid (logFault x = 5) := by show logFault x = 5; rw [unhide HW, if_neg hl]
        generalize hq2 : (8 * cnt x.loose : Nat) = q2 at *
        clear hl HW hq2
        go_wp2_with fail
        go_ret
        exact ⟨by rw [unhide HX]; rfl, unhide HB3⟩
    · have hd1 : (((8 * cnt x.sure : Nat) : Int) != (x.sure.length : Int)) = true := by rw [bne_iff_ne]; omega
      have HX : Hid (logFault x = 5) := by show logFault x = 5; rw [logFault, if_neg hn, if_neg (fun q => hs q.1)]
      have hc1 := cnt_le x.sure
      generalize (readL x.sure).length = r1 at *
      generalize hq1 : (8 * cnt x.sure : Nat) = q1 at *
      clear hs hq1
      go_wp2_with fail
      go_ret
      exact ⟨by rw [unhide HX]; rfl, unhide HB2⟩

theorem sz_log {x : DLog} (h : Lay.tLog.sz x ≤ 1048576) : x.sure.length ≤ 10000000 ∧ x.loose.length ≤ 10000000 := by
  have h1 : (Lay.sl Lay.int).sz x.sure + (Lay.sl Lay.int).sz x.loose ≤ 1048576 := h
  have h2 := Lay.sz_len (A := Lay.int) (xs := x.sure)
  have h3 := Lay.sz_len (A := Lay.int) (xs := x.loose)
  omega
set_option maxHeartbeats 400000 in
/-- LogFault of the model. -/
theorem specLogFault (cs : List Value) (x : DLog) (w : World) (h : Lay.tLog.Reads w cs x) (n1 : x.sure.length ≤ 10000000) (n2 : x.loose.length ≤ 10000000) :
    Calls Try.prog 29 #[.agg cs.toArray] w fun e w' => e = .returned (.int .i64 (logFault x)) ∧ Below w.heap.size w w' := by
  obtain ⟨a0, d0, a1, d1, rfl, R0, R1⟩ := open_Log h
  clear h
  have nb : Below w.heap.size w (w.alloc (.cells #[.slice a0 x.sure.length d0, .slice a1 x.loose.length d1] 48)) := (Below.refl _ _).alloc (Nat.le_refl _) _
  have bL : Box w.heap.size #[.slice a0 x.sure.length d0, .slice a1 x.loose.length d1] 48 (w.alloc (.cells #[.slice a0 x.sure.length d0, .slice a1 x.loose.length d1] 48)) w.heap.size := newBox (Nat.le_refl _)
  have HL := hide (l8Fault w.heap.size _ _ x _ ⟨bL.at 0 _ rfl, bL.at 1 _ rfl⟩ (R0.later nb) (R1.later nb) n1 n2)
  have HB := hide nb
  clear nb bL R0 R1
  go_enter Try.func29, Try.ntmps29
  go_wp2_with fail
  refine (unhide HL).mono ?_
  rintro e w2 ⟨rfl, hb⟩
  have HB2 := hide ((unhide HB).trans (hb.mono (unhide HB).size))
  clear HL hb HB
  go_wp2_with fail
  go_ret
  exact ⟨rfl, unhide HB2⟩

end Go.Proofs.Ytipomhpimmnchaa

namespace Go.Proofs.Ytipomhpimmnchaa
open Go.RowKit

theorem count_eq (a b : Nat) : ((a : Int) + (b : Int)).tdiv 8 = (((a + b) / 8 : Nat) : Int) := by
  rw [← Int.natCast_add, Int.tdiv_eq_ediv_of_nonneg (by omega)]
  omega
theorem count_wf {n : Nat} (h : n ≤ 100000000) : (Lit.int .i64 (n : Int)).wf = true := wf_of_bd (by omega)

set_option maxRecDepth 100000 in
set_option maxHeartbeats 2000000 in
theorem l8OfC (u v : Value) (xs ys : List Int) (w : World) (h1 : (Lay.sl Lay.int).Reads w [u] xs) (h2 : (Lay.sl Lay.int).Reads w [v] ys) (n1 : xs.length ≤ 10000000) (n2 : ys.length ≤ 10000000) :
    Calls Try.prog 64 #[u, v] w fun e w' => ∃ a c a' c', e = .returned (.agg #[.int .i64 0, .int .i64 (((xs.length + ys.length) / 8 : Nat) : Int), .slice a xs.length c, .slice a' ys.length c']) ∧ Lay.tLogResult.LiesIn w' [.int .i64 0, .int .i64 (((xs.length + ys.length) / 8 : Nat) : Int), .slice a xs.length c, .slice a' ys.length c'] (logOf xs ys) w.heap.size w'.heap.size ∧ Below w.heap.size w w' := by
  have nb : Below w.heap.size w (w.alloc (.cells #[.int .i64 0, .int .i64 0, .slice none 0 0, .slice none 0 0] 56)) := (Below.refl _ _).alloc (Nat.le_refl _) _
  have bR : Box w.heap.size #[.int .i64 0, .int .i64 0, .slice none 0 0, .slice none 0 0] 56 (w.alloc (.cells #[.int .i64 0, .int .i64 0, .slice none 0 0, .slice none 0 0] 56)) w.heap.size := newBox (Nat.le_refl _)
  have H1 := hide (h1.later nb)
  have H2 := hide (h2.later nb)
  obtain ⟨a1, d1, rfl⟩ := open_sl h1
  obtain ⟨a2, d2, rfl⟩ := open_sl h2
  have HB := hide nb
  have HR := hide bR
  have HC : Hid (((xs.length : Int) + (ys.length : Int)).tdiv 8 = (((xs.length + ys.length) / 8 : Nat) : Int)) := count_eq _ _
  have HCW : Hid ((Lit.int .i64 (((xs.length + ys.length) / 8 : Nat) : Int)).wf = true) := count_wf (by omega)
  clear h1 h2 nb bR
  go_enter Try.func64, Try.ntmps64
  go_upto_region 1 with fail
  generalize w.alloc (.cells #[.int .i64 0, .int .i64 0, .slice none 0 0, .slice none 0 0] 56) = W0 at *
  have HL1 := hide (l1Ints _ xs W0 (Lay.ints_reads (unhide H1)) (by omega))
  have HW1 := hide (Lay.ints_reads (unhide H1)).wf
  have HW2 := hide (Lay.ints_reads (unhide H2)).wf
  go_wp2_with fail
  refine (unhide HL1).mono ?_
  rintro e w2 ⟨v2, rfl, O, hb⟩
  have hO1 := Lay.ownInts (unhide HW1) (by omega) O
  obtain ⟨a3, c3, rfl⟩ := open_sl hO1.reads
  have HL2 := hide (l1Ints _ ys w2 (Lay.ints_reads ((unhide H2).later hb)) (by omega))
  have HR2 := hide ((unhide HR).keep hb)
  have HB2 := hide ((unhide HB).trans (hb.mono (unhide HB).size))
  have HLT := hide (unhide HR).lt
  have HO1 := hide hO1
  have HZ := hide hb.size
  clear O hb hO1 HL1 HR HB H1 H2
  go_wp2_with fail
  refine (unhide HL2).mono ?_
  rintro e w3 ⟨v3, rfl, O, hb⟩
  have hO2 := Lay.ownInts (unhide HW2) (by omega) O
  obtain ⟨a4, c4, rfl⟩ := open_sl hO2.reads
  have hO1 := (unhide HO1).later hb
  have HLL : Hid (Lay.tLogResult.LiesIn w3 [.int .i64 0, .int .i64 (((xs.length + ys.length) / 8 : Nat) : Int), .slice a3 xs.length c3, .slice a4 ys.length c4] (logOf xs ys) W0.heap.size w3.heap.size) :=
    lies_logR (by decide) (unhide HCW) (hO1.lies.mono (Nat.le_refl _) hb.size) (hO2.lies.mono (unhide HZ) (Nat.le_refl _))
  have HB3 := hide ((unhide HB2).trans (hb.mono (unhide HB2).size))
  have bR := (unhide HR2).keep hb
  have z0 := bR.at 0 _ rfl
  have z1 := bR.at 1 _ rfl
  have z2 := bR.at 2 _ rfl
  have z3 := bR.at 3 _ rfl
  have ff := bR.soft
  have l0 := bR.lt
  clear O hb hO1 hO2 HO1 HL2 HR2 HB2 bR HZ
  go_wp2_with fail
  refine bodyPost_ret (v := .agg #[.int .i64 0, .int .i64 (((xs.length + ys.length) / 8 : Nat) : Int), .slice a3 xs.length c3, .slice a4 ys.length c4]) (by simp [results, Try.results64, go_sem, z0, z1, z2, z3]) rfl ?_
  exact ⟨a3, c3, a4, c4, rfl, lies_store (vs := [.int .i64 0, .int .i64 _, .slice a3 xs.length c3, .slice a4 ys.length c4]) (unhide HLL) (unhide HLT) (Nat.le_refl _), below_setAll (unhide HB3) w.heap.size 0 [.int .i64 0, .int .i64 _, .slice a3 xs.length c3, .slice a4 ys.length c4] (Nat.le_refl _)⟩

/-- The same, with names for all that is in the answer. -/
theorem l8OfD (u v : Value) (xs ys : List Int) (w : World) (h1 : (Lay.sl Lay.int).Reads w [u] xs) (h2 : (Lay.sl Lay.int).Reads w [v] ys) (n1 : xs.length ≤ 10000000) (n2 : ys.length ≤ 10000000) :
    Calls Try.prog 64 #[u, v] w fun e w' => ∃ (cn : Int) (a : Option Addr) (n c : Nat) (a' : Option Addr) (n' c' : Nat), e = .returned (.agg #[.int .i64 0, .int .i64 cn, .slice a n c, .slice a' n' c']) ∧ Lay.tLogResult.LiesIn w' [.int .i64 0, .int .i64 cn, .slice a n c, .slice a' n' c'] (logOf xs ys) w.heap.size w'.heap.size ∧ Below w.heap.size w w' := by
  refine (l8OfC u v xs ys w h1 h2 n1 n2).mono ?_
  rintro e w' ⟨a, c, a', c', h⟩
  exact ⟨_, a, _, c, a', _, c', h⟩

end Go.Proofs.Ytipomhpimmnchaa

namespace Go.Proofs.Ytipomhpimmnchaa
open Go.RowKit

theorem step_append_ints {w : World} {base : Nat} {v : Value} {n : Nat} {xs : List Value} (hown : w.ownsRow base 2 1 v n xs) {X : Value} {ks : List Int} (hx : IsInts w X ks)
    {ops : Array Oper} {o : Oper} {a : Act} {K : Act → World → Prop} {Q : Exit → Act → World → Prop} {E : Prop} (hgd : o.guard = none) (s x : Operand)
    (ho : o.op = .call { callee := .builtin .append, args := #[s, x], argTypes := #[24, 24] }) (hv : a.eval s = v) (hX : a.eval x = X)
    (hn : n + ks.length ≤ 100000000) (hbase : base ≤ w.heap.size)
    (h : ∀ v' w', w'.ownsRow base 2 1 v' (n + ks.length) (xs ++ ks.map (Value.int .i64)) → w.grownBy w' v.ownBlock → Below base w w' → K (a.put o.dst v') w') :
    if Region.wanted o (yielded ops a.tmps) = true then Oper.wp Try.prog o a w K Q else E := by
  rw [if_pos (show Region.wanted o (yielded ops a.tmps) = true by simp [Region.wanted, hgd])]
  obtain ⟨v', w', hr, h2, h3⟩ := run_append_ints base o.type v n xs hown X ks hx hn hbase
  unfold Oper.wp execOp
  simp only [ho, resolve, invoke, builtin, Sem.run_bind, Sem.run_pure, Result.andThen_ok, List.map_toArray, List.map_cons, List.map_nil, hv, hX, hr]
  exact h v' w' h2 h3 ((Below.refl _ _).grown h3 hbase (fun j hj => (hown.lt j hj).1))

end Go.Proofs.Ytipomhpimmnchaa

namespace Go.Proofs.Ytipomhpimmnchaa
open Go.RowKit

set_option maxRecDepth 100000 in
set_option maxHeartbeats 4000000 in
theorem specCrashLog (cs : List Value) (x : DLog) (kept : Int) (w : World) (h : Lay.tLog.Reads w cs x) (n1 : x.sure.length ≤ 10000000) (n2 : x.loose.length ≤ 10000000) :
    Calls Try.prog 45 #[.agg cs.toArray, .int .i64 kept] w fun e w' => ∃ cs, e = .returned (.agg cs.toArray) ∧ Lay.tLogResult.LiesIn w' cs (crashLogR x kept) w.heap.size w'.heap.size ∧ Below w.heap.size w w' := by
  obtain ⟨a0, d0, a1, d1, rfl, R0, R1⟩ := open_Log h
  clear h
  have nb : Below w.heap.size w ((w.alloc (.cells #[.slice a0 x.sure.length d0, .slice a1 x.loose.length d1] 48)).alloc (.cells #[.int .i64 0, .int .i64 0, .slice none 0 0, .slice none 0 0] 56)) := ((Below.refl _ _).alloc (Nat.le_refl _) _).alloc (by simp) _
  have bX : Box w.heap.size #[.slice a0 x.sure.length d0, .slice a1 x.loose.length d1] 48 ((w.alloc (.cells #[.slice a0 x.sure.length d0, .slice a1 x.loose.length d1] 48)).alloc (.cells #[.int .i64 0, .int .i64 0, .slice none 0 0, .slice none 0 0] 56)) w.heap.size := (newBox (Nat.le_refl _)).grow _
  have bR : Box 0 #[.int .i64 0, .int .i64 0, .slice none 0 0, .slice none 0 0] 56 ((w.alloc (.cells #[.slice a0 x.sure.length d0, .slice a1 x.loose.length d1] 48)).alloc (.cells #[.int .i64 0, .int .i64 0, .slice none 0 0, .slice none 0 0] 56)) (w.heap.size + 1) := newBoxAt (Nat.zero_le _) (by simp)
  have HL := hide (l8Fault w.heap.size _ _ x _ ⟨bX.at 0 _ rfl, bX.at 1 _ rfl⟩ (R0.later nb) (R1.later nb) n1 n2)
  have H0 := hide R0
  have H1 := hide R1
  have HX0 := hide bX
  have HR0 := hide bR
  have HB0 := hide nb
  clear nb bX bR R0 R1
  go_enter Try.func45, Try.ntmps45
  go_wp2_with fail
  generalize (w.alloc (.cells #[.slice a0 x.sure.length d0, .slice a1 x.loose.length d1] 48)).alloc (.cells #[.int .i64 0, .int .i64 0, .slice none 0 0, .slice none 0 0] 56) = W0 at *
  refine (unhide HL).mono ?_
  rintro e W2 ⟨rfl, hb⟩
  have HX := hide ((unhide HX0).keep hb)
  have HR := hide ((unhide HR0).keep hb)
  have HB2 := hide ((unhide HB0).trans (hb.mono (unhide HB0).size))
  clear hb HL HX0 HR0 HB0
  by_cases hf : logFault x = 0
  · obtain ⟨hn, hs, hl⟩ := logFault_zero hf
    have HF := hide hf
    rw [hf]
    clear hf hs hl
    have x1 := (unhide HX).at 1 _ rfl
    simp only [List.getElem_toArray, List.getElem_cons_zero, List.getElem_cons_succ] at x1
    have hxl := (unhide HX).lt
    have LI := hide (inC kept 0 (x.loose.length : Int) W2)
    go_wp2_with fail
    refine (unhide LI).mono ?_
    rintro e W3 ⟨rfl, h3⟩
    subst W3
    clear LI x1
    by_cases hk : 0 ≤ kept ∧ kept ≤ x.loose.length
    · have hd2 : (decide (0 ≤ kept) && decide (kept ≤ (x.loose.length : Int))) = true := by simpa using hk
      rw [hd2]
      have HY0 : Hid (crashLogR x kept = logOf ((keptOf x kept).take (8 * cnt (keptOf x kept))) []) := by show crashLogR x kept = _; rw [crashLogR, if_pos (unhide HF), if_pos hk]
      obtain ⟨k, rfl⟩ : ∃ k : Nat, kept = (k : Int) := ⟨kept.toNat, by omega⟩
      have hk1 : k ≤ x.loose.length := by omega
      have HY : Hid (crashLogR x (k : Int) = logOf ((x.sure ++ x.loose.take k).take (8 * cnt (x.sure ++ x.loose.take k))) []) := by
        have := unhide HY0
        rw [keptOf, Int.toNat_natCast] at this
        exact this
      clear HF hd2 hk HY0
      have hc1 := (unhide H1).cap.2
      have HWA : Hid (∀ z ∈ x.sure ++ x.loose.take k, (Lit.int .i64 z).wf = true) := by
        intro z hz
        rcases List.mem_append.1 hz with hz | hz
        · exact (Lay.ints_reads (unhide H0)).wf z hz
        · exact (Lay.ints_reads (unhide H1)).wf z (List.mem_of_mem_take hz)
      go_wp2_with fail
      have hRD : Box 0 #[.int .i64 0, .int .i64 0, .slice none 0 0, .slice none 0 0] 56 W2.drew (w.heap.size + 1) := (unhide HR).drew
      refine wp_region_noPanic ?_
      refine wp_region_held_drew (S := fun w' => Below (w.heap.size + 1) W2 w') (by kernel_rfl) (Below.refl _ _).drew (fun hHeld => ?_)
      generalize W2.drew = wD at hHeld hRD ⊢
      refine wpAnyH_take (i := 0) (oi := { dst := some 21, op := Go.Op.fieldAddr 48 (Go.Operand.tmp 2) 0, type := 0, pos := "l08_log.go:95", after := #[], guard := none }) (v := ?v0_1) rfl (by kernel_rfl) (by kernel_rfl) (by kernel_rfl) (fun _ _ _ h => h) (Or.inl ⟨by rfl, ?h0_1⟩) hHeld ?r0_1
      case h0_1 =>
        intro wS hSw
        (try dsimp only at hSw)
        go_simp
        try with_reducible rfl
      case r0_1 =>
      simp only [Act.put, List.setIfInBounds_toArray, List.set_cons_zero, List.set_cons_succ]
      refine wpAnyH_take (i := 1) (oi := { dst := some 22, op := Go.Op.load 24 (Go.Operand.tmp 21), type := 24, pos := "l08_log.go:95", after := #[{ on := 0, ground := Go.Ground.data }], guard := none }) (v := ?v1_2) rfl (by kernel_rfl) (by kernel_rfl) (by kernel_rfl) (fun _ _ _ h => h) (Or.inl ⟨by rfl, ?h1_2⟩) hHeld ?r1_2
      case h1_2 =>
        intro wS hSw
        have y0 : wS.cell? ⟨w.heap.size, 0, none⟩ = some (.slice a0 x.sure.length d0) := (hSw.cell (p := ⟨w.heap.size, 0, none⟩) (by simp)).trans ((unhide HX).at 0 _ rfl)
        clear hSw
        (try dsimp only at hSw)
        go_simp
        try with_reducible rfl
      case r1_2 =>
      simp only [Act.put, List.setIfInBounds_toArray, List.set_cons_zero, List.set_cons_succ]
      refine wpAnyH_take (i := 3) (oi := { dst := some 24, op := Go.Op.fieldAddr 48 (Go.Operand.tmp 2) 1, type := 0, pos := "l08_log.go:95", after := #[], guard := none }) (v := ?v3_3) rfl (by kernel_rfl) (by kernel_rfl) (by kernel_rfl) (fun _ _ _ h => h) (Or.inl ⟨by rfl, ?h3_3⟩) hHeld ?r3_3
      case h3_3 =>
        intro wS hSw
        (try dsimp only at hSw)
        go_simp
        try with_reducible rfl
      case r3_3 =>
      simp only [Act.put, List.setIfInBounds_toArray, List.set_cons_zero, List.set_cons_succ]
      refine wpAnyH_take (i := 4) (oi := { dst := some 25, op := Go.Op.load 24 (Go.Operand.tmp 24), type := 24, pos := "l08_log.go:95", after := #[{ on := 3, ground := Go.Ground.data }], guard := none }) (v := ?v4_4) rfl (by kernel_rfl) (by kernel_rfl) (by kernel_rfl) (fun _ _ _ h => h) (Or.inl ⟨by rfl, ?h4_4⟩) hHeld ?r4_4
      case h4_4 =>
        intro wS hSw
        have y1 : wS.cell? ⟨w.heap.size, 1, none⟩ = some (.slice a1 x.loose.length d1) := (hSw.cell (p := ⟨w.heap.size, 1, none⟩) (by simp)).trans ((unhide HX).at 1 _ rfl)
        clear hSw
        (try dsimp only at hSw)
        go_simp
        try with_reducible rfl
      case r4_4 =>
      simp only [Act.put, List.setIfInBounds_toArray, List.set_cons_zero, List.set_cons_succ]
      refine wpAnyH_take (i := 5) (oi := { dst := some 26, op := Go.Op.move (Go.Operand.tmp 1), type := 2, pos := "l08_log.go:95", after := #[], guard := none }) (v := ?v5_5) rfl (by kernel_rfl) (by kernel_rfl) (by kernel_rfl) (fun _ _ _ h => h) (Or.inl ⟨by rfl, ?h5_5⟩) hHeld ?r5_5
      case h5_5 =>
        intro wS hSw
        (try dsimp only at hSw)
        go_simp
        try with_reducible rfl
      case r5_5 =>
      simp only [Act.put, List.setIfInBounds_toArray, List.set_cons_zero, List.set_cons_succ]
      refine wpAnyH_take (i := 6) (oi := { dst := some 27, op := Go.Op.slice 24 (Go.Operand.tmp 25) none (some (Go.Operand.tmp 26)) none, type := 24, pos := "l08_log.go:95", after := #[{ on := 4, ground := Go.Ground.data }, { on := 5, ground := Go.Ground.data }], guard := none }) (v := ?v6_6) rfl (by kernel_rfl) (by kernel_rfl) (by kernel_rfl) (fun _ _ _ h => h) (Or.inl ⟨by rfl, ?h6_6⟩) hHeld ?r6_6
      case h6_6 =>
        intro wS hSw
        have hkd : k ≤ d1 := by omega
        clear hSw
        (try dsimp only at hSw)
        go_simp
        try with_reducible rfl
      case r6_6 =>
      simp only [Act.put, List.setIfInBounds_toArray, List.set_cons_zero, List.set_cons_succ]
      refine wpAnyH_ready (rs := [2]) (by kernel_rfl) (by simp) ?_
      refine AllReadyH.cons (o := { dst := some 23, op := Go.Op.call { callee := Go.Callee.value (Go.Operand.func 65), args := #[Go.Operand.tmp 22], argTypes := #[24] }, type := 24, pos := "l08_log.go:95", after := #[{ on := 1, ground := Go.Ground.data }], guard := none }) rfl (fun K hK => ?_) AllReadyH.nil
      go_simp
      go_at_call 65
      have hWD := (unhide HB2).trans (hHeld.mono (by omega))
      refine (l1Ints _ x.sure _ (Lay.ints_reads ((unhide H0).later hWD)) (by omega)).mono ?_
      rintro e w3 ⟨v3, rfl, O3, hbw⟩
      have hH3 := hWD.trans (hbw.mono hWD.size)
      have hS3 := hHeld.trans (hbw.mono (by have := hRD.lt; omega))
      have bR3 := hRD.keep hbw
      have hz3 := hbw.size
      try go_wp2_with fail
      refine hK.out _ _ hS3 (fun hHeld => ?_)
      clear hK K
      try simp only [Act.put, List.setIfInBounds_toArray, List.set_cons_zero, List.set_cons_succ]
      refine wpAnyH_ready (rs := [7]) (by kernel_rfl) (by simp) ?_
      refine AllReadyH.cons (o := { dst := some 28, op := Go.Op.call { callee := Go.Callee.builtin Go.Builtin.append, args := #[Go.Operand.tmp 23, Go.Operand.tmp 27], argTypes := #[24, 24] }, type := 24, pos := "l08_log.go:95", after := #[{ on := 2, ground := Go.Ground.data }, { on := 6, ground := Go.Ground.data }, { on := 2, ground := Go.Ground.chain }], guard := none }) rfl (fun K hK => ?_) AllReadyH.nil
      refine step_append_ints O3 (Lay.ints_reads ((take_reads (unhide H1) k hk1).later hH3)) rfl _ _ rfl rfl rfl (by rw [List.length_take]; omega) hz3 ?_
      rintro v5 w5 O5 hg5 hb5
      have hS5 := hS3.trans (hb5.mono (by have := hRD.lt; omega))
      have bR5 : Box 0 #[.int .i64 0, .int .i64 0, .slice none 0 0, .slice none 0 0] 56 w5 (w.heap.size + 1) := ⟨bR3.1, (hg5.block (w.heap.size + 1) bR3.lt (fun e => by have h1 := (O3.lt _ e.symm).1; have h2 := hRD.lt; omega)).trans bR3.2⟩
      have hH5 := hH3.trans (hb5.mono (by have := hWD.size; omega))
      have hz5 := hb5.size
      have O5I := Lay.ownInts (zs := x.sure ++ x.loose.take k) (unhide HWA) (by rw [List.length_append, List.length_take]; omega) (by rw [List.length_append, List.map_append]; exact O5)
      refine hK.out _ _ hS5 (fun hHeld => ?_)
      clear hK K
      try simp only [Act.put, List.setIfInBounds_toArray, List.set_cons_zero, List.set_cons_succ]
      refine wpAnyH_take (i := 8) (oi := { dst := some 6, op := Go.Op.assign (Go.Operand.tmp 28), type := 24, pos := "l08_log.go:95", after := #[{ on := 7, ground := Go.Ground.data }, { on := 7, ground := Go.Ground.chain }, { on := 0, ground := Go.Ground.phase }, { on := 1, ground := Go.Ground.phase }, { on := 2, ground := Go.Ground.phase }, { on := 3, ground := Go.Ground.phase }, { on := 4, ground := Go.Ground.phase }, { on := 5, ground := Go.Ground.phase }, { on := 6, ground := Go.Ground.phase }, { on := 7, ground := Go.Ground.phase }], guard := none }) (v := ?v8_7) rfl (by kernel_rfl) (by kernel_rfl) (by kernel_rfl) (fun _ _ _ h => h) (Or.inl ⟨by rfl, ?h8_7⟩) hHeld ?r8_7
      case h8_7 =>
        intro wS hSw
        (try dsimp only at hSw)
        go_simp
        try with_reducible rfl
      case r8_7 =>
      simp only [Act.put, List.setIfInBounds_toArray, List.set_cons_zero, List.set_cons_succ]
      refine wpAnyH_done (by kernel_rfl) ?_ _
      refine NoPanic.normal ?_
      clear hHeld
      have HK := hide hH5
      have HR5 := hide bR5
      have HO5 := hide O5I
      have hz9 : w.heap.size < wD.heap.size := by have := hRD.lt; omega
      have HZ9 := hide (show w.heap.size + 1 < wD.heap.size from hRD.lt)
      have HWZ : Hid (wD.heap.size ≤ w5.heap.size) := by show wD.heap.size ≤ w5.heap.size; omega
      obtain ⟨a8, c8, rfl⟩ := open_sl O5I.reads
      clear hH5 bR5 O5I O5 hg5 hb5 hS5 bR3 hz3 hbw O3 hRD hz9 hH3 hS3 hWD
      have hzl : (x.sure ++ x.loose.take k).length ≤ 1000000 := by rw [List.length_append, List.length_take]; omega
      generalize hzs : (x.sure ++ x.loose.take k) = zs at *
      clear hzs
      have LR := hide (read8C _ zs w5 (unhide HO5).reads (by omega))
      go_wp2_with fail
      refine (unhide LR).mono ?_
      rintro e w7 ⟨v7, rfl, R7, hb7⟩
      obtain ⟨a9, c9, rfl⟩ := open_sl R7.reads
      have HK7 := hide ((unhide HK).trans (hb7.mono (unhide HK).size))
      have HR7 := hide ((unhide HR5).keep hb7)
      have HO7 := hide ((unhide HO5).reads.later hb7)
      have hcap := (unhide HO7).cap.2
      have hlt7 := (unhide HR5).lt
      have hz7 := hb7.size
      clear R7 hb7 LR HO5
      have hcl := cnt_le zs
      have HQ : Hid (crashLogR x (k : Int) = logOf (zs.take (8 * cnt zs)) []) := unhide HY
      have HOT := hide (take_reads (unhide HO7) (8 * cnt zs) hcl)
      have hll : (zs.take (8 * cnt zs)).length ≤ 10000000 := by rw [List.length_take]; omega
      have HTL : Hid ((zs.take (8 * cnt zs)).length = 8 * cnt zs) := by show (zs.take (8 * cnt zs)).length = _; rw [List.length_take]; omega
      clear HY HO7
      generalize hq7 : 8 * cnt zs = q7 at *
      clear hq7
      generalize (readL zs).length = r7 at *
      have LO := hide (l8OfD _ _ (zs.take q7) [] w7 (unhide HOT) (nil_own (lo := 0) (hi := 0)).reads hll (by simp))
      clear hll
      go_wp2_with fail
      refine (unhide LO).mono ?_
      rintro e w6 ⟨cn, a6, n6, c6, a7, n7, c7, rfl, R6, hbw⟩
      have bR6 := (unhide HR7).keep hbw
      have hlo6 := (unhide HR7).lt
      have hH6 := (unhide HK7).trans (hbw.mono (unhide HK7).size)
      have z0 := bR6.at 0 _ rfl
      have z1 := bR6.at 1 _ rfl
      have z2 := bR6.at 2 _ rfl
      have z3 := bR6.at 3 _ rfl
      have ff := bR6.soft
      have l0 := bR6.lt
      simp only [List.getElem_toArray, List.getElem_cons_zero, List.getElem_cons_succ] at z0 z1 z2 z3
      have HFIN := hide (lies_store' (s := w.heap.size + 1) (vs := [.int .i64 0, .int .i64 cn, .slice a6 n6 c6, .slice a7 n7 c7]) R6 hlo6)
      have HBF := hide (below_setAll hH6 (w.heap.size + 1) 0 [.int .i64 0, .int .i64 cn, .slice a6 n6 c6, .slice a7 n7 c7] (by omega))
      have HSF := hide (size_setAll w6 (w.heap.size + 1) 0 [.int .i64 0, .int .i64 cn, .slice a6 n6 c6, .slice a7 n7 c7])
      have HHO := hide (unhide HK7).size
      clear LO R6 hbw bR6 hH6
      go_wp2_with fail
      refine bodyPost_ret (v := .agg #[.int .i64 0, .int .i64 cn, .slice a6 n6 c6, .slice a7 n7 c7]) (by simp [results, Try.results45, go_sem, z0, z1, z2, z3]) rfl ?_
      rw [unhide HQ]
      refine ⟨[.int .i64 0, .int .i64 cn, .slice a6 n6 c6, .slice a7 n7 c7], rfl, ?_, unhide HBF⟩
      refine (unhide HFIN).mono ?_ ?_
      · have := unhide HHO; omega
      · have h1 := unhide HSF; exact Nat.le_of_eq h1.symm
    · have hd2 : (decide (0 ≤ kept) && decide (kept ≤ (x.loose.length : Int))) = false := by
        by_cases h1 : 0 ≤ kept
        · simp [h1]; omega
        · simp [h1]
      rw [hd2]
      have HY : Hid (crashLogR x kept = badLog 3) := by show crashLogR x kept = _; rw [crashLogR, if_pos (unhide HF), if_neg hk]
      clear HF hk
      have bR := unhide HR
      have z0 := bR.at 0 _ rfl
      have z1 := bR.at 1 _ rfl
      have z2 := bR.at 2 _ rfl
      have z3 := bR.at 3 _ rfl
      have ff := bR.soft
      have l0 := bR.lt
      simp only [List.getElem_toArray, List.getElem_cons_zero, List.getElem_cons_succ] at z0 z1 z2 z3
      clear bR
      go_wp2_with fail
      refine bodyPost_ret (v := .agg #[.int .i64 3, .int .i64 0, .slice none 0 0, .slice none 0 0]) (by simp [results, Try.results45, go_sem, z0, z1, z2, z3]) rfl ?_
      rw [unhide HY]
      have hB9 := below_setAll (unhide HB2) (w.heap.size + 1) 0 [.int .i64 3, .int .i64 0, .slice none 0 0, .slice none 0 0] (by omega)
      exact ⟨[.int .i64 3, .int .i64 0, .slice none 0 0, .slice none 0 0], rfl, (own_badLog (by decide) (by have := hB9.size; exact this)).lies, hB9⟩
  · have hd : (logFault x != 0) = true := by simpa using hf
    have HY : Hid (crashLogR x kept = badLog (logFault x)) := by show crashLogR x kept = _; rw [crashLogR, if_neg hf]
    have HW := hide (logFault_wf x)
    generalize logFault x = c at *
    clear hf
    have bR := unhide HR
    have z0 := bR.at 0 _ rfl
    have z1 := bR.at 1 _ rfl
    have z2 := bR.at 2 _ rfl
    have z3 := bR.at 3 _ rfl
    have ff := bR.soft
    have l0 := bR.lt
    simp only [List.getElem_toArray, List.getElem_cons_zero, List.getElem_cons_succ] at z0 z1 z2 z3
    clear bR
    go_wp2_with fail
    refine bodyPost_ret (v := .agg #[.int .i64 c, .int .i64 0, .slice none 0 0, .slice none 0 0]) (by simp [results, Try.results45, go_sem, z0, z1, z2, z3]) rfl ?_
    rw [unhide HY]
    have hB9 := below_setAll (unhide HB2) (w.heap.size + 1) 0 [.int .i64 c, .int .i64 0, .slice none 0 0, .slice none 0 0] (by omega)
    exact ⟨[.int .i64 c, .int .i64 0, .slice none 0 0, .slice none 0 0], rfl, (own_badLog (unhide HW) (by have := hB9.size; exact this)).lies, hB9⟩

end Go.Proofs.Ytipomhpimmnchaa
