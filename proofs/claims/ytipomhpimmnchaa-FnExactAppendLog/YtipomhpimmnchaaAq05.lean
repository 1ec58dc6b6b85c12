/-
  Texts of this proof in one: SpecUnpack, WritesPlain, ApplyPlain, LayWritesResult, LogPlain, LogPieces, SpecRead8, OwnWritesResult, LogKit, SpecLogF, SpecOf8, AppIntsAt, SpecAppLog, RangeKit, RegIn, ChunkPlain, ImplChunk, AppWriteIn, WsGrow, VecOf.
  Their conditions stand in their theorems.
-/
import Derived.Test.YtipomhpimmnchaaAq04
import Derived.Test.YtipomhpimmnchaaAq02
import Derived.Test.YtipomhpimmnchaaAq01
import Derived.Test.YtipomhpimmnchaaChecked
import Derived.Deep.CutRange
import Derived.Deep.RegionHeld3
import Derived.RangeFuncNested
import Derived.RangeFuncBound
import Derived.RangeFuncCalls
import Derived.RangeFuncLeaves
import Derived.Shelf.Abstract
import Derived.Shelf.RegionOpen
import Derived.WalkKit
import Derived.OwnWalkIn
import Derived.TacticsInMore
import Derived.LoopNIn
import Derived.LoopIn
import Derived.WalkSmall
import Derived.Outline

namespace Go.Proofs.Ytipomhpimmnchaa
open Go.RowKit

set_option maxHeartbeats 400000 in
theorem l3Unpack_len (ao : Option Addr) (n cap : Nat) (w : World) (h : n ≠ 8) :
    Calls Try.prog 87 #[.slice ao n cap] w fun e w' => ToldU w w' e zeroW false := by
  have hd : ((n : Int) != 8) = true := by rw [bne_iff_ne]; omega
  have HB : Hid (∀ o, Below w.heap.size w (w.alloc o)) := fun o => (Below.refl _ _).alloc (Nat.le_refl _) o
  go_enter Try.func87, Try.ntmps87
  go_wp2
  refine bodyPost_ret (v := .tuple #[.agg #[.int .i64 0, .int .i64 0, .slice none 0 0, .int .i64 0, .int .i64 0], .bool false]) (by simp [results, Try.results87, go_sem]) rfl ?_
  exact ⟨[.int .i64 0, .int .i64 0, .slice none 0 0, .int .i64 0, .int .i64 0], rfl, readsW (x := zeroW) ⟨[], Lay.lies_ints.2 ⟨none, 0, rfl, ⟨by simp [zeroW], by simp [zeroW]⟩, by simp [zeroW], Or.inl ⟨rfl, rfl⟩⟩, by simp⟩ rfl rfl rfl rfl, unhide HB _⟩

/-- The model's l3Unpack. -/
theorem l3Unpack (v : Value) (zs : List Int) (w : World) (h : (Lay.sl Lay.int).Reads w [v] zs) :
    Calls Try.prog 87 #[v] w fun e w' => ∃ x ok, ToldU w w' e x ok ∧ unpackR zs = if ok then ⟨0, x⟩ else ⟨5, zeroW⟩ := by
  have hi := Lay.ints_reads h
  have hi' := hi
  obtain ⟨ao, cap, rfl, -, hc⟩ := hi'
  by_cases hl : zs.length = 8
  · obtain ⟨k, i, s, q, x, y, z, c, rfl⟩ := eight hl
    obtain ⟨b, off, rfl, -⟩ := hc (by simp)
    have hcap := h.cap.2
    by_cases hk : k = 1
    · subst hk
      have hp : packD (unpackW [1, i, s, q, x, y, z, c]) = packList 1 i [x, y, z] s q := by simp [packD, unpackW]
      by_cases hf : writeFault 1 i [x, y, z] s q = 0
      · refine (l3Unpack_put_ok b off cap i s q x y z c w hi hcap hf).mono fun e w' ht => ⟨_, _, ht, ?_⟩
        rw [unpackR, hp, packList, if_pos hf]
        simp
      · refine (l3Unpack_put_bad b off cap i s q x y z c w hi hcap hf).mono fun e w' ht => ⟨_, _, ht, ?_⟩
        rw [unpackR, hp, packList, if_neg hf]
        simp
    · have hp : packD (unpackW [k, i, s, q, x, y, z, c]) = packList k i [] s q := by simp [packD, unpackW, hk]
      by_cases hf : writeFault k i [] s q = 0
      · refine (l3Unpack_other_ok b off cap k i s q x y z c w hi hk hf).mono fun e w' ht => ⟨_, _, ht, ?_⟩
        rw [unpackR, hp, packList, if_pos hf]
        simp
      · refine (l3Unpack_other_bad b off cap k i s q x y z c w hi hk hf).mono fun e w' ht => ⟨_, _, ht, ?_⟩
        rw [unpackR, hp, packList, if_neg hf]
        simp
  · refine (l3Unpack_len ao _ cap w hl).mono fun e w' ht => ⟨_, _, ht, ?_⟩
    rw [unpackR_len hl]
    simp

/-- The answer stored into the result's own block. -/
theorem storeU {w w1 : World} {x : DWrite} {cs vs : List Value} {lo hi : Nat} {o : Obj} (h : Lay.tWrite.LiesIn w1 cs x lo hi) (hlo : w.heap.size < lo) (hs : w.heap.size < w1.heap.size) (hb : Below w.heap.size w w1) :
    ∃ cs', Ending.returned (.agg (.int .i64 0 :: cs).toArray) = .returned (.agg cs'.toArray) ∧ Lay.tWriteResult.Reads ((setAll w1 w.heap.size 0 vs).alloc o) cs' ⟨0, x⟩ ∧ Below w.heap.size w ((setAll w1 w.heap.size 0 vs).alloc o) := by
  have h2 := h.ext (ext_setAll (fun q => q = w.heap.size) (Ext.refl _ w1) w.heap.size 0 vs rfl) (fun q h1 h2 h3 => by omega)
  have nb : Below (setAll w1 w.heap.size 0 vs).heap.size (setAll w1 w.heap.size 0 vs) ((setAll w1 w.heap.size 0 vs).alloc o) := (Below.refl _ _).alloc (Nat.le_refl _) _
  obtain ⟨bl, hl, -⟩ := h2.later nb
  exact ⟨_, rfl, ⟨bl, [.int .i64 0], cs, [], bl, rfl, rfl, ⟨rfl, rfl, rfl⟩, hl⟩, (below_setAll hb _ _ _ (Nat.le_refl _)).trans (nb.mono (by rw [size_setAll]; omega))⟩


end Go.Proofs.Ytipomhpimmnchaa

namespace Go.Proofs.Ytipomhpimmnchaa
open Go.RowKit

theorem unpackW_words {x : DWrite} (hf : writeFault x.kind x.id x.vec x.session x.seq = 0) : unpackW (wordsOf x.kind x.id x.vec x.session x.seq) = x := by
  obtain ⟨k, i, v, s, q⟩ := x
  obtain ⟨-, -, -, hk⟩ := writeFault_zero hf
  simp only at hk
  rcases hk with ⟨rfl, hv⟩ | ⟨rfl, rfl⟩
  · match v, (vecFault_zero hv).1 with
    | [a, b, c], _ => rfl
  · rfl
/-- Packed, then unpacked. -/
theorem unpack_pack {x : DWrite} (hf : writeFault x.kind x.id x.vec x.session x.seq = 0) : unpackR (packList x.kind x.id x.vec x.session x.seq) = ⟨0, x⟩ := by
  have hp : packList x.kind x.id x.vec x.session x.seq = wordsOf x.kind x.id x.vec x.session x.seq := if_pos hf
  rw [hp, unpackR, if_pos ⟨rfl, by rw [unpackW_words hf]; exact hp⟩, unpackW_words hf]
/-- Unpacked, then packed. -/
theorem pack_unpack {zs : List Int} (h : (unpackR zs).code = 0) : packList (unpackR zs).write.kind (unpackR zs).write.id (unpackR zs).write.vec (unpackR zs).write.session (unpackR zs).write.seq = zs := by
  unfold unpackR at *
  split at h
  · next hq => rw [if_pos hq]; exact hq.2
  · simp at h

end Go.Proofs.Ytipomhpimmnchaa

namespace Go.Proofs.Ytipomhpimmnchaa
open Go.RowKit

def wF (x : DWrite) : Int := writeFault x.kind x.id x.vec x.session x.seq
def applyI (xs : List DItem) (x : DWrite) : List DItem := if x.kind = 2 then dropI xs x.id else if roomB xs x.id then putI xs x.id x.vec else xs
def ofI (ws : List DWrite) : List DItem := ws.foldl applyI []
def wsFrom : List DWrite → Int
  | [] => 0
  | x :: xs => if wF x = 0 then wsFrom xs else wF x
def writesF (ws : List DWrite) : Int := if 200 < ws.length then 2 else wsFrom ws
def applyR (xs : List DItem) (x : DWrite) : DTableResult := if tableFault xs = 0 then (if wF x = 0 then ⟨0, applyI xs x⟩ else ⟨wF x, []⟩) else ⟨tableFault xs, []⟩
def tableOfR (ws : List DWrite) : DTableResult := if writesF ws = 0 then ⟨0, ofI ws⟩ else ⟨writesF ws, []⟩

theorem idB_of {z : Int} (h : 1 ≤ z ∧ z ≤ 999) : idB z = true := by simp only [idB, Bool.and_eq_true, decide_eq_true_eq]; exact h
theorem right_apply {xs : List DItem} (h : Right xs) {x : DWrite} (hx : wF x = 0) : Right (applyI xs x) := by
  obtain ⟨hi, -, -, hk⟩ := writeFault_zero hx
  unfold applyI
  split
  · exact right_drop h _
  · rename_i h2
    split
    · rename_i hr
      rcases hk with ⟨-, hv⟩ | ⟨hk, -⟩
      · exact right_put h (idB_of hi) hv (room_true hr)
      · exact absurd hk h2
    · exact h
theorem ofI_snoc (ws : List DWrite) (k : Nat) (h : k < ws.length) : ofI (ws.take (k + 1)) = applyI (ofI (ws.take k)) ws[k] := by
  rw [ofI, List.take_succ_eq_append_getElem h, List.foldl_append]
  rfl
theorem right_of_writes (ws : List DWrite) (h : ∀ x ∈ ws, wF x = 0) : Right (ofI ws) := by
  have : ∀ (ys : List DWrite) (xs : List DItem), Right xs → (∀ x ∈ ys, wF x = 0) → Right (ys.foldl applyI xs) := by
    intro ys
    induction ys with
    | nil => intro xs hx _; exact hx
    | cons y ys ih =>
      intro xs hx hy
      exact ih _ (right_apply hx (hy y (by simp))) fun x hx => hy x (List.mem_cons_of_mem _ hx)
  exact this ws [] right_nil h
theorem wsFrom_at (ws : List DWrite) (k : Nat) (h : k < ws.length) (hz : ∀ j (hj : j < ws.length), j < k → wF ws[j] = 0) (hn : wF ws[k] ≠ 0) : wsFrom ws = wF ws[k] := by
  induction ws generalizing k with
  | nil => simp at h
  | cons x xs ih =>
    match k with
    | 0 => rw [wsFrom, if_neg (by simpa using hn)]; rfl
    | k + 1 =>
      have h0 : wF x = 0 := hz 0 (by simp) (by omega)
      rw [wsFrom, if_pos h0]
      exact ih k (by simpa using h) (fun j hj hjk => hz (j + 1) (by simpa using hj) (by omega)) (by simpa using hn)
theorem wsFrom_all (ws : List DWrite) (hz : ∀ j (hj : j < ws.length), wF ws[j] = 0) : wsFrom ws = 0 := by
  induction ws with
  | nil => rfl
  | cons x xs ih =>
    have h0 : wF x = 0 := hz 0 (by simp)
    rw [wsFrom, if_pos h0]
    exact ih fun j hj => hz (j + 1) (by simpa using hj)
theorem wsFrom_zero {ws : List DWrite} (h : wsFrom ws = 0) : ∀ x ∈ ws, wF x = 0 := by
  induction ws with
  | nil => simp
  | cons x xs ih =>
    rw [wsFrom] at h
    by_cases h0 : wF x = 0
    · rw [if_pos h0] at h
      intro y hy
      rcases List.mem_cons.1 hy with rfl | hy
      · exact h0
      · exact ih h y hy
    · rw [if_neg h0] at h; exact absurd h h0
theorem writesF_zero {ws : List DWrite} (h : writesF ws = 0) : ws.length ≤ 200 ∧ ∀ x ∈ ws, wF x = 0 := by
  unfold writesF at h
  by_cases hn : 200 < ws.length
  · rw [if_pos hn] at h; cases h
  · rw [if_neg hn] at h; exact ⟨by omega, wsFrom_zero h⟩
theorem wF_vals (x : DWrite) : 0 ≤ wF x ∧ wF x ≤ 3 := by
  have hv := vecFault_vals x.vec
  unfold wF writeFault
  split
  · split
    · split
      · exact hv
      · decide
    · decide
  · decide
theorem wF_wf (x : DWrite) : (Lit.int .i64 (wF x)).wf = true := wf_of_bd (by have := wF_vals x; omega)
theorem wsFrom_vals (ws : List DWrite) : 0 ≤ wsFrom ws ∧ wsFrom ws ≤ 3 := by
  induction ws with
  | nil => decide
  | cons x xs ih =>
    rw [wsFrom]
    split
    · exact ih
    · exact wF_vals x
theorem writesF_wf (ws : List DWrite) : (Lit.int .i64 (writesF ws)).wf = true := by
  have := wsFrom_vals ws
  unfold writesF
  split
  · decide
  · exact wf_of_bd (by omega)

end Go.Proofs.Ytipomhpimmnchaa

namespace Go.Proofs.Ytipomhpimmnchaa
open Go.RowKit

structure DWritesResult where
  code : Int
  writes : List DWrite

def Lay.tWritesResult : Lay DWritesResult := Lay.via (Lay.pair Lay.int (Lay.sl Lay.tWrite)) (fun x => (x.code, x.writes)) (fun p => ⟨p.1, p.2⟩)

theorem lies_WritesResult {w : World} {cs : List Value} {x : DWritesResult} {bl : List Nat} : Lay.tWritesResult.lies w cs x bl ↔ ∃ (a1 : Option Addr) (d1 : Nat) (b1 : List Nat), cs = [.int .i64 x.code, .slice a1 x.writes.length d1] ∧ bl = b1 ∧ (Lit.int .i64 x.code).wf = true ∧ (Lay.sl Lay.tWrite).lies w [.slice a1 x.writes.length d1] x.writes b1 := by
  constructor
  · intro h
    obtain ⟨c0_, r0_, e0_, s0_, rfl, rfl, h0, h1⟩ := h
    obtain ⟨rfl, w0, rfl⟩ := h0
    have k1 := h1
    obtain ⟨a1, d1, rfl, -⟩ := k1
    exact ⟨a1, d1, s0_, by simp, by simp, w0, h1⟩
  · rintro ⟨a1, d1, b1, rfl, hbl, w0, l1⟩
    rw [hbl]
    exact ⟨[.int .i64 x.code], [.slice a1 x.writes.length d1], [], b1, rfl, by simp, ⟨rfl, w0, rfl⟩, l1⟩

theorem open_WritesResult {w : World} {cs : List Value} {x : DWritesResult} (h : Lay.tWritesResult.Reads w cs x) : ∃ (a1 : Option Addr) (d1 : Nat), cs = [.int .i64 x.code, .slice a1 x.writes.length d1] ∧ (Lay.sl Lay.tWrite).Reads w [.slice a1 x.writes.length d1] x.writes := by
  obtain ⟨bl, h⟩ := h
  obtain ⟨a1, d1, b1, rfl, -, w0, l1⟩ := lies_WritesResult.1 h
  exact ⟨a1, d1, rfl, ⟨_, l1⟩⟩

end Go.Proofs.Ytipomhpimmnchaa

namespace Go.Proofs.Ytipomhpimmnchaa
open Go.RowKit

def pieceAt (zs : List Int) (j : Nat) : List Int := (zs.drop (8 * j)).take 8
def okAt (zs : List Int) (j : Nat) : Bool := decide ((unpackR (pieceAt zs j)).code = 0)
def wAt (zs : List Int) (j : Nat) : DWrite := (unpackR (pieceAt zs j)).write
def cntF (zs : List Int) : Nat → Nat → Nat
  | 0, k => k
  | f + 1, k => if okAt zs k then cntF zs f (k + 1) else k
/-- How many writes stand at the head. -/
def cnt (zs : List Int) : Nat := cntF zs zs.length 0
/-- The writes at the head. -/
def readL (zs : List Int) : List DWrite := (List.range (cnt zs)).map (wAt zs)
def packs (ws : List DWrite) : List Int := ws.flatMap packD
def logFault (x : DLog) : Int := if 320 < x.sure.length + x.loose.length then 2 else if 8 * cnt x.sure = x.sure.length ∧ 8 * cnt x.loose = x.loose.length then 0 else 5
def noLog : DLog := ⟨[], []⟩
def readLogR (zs : List Int) : DWritesResult := if 320 < zs.length then ⟨2, []⟩ else ⟨0, readL zs⟩
def packAllR (ws : List DWrite) : DIntsResult := if 40 < ws.length then ⟨2, []⟩ else if wsFrom ws = 0 then ⟨0, packs ws⟩ else ⟨wsFrom ws, []⟩
def logOf (sure loose : List Int) : DLogResult := ⟨0, ((sure.length + loose.length) / 8 : Nat), ⟨sure, loose⟩⟩
def badLog (c : Int) : DLogResult := ⟨c, 0, noLog⟩
def appendLogR (x : DLog) (y : DWrite) : DLogResult := if logFault x = 0 then (if wF y = 0 then (if 320 ≤ x.sure.length + x.loose.length then badLog 2 else logOf x.sure (x.loose ++ packD y)) else badLog (wF y)) else badLog (logFault x)
def syncLogR (x : DLog) : DLogResult := if logFault x = 0 then logOf (x.sure ++ x.loose) [] else badLog (logFault x)
def keptOf (x : DLog) (kept : Int) : List Int := x.sure ++ x.loose.take kept.toNat
def crashLogR (x : DLog) (kept : Int) : DLogResult := if logFault x = 0 then (if 0 ≤ kept ∧ kept ≤ x.loose.length then logOf ((keptOf x kept).take (8 * cnt (keptOf x kept))) [] else badLog 3) else badLog (logFault x)

theorem unpackR_ok {zs : List Int} (h : (unpackR zs).code = 0) : zs.length = 8 ∧ packD (unpackR zs).write = zs ∧ wF (unpackR zs).write = 0 := by
  have hp := pack_unpack h
  have hl : zs.length = 8 := by
    by_cases e : zs.length = 8
    · exact e
    · rw [unpackR_len e] at h
      cases h
  refine ⟨hl, hp, ?_⟩
  by_cases e : wF (unpackR zs).write = 0
  · exact e
  · rw [packList, if_neg (show ¬ writeFault (unpackR zs).write.kind (unpackR zs).write.id (unpackR zs).write.vec (unpackR zs).write.session (unpackR zs).write.seq = 0 from e)] at hp
    rw [← hp] at hl
    cases hl
theorem ok_piece {zs : List Int} {j : Nat} (h : okAt zs j = true) : (unpackR (pieceAt zs j)).code = 0 := by simpa [okAt] using h
theorem piece_len {zs : List Int} {j : Nat} : (pieceAt zs j).length = min 8 (zs.length - 8 * j) := by simp [pieceAt]
theorem ok_len {zs : List Int} {j : Nat} (h : okAt zs j = true) : 8 * j + 8 ≤ zs.length := by
  have h1 := (unpackR_ok (ok_piece h)).1
  rw [piece_len] at h1
  omega
theorem cntF_spec (zs : List Int) : ∀ f k, zs.length < 8 * (k + f) + 8 → (∀ j, j < k → okAt zs j = true) → (∀ j, j < cntF zs f k → okAt zs j = true) ∧ okAt zs (cntF zs f k) = false
  | 0, k, h, hk => by
    refine ⟨hk, ?_⟩
    rw [cntF]
    by_cases e : okAt zs k = true
    · have := ok_len e
      omega
    · simpa using e
  | f + 1, k, h, hk => by
    rw [cntF]
    by_cases e : okAt zs k = true
    · rw [if_pos e]
      refine cntF_spec zs f (k + 1) (by omega) fun j hj => ?_
      by_cases h2 : j = k
      · rw [h2]; exact e
      · exact hk j (by omega)
    · rw [if_neg e]
      exact ⟨hk, by simpa using e⟩
theorem cnt_ok (zs : List Int) : ∀ j, j < cnt zs → okAt zs j = true := (cntF_spec zs zs.length 0 (by omega) (fun _ h => by omega)).1
theorem cnt_not (zs : List Int) : okAt zs (cnt zs) = false := (cntF_spec zs zs.length 0 (by omega) (fun _ h => by omega)).2
theorem cnt_of {zs : List Int} {k : Nat} (h : ∀ j, j < k → okAt zs j = true) (hn : okAt zs k = false) : cnt zs = k := by
  rcases Nat.lt_trichotomy (cnt zs) k with e | e | e
  · have := h _ e
    rw [cnt_not] at this
    cases this
  · exact e
  · have := cnt_ok zs _ e
    rw [hn] at this
    cases this
theorem cnt_le (zs : List Int) : 8 * cnt zs ≤ zs.length := by
  by_cases h : cnt zs = 0
  · omega
  · have := ok_len (cnt_ok zs (cnt zs - 1) (by omega))
    omega
theorem read_len (zs : List Int) : (readL zs).length = cnt zs := by simp [readL]
theorem read_at (zs : List Int) (j : Nat) (h : j < (readL zs).length) : (readL zs)[j] = wAt zs j := by simp [readL]
theorem read_of {zs : List Int} {k : Nat} (h : ∀ j, j < k → okAt zs j = true) (hn : okAt zs k = false) : readL zs = (List.range k).map (wAt zs) := by rw [readL, cnt_of h hn]
theorem reads_snoc (zs : List Int) (k : Nat) : (List.range (k + 1)).map (wAt zs) = (List.range k).map (wAt zs) ++ [wAt zs k] := by rw [List.range_succ, List.map_append]; rfl
theorem readL_right (zs : List Int) : ∀ x ∈ readL zs, wF x = 0 := by
  intro x hx
  simp only [readL, List.mem_map, List.mem_range] at hx
  obtain ⟨j, hj, rfl⟩ := hx
  exact (unpackR_ok (ok_piece (cnt_ok zs j hj))).2.2

/-- A piece within the first list. -/
theorem piece_left {xs ys : List Int} {j : Nat} (h : 8 * j + 8 ≤ xs.length) : pieceAt (xs ++ ys) j = pieceAt xs j := by
  simp only [pieceAt]
  rw [List.drop_append_of_le_length (by omega), List.take_append_of_le_length (by simp; omega)]
theorem piece_right {xs ys : List Int} {c j : Nat} (h : 8 * c = xs.length) : pieceAt (xs ++ ys) (c + j) = pieceAt ys j := by
  simp only [pieceAt]
  rw [show 8 * (c + j) = xs.length + 8 * j by omega, List.drop_length_add_append]
theorem ok_left {xs ys : List Int} {j : Nat} (h : 8 * j + 8 ≤ xs.length) : okAt (xs ++ ys) j = okAt xs j := by rw [okAt, piece_left h]; rfl
theorem ok_right {xs ys : List Int} {c j : Nat} (h : 8 * c = xs.length) : okAt (xs ++ ys) (c + j) = okAt ys j := by rw [okAt, piece_right h]; rfl
/-- Whole writes, then others. -/
theorem cnt_append {xs ys : List Int} (h : 8 * cnt xs = xs.length) : cnt (xs ++ ys) = cnt xs + cnt ys := by
  refine cnt_of (fun j hj => ?_) ?_
  · by_cases h2 : j < cnt xs
    · rw [ok_left (by omega)]
      exact cnt_ok xs j h2
    · obtain ⟨i, rfl⟩ : ∃ i, j = cnt xs + i := ⟨j - cnt xs, by omega⟩
      rw [ok_right h]
      exact cnt_ok ys i (by omega)
  · rw [ok_right h]
    exact cnt_not ys
theorem ok_short {zs : List Int} {j : Nat} (h : zs.length < 8 * j + 8) : okAt zs j = false := by
  by_cases e : okAt zs j = true
  · have := ok_len e
    omega
  · simpa using e
/-- The first words of whole writes. -/
theorem cnt_take {xs : List Int} (h : 8 * cnt xs = xs.length) {m : Nat} (hm : m ≤ xs.length) : cnt (xs.take m) = m / 8 := by
  refine cnt_of (fun j hj => ?_) (ok_short (by rw [List.length_take]; omega))
  have e : xs = xs.take m ++ xs.drop m := (List.take_append_drop m xs).symm
  have h1 : okAt xs j = true := cnt_ok xs j (by omega)
  rw [e, ok_left (by rw [List.length_take]; omega)] at h1
  exact h1
/-- The words of the writes that are read are the first words. -/
theorem packs_range (zs : List Int) (k : Nat) (h : ∀ j, j < k → okAt zs j = true) : packs ((List.range k).map (wAt zs)) = zs.take (8 * k) := by
  induction k with
  | zero => simp [packs]
  | succ k ih =>
    have h1 := unpackR_ok (ok_piece (h k (by omega)))
    rw [reads_snoc, packs, List.flatMap_append]
    have h2 := ih (fun j hj => h j (by omega))
    rw [packs] at h2
    rw [h2]
    simp only [List.flatMap_cons, List.flatMap_nil, List.append_nil]
    rw [wAt, h1.2.1, pieceAt, show 8 * (k + 1) = 8 * k + 8 by omega, List.take_add]
theorem packs_read (zs : List Int) : packs (readL zs) = zs.take (8 * cnt zs) := packs_range zs _ (cnt_ok zs)
theorem packD_len {x : DWrite} (h : wF x = 0) : (packD x).length = 8 := by
  rw [packD, packList, if_pos (show writeFault x.kind x.id x.vec x.session x.seq = 0 from h)]
  rfl
theorem packs_len (ws : List DWrite) (h : ∀ x ∈ ws, wF x = 0) : (packs ws).length = 8 * ws.length := by
  induction ws with
  | nil => rfl
  | cons x xs ih =>
    rw [packs, List.flatMap_cons, List.length_append, packD_len (h x (by simp)), List.length_cons]
    have := ih fun y hy => h y (List.mem_cons_of_mem _ hy)
    rw [packs] at this
    omega
/-- Packed, then read. -/
theorem ok_packD {x : DWrite} (h : wF x = 0) : okAt (packD x) 0 = true ∧ wAt (packD x) 0 = x := by
  have h1 : pieceAt (packD x) 0 = packD x := by simp [pieceAt, List.take_of_length_le, packD_len h]
  have h2 := unpack_pack h
  rw [okAt, wAt, h1, packD, h2]
  simp
theorem packs_ok (ws : List DWrite) (h : ∀ x ∈ ws, wF x = 0) : ∀ j (hj : j < ws.length), okAt (packs ws) j = true ∧ wAt (packs ws) j = ws[j] := by
  induction ws with
  | nil => intro j hj; simp at hj
  | cons x xs ih =>
    intro j hj
    have hx := h x (by simp)
    have h8 : 8 * 1 = (packD x).length := by rw [packD_len hx]
    have e : packs (x :: xs) = packD x ++ packs xs := rfl
    match j, hj with
    | 0, _ =>
      obtain ⟨h1, h2⟩ := ok_packD hx
      refine ⟨by rw [e, ok_left (by omega)]; exact h1, ?_⟩
      rw [wAt, e, piece_left (by omega)]
      exact h2
    | i + 1, hj =>
      obtain ⟨h1, h2⟩ := ih (fun y hy => h y (List.mem_cons_of_mem _ hy)) i (by simpa using hj)
      refine ⟨by rw [Nat.add_comm i 1, e, ok_right h8]; exact h1, ?_⟩
      have h3 : pieceAt (packs (x :: xs)) (i + 1) = pieceAt (packs xs) i := by rw [Nat.add_comm i 1, e, piece_right h8]
      rw [wAt, h3]
      exact h2
theorem cnt_packs (ws : List DWrite) (h : ∀ x ∈ ws, wF x = 0) : cnt (packs ws) = ws.length :=
  cnt_of (fun j hj => (packs_ok ws h j hj).1) (ok_short (by rw [packs_len ws h]; omega))
theorem read_packs (ws : List DWrite) (h : ∀ x ∈ ws, wF x = 0) : readL (packs ws) = ws := by
  refine List.ext_getElem (by rw [read_len, cnt_packs ws h]) fun j h1 h2 => ?_
  rw [read_at]
  exact (packs_ok ws h j h2).2
theorem wsFrom_of {ws : List DWrite} (h : ∀ x ∈ ws, wF x = 0) : wsFrom ws = 0 := wsFrom_all ws fun _ hj => h _ (List.getElem_mem hj)
/-- A piece of zeros is no write. -/
theorem zeros_not (n : Nat) : okAt (List.replicate n 0) 0 = false := by
  by_cases e : okAt (List.replicate n 0) 0 = true
  · have h8 := ok_len e
    have h1 := unpackR_ok (ok_piece e)
    rw [List.length_replicate] at h8
    have h2 : pieceAt (List.replicate n (0 : Int)) 0 = List.replicate 8 0 := by simp [pieceAt, Nat.min_eq_left (show 8 ≤ n by omega)]
    have h3 := ok_piece e
    rw [h2] at h3
    exact absurd h3 (by decide)
  · simpa using e
theorem cnt_zeros (n : Nat) : cnt (List.replicate n 0) = 0 := cnt_of (fun _ h => by omega) (zeros_not n)
/-- A torn write that is cleared leaves the same first writes. -/
theorem cnt_clear {xs ys : List Int} (hx : 8 * cnt xs = xs.length) (hy : 8 * cnt ys = ys.length) {k : Nat} (hk : k ≤ ys.length) (n : Nat) :
    cnt (xs ++ (ys.take (8 * (k / 8)) ++ List.replicate n 0)) = cnt (xs ++ ys.take k) ∧ (xs ++ (ys.take (8 * (k / 8)) ++ List.replicate n 0)).take (8 * cnt (xs ++ ys.take k)) = (xs ++ ys.take k).take (8 * cnt (xs ++ ys.take k)) := by
  have h1 : cnt (ys.take (8 * (k / 8))) = k / 8 := by rw [cnt_take hy (by omega)]; omega
  have h2 : 8 * cnt (ys.take (8 * (k / 8))) = (ys.take (8 * (k / 8))).length := by rw [h1, List.length_take]; omega
  have h3 : cnt (ys.take k) = k / 8 := cnt_take hy hk
  refine ⟨by rw [cnt_append hx, cnt_append hx, cnt_append h2, h1, h3, cnt_zeros, Nat.add_zero], ?_⟩
  rw [cnt_append hx, h3, Nat.mul_add, hx, List.take_length_add_append, List.take_length_add_append]
  congr 1
  rw [List.take_append_of_le_length (by rw [List.length_take]; omega), List.take_take, List.take_take]
  congr 1
  omega

end Go.Proofs.Ytipomhpimmnchaa

namespace Go.Proofs.Ytipomhpimmnchaa
open Go.RowKit

theorem getD_piece {zs : List Int} {k j : Nat} (hj : j < 8) : (pieceAt zs k).getD j 0 = zs.getD (8 * k + j) 0 := by
  simp only [pieceAt, List.getD]
  rw [List.getElem?_take, if_pos hj, List.getElem?_drop]
theorem len_piece {zs : List Int} {k : Nat} (h : 8 * k + 8 ≤ zs.length) : (pieceAt zs k).length = 8 := by rw [piece_len]; omega
theorem mem_piece {zs : List Int} {k : Nat} {z : Int} (h : z ∈ pieceAt zs k) : z ∈ zs := List.mem_of_mem_drop (List.mem_of_mem_take h)
/-- Any part of a list of numbers that stands in memory. -/
theorem part_reads {w : World} {b off cap : Nat} {zs : List Int} (h : (Lay.sl Lay.int).Reads w [.slice (some ⟨b, off, none⟩) zs.length cap] zs) (m n c : Nat) (hm : m + n ≤ zs.length) (hc : n ≤ c) :
    (Lay.sl Lay.int).Reads w [.slice (some ⟨b, off + m, none⟩) n c] ((zs.drop m).take n) := by
  have hi := Lay.ints_reads h
  have hbig := h.big
  obtain ⟨ao, cp, e, hwf, hcs⟩ := hi
  have hlen : ((zs.drop m).take n).length = n := by simp; omega
  refine Lay.reads_ints ?_ (fun ao' cap' e' => ?_) (by rw [hlen]; omega)
  · refine ⟨_, c, by rw [hlen], fun z hz => hwf z (List.mem_of_mem_drop (List.mem_of_mem_take hz)), fun hp => ⟨b, off + m, rfl, fun j hj => ?_⟩⟩
    rw [hlen] at hp hj
    obtain ⟨b', off', hao, hc1⟩ := hcs (by omega)
    simp only [Value.slice.injEq] at e
    obtain ⟨rfl, -, -⟩ := e
    simp only [Option.some.injEq, Addr.mk.injEq, and_true] at hao
    obtain ⟨rfl, rfl⟩ := hao
    rw [Nat.add_assoc, hc1 (m + j) (by omega)]
    simp only [List.getD]
    rw [List.getElem?_take, if_pos hj, List.getElem?_drop]
  · simp only [Value.slice.injEq] at e'
    rw [hlen]
    omega
theorem piece_reads {w : World} {b off cap : Nat} {zs : List Int} (h : (Lay.sl Lay.int).Reads w [.slice (some ⟨b, off, none⟩) zs.length cap] zs) (k c : Nat) (hk : 8 * k + 8 ≤ zs.length) (hc : 8 ≤ c) :
    (Lay.sl Lay.int).Reads w [.slice (some ⟨b, off + 8 * k, none⟩) 8 c] (pieceAt zs k) := part_reads h (8 * k) 8 c (by omega) hc
/-- The first numbers of a list. -/
theorem take_reads {w : World} {ao : Option Addr} {n cap : Nat} {zs : List Int} (h : (Lay.sl Lay.int).Reads w [.slice ao n cap] zs) (k : Nat) (hk : k ≤ zs.length) :
    (Lay.sl Lay.int).Reads w [.slice ao k cap] (zs.take k) := by
  have hc := h.cap
  by_cases h0 : k = 0
  · subst h0
    rw [List.take_zero]
    exact Lay.reads_ints ⟨ao, cap, rfl, by simp, fun hp => by simp at hp⟩ (fun _ _ _ => by simp) (by simp)
  · have hi := Lay.ints_reads h
    obtain ⟨ao', cp, e, hwf, hcs⟩ := hi
    obtain ⟨b', off', hao, hc1⟩ := hcs (by omega)
    simp only [Value.slice.injEq] at e
    obtain ⟨rfl, rfl, rfl⟩ := e
    subst hao
    have := part_reads h 0 k cap (by omega) (by omega)
    simpa using this

end Go.Proofs.Ytipomhpimmnchaa

namespace Go.Proofs.Ytipomhpimmnchaa
open Go.RowKit

/-- What l8Read tells. -/
def Told8 (w w' : World) (e : Ending) (zs : List Int) : Prop := ∃ v, e = .returned (.tuple #[v, .int .i64 ((8 * cnt zs : Nat) : Int)]) ∧ (Lay.sl Lay.tWrite).LiesIn w' [v] (readL zs) w.heap.size w'.heap.size ∧ Below w.heap.size w w'

set_option maxRecDepth 100000 in
set_option maxHeartbeats 4000000 in
theorem read8_pos (b off cap : Nat) (zs : List Int) (w : World) (h : (Lay.sl Lay.int).Reads w [.slice (some ⟨b, off, none⟩) zs.length cap] zs) (hbl : b < w.heap.size) (hn : zs.length ≤ 10000000) :
    Calls Try.prog 57 #[.slice (some ⟨b, off, none⟩) zs.length cap] w fun e w' => Told8 w w' e zs := by
  have hcap := h.cap.2
  have H := hide h
  clear h
  have HG0 : Hid (Grow Lay.tWrite (w.alloc (.cells #[] 58)) w.heap.size 58 (.slice (some ⟨w.heap.size, 0, none⟩) 0 0) [] [] []) := Grow.nil (World.ownsRow_lit w #[] 0 (Nat.le_refl _) (Nat.zero_le _) rfl)
  have HB0 := hide ((Below.refl w.heap.size w).alloc (Nat.le_refl _) (.cells #[] 58))
  go_enter Try.func57, Try.ntmps57
  go_wp2_with fail
  go_loopw [4, 5] (fun v i wr => ∃ (k : Nat) (rows : List (List Value)) (bls : List (List Nat)), (∀ j, j < k → okAt zs j = true) ∧ 8 * k ≤ zs.length ∧ i = .int .i64 ((8 * k : Nat) : Int) ∧ Grow Lay.tWrite wr w.heap.size 58 v rows ((List.range k).map (wAt zs)) bls ∧ (∀ c ∈ bls.flatten, w.heap.size ≤ c) ∧ Below w.heap.size w wr) (fun _ i _ => zs.length - (intOf i).toNat)
  case atStart => exact ⟨0, [], [], fun _ h => by omega, Nat.zero_le _, rfl, unhide HG0, by simp, unhide HB0⟩
  case round =>
    obtain ⟨k, rows, bls, hok, hk, rfl, hG, hSB, hB⟩ := hrel
    have HSB := hide hSB
    have HOK := hide hok
    clear HG0 HB0 hSB hok
    by_cases hlt : 8 * k + 8 ≤ zs.length
    · have HL := hide (l3Unpack _ (pieceAt zs k) wr (piece_reads ((unhide H).later hB) k (cap - 8 * k) hlt (by omega)))
      have hbr : b < wr.heap.size := Nat.lt_of_lt_of_le hbl hB.size
      have HLn : Hid (((List.range k).map (wAt zs)).length = k) := by show ((List.range k).map (wAt zs)).length = k; simp
      have HG := hide hG
      have HB := hide hB
      clear hG hB
      go_wp2_with fail
      refine (unhide HL).mono ?_
      rintro e w2 ⟨x, ok, ⟨cs, rfl, R, hb⟩, hu⟩
      obtain ⟨a2, d2, rfl, -⟩ := open_Write R.reads
      have hl : ∃ bl, Lay.tWrite.lies w2 [.int .i64 x.kind, .int .i64 x.id, .slice a2 x.vec.length d2, .int .i64 x.session, .int .i64 x.seq] x bl ∧ ∀ c ∈ bl, wr.heap.size ≤ c ∧ c < w2.heap.size := R
      obtain ⟨bl2, hl2, hr2⟩ := hl
      have hG2 := (unhide HG).later hb
      have HB2 := hide ((unhide HB).trans (hb.mono (unhide HB).size))
      have HZW : Hid (w.heap.size ≤ wr.heap.size) := (unhide HB).size
      have HOW : Hid (∀ c, u4.ownBlock = some c → c < wr.heap.size) := fun c hc => ((unhide HG).own.lt c hc).2
      have hZ2 := hb.size
      have nb : Below w2.heap.size w2 (w2.alloc (.cells #[.int .i64 x.kind, .int .i64 x.id, .slice a2 x.vec.length d2, .int .i64 x.session, .int .i64 x.seq] 58)) := (Below.refl _ _).alloc (Nat.le_refl _) _
      have bI : Box 0 #[.int .i64 x.kind, .int .i64 x.id, .slice a2 x.vec.length d2, .int .i64 x.session, .int .i64 x.seq] 58 (w2.alloc (.cells #[.int .i64 x.kind, .int .i64 x.id, .slice a2 x.vec.length d2, .int .i64 x.session, .int .i64 x.seq] 58)) w2.heap.size := newBox (Nat.zero_le _)
      have hl3 := Lay.tWrite.keep hl2 (w' := w2.alloc (.cells #[.int .i64 x.kind, .int .i64 x.id, .slice a2 x.vec.length d2, .int .i64 x.session, .int .i64 x.seq] 58)) (fun c hc => nb.block c (hr2 c hc).2)
      have hG3 := hG2.later nb
      have hoff : ∀ c ∈ bl2, u4.ownBlock ≠ some c := fun c hc e => by have h1 := (hr2 c hc).1; have h2 := unhide HOW c e; omega
      have HB3 := hide ((unhide HB2).trans (nb.mono (unhide HB2).size))
      have hZ3 : w.heap.size ≤ (w2.alloc (.cells #[.int .i64 x.kind, .int .i64 x.id, .slice a2 x.vec.length d2, .int .i64 x.session, .int .i64 x.seq] 58)).heap.size := (unhide HB3).size
      have hK : ((List.range k).map (wAt zs)).length + 1 ≤ 100000000 := by rw [unhide HLn]; omega
      have HSB5 : Hid (∀ c ∈ (bls ++ [bl2]).flatten, w.heap.size ≤ c) := by
        intro c hc
        rw [List.flatten_append] at hc
        rcases List.mem_append.1 hc with hc | hc
        · exact unhide HSB c hc
        · have h1 := (hr2 c (by simpa using hc)).1
          have h2 := unhide HZW
          omega
      have HU := hide hu
      have HG2 := hide hG2
      clear R hl2 hb HG HL HB hr2 hu hG2 nb
      cases ok with
      | true =>
        have HX : Hid (okAt zs k = true ∧ wAt zs k = x) := by
          have e := unhide HU
          rw [if_pos rfl] at e
          exact ⟨by rw [okAt, e]; rfl, by rw [wAt, e]⟩
        have HLI := hide hl3
        have HGI := hide hG3
        have HBI := hide bI
        have HOF := hide hoff
        clear hl3 hG3 bI hoff HU HG2
        go_upto_region 6 with fail
        generalize hW3 : w2.alloc (.cells #[.int .i64 x.kind, .int .i64 x.id, .slice a2 x.vec.length d2, .int .i64 x.session, .int .i64 x.seq] 58) = W3 at *
        clear hW3
        have hl3 := unhide HLI
        have hG3 := unhide HGI
        have hoff := unhide HOF
        have z0 : W3.cell? ⟨w2.heap.size, 0, none⟩ = some (.int .i64 x.kind) := (unhide HBI).at 0 _ rfl
        have z1 : W3.cell? ⟨w2.heap.size, 1, none⟩ = some (.int .i64 x.id) := (unhide HBI).at 1 _ rfl
        have z2 : W3.cell? ⟨w2.heap.size, 2, none⟩ = some (.slice a2 x.vec.length d2) := (unhide HBI).at 2 _ rfl
        have z3 : W3.cell? ⟨w2.heap.size, 3, none⟩ = some (.int .i64 x.session) := (unhide HBI).at 3 _ rfl
        have z4 : W3.cell? ⟨w2.heap.size, 4, none⟩ = some (.int .i64 x.seq) := (unhide HBI).at 4 _ rfl
        clear HLI HGI HBI HOF
        go_wp2_with (at_builtin; refine wpList_append_Write hG3 hl3 hoff rfl _ _ rfl rfl rfl hK hZ3 ?_)
        intro g5 cap5 w5 hG5 hb5 hE5 hg5 hz5 hor5
        have HG5 := hide hG5
        have HB5 := hide ((unhide HB3).trans hb5)
        clear hG3 hl3 hoff hZ3 hK hG5 hb5 hE5 hg5 hz5 hor5 HB3 z0 z1 z2 z3 z4
        go_wp2_with fail
        go_roundw
        case rel =>
          have hg := unhide HG5
          rw [← (unhide HX).2, ← reads_snoc] at hg
          try rw [unhide HLn] at hg
          refine ⟨k + 1, _, _, fun j hj => ?_, by omega, by go_num, hg, unhide HSB5, unhide HB5⟩
          by_cases h2 : j = k
          · rw [h2]; exact (unhide HX).1
          · exact unhide HOK j (by omega)
        case measure => simp [intOf]; omega
      | false =>
        have HX : Hid (okAt zs k = false) := by
          have e := unhide HU
          rw [if_neg (by simp)] at e
          show okAt zs k = false
          rw [okAt, e]
          rfl
        have HGI := hide hG3
        clear hl3 hG3 bI hoff HU HG2 HSB5
        go_wp2_with fail
        refine bodyPost_ret (v := .tuple #[u4, .int .i64 ((8 * k : Nat) : Int)]) (by simp [results, Try.results57, go_sem]) rfl ?_
        refine ⟨_, by rw [cnt_of (unhide HOK) (unhide HX)], ?_, unhide HB3⟩
        rw [read_of (unhide HOK) (unhide HX)]
        exact (unhide HGI).toLies (by rw [unhide HLn]; omega) (unhide HSB)
    · have HX : Hid (okAt zs k = false) := ok_short (by omega)
      have HLn : Hid (((List.range k).map (wAt zs)).length = k) := by show ((List.range k).map (wAt zs)).length = k; simp
      have HG := hide hG
      have HB := hide hB
      clear hG hB H
      go_wp2_with fail
      refine bodyPost_ret (v := .tuple #[u4, .int .i64 ((8 * k : Nat) : Int)]) (by simp [results, Try.results57, go_sem]) rfl ?_
      refine ⟨_, by rw [cnt_of (unhide HOK) (unhide HX)], ?_, unhide HB⟩
      rw [read_of (unhide HOK) (unhide HX)]
      exact (unhide HG).toLies (by rw [unhide HLn]; omega) (unhide HSB)

set_option maxRecDepth 100000 in
set_option maxHeartbeats 1000000 in
/-- l8Read of the model. -/
theorem read8C (v : Value) (zs : List Int) (w : World) (h : (Lay.sl Lay.int).Reads w [v] zs) (hn : zs.length ≤ 10000000) :
    Calls Try.prog 57 #[v] w fun e w' => Told8 w w' e zs := by
  obtain ⟨ao, cap, rfl⟩ := open_sl h
  by_cases hp : 0 < zs.length
  · obtain ⟨b, off, rfl, hbl⟩ := Lay.sl_addr h hp
    exact read8_pos b off cap zs w h hbl hn
  · obtain rfl : zs = [] := List.eq_nil_of_length_eq_zero (by omega)
    clear h hp hn
    have HB := hide ((Below.refl w.heap.size w).alloc (Nat.le_refl _) (.cells #[] 58))
    have HG0 : Hid (Grow Lay.tWrite (w.alloc (.cells #[] 58)) w.heap.size 58 (.slice (some ⟨w.heap.size, 0, none⟩) 0 0) [] [] []) := Grow.nil (World.ownsRow_lit w #[] 0 (Nat.le_refl _) (Nat.zero_le _) rfl)
    go_enter Try.func57, Try.ntmps57
    go_wp2_with fail
    refine wp_loop_rounds 1 ?_
    rw [rounds_succ]
    go_wp2_with fail
    refine bodyPost_ret (v := .tuple #[.slice (some ⟨w.heap.size, 0, none⟩) 0 0, .int .i64 0]) (by simp [results, Try.results57, go_sem]) rfl ?_
    exact ⟨_, rfl, (unhide HG0).toLies (by simp) (by simp), unhide HB⟩

end Go.Proofs.Ytipomhpimmnchaa

namespace Go.Proofs.Ytipomhpimmnchaa
open Go.RowKit

theorem vcnt_WritesResult (x : DWritesResult) : Lay.tWritesResult.vcnt x = (Lay.sl Lay.tWrite).vcnt x.writes := by
  show 0 + ((Lay.sl Lay.tWrite).vcnt x.writes) = (Lay.sl Lay.tWrite).vcnt x.writes
  omega
theorem mkv_WritesResult (k : Int) (x : DWritesResult) : Lay.tWritesResult.mkv k x = ⟨x.code, (Lay.sl Lay.tWrite).mkv (k) x.writes⟩ := by
  simp [Lay.tWritesResult, Lay.via, Lay.pair, Lay.int]
theorem own_WritesResult {w : World} {cs : List Value} {x : DWritesResult} {bl : List Nat} (h : Lay.tWritesResult.Own w cs x bl) : ∃ (a1 : Option Addr) (d1 : Nat) (g1 : List Nat), cs = [.int .i64 x.code, .slice a1 x.writes.length d1] ∧ bl = g1 ∧ (Lay.sl Lay.tWrite).Own w [.slice a1 x.writes.length d1] x.writes g1 ∧ (Lit.int .i64 x.code).wf = true := by
  obtain ⟨hl, hn, hf⟩ := h
  obtain ⟨a1, d1, b1, rfl, hbl, w0, l1⟩ := lies_WritesResult.1 hl
  rw [hbl] at hn hf
  exact ⟨a1, d1, b1, rfl, hbl, ⟨l1, hn, hf⟩, w0⟩
theorem mkOwn_WritesResult {w : World} {x : DWritesResult} {c1 : List Value} {g1 : List Nat} (O1 : (Lay.sl Lay.tWrite).Own w c1 x.writes g1) (v0 : (Lit.int .i64 x.code).wf = true) (hn : (g1).Nodup) : Lay.tWritesResult.Own w ([.int .i64 x.code] ++ c1) x (g1) := by
  refine ⟨⟨[.int .i64 x.code], c1, [], g1, rfl, by simp, ⟨rfl, v0, rfl⟩, O1.1⟩, hn, ?_⟩
  intro b hb o
  exact O1.2.2 b hb o

end Go.Proofs.Ytipomhpimmnchaa

namespace Go.Proofs.Ytipomhpimmnchaa
open Go.RowKit

theorem lies_store {α : Type} {A : Lay α} {w w4 : World} {cs vs : List Value} {y : α} {lo hi : Nat} (h : A.LiesIn w4 cs y lo hi) (hlo : w.heap.size < lo) (hhi : hi ≤ w4.heap.size) :
    A.LiesIn (setAll w4 w.heap.size 0 vs) cs y w.heap.size (setAll w4 w.heap.size 0 vs).heap.size := by
  rw [size_setAll]
  exact (h.ext (ext_setAll (fun q => q = w.heap.size) (Ext.refl _ _) _ _ _ rfl) (fun q h1 h2 h3 => by omega)).mono (by omega) hhi
theorem own_store {α : Type} {A : Lay α} {w w4 : World} {cs vs : List Value} {y : α} {lo hi : Nat} (h : A.OwnIn w4 cs y lo hi) (hlo : w.heap.size < lo) (hhi : hi ≤ w4.heap.size) :
    A.OwnIn (setAll w4 w.heap.size 0 vs) cs y w.heap.size (setAll w4 w.heap.size 0 vs).heap.size := by
  rw [size_setAll]
  exact (h.ext (ext_setAll (fun q => q = w.heap.size) (Ext.refl _ _) _ _ _ rfl) (fun q h1 h2 h3 => by omega)).mono (by omega) hhi

/-- The block s alone may turn, and it is none of those that the answer lies in. -/
theorem lies_store' {α : Type} {A : Lay α} {w4 : World} {s : Nat} {cs vs : List Value} {y : α} {lo hi : Nat} (h : A.LiesIn w4 cs y lo hi) (hs : s < lo) : A.LiesIn (setAll w4 s 0 vs) cs y lo hi :=
  h.ext (ext_setAll (fun q => q = s) (Ext.refl _ _) _ _ _ rfl) (fun q h1 h2 h3 => by omega)
theorem own_store' {α : Type} {A : Lay α} {w4 : World} {s : Nat} {cs vs : List Value} {y : α} {lo hi : Nat} (h : A.OwnIn w4 cs y lo hi) (hs : s < lo) : A.OwnIn (setAll w4 s 0 vs) cs y lo hi :=
  h.ext (ext_setAll (fun q => q = s) (Ext.refl _ _) _ _ _ rfl) (fun q h1 h2 h3 => by omega)

theorem nil_own {α : Type} {A : Lay α} {w : World} {lo hi : Nat} : (Lay.sl A).OwnIn w [.slice none 0 0] [] lo hi := ⟨[], ⟨⟨none, 0, rfl, by simp, Or.inl ⟨rfl, rfl⟩⟩, by simp, by simp⟩, by simp⟩
theorem own_wsR {w : World} {c : Int} {v : Value} {xs : List DWrite} {lo hi : Nat} (hc : (Lit.int .i64 c).wf = true) (h : (Lay.sl Lay.tWrite).OwnIn w [v] xs lo hi) : Lay.tWritesResult.OwnIn w [.int .i64 c, v] ⟨c, xs⟩ lo hi := by
  obtain ⟨bl, ⟨l, n, f⟩, r⟩ := h
  exact ⟨bl, ⟨⟨[.int .i64 c], [v], [], bl, rfl, by simp, ⟨rfl, hc, rfl⟩, l⟩, n, f⟩, r⟩
theorem lies_wsR {w : World} {c : Int} {v : Value} {xs : List DWrite} {lo hi : Nat} (hc : (Lit.int .i64 c).wf = true) (h : (Lay.sl Lay.tWrite).LiesIn w [v] xs lo hi) : Lay.tWritesResult.LiesIn w [.int .i64 c, v] ⟨c, xs⟩ lo hi := by
  obtain ⟨bl, l, r⟩ := h
  exact ⟨bl, ⟨[.int .i64 c], [v], [], bl, rfl, by simp, ⟨rfl, hc, rfl⟩, l⟩, r⟩
theorem own_isR {w : World} {c : Int} {v : Value} {xs : List Int} {lo hi : Nat} (hc : (Lit.int .i64 c).wf = true) (h : (Lay.sl Lay.int).OwnIn w [v] xs lo hi) : Lay.tIntsResult.OwnIn w [.int .i64 c, v] ⟨c, xs⟩ lo hi := by
  obtain ⟨bl, ⟨l, n, f⟩, r⟩ := h
  exact ⟨bl, ⟨⟨[.int .i64 c], [v], [], bl, rfl, by simp, ⟨rfl, hc, rfl⟩, l⟩, n, f⟩, r⟩
theorem lies_isR {w : World} {c : Int} {v : Value} {xs : List Int} {lo hi : Nat} (hc : (Lit.int .i64 c).wf = true) (h : (Lay.sl Lay.int).LiesIn w [v] xs lo hi) : Lay.tIntsResult.LiesIn w [.int .i64 c, v] ⟨c, xs⟩ lo hi := by
  obtain ⟨bl, l, r⟩ := h
  exact ⟨bl, ⟨[.int .i64 c], [v], [], bl, rfl, by simp, ⟨rfl, hc, rfl⟩, l⟩, r⟩

/-- A log of two rows that lie apart. -/
theorem own_logR {w : World} {c n : Int} {u v : Value} {xs ys : List Int} {lo m m' hi : Nat} (hc : (Lit.int .i64 c).wf = true) (hn : (Lit.int .i64 n).wf = true) (h : (Lay.sl Lay.int).OwnIn w [u] xs lo m) (k : (Lay.sl Lay.int).OwnIn w [v] ys m' hi) (hm : m ≤ m') (hlo : lo ≤ m') (hhi : m ≤ hi) :
    Lay.tLogResult.OwnIn w [.int .i64 c, .int .i64 n, u, v] ⟨c, n, ⟨xs, ys⟩⟩ lo hi := by
  obtain ⟨bl, ⟨l, nd, f⟩, r⟩ := Lay.ownIn_pair h k hm hlo hhi
  exact ⟨bl, ⟨⟨[.int .i64 c], [.int .i64 n, u, v], [], bl, rfl, by simp, ⟨rfl, hc, rfl⟩, ⟨[.int .i64 n], [u, v], [], bl, rfl, by simp, ⟨rfl, hn, rfl⟩, l⟩⟩, nd, f⟩, r⟩
theorem lies_logR {w : World} {c n : Int} {u v : Value} {xs ys : List Int} {lo hi : Nat} (hc : (Lit.int .i64 c).wf = true) (hn : (Lit.int .i64 n).wf = true) (h : (Lay.sl Lay.int).LiesIn w [u] xs lo hi) (k : (Lay.sl Lay.int).LiesIn w [v] ys lo hi) :
    Lay.tLogResult.LiesIn w [.int .i64 c, .int .i64 n, u, v] ⟨c, n, ⟨xs, ys⟩⟩ lo hi := by
  obtain ⟨b1, l1, r1⟩ := h
  obtain ⟨b2, l2, r2⟩ := k
  refine ⟨b1 ++ b2, ⟨[.int .i64 c], [.int .i64 n, u, v], [], b1 ++ b2, rfl, by simp, ⟨rfl, hc, rfl⟩, ⟨[.int .i64 n], [u, v], [], b1 ++ b2, rfl, by simp, ⟨rfl, hn, rfl⟩, ⟨[u], [v], b1, b2, rfl, rfl, l1, l2⟩⟩⟩, fun b hb => ?_⟩
  rcases List.mem_append.1 hb with hb | hb
  · exact r1 b hb
  · exact r2 b hb
theorem own_badLog {w : World} {c : Int} {lo hi : Nat} (hc : (Lit.int .i64 c).wf = true) (hlh : lo ≤ hi) : Lay.tLogResult.OwnIn w [.int .i64 c, .int .i64 0, .slice none 0 0, .slice none 0 0] (badLog c) lo hi :=
  own_logR hc (by decide) (nil_own (lo := lo) (hi := lo)) (nil_own (lo := lo) (hi := hi)) (Nat.le_refl _) (Nat.le_refl _) hlh
theorem logFault_wf (x : DLog) : (Lit.int .i64 (logFault x)).wf = true := by
  unfold logFault
  split
  · decide
  · split <;> decide
theorem logFault_zero {x : DLog} (h : logFault x = 0) : x.sure.length + x.loose.length ≤ 320 ∧ 8 * cnt x.sure = x.sure.length ∧ 8 * cnt x.loose = x.loose.length := by
  unfold logFault at h
  split at h
  · simp at h
  · rename_i h1
    split at h
    · rename_i h2
      exact ⟨by omega, h2⟩
    · simp at h
end Go.Proofs.Ytipomhpimmnchaa

namespace Go.Proofs.Ytipomhpimmnchaa
open Go.RowKit

/-- A log that is pointed at. -/
def LogAt (w : World) (b : Nat) (u v : Value) : Prop := w.cell? ⟨b, 0, none⟩ = some u ∧ w.cell? ⟨b, 1, none⟩ = some v

set_option maxRecDepth 100000 in
set_option maxHeartbeats 2000000 in
theorem l8Fault (b : Nat) (u v : Value) (x : DLog) (w : World) (hc : LogAt w b u v) (h1 : (Lay.sl Lay.int).Reads w [u] x.sure) (h2 : (Lay.sl Lay.int).Reads w [v] x.loose) (n1 : x.sure.length ≤ 10000000) (n2 : x.loose.length ≤ 10000000) :
    Calls Try.prog 62 #[.pointer (some ⟨b, 0, none⟩)] w fun e w' => e = .returned (.int .i64 (logFault x)) ∧ Below w.heap.size w w' := by
  obtain ⟨c0, c1⟩ := hc
  obtain ⟨a1, d1, rfl⟩ := open_sl h1
  obtain ⟨a2, d2, rfl⟩ := open_sl h2
  have H1 := hide h1
  have H2 := hide h2
  clear h1 h2
  have hbl : b < w.heap.size := World.block_lt_of_cell? _ _ c0
  by_cases hn : 320 < x.sure.length + x.loose.length
  · have HF : Hid (logFault x = 2) := by show logFault x = 2; rw [logFault, if_pos hn]
    have hd : (decide ((320 : Int) < (x.sure.length : Int) + (x.loose.length : Int))) = true := by simp; omega
    go_enter Try.func62, Try.ntmps62
    go_wp2_with fail
    go_quiet (fail)
    go_wp2_with fail
    go_ret
    exact ⟨by rw [unhide HF]; rfl, below_drewN (Below.refl _ _) _⟩
  · have hd : (decide ((320 : Int) < (x.sure.length : Int) + (x.loose.length : Int))) = false := by simp; omega
    go_enter Try.func62, Try.ntmps62
    go_wp2_with fail
    go_quiet (fail)
    have hB0 : Below w.heap.size w (w.drewN nq) := below_drewN (Below.refl _ _) _
    have hnq : nq = nq := rfl
    generalize w.drewN nq = W at *
    have e0 := cell_keep hB0 c0
    have e1 := cell_keep hB0 c1
    have HL := hide (read8C _ x.sure W ((unhide H1).later hB0) n1)
    have HB0 := hide hB0
    clear c0 c1 hB0 hnq hd
    go_wp2_with fail
    refine (unhide HL).mono ?_
    rintro e w2 ⟨v2, rfl, R, hb⟩
    obtain ⟨a3, c3, rfl⟩ := open_sl R.reads
    replace e0 := cell_keep hb e0
    replace e1 := cell_keep hb e1
    have HB2 := hide ((unhide HB0).trans (hb.mono (unhide HB0).size))
    clear HL R hb HB0
    by_cases hs : 8 * cnt x.sure = x.sure.length
    · have hd1 : (((8 * cnt x.sure : Nat) : Int) != (x.sure.length : Int)) = false := by rw [hs]; simp
      have HW : Hid (logFault x = if 8 * cnt x.loose = x.loose.length then 0 else 5) := by
        show logFault x = _
        rw [logFault, if_neg hn]
        by_cases h9 : 8 * cnt x.loose = x.loose.length
        · rw [if_pos ⟨hs, h9⟩, if_pos h9]
        · rw [if_neg (fun q => h9 q.2), if_neg h9]
      have hc1 := cnt_le x.sure
      generalize (readL x.sure).length = r1 at *
      generalize hq1 : (8 * cnt x.sure : Nat) = q1 at *
      clear hs hq1
      have HL := hide (read8C _ x.loose w2 ((unhide H2).later (unhide HB2)) n2)
      go_wp2_with fail
      refine (unhide HL).mono ?_
      rintro e w3 ⟨v3, rfl, R, hb⟩
      obtain ⟨a4, c4, rfl⟩ := open_sl R.reads
      replace e0 := cell_keep hb e0
      replace e1 := cell_keep hb e1
      have HB3 := hide ((unhide HB2).trans (hb.mono (unhide HB2).size))
      clear HL R hb HB2
      generalize (readL x.loose).length = r2 at *
      have hc2 := cnt_le x.loose
      by_cases hl : 8 * cnt x.loose = x.loose.length
      · have hd2 : (((8 * cnt x.loose : Nat) : Int) != (x.loose.length : Int)) = false := by rw [hl]; simp
        have HX : Hid (logFault x = 0) := by show logFault x = 0; rw [unhide HW, if_pos hl]
        generalize hq2 : (8 * cnt x.loose : Nat) = q2 at *
        clear hl HW hq2
        go_wp2_with fail
        go_ret
        exact ⟨by rw [unhide HX]; rfl, unhide HB3⟩
      · have hd2 : (((8 * cnt x.loose : Nat) : Int) != (x.loose.length : Int)) = true := by rw [bne_iff_ne]; omega
        have HX : Hid (logFault x = 5) := by show logFault x = 5; rw [unhide HW, if_neg hl]
        generalize hq2 : (8 * cnt x.loose : Nat) = q2 at *
        clear hl HW hq2
        go_wp2_with fail
        go_ret
        exact ⟨by rw [unhide HX]; rfl, unhide HB3⟩
    · have hd1 : (((8 * cnt x.sure : Nat) : Int) != (x.sure.length : Int)) = true := by rw [bne_iff_ne]; omega
      have HX : Hid (logFault x = 5) := by show logFault x = 5; rw [logFault, if_neg hn, if_neg (fun q => hs q.1)]
      have hc1 := cnt_le x.sure
      generalize (readL x.sure).length = r1 at *
      generalize hq1 : (8 * cnt x.sure : Nat) = q1 at *
      clear hs hq1
      go_wp2_with fail
      go_ret
      exact ⟨by rw [unhide HX]; rfl, unhide HB2⟩

theorem sz_log {x : DLog} (h : Lay.tLog.sz x ≤ 1048576) : x.sure.length ≤ 10000000 ∧ x.loose.length ≤ 10000000 := by
  have h1 : (Lay.sl Lay.int).sz x.sure + (Lay.sl Lay.int).sz x.loose ≤ 1048576 := h
  have h2 := Lay.sz_len (A := Lay.int) (xs := x.sure)
  have h3 := Lay.sz_len (A := Lay.int) (xs := x.loose)
  omega
set_option maxHeartbeats 400000 in
/-- LogFault of the model. -/
theorem specLogFault (cs : List Value) (x : DLog) (w : World) (h : Lay.tLog.Reads w cs x) (n1 : x.sure.length ≤ 10000000) (n2 : x.loose.length ≤ 10000000) :
    Calls Try.prog 29 #[.agg cs.toArray] w fun e w' => e = .returned (.int .i64 (logFault x)) ∧ Below w.heap.size w w' := by
  obtain ⟨a0, d0, a1, d1, rfl, R0, R1⟩ := open_Log h
  clear h
  have nb : Below w.heap.size w (w.alloc (.cells #[.slice a0 x.sure.length d0, .slice a1 x.loose.length d1] 48)) := (Below.refl _ _).alloc (Nat.le_refl _) _
  have bL : Box w.heap.size #[.slice a0 x.sure.length d0, .slice a1 x.loose.length d1] 48 (w.alloc (.cells #[.slice a0 x.sure.length d0, .slice a1 x.loose.length d1] 48)) w.heap.size := newBox (Nat.le_refl _)
  have HL := hide (l8Fault w.heap.size _ _ x _ ⟨bL.at 0 _ rfl, bL.at 1 _ rfl⟩ (R0.later nb) (R1.later nb) n1 n2)
  have HB := hide nb
  clear nb bL R0 R1
  go_enter Try.func29, Try.ntmps29
  go_wp2_with fail
  refine (unhide HL).mono ?_
  rintro e w2 ⟨rfl, hb⟩
  have HB2 := hide ((unhide HB).trans (hb.mono (unhide HB).size))
  clear HL hb HB
  go_wp2_with fail
  go_ret
  exact ⟨rfl, unhide HB2⟩

end Go.Proofs.Ytipomhpimmnchaa

namespace Go.Proofs.Ytipomhpimmnchaa
open Go.RowKit

theorem count_eq (a b : Nat) : ((a : Int) + (b : Int)).tdiv 8 = (((a + b) / 8 : Nat) : Int) := by
  rw [← Int.natCast_add, Int.tdiv_eq_ediv_of_nonneg (by omega)]
  omega
theorem count_wf {n : Nat} (h : n ≤ 100000000) : (Lit.int .i64 (n : Int)).wf = true := wf_of_bd (by omega)

set_option maxRecDepth 100000 in
set_option maxHeartbeats 2000000 in
theorem l8OfC (u v : Value) (xs ys : List Int) (w : World) (h1 : (Lay.sl Lay.int).Reads w [u] xs) (h2 : (Lay.sl Lay.int).Reads w [v] ys) (n1 : xs.length ≤ 10000000) (n2 : ys.length ≤ 10000000) :
    Calls Try.prog 64 #[u, v] w fun e w' => ∃ a c a' c', e = .returned (.agg #[.int .i64 0, .int .i64 (((xs.length + ys.length) / 8 : Nat) : Int), .slice a xs.length c, .slice a' ys.length c']) ∧ Lay.tLogResult.LiesIn w' [.int .i64 0, .int .i64 (((xs.length + ys.length) / 8 : Nat) : Int), .slice a xs.length c, .slice a' ys.length c'] (logOf xs ys) w.heap.size w'.heap.size ∧ Below w.heap.size w w' := by
  have nb : Below w.heap.size w (w.alloc (.cells #[.int .i64 0, .int .i64 0, .slice none 0 0, .slice none 0 0] 56)) := (Below.refl _ _).alloc (Nat.le_refl _) _
  have bR : Box w.heap.size #[.int .i64 0, .int .i64 0, .slice none 0 0, .slice none 0 0] 56 (w.alloc (.cells #[.int .i64 0, .int .i64 0, .slice none 0 0, .slice none 0 0] 56)) w.heap.size := newBox (Nat.le_refl _)
  have H1 := hide (h1.later nb)
  have H2 := hide (h2.later nb)
  obtain ⟨a1, d1, rfl⟩ := open_sl h1
  obtain ⟨a2, d2, rfl⟩ := open_sl h2
  have HB := hide nb
  have HR := hide bR
  have HC : Hid (((xs.length : Int) + (ys.length : Int)).tdiv 8 = (((xs.length + ys.length) / 8 : Nat) : Int)) := count_eq _ _
  have HCW : Hid ((Lit.int .i64 (((xs.length + ys.length) / 8 : Nat) : Int)).wf = true) := count_wf (by omega)
  clear h1 h2 nb bR
  go_enter Try.func64, Try.ntmps64
  go_upto_region 1 with fail
  generalize w.alloc (.cells #[.int .i64 0, .int .i64 0, .slice none 0 0, .slice none 0 0] 56) = W0 at *
  have HL1 := hide (l1Ints _ xs W0 (Lay.ints_reads (unhide H1)) (by omega))
  have HW1 := hide (Lay.ints_reads (unhide H1)).wf
  have HW2 := hide (Lay.ints_reads (unhide H2)).wf
  go_wp2_with fail
  refine (unhide HL1).mono ?_
  rintro e w2 ⟨v2, rfl, O, hb⟩
  have hO1 := Lay.ownInts (unhide HW1) (by omega) O
  obtain ⟨a3, c3, rfl⟩ := open_sl hO1.reads
  have HL2 := hide (l1Ints _ ys w2 (Lay.ints_reads ((unhide H2).later hb)) (by omega))
  have HR2 := hide ((unhide HR).keep hb)
  have HB2 := hide ((unhide HB).trans (hb.mono (unhide HB).size))
  have HLT := hide (unhide HR).lt
  have HO1 := hide hO1
  have HZ := hide hb.size
  clear O hb hO1 HL1 HR HB H1 H2
  go_wp2_with fail
  refine (unhide HL2).mono ?_
  rintro e w3 ⟨v3, rfl, O, hb⟩
  have hO2 := Lay.ownInts (unhide HW2) (by omega) O
  obtain ⟨a4, c4, rfl⟩ := open_sl hO2.reads
  have hO1 := (unhide HO1).later hb
  have HLL : Hid (Lay.tLogResult.LiesIn w3 [.int .i64 0, .int .i64 (((xs.length + ys.length) / 8 : Nat) : Int), .slice a3 xs.length c3, .slice a4 ys.length c4] (logOf xs ys) W0.heap.size w3.heap.size) :=
    lies_logR (by decide) (unhide HCW) (hO1.lies.mono (Nat.le_refl _) hb.size) (hO2.lies.mono (unhide HZ) (Nat.le_refl _))
  have HB3 := hide ((unhide HB2).trans (hb.mono (unhide HB2).size))
  have bR := (unhide HR2).keep hb
  have z0 := bR.at 0 _ rfl
  have z1 := bR.at 1 _ rfl
  have z2 := bR.at 2 _ rfl
  have z3 := bR.at 3 _ rfl
  have ff := bR.soft
  have l0 := bR.lt
  clear O hb hO1 hO2 HO1 HL2 HR2 HB2 bR HZ
  go_wp2_with fail
  refine bodyPost_ret (v := .agg #[.int .i64 0, .int .i64 (((xs.length + ys.length) / 8 : Nat) : Int), .slice a3 xs.length c3, .slice a4 ys.length c4]) (by simp [results, Try.results64, go_sem, z0, z1, z2, z3]) rfl ?_
  exact ⟨a3, c3, a4, c4, rfl, lies_store (vs := [.int .i64 0, .int .i64 _, .slice a3 xs.length c3, .slice a4 ys.length c4]) (unhide HLL) (unhide HLT) (Nat.le_refl _), below_setAll (unhide HB3) w.heap.size 0 [.int .i64 0, .int .i64 _, .slice a3 xs.length c3, .slice a4 ys.length c4] (Nat.le_refl _)⟩

/-- The same, with names for all that is in the answer. -/
theorem l8OfD (u v : Value) (xs ys : List Int) (w : World) (h1 : (Lay.sl Lay.int).Reads w [u] xs) (h2 : (Lay.sl Lay.int).Reads w [v] ys) (n1 : xs.length ≤ 10000000) (n2 : ys.length ≤ 10000000) :
    Calls Try.prog 64 #[u, v] w fun e w' => ∃ (cn : Int) (a : Option Addr) (n c : Nat) (a' : Option Addr) (n' c' : Nat), e = .returned (.agg #[.int .i64 0, .int .i64 cn, .slice a n c, .slice a' n' c']) ∧ Lay.tLogResult.LiesIn w' [.int .i64 0, .int .i64 cn, .slice a n c, .slice a' n' c'] (logOf xs ys) w.heap.size w'.heap.size ∧ Below w.heap.size w w' := by
  refine (l8OfC u v xs ys w h1 h2 n1 n2).mono ?_
  rintro e w' ⟨a, c, a', c', h⟩
  exact ⟨_, a, _, c, a', _, c', h⟩

end Go.Proofs.Ytipomhpimmnchaa

namespace Go.Proofs.Ytipomhpimmnchaa
open Go.RowKit

theorem step_append_ints {w : World} {base : Nat} {v : Value} {n : Nat} {xs : List Value} (hown : w.ownsRow base 2 1 v n xs) {X : Value} {ks : List Int} (hx : IsInts w X ks)
    {ops : Array Oper} {o : Oper} {a : Act} {K : Act → World → Prop} {Q : Exit → Act → World → Prop} {E : Prop} (hgd : o.guard = none) (s x : Operand)
    (ho : o.op = .call { callee := .builtin .append, args := #[s, x], argTypes := #[24, 24] }) (hv : a.eval s = v) (hX : a.eval x = X)
    (hn : n + ks.length ≤ 100000000) (hbase : base ≤ w.heap.size)
    (h : ∀ v' w', w'.ownsRow base 2 1 v' (n + ks.length) (xs ++ ks.map (Value.int .i64)) → w.grownBy w' v.ownBlock → Below base w w' → K (a.put o.dst v') w') :
    if Region.wanted o (yielded ops a.tmps) = true then Oper.wp Try.prog o a w K Q else E := by
  rw [if_pos (show Region.wanted o (yielded ops a.tmps) = true by simp [Region.wanted, hgd])]
  obtain ⟨v', w', hr, h2, h3⟩ := run_append_ints base o.type v n xs hown X ks hx hn hbase
  unfold Oper.wp execOp
  simp only [ho, resolve, invoke, builtin, Sem.run_bind, Sem.run_pure, Result.andThen_ok, List.map_toArray, List.map_cons, List.map_nil, hv, hX, hr]
  exact h v' w' h2 h3 ((Below.refl _ _).grown h3 hbase (fun j hj => (hown.lt j hj).1))

end Go.Proofs.Ytipomhpimmnchaa

namespace Go.Proofs.Ytipomhpimmnchaa
open Go.RowKit

set_option maxRecDepth 100000 in
set_option maxHeartbeats 4000000 in
theorem specAppendLog (cs : List Value) (x : DLog) (ys : List Value) (y : DWrite) (w : World) (h : Lay.tLog.Reads w cs x) (hy : Lay.tWrite.Reads w ys y) (n1 : x.sure.length ≤ 10000000) (n2 : x.loose.length ≤ 10000000) :
    Calls Try.prog 34 #[.agg cs.toArray, .agg ys.toArray] w fun e w' => ∃ cs, e = .returned (.agg cs.toArray) ∧ Lay.tLogResult.LiesIn w' cs (appendLogR x y) w.heap.size w'.heap.size ∧ Below w.heap.size w w' := by
  obtain ⟨a0, d0, a1, d1, rfl, R0, R1⟩ := open_Log h
  obtain ⟨a2, d2, rfl, R2⟩ := open_Write hy
  have HV := hide R2
  clear hy R2
  clear h
  have nb : Below w.heap.size w (((w.alloc (.cells #[.slice a0 x.sure.length d0, .slice a1 x.loose.length d1] 48)).alloc (.cells #[.int .i64 y.kind, .int .i64 y.id, .slice a2 y.vec.length d2, .int .i64 y.session, .int .i64 y.seq] 58)).alloc (.cells #[.int .i64 0, .int .i64 0, .slice none 0 0, .slice none 0 0] 56)) := (((Below.refl _ _).alloc (Nat.le_refl _) _).alloc (by simp) _).alloc (by simp; omega) _
  have bX : Box w.heap.size #[.slice a0 x.sure.length d0, .slice a1 x.loose.length d1] 48 (((w.alloc (.cells #[.slice a0 x.sure.length d0, .slice a1 x.loose.length d1] 48)).alloc (.cells #[.int .i64 y.kind, .int .i64 y.id, .slice a2 y.vec.length d2, .int .i64 y.session, .int .i64 y.seq] 58)).alloc (.cells #[.int .i64 0, .int .i64 0, .slice none 0 0, .slice none 0 0] 56)) w.heap.size := ((newBox (Nat.le_refl _)).grow _).grow _
  have bR : Box 0 #[.int .i64 0, .int .i64 0, .slice none 0 0, .slice none 0 0] 56 (((w.alloc (.cells #[.slice a0 x.sure.length d0, .slice a1 x.loose.length d1] 48)).alloc (.cells #[.int .i64 y.kind, .int .i64 y.id, .slice a2 y.vec.length d2, .int .i64 y.session, .int .i64 y.seq] 58)).alloc (.cells #[.int .i64 0, .int .i64 0, .slice none 0 0, .slice none 0 0] 56)) (w.heap.size + 2) := newBoxAt (Nat.zero_le _) (by simp)
  have HY0 : Hid (Box w.heap.size #[.int .i64 y.kind, .int .i64 y.id, .slice a2 y.vec.length d2, .int .i64 y.session, .int .i64 y.seq] 58 (((w.alloc (.cells #[.slice a0 x.sure.length d0, .slice a1 x.loose.length d1] 48)).alloc (.cells #[.int .i64 y.kind, .int .i64 y.id, .slice a2 y.vec.length d2, .int .i64 y.session, .int .i64 y.seq] 58)).alloc (.cells #[.int .i64 0, .int .i64 0, .slice none 0 0, .slice none 0 0] 56)) (w.heap.size + 1)) := (newBoxAt (by omega) (by simp)).grow _
  have HL := hide (l8Fault w.heap.size _ _ x _ ⟨bX.at 0 _ rfl, bX.at 1 _ rfl⟩ (R0.later nb) (R1.later nb) n1 n2)
  have H0 := hide R0
  have H1 := hide R1
  have HX0 := hide bX
  have HR0 := hide bR
  have HB0 := hide nb
  clear nb bX bR R0 R1
  go_enter Try.func34, Try.ntmps34
  go_wp2_with fail
  generalize ((w.alloc (.cells #[.slice a0 x.sure.length d0, .slice a1 x.loose.length d1] 48)).alloc (.cells #[.int .i64 y.kind, .int .i64 y.id, .slice a2 y.vec.length d2, .int .i64 y.session, .int .i64 y.seq] 58)).alloc (.cells #[.int .i64 0, .int .i64 0, .slice none 0 0, .slice none 0 0] 56) = W0 at *
  refine (unhide HL).mono ?_
  rintro e W2 ⟨rfl, hb⟩
  have HX := hide ((unhide HX0).keep hb)
  have HR := hide ((unhide HR0).keep hb)
  have HB2 := hide ((unhide HB0).trans (hb.mono (unhide HB0).size))
  have HY2 := hide ((unhide HY0).keep hb)
  clear hb HL HX0 HR0 HB0
  by_cases hf : logFault x = 0
  · obtain ⟨hn, hs, hl⟩ := logFault_zero hf
    have HF := hide hf
    rw [hf]
    clear hf hs hl
    have bY := unhide HY2
    have LF := hide (l3Fault (w.heap.size + 1) y.kind y.id _ y.session y.seq y.vec W2 ⟨bY.at 0 _ rfl, bY.at 1 _ rfl, bY.at 2 _ rfl, bY.at 3 _ rfl, bY.at 4 _ rfl⟩ (Lay.ints_reads ((unhide HV).later (unhide HB2))))
    have HWX : Hid (wF y = writeFault y.kind y.id y.vec y.session y.seq) := rfl
    rw [← unhide HWX] at LF
    clear bY HWX
    go_wp2_with fail
    refine (unhide LF).mono ?_
    rintro e W3 ⟨rfl, h3⟩
    subst W3
    clear LF
    by_cases hy : wF y = 0
    · have HFY : Hid (writeFault y.kind y.id y.vec y.session y.seq = 0) := hy
      have HPD : Hid (packD y = wordsOf y.kind y.id y.vec y.session y.seq) := if_pos hy
      have HPW : Hid (∀ z ∈ packD y, (Lit.int .i64 z).wf = true) := fun z hz => packList_wf z hz
      have HP8 : Hid ((packD y).length = 8) := packD_len hy
      rw [hy]
      by_cases hm : 320 ≤ x.sure.length + x.loose.length
      · have HY : Hid (appendLogR x y = badLog 2) := by show appendLogR x y = _; rw [appendLogR, if_pos (unhide HF), if_pos hy, if_pos hm]
        clear hy HF HFY HPD
        have hd2 : decide ((320 : Int) ≤ (x.sure.length : Int) + (x.loose.length : Int)) = true := by simp; omega
        have x0 := (unhide HX).at 0 _ rfl
        have x1 := (unhide HX).at 1 _ rfl
        simp only [List.getElem_toArray, List.getElem_cons_zero, List.getElem_cons_succ] at x0 x1
        have bR := unhide HR
        have z0 := bR.at 0 _ rfl
        have z1 := bR.at 1 _ rfl
        have z2 := bR.at 2 _ rfl
        have z3 := bR.at 3 _ rfl
        have ff := bR.soft
        have l0 := bR.lt
        simp only [List.getElem_toArray, List.getElem_cons_zero, List.getElem_cons_succ] at z0 z1 z2 z3
        clear bR
        go_wp2_with fail
        refine bodyPost_ret (v := .agg #[.int .i64 2, .int .i64 0, .slice none 0 0, .slice none 0 0]) (by simp [results, Try.results34, go_sem, z0, z1, z2, z3]) rfl ?_
        rw [unhide HY]
        have hB9 := below_setAll (unhide HB2) (w.heap.size + 2) 0 [.int .i64 2, .int .i64 0, .slice none 0 0, .slice none 0 0] (by omega)
        exact ⟨[.int .i64 2, .int .i64 0, .slice none 0 0, .slice none 0 0], rfl, (own_badLog (by decide) (by have := hB9.size; exact this)).lies, hB9⟩
      · have HY : Hid (appendLogR x y = logOf x.sure (x.loose ++ packD y)) := by show appendLogR x y = _; rw [appendLogR, if_pos (unhide HF), if_pos hy, if_neg hm]
        clear hy HF
        have hd2 : decide ((320 : Int) ≤ (x.sure.length : Int) + (x.loose.length : Int)) = false := by simp; omega
        have HWA : Hid (∀ z ∈ x.loose ++ packD y, (Lit.int .i64 z).wf = true) := by
          intro z hz
          rcases List.mem_append.1 hz with hz | hz
          · exact (Lay.ints_reads (unhide H1)).wf z hz
          · exact unhide HPW z hz
        have x0 := (unhide HX).at 0 _ rfl
        have x1 := (unhide HX).at 1 _ rfl
        simp only [List.getElem_toArray, List.getElem_cons_zero, List.getElem_cons_succ] at x0 x1
        have hxl := (unhide HX).lt
        go_wp2_with fail
        clear x0 x1
        have hRD : Box 0 #[.int .i64 0, .int .i64 0, .slice none 0 0, .slice none 0 0] 56 W2.drew (w.heap.size + 2) := (unhide HR).drew
        refine wp_region_noPanic ?_
        refine wp_region_held_drew (S := fun w' => Below (w.heap.size + 2) W2 w') (by kernel_rfl) (Below.refl _ _).drew (fun hHeld => ?_)
        generalize W2.drew = wD at hHeld hRD ⊢
        refine wpAnyH_take (i := 0) (oi := { dst := some 26, op := Go.Op.fieldAddr 48 (Go.Operand.tmp 2) 0, type := 0, pos := "l08_log.go:78", after := #[], guard := none }) (v := ?v0_1) rfl (by kernel_rfl) (by kernel_rfl) (by kernel_rfl) (fun _ _ _ h => h) (Or.inl ⟨by rfl, ?h0_1⟩) hHeld ?r0_1
        case h0_1 =>
          intro wS hSw
          (try dsimp only at hSw)
          go_simp
          try with_reducible rfl
        case r0_1 =>
        simp only [Act.put, List.setIfInBounds_toArray, List.set_cons_zero, List.set_cons_succ]
        refine wpAnyH_take (i := 1) (oi := { dst := some 27, op := Go.Op.load 24 (Go.Operand.tmp 26), type := 24, pos := "l08_log.go:78", after := #[{ on := 0, ground := Go.Ground.data }], guard := none }) (v := ?v1_2) rfl (by kernel_rfl) (by kernel_rfl) (by kernel_rfl) (fun _ _ _ h => h) (Or.inl ⟨by rfl, ?h1_2⟩) hHeld ?r1_2
        case h1_2 =>
          intro wS hSw
          have y0 : wS.cell? ⟨w.heap.size, 0, none⟩ = some (.slice a0 x.sure.length d0) := (hSw.cell (p := ⟨w.heap.size, 0, none⟩) (by simp)).trans ((unhide HX).at 0 _ rfl)
          clear hSw
          (try dsimp only at hSw)
          go_simp
          try with_reducible rfl
        case r1_2 =>
        simp only [Act.put, List.setIfInBounds_toArray, List.set_cons_zero, List.set_cons_succ]
        refine wpAnyH_take (i := 2) (oi := { dst := some 28, op := Go.Op.fieldAddr 48 (Go.Operand.tmp 2) 1, type := 0, pos := "l08_log.go:78", after := #[], guard := none }) (v := ?v2_3) rfl (by kernel_rfl) (by kernel_rfl) (by kernel_rfl) (fun _ _ _ h => h) (Or.inl ⟨by rfl, ?h2_3⟩) hHeld ?r2_3
        case h2_3 =>
          intro wS hSw
          (try dsimp only at hSw)
          go_simp
          try with_reducible rfl
        case r2_3 =>
        simp only [Act.put, List.setIfInBounds_toArray, List.set_cons_zero, List.set_cons_succ]
        refine wpAnyH_take (i := 3) (oi := { dst := some 29, op := Go.Op.load 24 (Go.Operand.tmp 28), type := 24, pos := "l08_log.go:78", after := #[{ on := 2, ground := Go.Ground.data }], guard := none }) (v := ?v3_4) rfl (by kernel_rfl) (by kernel_rfl) (by kernel_rfl) (fun _ _ _ h => h) (Or.inl ⟨by rfl, ?h3_4⟩) hHeld ?r3_4
        case h3_4 =>
          intro wS hSw
          have y1 : wS.cell? ⟨w.heap.size, 1, none⟩ = some (.slice a1 x.loose.length d1) := (hSw.cell (p := ⟨w.heap.size, 1, none⟩) (by simp)).trans ((unhide HX).at 1 _ rfl)
          clear hSw
          (try dsimp only at hSw)
          go_simp
          try with_reducible rfl
        case r3_4 =>
        simp only [Act.put, List.setIfInBounds_toArray, List.set_cons_zero, List.set_cons_succ]
        refine wpAnyH_ready (rs := [4]) (by kernel_rfl) (by simp) ?_
        refine AllReadyH.cons (o := { dst := some 30, op := Go.Op.call { callee := Go.Callee.value (Go.Operand.func 65), args := #[Go.Operand.tmp 29], argTypes := #[24] }, type := 24, pos := "l08_log.go:78", after := #[{ on := 3, ground := Go.Ground.data }], guard := none }) rfl (fun K hK => ?_) AllReadyH.nil
        go_simp
        go_at_call 65
        have hWD := (unhide HB2).trans (hHeld.mono (by omega))
        refine (l1Ints _ x.loose _ (Lay.ints_reads ((unhide H1).later hWD)) (by omega)).mono ?_
        rintro e w3 ⟨v3, rfl, O3, hbw⟩
        have hH3 := hWD.trans (hbw.mono hWD.size)
        have hS3 := hHeld.trans (hbw.mono (by have := hRD.lt; omega))
        have bR3 := hRD.keep hbw
        have hz3 := hbw.size
        try go_wp2_with fail
        refine hK.out _ _ hS3 (fun hHeld => ?_)
        clear hK K
        try simp only [Act.put, List.setIfInBounds_toArray, List.set_cons_zero, List.set_cons_succ]
        refine wpAnyH_ready (rs := [5]) (by kernel_rfl) (by simp) ?_
        refine AllReadyH.cons (o := { dst := some 31, op := Go.Op.call { callee := Go.Callee.value (Go.Operand.func 66), args := #[Go.Operand.tmp 3], argTypes := #[77] }, type := 24, pos := "l08_log.go:78", after := #[{ on := 4, ground := Go.Ground.chain }], guard := none }) rfl (fun K hK => ?_) AllReadyH.nil
        go_simp
        go_at_call 66
        have bY3 : Box w.heap.size #[.int .i64 y.kind, .int .i64 y.id, .slice a2 y.vec.length d2, .int .i64 y.session, .int .i64 y.seq] 58 w3 (w.heap.size + 1) := ⟨(unhide HY2).1, (hS3.block (w.heap.size + 1) (by omega)).trans (unhide HY2).2⟩
        refine (l3Pack (w.heap.size + 1) y.kind y.id _ y.session y.seq y.vec w3 ⟨bY3.at 0 _ rfl, bY3.at 1 _ rfl, bY3.at 2 _ rfl, bY3.at 3 _ rfl, bY3.at 4 _ rfl⟩ (Lay.ints_reads ((unhide HV).later hH3)) (unhide HFY)).mono ?_
        rintro e w4 ⟨g4, rfl, O4, hbw4⟩
        have I4 := isInts_row (zs := packD y) (unhide HPW) (by rw [unhide HPD]; exact O4)
        have O34 := own_below O3 hbw4
        have hS4 := hS3.trans (hbw4.mono (by have := hRD.lt; omega))
        have bR4 := bR3.keep hbw4
        have hz4 : wD.heap.size ≤ w4.heap.size := by have := hbw4.size; omega
        have hH4 := hH3.trans (hbw4.mono hH3.size)
        try go_wp2_with fail
        refine hK.out _ _ hS4 (fun hHeld => ?_)
        clear hK K
        try simp only [Act.put, List.setIfInBounds_toArray, List.set_cons_zero, List.set_cons_succ]
        refine wpAnyH_ready (rs := [6]) (by kernel_rfl) (by simp) ?_
        refine AllReadyH.cons (o := { dst := some 32, op := Go.Op.call { callee := Go.Callee.builtin Go.Builtin.append, args := #[Go.Operand.tmp 30, Go.Operand.tmp 31], argTypes := #[24, 24] }, type := 24, pos := "l08_log.go:78", after := #[{ on := 4, ground := Go.Ground.data }, { on := 5, ground := Go.Ground.data }, { on := 5, ground := Go.Ground.chain }], guard := none }) rfl (fun K hK => ?_) AllReadyH.nil
        refine step_append_ints O34 I4 rfl _ _ rfl rfl rfl (by have := unhide HP8; omega) hz4 ?_
        rintro v5 w5 O5 hg5 hb5
        have hS5 := hS4.trans (hb5.mono (by have := hRD.lt; omega))
        have bR5 : Box 0 #[.int .i64 0, .int .i64 0, .slice none 0 0, .slice none 0 0] 56 w5 (w.heap.size + 2) := ⟨bR4.1, (hg5.block (w.heap.size + 2) bR4.lt (fun e => by have h1 := (O34.lt _ e.symm).1; have h2 := hRD.lt; omega)).trans bR4.2⟩
        have hH5 := hH4.trans (hb5.mono (by have := hWD.size; omega))
        have hz5 := hb5.size
        have O5I := Lay.ownInts (zs := x.loose ++ packD y) (unhide HWA) (by have := unhide HP8; rw [List.length_append]; omega) (by rw [List.length_append, List.map_append]; exact O5)
        refine hK.out _ _ hS5 (fun hHeld => ?_)
        clear hK K
        try simp only [Act.put, List.setIfInBounds_toArray, List.set_cons_zero, List.set_cons_succ]
        refine wpAnyH_ready (rs := [7]) (by kernel_rfl) (by simp) ?_
        refine AllReadyH.cons (o := { dst := some 33, op := Go.Op.call { callee := Go.Callee.value (Go.Operand.func 64), args := #[Go.Operand.tmp 27, Go.Operand.tmp 32], argTypes := #[24, 24] }, type := 56, pos := "l08_log.go:78", after := #[{ on := 1, ground := Go.Ground.data }, { on := 6, ground := Go.Ground.data }, { on := 6, ground := Go.Ground.chain }], guard := none }) rfl (fun K hK => ?_) AllReadyH.nil
        go_simp
        go_at_call 64
        refine (l8OfD _ _ x.sure (x.loose ++ packD y) w5 ((unhide H0).later hH5) O5I.reads (by omega) (by have := unhide HP8; rw [List.length_append]; omega)).mono ?_
        rintro e w6 ⟨cn, a6, n6, c6, a7, n7, c7, rfl, R6, hbw⟩
        have hS6 := hS5.trans (hbw.mono (by have := bR5.lt; omega))
        have bR6 := bR5.keep hbw
        have hlo6 := bR5.lt
        have hH6 := hH5.trans (hbw.mono hH5.size)
        try go_wp2_with fail
        refine hK.out _ _ hS6 (fun hHeld => ?_)
        clear hK K
        try simp only [Act.put, List.setIfInBounds_toArray, List.set_cons_zero, List.set_cons_succ]
        refine wpAnyH_ready (rs := [8]) (by kernel_rfl) (by simp) ?_
        refine AllReadyH.cons (o := { dst := none, op := Go.Op.store 56 (Go.Operand.tmp 4) (Go.Operand.tmp 33), type := 0, pos := "l08_log.go:78", after := #[{ on := 7, ground := Go.Ground.data }, { on := 7, ground := Go.Ground.chain }, { on := 0, ground := Go.Ground.phase }, { on := 1, ground := Go.Ground.phase }, { on := 2, ground := Go.Ground.phase }, { on := 3, ground := Go.Ground.phase }, { on := 4, ground := Go.Ground.phase }, { on := 5, ground := Go.Ground.phase }, { on := 6, ground := Go.Ground.phase }, { on := 7, ground := Go.Ground.phase }], guard := none }) rfl (fun K hK => ?_) AllReadyH.nil
        have z0 := bR6.at 0 _ rfl
        have z1 := bR6.at 1 _ rfl
        have z2 := bR6.at 2 _ rfl
        have z3 := bR6.at 3 _ rfl
        have ff := bR6.soft
        have l0 := bR6.lt
        simp only [List.getElem_toArray, List.getElem_cons_zero, List.getElem_cons_succ] at z0 z1 z2 z3
        have hfin := lies_store' (s := w.heap.size + 2) (vs := [.int .i64 0, .int .i64 cn, .slice a6 n6 c6, .slice a7 n7 c7]) R6 hlo6
        have hbfin := below_setAll hH6 (w.heap.size + 2) 0 [.int .i64 0, .int .i64 cn, .slice a6 n6 c6, .slice a7 n7 c7] (by omega)
        have hsfin := size_setAll w6 (w.heap.size + 2) 0 [.int .i64 0, .int .i64 cn, .slice a6 n6 c6, .slice a7 n7 c7]
        go_simp
        try go_wp2_with fail
        refine hK.out _ _ (below_setAll hS6 (w.heap.size + 2) 0 [.int .i64 0, .int .i64 cn, .slice a6 n6 c6, .slice a7 n7 c7] (by omega)) (fun hHeld => ?_)
        clear hK K
        try simp only [Act.put, List.setIfInBounds_toArray, List.set_cons_zero, List.set_cons_succ]
        refine wpAnyH_done (by kernel_rfl) ?_ _
        refine NoPanic.normal ?_
        clear hHeld
        have HFIN := hide hfin
        have HBF := hide hbfin
        have HSF := hide hsfin
        have HHZ := hide hH6.size
        have HHO := hide hlo6
        have HZD := hide hWD.size
        clear hfin hbfin hsfin R6 hbw hH6 hS6
        go_wp2_with fail
        refine bodyPost_ret (v := .agg #[.int .i64 0, .int .i64 cn, .slice a6 n6 c6, .slice a7 n7 c7]) (by simp [results, Try.results34, go_sem, z0, z1, z2, z3]) rfl ?_
        rw [unhide HY]
        refine ⟨[.int .i64 0, .int .i64 cn, .slice a6 n6 c6, .slice a7 n7 c7], rfl, ?_, unhide HBF⟩
        refine (unhide HFIN).mono ?_ ?_
        · have := unhide HHO; omega
        · have h1 := unhide HSF; have h2 := unhide HHZ; exact Nat.le_of_eq h1.symm
    · have hd2 : (wF y != 0) = true := by simpa using hy
      have HY : Hid (appendLogR x y = badLog (wF y)) := by show appendLogR x y = _; rw [appendLogR, if_pos (unhide HF), if_neg hy]
      have HW := hide (wF_wf y)
      clear HF hy
      generalize wF y = c at *
      have bR := unhide HR
      have z0 := bR.at 0 _ rfl
      have z1 := bR.at 1 _ rfl
      have z2 := bR.at 2 _ rfl
      have z3 := bR.at 3 _ rfl
      have ff := bR.soft
      have l0 := bR.lt
      simp only [List.getElem_toArray, List.getElem_cons_zero, List.getElem_cons_succ] at z0 z1 z2 z3
      clear bR
      go_wp2_with fail
      refine bodyPost_ret (v := .agg #[.int .i64 c, .int .i64 0, .slice none 0 0, .slice none 0 0]) (by simp [results, Try.results34, go_sem, z0, z1, z2, z3]) rfl ?_
      rw [unhide HY]
      have hB9 := below_setAll (unhide HB2) (w.heap.size + 2) 0 [.int .i64 c, .int .i64 0, .slice none 0 0, .slice none 0 0] (by omega)
      exact ⟨[.int .i64 c, .int .i64 0, .slice none 0 0, .slice none 0 0], rfl, (own_badLog (unhide HW) (by have := hB9.size; exact this)).lies, hB9⟩
  · have hd : (logFault x != 0) = true := by simpa using hf
    have HY : Hid (appendLogR x y = badLog (logFault x)) := by show appendLogR x y = _; rw [appendLogR, if_neg hf]
    have HW := hide (logFault_wf x)
    generalize logFault x = c at *
    clear hf
    have bR := unhide HR
    have z0 := bR.at 0 _ rfl
    have z1 := bR.at 1 _ rfl
    have z2 := bR.at 2 _ rfl
    have z3 := bR.at 3 _ rfl
    have ff := bR.soft
    have l0 := bR.lt
    simp only [List.getElem_toArray, List.getElem_cons_zero, List.getElem_cons_succ] at z0 z1 z2 z3
    clear bR
    go_wp2_with fail
    refine bodyPost_ret (v := .agg #[.int .i64 c, .int .i64 0, .slice none 0 0, .slice none 0 0]) (by simp [results, Try.results34, go_sem, z0, z1, z2, z3]) rfl ?_
    rw [unhide HY]
    have hB9 := below_setAll (unhide HB2) (w.heap.size + 2) 0 [.int .i64 c, .int .i64 0, .slice none 0 0, .slice none 0 0] (by omega)
    exact ⟨[.int .i64 c, .int .i64 0, .slice none 0 0, .slice none 0 0], rfl, (own_badLog (unhide HW) (by have := hB9.size; exact this)).lies, hB9⟩

end Go.Proofs.Ytipomhpimmnchaa

namespace Go.Proofs.Ytipomhpimmnchaa
open Go.RowKit

/-- Blocks below n that are not in S are as they were. -/
def KpS (n : Nat) (S : Nat → Prop) (W W' : World) : Prop := W.heap.size ≤ W'.heap.size ∧ ∀ b, b < n → ¬ S b → W'.heap[b]? = W.heap[b]?
theorem KpS.refl (n : Nat) (S : Nat → Prop) (W : World) : KpS n S W W := ⟨Nat.le_refl _, fun _ _ _ => rfl⟩
theorem KpS.trans {n : Nat} {S : Nat → Prop} {a b c : World} (h : KpS n S a b) (k : KpS n S b c) : KpS n S a c := ⟨Nat.le_trans h.1 k.1, fun i h1 h2 => (k.2 i h1 h2).trans (h.2 i h1 h2)⟩
theorem KpS.put {n : Nat} (S : Nat → Prop) (W : World) (l : Nat) (o' : Obj) (hl : n ≤ l) : KpS n S W (W.putObj l o') :=
  ⟨by simp, fun b hb _ => World.putObj_heap_other (by omega)⟩
theorem KpS.of_ext {n : Nat} {S T : Nat → Prop} {a b : World} (h : Ext T a b) (hn : n ≤ a.heap.size) (hs : ∀ k, k < n → T k → S k) : KpS n S a b :=
  ⟨h.size, fun k hk hS => h.block k (by omega) fun ht => hS (hs k hk ht)⟩
theorem KpS.of_below {n : Nat} (S : Nat → Prop) {a b : World} (h : Below a.heap.size a b) (hn : n ≤ a.heap.size) : KpS n S a b := ⟨h.size, fun k hk _ => h.block k (by omega)⟩
theorem ext_of_grownBy {A B : World} {row : Option Nat} (h : A.grownBy B row) : Ext (fun q => row = some q) A B := ⟨h.os, h.tape, h.output, h.size, fun k hk hn => h.block k hk fun e => hn e.symm⟩
theorem keepsFrom_ext {B : Nat} {S : Nat → Prop} {a b : World} (h : Ext S a b) (hs : ∀ k o, B ≤ k → a.heap[k]? = some o → o.isCells = false → ¬ S k) : KeepsFrom B a b :=
  ⟨h.size, fun k o hB hk ho => (h.block k (Array.getElem?_eq_some_iff.1 hk).1 (hs k o hB hk ho)).trans hk⟩
theorem keepsFrom_below {B : Nat} {a b : World} (h : Below a.heap.size a b) : KeepsFrom B a b :=
  ⟨h.size, fun k _ _ hk _ => (h.block k (Array.getElem?_eq_some_iff.1 hk).1).trans hk⟩
/-- A block of cells is not turned. -/
theorem grown_cells {A B : World} {row : Option Nat} (h : A.grownBy B row) {n : Nat} (hr : ∀ r, row = some r → n ≤ r ∧ ∃ o : Obj, A.heap[r]? = some o ∧ o.isCells = false) {b : Nat} {o : Obj} (hb : A.heap[b]? = some o) (ho : b < n ∨ o.isCells = true) : B.heap[b]? = some o := by
  refine (h.block b (Array.getElem?_eq_some_iff.1 hb).1 fun e => ?_).trans hb
  obtain ⟨h1, o', h2, h3⟩ := hr b e.symm
  rcases ho with ho | ho
  · omega
  · rw [hb] at h2
    cases h2
    rw [ho] at h3
    cases h3
theorem box_grown {A B : World} {row : Option Nat} (h : A.grownBy B row) {n lo : Nat} (hr : ∀ r, row = some r → n ≤ r ∧ ∃ o : Obj, A.heap[r]? = some o ∧ o.isCells = false) {cs : Array Value} {T s : Nat} (hb : Box lo cs T A s) : Box lo cs T B s :=
  ⟨hb.1, grown_cells h hr hb.2 (Or.inr rfl)⟩
theorem below_grown {A B w : World} {row : Option Nat} (h : A.grownBy B row) {n m : Nat} (hr : ∀ r, row = some r → n ≤ r ∧ ∃ o : Obj, A.heap[r]? = some o ∧ o.isCells = false) (hb : Below m w A) (hm : m ≤ n) (hw : m ≤ w.heap.size) : Below m w B :=
  hb.grown h (Nat.le_trans hw hb.size) fun k e => by have := (hr k e).1; omega

end Go.Proofs.Ytipomhpimmnchaa

namespace Go.Proofs.Ytipomhpimmnchaa
open Go.RowKit

variable {P : Program} {ops : Array Oper} {Q : Exit → Act → World → Prop}

def noDefer (o : Oper) : Bool := match o.op with | .defer _ => false | _ => true
theorem upon_in (l n : Nat) {o : Oper} {a : Act} {K : Act → World → Prop} {r : Result Next} (h : o.upon P a K Q r) : o.uponIn (Fence.wide.inRound l) n P a K Q r := by
  cases r with
  | ok x w' =>
    cases x with
    | value v => exact h
    | skip => exact h
    | defer d => exact h
    | enter f args => exact ⟨fun e => by simp [Fence.wide] at e, CallsIn.inRound l (callsIn_wide.2 h)⟩
    | row row args =>
      refine ⟨fun e => by simp [Fence.wide] at e, fun c cs _ => ?_⟩
      obtain ⟨v, w2, h1, h2⟩ := h c cs
      exact ⟨v, w2, h1, stepsIn_wide.2 h2⟩
    | _ => exact h.elim
  | halt x w' =>
    cases x with
    | panic v => exact h
    | _ => exact h.elim
theorem wp_in (l n : Nat) {o : Oper} {a : Act} {w : World} {K : Act → World → Prop} (hd : noDefer o = true) (h : o.wp P a w K Q) : o.wpIn (Fence.wide.inRound l) n P a w K Q := by
  refine ⟨fun _ _ => trivial, ?_⟩
  rw [show (Fence.wide.inRound l).round = some l from rfl, Oper.semAt_some l _ _ (by intro c hc; rw [noDefer, hc] at hd; cases hd)]
  exact upon_in l n h
theorem any_in (l n : Nat) {md : Region.Mode} (hd : ∀ (i : Nat) (o : Oper), ops[i]? = some o → noDefer o = true) (hL : ¬ LetsOut Q) : ∀ (fuel : Nat) (listed : Array Bool) (a : Act) (w : World), wpAny P md ops Q fuel listed a w → wpAnyIn (Fence.wide.inRound l) n P md ops Q fuel listed a w
  | 0, _, _, _, h => h
  | fuel + 1, listed, a, w, h => by
    refine ⟨h.1, fun i hi => ?_⟩
    have h2 := h.2 i hi
    unfold wpOp at h2
    unfold wpOpIn
    cases ho : ops[i]? with
    | none => rw [ho] at h2; exact any_in l n hd hL fuel _ _ _ h2
    | some o =>
      rw [ho] at h2
      simp only at h2 ⊢
      by_cases hw : Region.wanted o (yielded ops a.tmps) = true
      · rw [if_pos hw] at h2 ⊢
        rcases h2 with h2 | h2
        · exact Oper.wpIn_mono (any_in l n hd hL fuel _) (wp_in l n (hd i o ho) h2)
        · exact absurd h2.2 hL
      · rw [if_neg hw] at h2 ⊢
        exact ⟨fun _ _ => trivial, any_in l n hd hL fuel _ _ _ h2⟩
theorem noDefers (h : ops.all noDefer = true) : ∀ (i : Nat) (o : Oper), ops[i]? = some o → noDefer o = true := fun i o ho => by
  obtain ⟨hi, rfl⟩ := Array.getElem?_eq_some_iff.1 ho
  rw [Array.all_eq_true] at h
  exact h i hi
/-- Only the way behind the region. -/
def OnlyN (Q : Exit → Act → World → Prop) : Exit → Act → World → Prop
  | .normal, a, w => Q .normal a w
  | _, _, _ => False
theorem OnlyN.normal {a : Act} {w : World} (h : Q .normal a w) : OnlyN Q .normal a w := h
/-- The first move of a walk through such a region. -/
theorem wpIn_region_np {l n id : Nat} {S : World → Prop} {a : Act} {w : World} (hm : P.follows .mixedOrders = true) (hd : ops.all noDefer = true) (hS : S w.drew)
    (h : S w.drew → wpAnyH P .any ops (OnlyN Q) S ops.size (Array.replicate ops.size false) a w.drew) : (Code.region id ops true).wpIn (Fence.wide.inRound l) n P Q a w := by
  refine wpIn_mono (Q := OnlyN Q) (wpIn_region_any hm (any_in l n (noDefers hd) ?_ _ _ _ _ (wpAny_of_held _ _ _ _ (h hS)))) ?_
  · rintro ⟨a2, w2, h2⟩
    exact (show False from h2)
  · intro e a2 w2 h2
    cases e with
    | normal => exact h2
    | _ => exact (show False from h2).elim

end Go.Proofs.Ytipomhpimmnchaa

namespace Go.Proofs.Ytipomhpimmnchaa
open Go.RowKit

/-- A piece's place. -/
abbrev Pc (m : Nat) := { j : Nat // j < m }
def allPc (m : Nat) : List (Pc m) := (List.range m).pmap (fun j h => ⟨j, h⟩) (fun _ h => List.mem_range.1 h)
theorem allPc_len (m : Nat) : (allPc m).length = m := by simp [allPc]
theorem allPc_at (m i : Nat) (h : i < (allPc m).length) : (allPc m)[i].1 = i := by simp [allPc]
/-- How many pieces there are. -/
def np (zs : List Int) : Nat := (zs.length + 7) / 8
theorem np_lt {zs : List Int} {j : Nat} : j < np zs ↔ 8 * j < zs.length := by unfold np; omega
theorem pre_at {m : Nat} {pre : List (Pc m)} (h : pre <+: allPc m) (i : Nat) (hi : i < pre.length) : pre[i].1 = i := by
  have h2 : i < (allPc m).length := Nat.lt_of_lt_of_le hi h.length_le
  rw [h.getElem hi, allPc_at m i h2]
theorem pre_range {m : Nat} {pre : List (Pc m)} (h : pre <+: allPc m) : pre.map (·.1) = List.range pre.length := by
  refine List.ext_getElem (by simp) fun i h1 h2 => ?_
  rw [List.getElem_map, List.getElem_range]
  exact pre_at h i (by simpa using h1)
/-- The writes of the pieces so far. -/
def wsP (zs : List Int) {m : Nat} (pre : List (Pc m)) : List DWrite := pre.map fun p => wAt zs p.1
theorem wsP_range {zs : List Int} {m : Nat} {pre : List (Pc m)} (h : pre <+: allPc m) : wsP zs pre = (List.range pre.length).map (wAt zs) := by
  rw [← pre_range h, List.map_map]
  rfl
theorem wsP_snoc (zs : List Int) {m : Nat} (pre : List (Pc m)) (p : Pc m) : wsP zs (pre ++ [p]) = wsP zs pre ++ [wAt zs p.1] := by simp [wsP]
theorem wsP_len (zs : List Int) {m : Nat} (pre : List (Pc m)) : (wsP zs pre).length = pre.length := by simp [wsP]
/-- All pieces are writes. -/
theorem read_all {zs : List Int} (h : ∀ p ∈ allPc (np zs), okAt zs p.1 = true) : readL zs = wsP zs (allPc (np zs)) := by
  rw [wsP_range (List.prefix_refl _), allPc_len]
  refine read_of (fun j hj => ?_) (ok_short (by unfold np; omega))
  have h1 : j < (allPc (np zs)).length := by rw [allPc_len]; exact hj
  have := h _ (List.getElem_mem h1)
  rwa [allPc_at] at this
/-- The first pieces are writes, the next is none. -/
theorem read_stop {zs : List Int} {pre : List (Pc (np zs))} {p : Pc (np zs)} (hp : pre ++ [p] <+: allPc (np zs)) (h : ∀ q ∈ pre, okAt zs q.1 = true) (hn : okAt zs p.1 = false) : readL zs = wsP zs pre := by
  have hpre : pre <+: allPc (np zs) := (List.prefix_append _ _).trans hp
  rw [wsP_range hpre]
  refine read_of (fun j hj => ?_) ?_
  · have := h _ (List.getElem_mem hj)
    rwa [pre_at hpre] at this
  · have := pre_at hp pre.length (by simp)
    simp only [List.getElem_append_right (Nat.le_refl _), Nat.sub_self, List.getElem_cons_zero] at this
    rw [← this]
    exact hn
/-- The piece as a slice. -/
def pcV (b off : Nat) (zs : List Int) (j : Nat) : Value := .slice (some ⟨b, off + 8 * j, none⟩) (min 8 (zs.length - 8 * j)) (min 8 (zs.length - 8 * j))
theorem pcV_reads {w : World} {b off cap : Nat} {zs : List Int} (h : (Lay.sl Lay.int).Reads w [.slice (some ⟨b, off, none⟩) zs.length cap] zs) (j : Nat) (hj : 8 * j < zs.length) : (Lay.sl Lay.int).Reads w [pcV b off zs j] (pieceAt zs j) := by
  have := part_reads h (8 * j) (min 8 (zs.length - 8 * j)) (min 8 (zs.length - 8 * j)) (by omega) (Nat.le_refl _)
  have e : (zs.drop (8 * j)).take (min 8 (zs.length - 8 * j)) = pieceAt zs j := by
    rw [pieceAt]
    by_cases h8 : 8 ≤ zs.length - 8 * j
    · rw [Nat.min_eq_left h8]
    · rw [Nat.min_eq_right (by omega), List.take_of_length_le (by simp), List.take_of_length_le (by simp; omega)]
  rw [e] at this
  exact this

end Go.Proofs.Ytipomhpimmnchaa

namespace Go.Proofs.Ytipomhpimmnchaa
open Go.RowKit Go.Shelf
attribute [local go_sem] Oper.semAt_some

set_option maxRecDepth 100000 in
set_option maxHeartbeats 2000000 in
theorem chunk1 (l n Bs Bn b off cap : Nat) (ao : Option Addr) (zs : List Int) (N : Nat) (S : Nat → Prop) (hzs : zs.length ≤ 100000) (hcap : zs.length ≤ cap) (hao : 0 < zs.length → ao = some ⟨b, off, none⟩)
    (k1 : Bs < N ∧ ¬ S Bs) (k2 : Bn < N ∧ ¬ S Bn) (J Jx : List (Pc (np zs)) → World → Prop) (hab : ∀ pre W m, J pre W → J pre (W.drewN m))
    (hY : ∀ pre x W, J pre W → pre.length < np zs → YieldAt Fence.wide (n - 1) Try.prog l #[pcV b off zs x.1] W fun e W' =>
      (e = .returned (.bool true) ∧ J (pre ++ [x]) W' ∧ KpS N S W W') ∨ (e = .returned (.bool false) ∧ Jx (pre ++ [x]) W'))
    (W : World) (hs : W.cell? ⟨Bs, 0, none⟩ = some (.slice ao zs.length cap)) (hn : W.cell? ⟨Bn, 0, none⟩ = some (.int .i64 8)) (h0 : J [] W) :
    CallsIn Fence.wide n Try.prog 88 #[.func (.yield l) #[] #[], .pointer (some ⟨Bs, 0, none⟩), .pointer (some ⟨Bn, 0, none⟩)] W fun e W' => (∃ v, e = .returned v) ∧
      ((∃ ys, ys = allPc (np zs) ∧ J ys W') ∨ (∃ pre, pre <+: allPc (np zs) ∧ Jx pre W')) := by
  refine callsIn_of_wp Try.func88 rfl trivial ?_ rfl
  simp only [Try.ntmps88, List.size_toArray, List.length_cons, List.length_nil, Nat.reduceAdd, Nat.reduceSub, Array.replicate_succ, Array.replicate_zero, List.push_toArray, List.append_toArray, List.nil_append, List.cons_append]
  gi_wp2
  gi_loopw [4] (fun i wr => ∃ k : Nat, k ≤ np zs ∧ i = .int .i64 ((8 * k : Nat) : Int) ∧ J ((allPc (np zs)).take k) wr ∧ wr.cell? ⟨Bs, 0, none⟩ = some (.slice ao zs.length cap) ∧ wr.cell? ⟨Bn, 0, none⟩ = some (.int .i64 8)) (fun i _ => zs.length + 8 - (intOf i).toNat)
  case atStart => exact ⟨0, Nat.zero_le _, rfl, h0, hs, hn⟩
  case round =>
    obtain ⟨k, hk, rfl, hJ, hs1, hn1⟩ := hrel
    clear hs hn h0
    have hlen := allPc_len (np zs)
    by_cases hlt : 8 * k < zs.length
    · have hkn : k < np zs := np_lt.2 hlt
      obtain rfl := hao (by omega)
      obtain ⟨x, hxv, htk⟩ : ∃ x : Pc (np zs), x.1 = k ∧ (allPc (np zs)).take (k + 1) = (allPc (np zs)).take k ++ [x] := ⟨(allPc (np zs))[k]'(by omega), allPc_at (np zs) k (by omega), List.take_succ_eq_append_getElem (by omega)⟩
      have HPL : Hid (((allPc (np zs)).take k).length < np zs) := by show _ < _; rw [List.length_take]; omega
      have HXV := hide hxv
      have hi1 : (8 * k : Nat) ≤ cap := by omega
      have hi2 : ¬ cap = 8 * k := by omega
      have HTK := hide htk
      have HJ := hide hJ
      clear htk hJ hlen hxv
      gi_wp2
      refine wpIn_wide.2 ?_
      go_quiet (fail)
      have hJ2 := hab _ _ nq (unhide HJ)
      have hs2 : (wr.drewN nq).cell? ⟨Bs, 0, none⟩ = some (.slice (some ⟨b, off, none⟩) zs.length cap) := hs1
      have hn2 : (wr.drewN nq).cell? ⟨Bn, 0, none⟩ = some (.int .i64 8) := hn1
      obtain ⟨e, he⟩ : ∃ e, e = min 8 (zs.length - 8 * k) := ⟨_, rfl⟩
      have he1 : e ≤ 8 := by omega
      have he2 : 8 * k + e ≤ zs.length := by omega
      have he3 : 0 < e := by omega
      have he4 : e = 8 ∨ 8 * k + e = zs.length := by omega
      have hE : (if ((zs.length - 8 * k : Nat) : Int) < 8 then ((zs.length - 8 * k : Nat) : Int) else 8) = ((e : Nat) : Int) := by split <;> omega
      rw [hE]
      have HPV : Hid (pcV b off zs x.1 = .slice (some ⟨b, off + 8 * k, none⟩) e e) := by show pcV b off zs x.1 = _; rw [unhide HXV, pcV, he]
      obtain ⟨fn, tmps, assign, body, hy, hR⟩ := hY _ x _ hJ2 (unhide HPL)
      rw [unhide HPV] at hy
      generalize wr.drewN nq = W2 at *
      clear hs1 hn1 HJ hJ2 hE he HPL HPV
      gi_wp2
      refine ⟨fun h => by simp [Fence.wide] at h, hR.mono ?_⟩
      rintro e9 W3 (⟨rfl, hJ3, hk3⟩ | ⟨rfl, hJx3⟩)
      · have s3 : W3.cell? ⟨Bs, 0, none⟩ = some (.slice (some ⟨b, off, none⟩) zs.length cap) := (cell_of_heap (hk3.2 Bs k1.1 k1.2) 0).trans hs2
        have n3 : W3.cell? ⟨Bn, 0, none⟩ = some (.int .i64 8) := (cell_of_heap (hk3.2 Bn k2.1 k2.2) 0).trans hn2
        clear hs2 hn2 hy
        gi_wp2
        go_roundw
        case rel => exact ⟨k + 1, by omega, by go_num, by rw [unhide HTK]; exact hJ3, s3, n3⟩
        case measure => simp [intOf]; omega
      · clear hs2 hn2 hy
        gi_wp2
        refine bodyPost_ret (results_none rfl _ _ _) rfl ?_
        exact ⟨⟨_, rfl⟩, .inr ⟨_, by rw [← unhide HTK]; exact List.take_prefix _ _, hJx3⟩⟩
    · have hkn : k = np zs := by have := np_lt (zs := zs) (j := k); omega
      have hJ2 : J (allPc (np zs)) wr := by
        rw [List.take_of_length_le (by omega)] at hJ
        exact hJ
      clear hJ
      gi_wp2
      go_end0
      exact ⟨⟨_, rfl⟩, .inl ⟨_, rfl, hJ2⟩⟩

/-- What slices.Chunk hands back tells the pieces, all or the first ones. -/
theorem chunk_stops (n Bs Bn b off cap : Nat) (ao : Option Addr) (zs : List Int) (N : Nat) (S : Nat → Prop) (hzs : zs.length ≤ 100000) (hcap : zs.length ≤ cap) (hao : 0 < zs.length → ao = some ⟨b, off, none⟩)
    (k1 : Bs < N ∧ ¬ S Bs) (k2 : Bn < N ∧ ¬ S Bn) (w : World) (l1 : Bs < w.heap.size) (l2 : Bn < w.heap.size) (hs : w.cell? ⟨Bs, 0, none⟩ = some (.slice ao zs.length cap)) (hn : w.cell? ⟨Bn, 0, none⟩ = some (.int .i64 8)) :
    SeqStopsK Fence.wide n Try.prog 88 #[.pointer (some ⟨Bs, 0, none⟩), .pointer (some ⟨Bn, 0, none⟩)] (fun x : Pc (np zs) => #[pcV b off zs x.1]) (KpS N S) (fun ys => ys = allPc (np zs)) (fun pre => pre <+: allPc (np zs)) (np zs) w :=
  fun l J Jx W hW hJ _ hY h0 => chunk1 l n Bs Bn b off cap ao zs N S hzs hcap hao k1 k2 J Jx (fun pre W m h => hJ pre W (W.drewN m) none h ⟨rfl, rfl, rfl, Nat.le_refl _, fun _ _ _ => rfl⟩ (fun r e => by cases e)) hY W ((hW.cell (p := ⟨Bs, 0, none⟩) l1).trans hs) ((hW.cell (p := ⟨Bn, 0, none⟩) l2).trans hn) h0

/-- slices.Chunk: the list and the length of a piece are boxed; the function value captures the boxes. -/
theorem implChunk (ap : Option Addr) (m cp : Nat) (w : World) :
    Calls Try.prog 58 #[.slice ap m cp, .int .i64 8] w fun e w' => e = .returned (.func (.func 88) #[] #[.pointer (some ⟨w.heap.size, 0, none⟩), .pointer (some ⟨w.heap.size + 1, 0, none⟩)]) ∧ w' = (w.alloc (.cells #[.slice ap m cp] 24)).alloc (.cells #[.int .i64 8] 3) := by
  go_enter Try.func58, Try.ntmps58
  go_wp2_with fail
  go_ret
  exact ⟨rfl, rfl⟩

end Go.Proofs.Ytipomhpimmnchaa

namespace Go.Proofs.Ytipomhpimmnchaa
open Go.RowKit

theorem wpListIn_append_Write {l nF : Nat} {w1 : World} {base : Nat} {v : Value} {rows : List (List Value)} {xs : List DWrite} {bls : List (List Nat)} (hG : Grow Lay.tWrite w1 base 58 v rows xs bls) {row : List Value} {x : DWrite} {bl : List Nat} (hl : Lay.tWrite.lies w1 row x bl) (hbl : ∀ b ∈ bl, v.ownBlock ≠ some b) {ops : Array Oper} {rest : List Oper} {o : Oper} {a : Act} {Q : Exit → Act → World → Prop} (hgd : o.guard = none) (s y : Operand)
    (ho : o.op = .call { callee := .builtin .append, args := #[s, y], argTypes := #[28, 28] }) (hs : a.eval s = v) (hy : a.eval y = .slice (some ⟨w1.heap.size, 0, none⟩) 1 1) (hn : xs.length + 1 ≤ 100000000) (hbase : base ≤ w1.heap.size)
    (h : ∀ g cap w', Grow Lay.tWrite w' base 58 (.slice (some ⟨g, 0, none⟩) (xs.length + 1) cap) (rows ++ [row]) (xs ++ [x]) (bls ++ [bl]) → Below base w1 w' → Ext (fun q => v.ownBlock = some q) w1 w' → g < w'.heap.size → w1.heap.size ≤ w'.heap.size → (v.ownBlock = some g ∨ w1.heap.size ≤ g) → wpListIn (Fence.wide.inRound l) nF Try.prog ops Q rest (a.put o.dst (.slice (some ⟨g, 0, none⟩) (xs.length + 1) cap)) w') :
    wpListIn (Fence.wide.inRound l) nF Try.prog ops Q (o :: rest) a (w1.alloc (.cells row.toArray 58)) := by
  refine wpListIn_plain hgd fun K hK => wp_in l nF (by simp [noDefer, ho]) ?_
  have := step_append_Write (ops := ops) (K := K) (Q := Q) (E := True) hG hl hbl hgd s y ho hs hy hn hbase (fun g cap w' q1 q2 q3 q4 q5 q6 => hK _ _ (h g cap w' q1 q2 q3 q4 q5 q6))
  rwa [if_pos (show Region.wanted o (yielded ops a.tmps) = true by simp [Region.wanted, hgd])] at this

theorem wpListIn_append_WriteH {l nF : Nat} {w1 : World} {base : Nat} {v : Value} {rows : List (List Value)} {xs : List DWrite} {bls : List (List Nat)} (hG : Grow Lay.tWrite w1 base 58 v rows xs bls) {row : List Value} {x : DWrite} {bl : List Nat} (hl : Lay.tWrite.lies w1 row x bl) (hbl : ∀ b ∈ bl, v.ownBlock ≠ some b) {ops : Array Oper} {rest : List Oper} {o : Oper} {a : Act} {Q : Exit → Act → World → Prop} (hgd : o.guard = none) (s y : Operand)
    (ho : o.op = .call { callee := .builtin .append, args := #[s, y], argTypes := #[28, 28] }) (hs : a.eval s = v) {H : Nat} (hH : w1.heap.size = H) (hy : a.eval y = .slice (some ⟨H, 0, none⟩) 1 1) (hn : xs.length + 1 ≤ 100000000) (hbase : base ≤ w1.heap.size)
    (h : ∀ g cap w', Grow Lay.tWrite w' base 58 (.slice (some ⟨g, 0, none⟩) (xs.length + 1) cap) (rows ++ [row]) (xs ++ [x]) (bls ++ [bl]) → Below base w1 w' → Ext (fun q => v.ownBlock = some q) w1 w' → g < w'.heap.size → w1.heap.size ≤ w'.heap.size → (v.ownBlock = some g ∨ w1.heap.size ≤ g) → wpListIn (Fence.wide.inRound l) nF Try.prog ops Q rest (a.put o.dst (.slice (some ⟨g, 0, none⟩) (xs.length + 1) cap)) w') :
    wpListIn (Fence.wide.inRound l) nF Try.prog ops Q (o :: rest) a (w1.alloc (.cells row.toArray 58)) :=
  wpListIn_append_Write hG hl hbl hgd s y ho hs (by rw [hH]; exact hy) hn hbase h

end Go.Proofs.Ytipomhpimmnchaa

namespace Go.Proofs.Ytipomhpimmnchaa
open Go.RowKit

/-- A block of cells that may be written. -/
def SoftB (W : World) (c : Nat) : Prop := (∃ o : Obj, W.heap[c]? = some o ∧ o.isCells = true) ∧ ∀ o, W.frozen? ⟨c, o, none⟩ = false
theorem SoftB.keep {W W' : World} {c : Nat} (h : SoftB W c) (hk : W'.heap[c]? = W.heap[c]?) : SoftB W' c := by
  obtain ⟨⟨o, h1, h2⟩, h3⟩ := h
  exact ⟨⟨o, hk.trans h1, h2⟩, fun o => (frozen_of_heap hk o).trans (h3 o)⟩
theorem cells_of_cell {W : World} {b o : Nat} {v : Value} (h : W.cell? ⟨b, o, none⟩ = some v) : ∃ ob : Obj, W.heap[b]? = some ob ∧ ob.isCells = true := by
  unfold World.cell? at h
  simp only at h
  cases hb : W.heap[b]? with
  | none => rw [hb] at h; simp at h
  | some ob =>
    rw [hb] at h
    cases ob with
    | cells cs T fr => exact ⟨_, rfl, rfl⟩
    | _ => simp at h
theorem ints_soft {w : World} {v : Value} {zs : List Int} {bl : List Nat} (h : (Lay.sl Lay.int).Own w [v] zs bl) : ∃ bl', (Lay.sl Lay.int).lies w [v] zs bl' ∧ bl'.Nodup ∧ ∀ b ∈ bl', b ∈ bl ∧ SoftB w b := by
  obtain ⟨hl, hd, hf⟩ := h
  obtain ⟨ao, cap, h1, h2, h3, h4⟩ := Lay.lies_ints.1 hl
  by_cases h0 : zs = []
  · exact ⟨[], Lay.lies_ints.2 ⟨ao, cap, h1, h2, h3, Or.inl ⟨h0, rfl⟩⟩, by simp, by simp⟩
  · rcases h4 with ⟨h5, -⟩ | ⟨b, off, ha, hb, rfl, hc⟩
    · exact absurd h5 h0
    · refine ⟨[b], hl, hd, fun c hcc => ⟨hcc, ?_⟩⟩
      rw [List.mem_singleton.1 hcc]
      exact ⟨cells_of_cell (hc 0 (List.length_pos_iff.2 h0)), hf b (by simp)⟩
theorem write_soft {w : World} {cs : List Value} {x : DWrite} {lo hi : Nat} (h : Lay.tWrite.OwnIn w cs x lo hi) : ∃ bl, Lay.tWrite.lies w cs x bl ∧ bl.Nodup ∧ ∀ b ∈ bl, (lo ≤ b ∧ b < hi) ∧ SoftB w b := by
  obtain ⟨bl, ⟨hl, hd, hf⟩, hr⟩ := h
  obtain ⟨a2, d2, b2, rfl, rfl, q1, q2, q3, q4, q5⟩ := lies_Write.1 hl
  obtain ⟨bl', k1, k2, k3⟩ := ints_soft ⟨q3, hd, hf⟩
  exact ⟨bl', lies_Write.2 ⟨a2, d2, bl', rfl, rfl, q1, q2, k1, q4, q5⟩, k2, fun b hb => ⟨hr b (k3 b hb).1, (k3 b hb).2⟩⟩

/-- A row of writes of the call's own. -/
def Ws (W : World) (base : Nat) (v : Value) (xs : List DWrite) : Prop := ∃ rows bls, Grow Lay.tWrite W base 58 v rows xs bls ∧ bls.flatten.Nodup ∧ ∀ c ∈ bls.flatten, base ≤ c ∧ SoftB W c
theorem Ws.nil (W : World) (base : Nat) : Ws W base (.slice none 0 0) [] := ⟨[], [], Grow.nil (World.ownsRow_nil _ _ _ _), by simp, by simp⟩
theorem Ws.own {W : World} {base : Nat} {v : Value} {xs : List DWrite} (h : Ws W base v xs) (hn : xs.length ≤ 9223372036854775807) : (Lay.sl Lay.tWrite).OwnIn W [v] xs base W.heap.size := by
  obtain ⟨rows, bls, hG, hd, hs⟩ := h
  exact hG.toOwn hn hd fun c hc => ⟨(hs c hc).1, (hs c hc).2.2⟩
theorem Ws.keep {W W' : World} {base : Nat} {v : Value} {xs : List DWrite} (h : Ws W base v xs) (hk : ∀ c (o : Obj), base ≤ c → W.heap[c]? = some o → o.isCells = true → W'.heap[c]? = W.heap[c]?) : Ws W' base v xs := by
  obtain ⟨rows, bls, hG, hd, hs⟩ := h
  have hb : ∀ c ∈ bls.flatten, W'.heap[c]? = W.heap[c]? := fun c hc => by
    obtain ⟨h1, ⟨o, h2, h3⟩, -⟩ := hs c hc
    exact hk c o h1 h2 h3
  refine ⟨rows, bls, hG.kept ?_ hb, hd, fun c hc => ⟨(hs c hc).1, (hs c hc).2.keep (hb c hc)⟩⟩
  obtain ⟨h1, h2⟩ := hG.own
  refine ⟨h1, ?_⟩
  rcases h2 with h2 | ⟨gb, cap', cur, hv, hg, hh, r⟩
  · exact Or.inl h2
  · exact Or.inr ⟨gb, cap', cur, hv, hg, (hk gb _ hg hh rfl).trans hh, r⟩
theorem Ws.later {W W' : World} {base : Nat} {v : Value} {xs : List DWrite} (h : Ws W base v xs) (hb : Below W.heap.size W W') : Ws W' base v xs := h.keep fun c _ _ ho _ => hb.block c (Array.getElem?_eq_some_iff.1 ho).1
theorem Ws.form {W : World} {base : Nat} {v : Value} {xs : List DWrite} (h : Ws W base v xs) : ∃ ao cap, v = .slice ao xs.length cap := by
  obtain ⟨rows, bls, hG, -, -⟩ := h
  rcases hG.form with ⟨rfl, rfl⟩ | ⟨g, cap, rfl, -⟩
  · exact ⟨none, 0, rfl⟩
  · exact ⟨_, cap, rfl⟩
theorem Ws.block {W : World} {base : Nat} {v : Value} {xs : List DWrite} (h : Ws W base v xs) {c : Nat} (e : v.ownBlock = some c) : base ≤ c ∧ c < W.heap.size ∧ ∃ o : Obj, W.heap[c]? = some o ∧ o.isCells = true := by
  obtain ⟨rows, bls, hG, -, -⟩ := h
  refine ⟨(hG.own.lt c e).1, (hG.own.lt c e).2, ?_⟩
  obtain ⟨-, h2⟩ := hG.own
  rcases h2 with ⟨rfl, -⟩ | ⟨gb, cap', cur, rfl, hg, hh, -⟩
  · simp [Value.ownBlock] at e
  · obtain rfl : gb = c := by simpa [Value.ownBlock] using e
    exact ⟨_, hh, rfl⟩

end Go.Proofs.Ytipomhpimmnchaa

namespace Go.Proofs.Ytipomhpimmnchaa
open Go.RowKit

theorem bcell {W w1 : World} (hb : Below W.heap.size W w1) : (∀ b o, b < W.heap.size → w1.cell? ⟨b, o, none⟩ = W.cell? ⟨b, o, none⟩) ∧ (∀ b o, b < W.heap.size → w1.frozen? ⟨b, o, none⟩ = W.frozen? ⟨b, o, none⟩) :=
  ⟨fun b o h => hb.cell (p := ⟨b, o, none⟩) h, fun b o h => hb.frozen (p := ⟨b, o, none⟩) h⟩

/-- Two blocks of three cells that were laid ahead of a call are there behind it, and may be written. -/
theorem two_kept {w w1 : World} {T : TypeId} {x0 x1 x2 y0 y1 y2 : Value} (hb : Below ((w.alloc (.cells #[x0, x1, x2] T)).alloc (.cells #[y0, y1, y2] T)).heap.size ((w.alloc (.cells #[x0, x1, x2] T)).alloc (.cells #[y0, y1, y2] T)) w1) :
    (w1.cell? ⟨w.heap.size, 0, none⟩ = some x0 ∧ w1.cell? ⟨w.heap.size, 1, none⟩ = some x1 ∧ w1.cell? ⟨w.heap.size, 2, none⟩ = some x2) ∧
    (w1.cell? ⟨w.heap.size + 1, 0, none⟩ = some y0 ∧ w1.cell? ⟨w.heap.size + 1, 1, none⟩ = some y1 ∧ w1.cell? ⟨w.heap.size + 1, 2, none⟩ = some y2) ∧
    (∀ o, w1.frozen? ⟨w.heap.size, o, none⟩ = false) ∧ (∀ o, w1.frozen? ⟨w.heap.size + 1, o, none⟩ = false) := by
  refine ⟨⟨?_, ?_, ?_⟩, ⟨?_, ?_, ?_⟩, fun o => ?_, fun o => ?_⟩
  all_goals first | rw [hb.cell (by simp [World.size_alloc]; try omega)] | rw [hb.frozen (by simp [World.size_alloc]; try omega)]
  all_goals simp [go_sem]

/-- Three numbers as an array. -/
def arr3 (x y z : Int) : Value := .agg #[.int .i64 x, .int .i64 y, .int .i64 z]

theorem IsInts.three {w : World} {v : Value} {zs : List Int} (h : IsInts w v zs) (h3 : zs.length = 3) :
    ∃ b off cap x y z, zs = [x, y, z] ∧ v = .slice (some ⟨b, off, none⟩) 3 cap ∧ b < w.heap.size ∧ w.cell? ⟨b, off, none⟩ = some (.int .i64 x) ∧ w.cell? ⟨b, off + 1, none⟩ = some (.int .i64 y) ∧ w.cell? ⟨b, off + 2, none⟩ = some (.int .i64 z) := by
  obtain ⟨ao, cap, rfl, hwf, hc⟩ := h
  match zs, h3 with
  | [x, y, z], _ =>
    obtain ⟨b, off, rfl, hc1⟩ := hc (by simp)
    have c0 := hc1 0 (by simp)
    have c1 := hc1 1 (by simp)
    have c2 := hc1 2 (by simp)
    exact ⟨b, off, cap, x, y, z, rfl, rfl, World.block_lt_of_cell? _ _ c0, by simpa using c0, by simpa using c1, by simpa using c2⟩

set_option maxHeartbeats 400000 in
theorem vectorOf_bad (v : Value) (zs : List Int) (w : World) (h : IsInts w v zs) (hf : vecFault zs ≠ 0) :
    Calls Try.prog 99 #[v] w fun e w' => e = .returned (.tuple #[arr3 0 0 0, .int .i64 (vecFault zs)]) ∧ Below w.heap.size w w' := by
  go_enter Try.func99, Try.ntmps99
  go_wp2_with fail
  refine (implFault v zs _ (h.later (((Below.refl _ _).alloc (Nat.le_refl _) _).alloc (by simp) _))).mono ?_
  rintro e w' ⟨rfl, rfl⟩
  have hne : (vecFault zs != 0) = true := by rw [bne_iff_ne]; exact hf
  go_wp2_with fail
  refine bodyPost_ret (v := .tuple #[arr3 0 0 0, .int .i64 (vecFault zs)]) (by simp [results, Try.results99, go_sem, arr3]) rfl ⟨rfl, ?_⟩
  exact ((Below.refl _ _).alloc (Nat.le_refl _) _).alloc (by simp) _

set_option maxHeartbeats 1000000 in
theorem vectorOf_three (b off cap : Nat) (x y z : Int) (w : World) (hbl : b < w.heap.size) (c0 : w.cell? ⟨b, off, none⟩ = some (.int .i64 x)) (c1 : w.cell? ⟨b, off + 1, none⟩ = some (.int .i64 y)) (c2 : w.cell? ⟨b, off + 2, none⟩ = some (.int .i64 z))
    (h : IsInts w (.slice (some ⟨b, off, none⟩) 3 cap) [x, y, z]) (hf : vecFault [x, y, z] = 0) :
    Calls Try.prog 99 #[.slice (some ⟨b, off, none⟩) 3 cap] w fun e w' => e = .returned (.tuple #[arr3 x y z, .int .i64 0]) ∧ Below w.heap.size w w' := by
  go_enter Try.func99, Try.ntmps99
  go_wp2_with fail
  refine (implFault _ [x, y, z] _ (h.later (((Below.refl _ _).alloc (Nat.le_refl _) _).alloc (by simp) _))).mono ?_
  rintro e w' ⟨rfl, rfl⟩
  rw [hf]
  clear h hf
  go_wp2_with fail
  refine wp_loop_rounds 4 ?_
  rw [rounds_succ]
  go_wp2
  rw [rounds_succ]
  go_wp2
  rw [rounds_succ]
  go_wp2
  rw [rounds_succ]
  go_wp2
  refine bodyPost_ret (v := .tuple #[arr3 x y z, .int .i64 0]) (by simp [results, Try.results99, go_sem, arr3]) rfl ⟨rfl, ?_⟩
  exact ((Below.refl _ _).alloc (Nat.le_refl _) _).alloc (by simp) _

theorem vectorOf_ok (v : Value) (x y z : Int) (w : World) (h : IsInts w v [x, y, z]) (hf : vecFault [x, y, z] = 0) :
    Calls Try.prog 99 #[v] w fun e w' => e = .returned (.tuple #[arr3 x y z, .int .i64 0]) ∧ Below w.heap.size w w' := by
  obtain ⟨b, off, cap, x', y', z', he, rfl, hbl, c0, c1, c2⟩ := h.three rfl
  simp only [List.cons.injEq, and_true] at he
  obtain ⟨rfl, rfl, rfl⟩ := he
  exact vectorOf_three b off cap x y z w hbl c0 c1 c2 h hf

end Go.Proofs.Ytipomhpimmnchaa
