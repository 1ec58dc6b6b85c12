/-
  Texts of this proof in one: WResPlain, UnpackPlain, WritesPlain, LayLog, LayLogResult, LayWritesResult, LogPlain, LogPieces, OwnLogResult, OwnWritesResult, LogKit, SpecPack8, SpecIntsB.
  Their conditions stand in their theorems.
-/
import Derived.Test.YtipomhpimmnchaaLq05
import Derived.Test.YtipomhpimmnchaaLq01
import Derived.Test.YtipomhpimmnchaaLq03
import Derived.Test.YtipomhpimmnchaaLq04
import Derived.Test.YtipomhpimmnchaaChecked
import Derived.Deep.CutRange
import Derived.BigQuiet
import Derived.Deep.QuietTactic
import Derived.WalkSmall

namespace Go.Proofs.Ytipomhpimmnchaa
open Go.RowKit

def zeroW : DWrite := ⟨0, 0, [], 0, 0⟩

/-- A result with a code alone. -/
theorem own_badW {w : World} {c : Int} {lo hi : Nat} (hw : (Lit.int .i64 c).wf = true) : Lay.tWriteResult.OwnIn w [.int .i64 c, .int .i64 0, .int .i64 0, .slice none 0 0, .int .i64 0, .int .i64 0] ⟨c, zeroW⟩ lo hi :=
  ⟨[], ⟨lies_WriteResult.2 ⟨none, 0, [], rfl, rfl, hw, rfl, rfl, Lay.lies_ints.2 ⟨none, 0, rfl, ⟨by simp [zeroW], by simp [zeroW]⟩, by simp [zeroW], Or.inl ⟨rfl, rfl⟩⟩, rfl, rfl⟩, by simp, by simp⟩, by simp⟩
/-- A result with a write. -/
theorem own_okW {w : World} {x : DWrite} {v : Value} {lo hi : Nat} (h : (Lay.sl Lay.int).OwnIn w [v] x.vec lo hi) (h1 : (Lit.int .i64 x.kind).wf = true) (h2 : (Lit.int .i64 x.id).wf = true) (h3 : (Lit.int .i64 x.session).wf = true) (h4 : (Lit.int .i64 x.seq).wf = true) :
    Lay.tWriteResult.OwnIn w [.int .i64 0, .int .i64 x.kind, .int .i64 x.id, v, .int .i64 x.session, .int .i64 x.seq] ⟨0, x⟩ lo hi := by
  obtain ⟨bl, ⟨hl, hn, hf⟩, hb⟩ := h
  have hl' := hl
  obtain ⟨ao, cap, e, -⟩ := hl'
  obtain rfl : v = .slice ao x.vec.length cap := by simpa using e
  exact ⟨bl, ⟨lies_WriteResult.2 ⟨ao, cap, bl, rfl, rfl, rfl, h1, h2, hl, h3, h4⟩, hn, hf⟩, hb⟩

end Go.Proofs.Ytipomhpimmnchaa

namespace Go.Proofs.Ytipomhpimmnchaa
open Go.RowKit

def unpackW (zs : List Int) : DWrite := ⟨zs.getD 0 0, zs.getD 1 0, if zs.getD 0 0 = 1 then [zs.getD 4 0, zs.getD 5 0, zs.getD 6 0] else [], zs.getD 2 0, zs.getD 3 0⟩
def packD (x : DWrite) : List Int := packList x.kind x.id x.vec x.session x.seq
def unpackR (zs : List Int) : DWriteResult := if zs.length = 8 ∧ packD (unpackW zs) = zs then ⟨0, unpackW zs⟩ else ⟨5, zeroW⟩

theorem unpackR_len {zs : List Int} (h : zs.length ≠ 8) : unpackR zs = ⟨5, zeroW⟩ := by rw [unpackR, if_neg (fun q => h q.1)]
theorem eight {zs : List Int} (h : zs.length = 8) : ∃ a b c d e f g k, zs = [a, b, c, d, e, f, g, k] := by
  match zs, h with
  | [a, b, c, d, e, f, g, k], _ => exact ⟨a, b, c, d, e, f, g, k, rfl⟩

end Go.Proofs.Ytipomhpimmnchaa

namespace Go.Proofs.Ytipomhpimmnchaa
open Go.RowKit

theorem unpackW_words {x : DWrite} (hf : writeFault x.kind x.id x.vec x.session x.seq = 0) : unpackW (wordsOf x.kind x.id x.vec x.session x.seq) = x := by
  obtain ⟨k, i, v, s, q⟩ := x
  obtain ⟨-, -, -, hk⟩ := writeFault_zero hf
  simp only at hk
  rcases hk with ⟨rfl, hv⟩ | ⟨rfl, rfl⟩
  · match v, (vecFault_zero hv).1 with
    | [a, b, c], _ => rfl
  · rfl
/-- Packed, then unpacked. -/
theorem unpack_pack {x : DWrite} (hf : writeFault x.kind x.id x.vec x.session x.seq = 0) : unpackR (packList x.kind x.id x.vec x.session x.seq) = ⟨0, x⟩ := by
  have hp : packList x.kind x.id x.vec x.session x.seq = wordsOf x.kind x.id x.vec x.session x.seq := if_pos hf
  rw [hp, unpackR, if_pos ⟨rfl, by rw [unpackW_words hf]; exact hp⟩, unpackW_words hf]
/-- Unpacked, then packed. -/
theorem pack_unpack {zs : List Int} (h : (unpackR zs).code = 0) : packList (unpackR zs).write.kind (unpackR zs).write.id (unpackR zs).write.vec (unpackR zs).write.session (unpackR zs).write.seq = zs := by
  unfold unpackR at *
  split at h
  · next hq => rw [if_pos hq]; exact hq.2
  · simp at h

end Go.Proofs.Ytipomhpimmnchaa

namespace Go.Proofs.Ytipomhpimmnchaa
open Go.RowKit

structure DLog where
  sure : List Int
  loose : List Int

def Lay.tLog : Lay DLog := Lay.via (Lay.pair (Lay.sl Lay.int) (Lay.sl Lay.int)) (fun x => (x.sure, x.loose)) (fun p => ⟨p.1, p.2⟩)

theorem lies_Log {w : World} {cs : List Value} {x : DLog} {bl : List Nat} : Lay.tLog.lies w cs x bl ↔ ∃ (a0 : Option Addr) (d0 : Nat) (b0 : List Nat) (a1 : Option Addr) (d1 : Nat) (b1 : List Nat), cs = [.slice a0 x.sure.length d0, .slice a1 x.loose.length d1] ∧ bl = b0 ++ b1 ∧ (Lay.sl Lay.int).lies w [.slice a0 x.sure.length d0] x.sure b0 ∧ (Lay.sl Lay.int).lies w [.slice a1 x.loose.length d1] x.loose b1 := by
  constructor
  · intro h
    obtain ⟨c0_, r0_, e0_, s0_, rfl, rfl, h0, h1⟩ := h
    have k0 := h0
    obtain ⟨a0, d0, rfl, -⟩ := k0
    have k1 := h1
    obtain ⟨a1, d1, rfl, -⟩ := k1
    exact ⟨a0, d0, e0_, a1, d1, s0_, by simp, by simp, h0, h1⟩
  · rintro ⟨a0, d0, b0, a1, d1, b1, rfl, hbl, l0, l1⟩
    rw [hbl]
    exact ⟨[.slice a0 x.sure.length d0], [.slice a1 x.loose.length d1], b0, b1, rfl, by simp, l0, l1⟩

theorem open_Log {w : World} {cs : List Value} {x : DLog} (h : Lay.tLog.Reads w cs x) : ∃ (a0 : Option Addr) (d0 : Nat) (a1 : Option Addr) (d1 : Nat), cs = [.slice a0 x.sure.length d0, .slice a1 x.loose.length d1] ∧ (Lay.sl Lay.int).Reads w [.slice a0 x.sure.length d0] x.sure ∧ (Lay.sl Lay.int).Reads w [.slice a1 x.loose.length d1] x.loose := by
  obtain ⟨bl, h⟩ := h
  obtain ⟨a0, d0, b0, a1, d1, b1, rfl, -, l0, l1⟩ := lies_Log.1 h
  exact ⟨a0, d0, a1, d1, rfl, ⟨_, l0⟩, ⟨_, l1⟩⟩

end Go.Proofs.Ytipomhpimmnchaa

namespace Go.Proofs.Ytipomhpimmnchaa
open Go.RowKit

structure DLogResult where
  code : Int
  count : Int
  log : DLog

def Lay.tLogResult : Lay DLogResult := Lay.via (Lay.pair Lay.int (Lay.pair Lay.int Lay.tLog)) (fun x => (x.code, x.count, x.log)) (fun p => ⟨p.1, p.2.1, p.2.2⟩)

theorem lies_LogResult {w : World} {cs : List Value} {x : DLogResult} {bl : List Nat} : Lay.tLogResult.lies w cs x bl ↔ ∃ (a2 : Option Addr) (d2 : Nat) (b2 : List Nat) (a3 : Option Addr) (d3 : Nat) (b3 : List Nat), cs = [.int .i64 x.code, .int .i64 x.count, .slice a2 x.log.sure.length d2, .slice a3 x.log.loose.length d3] ∧ bl = b2 ++ b3 ∧ (Lit.int .i64 x.code).wf = true ∧ (Lit.int .i64 x.count).wf = true ∧ (Lay.sl Lay.int).lies w [.slice a2 x.log.sure.length d2] x.log.sure b2 ∧ (Lay.sl Lay.int).lies w [.slice a3 x.log.loose.length d3] x.log.loose b3 := by
  constructor
  · intro h
    obtain ⟨c0_, r0_, e0_, s0_, rfl, rfl, h0, ⟨c1_, r1_, e1_, s1_, rfl, rfl, h1, h2⟩⟩ := h
    obtain ⟨rfl, w0, rfl⟩ := h0
    obtain ⟨rfl, w1, rfl⟩ := h1
    obtain ⟨a2, d2, q2, a3, d3, q3, rfl, hq2, l2, l3⟩ := lies_Log.1 h2
    exact ⟨a2, d2, q2, a3, d3, q3, by simp, by simp [hq2], w0, w1, l2, l3⟩
  · rintro ⟨a2, d2, b2, a3, d3, b3, rfl, hbl, w0, w1, l2, l3⟩
    rw [hbl]
    exact ⟨[.int .i64 x.code], [.int .i64 x.count] ++ [.slice a2 x.log.sure.length d2, .slice a3 x.log.loose.length d3], [], [] ++ (b2 ++ b3), rfl, by simp, ⟨rfl, w0, rfl⟩, ⟨[.int .i64 x.count], [.slice a2 x.log.sure.length d2, .slice a3 x.log.loose.length d3], [], b2 ++ b3, rfl, by simp, ⟨rfl, w1, rfl⟩, lies_Log.2 ⟨a2, d2, b2, a3, d3, b3, rfl, rfl, l2, l3⟩⟩⟩

theorem open_LogResult {w : World} {cs : List Value} {x : DLogResult} (h : Lay.tLogResult.Reads w cs x) : ∃ (a2 : Option Addr) (d2 : Nat) (a3 : Option Addr) (d3 : Nat), cs = [.int .i64 x.code, .int .i64 x.count, .slice a2 x.log.sure.length d2, .slice a3 x.log.loose.length d3] ∧ Lay.tLog.Reads w [.slice a2 x.log.sure.length d2, .slice a3 x.log.loose.length d3] x.log := by
  obtain ⟨bl, h⟩ := h
  obtain ⟨a2, d2, b2, a3, d3, b3, rfl, -, w0, w1, l2, l3⟩ := lies_LogResult.1 h
  exact ⟨a2, d2, a3, d3, rfl, ⟨_, lies_Log.2 ⟨a2, d2, _, a3, d3, _, rfl, rfl, l2, l3⟩⟩⟩

end Go.Proofs.Ytipomhpimmnchaa

namespace Go.Proofs.Ytipomhpimmnchaa
open Go.RowKit

structure DWritesResult where
  code : Int
  writes : List DWrite

def Lay.tWritesResult : Lay DWritesResult := Lay.via (Lay.pair Lay.int (Lay.sl Lay.tWrite)) (fun x => (x.code, x.writes)) (fun p => ⟨p.1, p.2⟩)

theorem lies_WritesResult {w : World} {cs : List Value} {x : DWritesResult} {bl : List Nat} : Lay.tWritesResult.lies w cs x bl ↔ ∃ (a1 : Option Addr) (d1 : Nat) (b1 : List Nat), cs = [.int .i64 x.code, .slice a1 x.writes.length d1] ∧ bl = b1 ∧ (Lit.int .i64 x.code).wf = true ∧ (Lay.sl Lay.tWrite).lies w [.slice a1 x.writes.length d1] x.writes b1 := by
  constructor
  · intro h
    obtain ⟨c0_, r0_, e0_, s0_, rfl, rfl, h0, h1⟩ := h
    obtain ⟨rfl, w0, rfl⟩ := h0
    have k1 := h1
    obtain ⟨a1, d1, rfl, -⟩ := k1
    exact ⟨a1, d1, s0_, by simp, by simp, w0, h1⟩
  · rintro ⟨a1, d1, b1, rfl, hbl, w0, l1⟩
    rw [hbl]
    exact ⟨[.int .i64 x.code], [.slice a1 x.writes.length d1], [], b1, rfl, by simp, ⟨rfl, w0, rfl⟩, l1⟩

theorem open_WritesResult {w : World} {cs : List Value} {x : DWritesResult} (h : Lay.tWritesResult.Reads w cs x) : ∃ (a1 : Option Addr) (d1 : Nat), cs = [.int .i64 x.code, .slice a1 x.writes.length d1] ∧ (Lay.sl Lay.tWrite).Reads w [.slice a1 x.writes.length d1] x.writes := by
  obtain ⟨bl, h⟩ := h
  obtain ⟨a1, d1, b1, rfl, -, w0, l1⟩ := lies_WritesResult.1 h
  exact ⟨a1, d1, rfl, ⟨_, l1⟩⟩

end Go.Proofs.Ytipomhpimmnchaa

namespace Go.Proofs.Ytipomhpimmnchaa
open Go.RowKit

def pieceAt (zs : List Int) (j : Nat) : List Int := (zs.drop (8 * j)).take 8
def okAt (zs : List Int) (j : Nat) : Bool := decide ((unpackR (pieceAt zs j)).code = 0)
def wAt (zs : List Int) (j : Nat) : DWrite := (unpackR (pieceAt zs j)).write
def cntF (zs : List Int) : Nat → Nat → Nat
  | 0, k => k
  | f + 1, k => if okAt zs k then cntF zs f (k + 1) else k
/-- How many writes stand at the head. -/
def cnt (zs : List Int) : Nat := cntF zs zs.length 0
/-- The writes at the head. -/
def readL (zs : List Int) : List DWrite := (List.range (cnt zs)).map (wAt zs)
def packs (ws : List DWrite) : List Int := ws.flatMap packD
def logFault (x : DLog) : Int := if 320 < x.sure.length + x.loose.length then 2 else if 8 * cnt x.sure = x.sure.length ∧ 8 * cnt x.loose = x.loose.length then 0 else 5
def noLog : DLog := ⟨[], []⟩
def readLogR (zs : List Int) : DWritesResult := if 320 < zs.length then ⟨2, []⟩ else ⟨0, readL zs⟩
def packAllR (ws : List DWrite) : DIntsResult := if 40 < ws.length then ⟨2, []⟩ else if wsFrom ws = 0 then ⟨0, packs ws⟩ else ⟨wsFrom ws, []⟩
def logOf (sure loose : List Int) : DLogResult := ⟨0, ((sure.length + loose.length) / 8 : Nat), ⟨sure, loose⟩⟩
def badLog (c : Int) : DLogResult := ⟨c, 0, noLog⟩
def appendLogR (x : DLog) (y : DWrite) : DLogResult := if logFault x = 0 then (if wF y = 0 then (if 320 ≤ x.sure.length + x.loose.length then badLog 2 else logOf x.sure (x.loose ++ packD y)) else badLog (wF y)) else badLog (logFault x)
def syncLogR (x : DLog) : DLogResult := if logFault x = 0 then logOf (x.sure ++ x.loose) [] else badLog (logFault x)
def keptOf (x : DLog) (kept : Int) : List Int := x.sure ++ x.loose.take kept.toNat
def crashLogR (x : DLog) (kept : Int) : DLogResult := if logFault x = 0 then (if 0 ≤ kept ∧ kept ≤ x.loose.length then logOf ((keptOf x kept).take (8 * cnt (keptOf x kept))) [] else badLog 3) else badLog (logFault x)

theorem unpackR_ok {zs : List Int} (h : (unpackR zs).code = 0) : zs.length = 8 ∧ packD (unpackR zs).write = zs ∧ wF (unpackR zs).write = 0 := by
  have hp := pack_unpack h
  have hl : zs.length = 8 := by
    by_cases e : zs.length = 8
    · exact e
    · rw [unpackR_len e] at h
      cases h
  refine ⟨hl, hp, ?_⟩
  by_cases e : wF (unpackR zs).write = 0
  · exact e
  · rw [packList, if_neg (show ¬ writeFault (unpackR zs).write.kind (unpackR zs).write.id (unpackR zs).write.vec (unpackR zs).write.session (unpackR zs).write.seq = 0 from e)] at hp
    rw [← hp] at hl
    cases hl
theorem ok_piece {zs : List Int} {j : Nat} (h : okAt zs j = true) : (unpackR (pieceAt zs j)).code = 0 := by simpa [okAt] using h
theorem piece_len {zs : List Int} {j : Nat} : (pieceAt zs j).length = min 8 (zs.length - 8 * j) := by simp [pieceAt]
theorem ok_len {zs : List Int} {j : Nat} (h : okAt zs j = true) : 8 * j + 8 ≤ zs.length := by
  have h1 := (unpackR_ok (ok_piece h)).1
  rw [piece_len] at h1
  omega
theorem cntF_spec (zs : List Int) : ∀ f k, zs.length < 8 * (k + f) + 8 → (∀ j, j < k → okAt zs j = true) → (∀ j, j < cntF zs f k → okAt zs j = true) ∧ okAt zs (cntF zs f k) = false
  | 0, k, h, hk => by
    refine ⟨hk, ?_⟩
    rw [cntF]
    by_cases e : okAt zs k = true
    · have := ok_len e
      omega
    · simpa using e
  | f + 1, k, h, hk => by
    rw [cntF]
    by_cases e : okAt zs k = true
    · rw [if_pos e]
      refine cntF_spec zs f (k + 1) (by omega) fun j hj => ?_
      by_cases h2 : j = k
      · rw [h2]; exact e
      · exact hk j (by omega)
    · rw [if_neg e]
      exact ⟨hk, by simpa using e⟩
theorem cnt_ok (zs : List Int) : ∀ j, j < cnt zs → okAt zs j = true := (cntF_spec zs zs.length 0 (by omega) (fun _ h => by omega)).1
theorem cnt_not (zs : List Int) : okAt zs (cnt zs) = false := (cntF_spec zs zs.length 0 (by omega) (fun _ h => by omega)).2
theorem cnt_of {zs : List Int} {k : Nat} (h : ∀ j, j < k → okAt zs j = true) (hn : okAt zs k = false) : cnt zs = k := by
  rcases Nat.lt_trichotomy (cnt zs) k with e | e | e
  · have := h _ e
    rw [cnt_not] at this
    cases this
  · exact e
  · have := cnt_ok zs _ e
    rw [hn] at this
    cases this
theorem cnt_le (zs : List Int) : 8 * cnt zs ≤ zs.length := by
  by_cases h : cnt zs = 0
  · omega
  · have := ok_len (cnt_ok zs (cnt zs - 1) (by omega))
    omega
theorem read_len (zs : List Int) : (readL zs).length = cnt zs := by simp [readL]
theorem read_at (zs : List Int) (j : Nat) (h : j < (readL zs).length) : (readL zs)[j] = wAt zs j := by simp [readL]
theorem read_of {zs : List Int} {k : Nat} (h : ∀ j, j < k → okAt zs j = true) (hn : okAt zs k = false) : readL zs = (List.range k).map (wAt zs) := by rw [readL, cnt_of h hn]
theorem reads_snoc (zs : List Int) (k : Nat) : (List.range (k + 1)).map (wAt zs) = (List.range k).map (wAt zs) ++ [wAt zs k] := by rw [List.range_succ, List.map_append]; rfl
theorem readL_right (zs : List Int) : ∀ x ∈ readL zs, wF x = 0 := by
  intro x hx
  simp only [readL, List.mem_map, List.mem_range] at hx
  obtain ⟨j, hj, rfl⟩ := hx
  exact (unpackR_ok (ok_piece (cnt_ok zs j hj))).2.2

/-- A piece within the first list. -/
theorem piece_left {xs ys : List Int} {j : Nat} (h : 8 * j + 8 ≤ xs.length) : pieceAt (xs ++ ys) j = pieceAt xs j := by
  simp only [pieceAt]
  rw [List.drop_append_of_le_length (by omega), List.take_append_of_le_length (by simp; omega)]
theorem piece_right {xs ys : List Int} {c j : Nat} (h : 8 * c = xs.length) : pieceAt (xs ++ ys) (c + j) = pieceAt ys j := by
  simp only [pieceAt]
  rw [show 8 * (c + j) = xs.length + 8 * j by omega, List.drop_length_add_append]
theorem ok_left {xs ys : List Int} {j : Nat} (h : 8 * j + 8 ≤ xs.length) : okAt (xs ++ ys) j = okAt xs j := by rw [okAt, piece_left h]; rfl
theorem ok_right {xs ys : List Int} {c j : Nat} (h : 8 * c = xs.length) : okAt (xs ++ ys) (c + j) = okAt ys j := by rw [okAt, piece_right h]; rfl
/-- Whole writes, then others. -/
theorem cnt_append {xs ys : List Int} (h : 8 * cnt xs = xs.length) : cnt (xs ++ ys) = cnt xs + cnt ys := by
  refine cnt_of (fun j hj => ?_) ?_
  · by_cases h2 : j < cnt xs
    · rw [ok_left (by omega)]
      exact cnt_ok xs j h2
    · obtain ⟨i, rfl⟩ : ∃ i, j = cnt xs + i := ⟨j - cnt xs, by omega⟩
      rw [ok_right h]
      exact cnt_ok ys i (by omega)
  · rw [ok_right h]
    exact cnt_not ys
theorem ok_short {zs : List Int} {j : Nat} (h : zs.length < 8 * j + 8) : okAt zs j = false := by
  by_cases e : okAt zs j = true
  · have := ok_len e
    omega
  · simpa using e
/-- The first words of whole writes. -/
theorem cnt_take {xs : List Int} (h : 8 * cnt xs = xs.length) {m : Nat} (hm : m ≤ xs.length) : cnt (xs.take m) = m / 8 := by
  refine cnt_of (fun j hj => ?_) (ok_short (by rw [List.length_take]; omega))
  have e : xs = xs.take m ++ xs.drop m := (List.take_append_drop m xs).symm
  have h1 : okAt xs j = true := cnt_ok xs j (by omega)
  rw [e, ok_left (by rw [List.length_take]; omega)] at h1
  exact h1
/-- The words of the writes that are read are the first words. -/
theorem packs_range (zs : List Int) (k : Nat) (h : ∀ j, j < k → okAt zs j = true) : packs ((List.range k).map (wAt zs)) = zs.take (8 * k) := by
  induction k with
  | zero => simp [packs]
  | succ k ih =>
    have h1 := unpackR_ok (ok_piece (h k (by omega)))
    rw [reads_snoc, packs, List.flatMap_append]
    have h2 := ih (fun j hj => h j (by omega))
    rw [packs] at h2
    rw [h2]
    simp only [List.flatMap_cons, List.flatMap_nil, List.append_nil]
    rw [wAt, h1.2.1, pieceAt, show 8 * (k + 1) = 8 * k + 8 by omega, List.take_add]
theorem packs_read (zs : List Int) : packs (readL zs) = zs.take (8 * cnt zs) := packs_range zs _ (cnt_ok zs)
theorem packD_len {x : DWrite} (h : wF x = 0) : (packD x).length = 8 := by
  rw [packD, packList, if_pos (show writeFault x.kind x.id x.vec x.session x.seq = 0 from h)]
  rfl
theorem packs_len (ws : List DWrite) (h : ∀ x ∈ ws, wF x = 0) : (packs ws).length = 8 * ws.length := by
  induction ws with
  | nil => rfl
  | cons x xs ih =>
    rw [packs, List.flatMap_cons, List.length_append, packD_len (h x (by simp)), List.length_cons]
    have := ih fun y hy => h y (List.mem_cons_of_mem _ hy)
    rw [packs] at this
    omega
/-- Packed, then read. -/
theorem ok_packD {x : DWrite} (h : wF x = 0) : okAt (packD x) 0 = true ∧ wAt (packD x) 0 = x := by
  have h1 : pieceAt (packD x) 0 = packD x := by simp [pieceAt, List.take_of_length_le, packD_len h]
  have h2 := unpack_pack h
  rw [okAt, wAt, h1, packD, h2]
  simp
theorem packs_ok (ws : List DWrite) (h : ∀ x ∈ ws, wF x = 0) : ∀ j (hj : j < ws.length), okAt (packs ws) j = true ∧ wAt (packs ws) j = ws[j] := by
  induction ws with
  | nil => intro j hj; simp at hj
  | cons x xs ih =>
    intro j hj
    have hx := h x (by simp)
    have h8 : 8 * 1 = (packD x).length := by rw [packD_len hx]
    have e : packs (x :: xs) = packD x ++ packs xs := rfl
    match j, hj with
    | 0, _ =>
      obtain ⟨h1, h2⟩ := ok_packD hx
      refine ⟨by rw [e, ok_left (by omega)]; exact h1, ?_⟩
      rw [wAt, e, piece_left (by omega)]
      exact h2
    | i + 1, hj =>
      obtain ⟨h1, h2⟩ := ih (fun y hy => h y (List.mem_cons_of_mem _ hy)) i (by simpa using hj)
      refine ⟨by rw [Nat.add_comm i 1, e, ok_right h8]; exact h1, ?_⟩
      have h3 : pieceAt (packs (x :: xs)) (i + 1) = pieceAt (packs xs) i := by rw [Nat.add_comm i 1, e, piece_right h8]
      rw [wAt, h3]
      exact h2
theorem cnt_packs (ws : List DWrite) (h : ∀ x ∈ ws, wF x = 0) : cnt (packs ws) = ws.length :=
  cnt_of (fun j hj => (packs_ok ws h j hj).1) (ok_short (by rw [packs_len ws h]; omega))
theorem read_packs (ws : List DWrite) (h : ∀ x ∈ ws, wF x = 0) : readL (packs ws) = ws := by
  refine List.ext_getElem (by rw [read_len, cnt_packs ws h]) fun j h1 h2 => ?_
  rw [read_at]
  exact (packs_ok ws h j h2).2
theorem wsFrom_of {ws : List DWrite} (h : ∀ x ∈ ws, wF x = 0) : wsFrom ws = 0 := wsFrom_all ws fun _ hj => h _ (List.getElem_mem hj)
/-- A piece of zeros is no write. -/
theorem zeros_not (n : Nat) : okAt (List.replicate n 0) 0 = false := by
  by_cases e : okAt (List.replicate n 0) 0 = true
  · have h8 := ok_len e
    have h1 := unpackR_ok (ok_piece e)
    rw [List.length_replicate] at h8
    have h2 : pieceAt (List.replicate n (0 : Int)) 0 = List.replicate 8 0 := by simp [pieceAt, Nat.min_eq_left (show 8 ≤ n by omega)]
    have h3 := ok_piece e
    rw [h2] at h3
    exact absurd h3 (by decide)
  · simpa using e
theorem cnt_zeros (n : Nat) : cnt (List.replicate n 0) = 0 := cnt_of (fun _ h => by omega) (zeros_not n)
/-- A torn write that is cleared leaves the same first writes. -/
theorem cnt_clear {xs ys : List Int} (hx : 8 * cnt xs = xs.length) (hy : 8 * cnt ys = ys.length) {k : Nat} (hk : k ≤ ys.length) (n : Nat) :
    cnt (xs ++ (ys.take (8 * (k / 8)) ++ List.replicate n 0)) = cnt (xs ++ ys.take k) ∧ (xs ++ (ys.take (8 * (k / 8)) ++ List.replicate n 0)).take (8 * cnt (xs ++ ys.take k)) = (xs ++ ys.take k).take (8 * cnt (xs ++ ys.take k)) := by
  have h1 : cnt (ys.take (8 * (k / 8))) = k / 8 := by rw [cnt_take hy (by omega)]; omega
  have h2 : 8 * cnt (ys.take (8 * (k / 8))) = (ys.take (8 * (k / 8))).length := by rw [h1, List.length_take]; omega
  have h3 : cnt (ys.take k) = k / 8 := cnt_take hy hk
  refine ⟨by rw [cnt_append hx, cnt_append hx, cnt_append h2, h1, h3, cnt_zeros, Nat.add_zero], ?_⟩
  rw [cnt_append hx, h3, Nat.mul_add, hx, List.take_length_add_append, List.take_length_add_append]
  congr 1
  rw [List.take_append_of_le_length (by rw [List.length_take]; omega), List.take_take, List.take_take]
  congr 1
  omega

end Go.Proofs.Ytipomhpimmnchaa

namespace Go.Proofs.Ytipomhpimmnchaa
open Go.RowKit

theorem getD_piece {zs : List Int} {k j : Nat} (hj : j < 8) : (pieceAt zs k).getD j 0 = zs.getD (8 * k + j) 0 := by
  simp only [pieceAt, List.getD]
  rw [List.getElem?_take, if_pos hj, List.getElem?_drop]
theorem len_piece {zs : List Int} {k : Nat} (h : 8 * k + 8 ≤ zs.length) : (pieceAt zs k).length = 8 := by rw [piece_len]; omega
theorem mem_piece {zs : List Int} {k : Nat} {z : Int} (h : z ∈ pieceAt zs k) : z ∈ zs := List.mem_of_mem_drop (List.mem_of_mem_take h)
/-- Any part of a list of numbers that stands in memory. -/
theorem part_reads {w : World} {b off cap : Nat} {zs : List Int} (h : (Lay.sl Lay.int).Reads w [.slice (some ⟨b, off, none⟩) zs.length cap] zs) (m n c : Nat) (hm : m + n ≤ zs.length) (hc : n ≤ c) :
    (Lay.sl Lay.int).Reads w [.slice (some ⟨b, off + m, none⟩) n c] ((zs.drop m).take n) := by
  have hi := Lay.ints_reads h
  have hbig := h.big
  obtain ⟨ao, cp, e, hwf, hcs⟩ := hi
  have hlen : ((zs.drop m).take n).length = n := by simp; omega
  refine Lay.reads_ints ?_ (fun ao' cap' e' => ?_) (by rw [hlen]; omega)
  · refine ⟨_, c, by rw [hlen], fun z hz => hwf z (List.mem_of_mem_drop (List.mem_of_mem_take hz)), fun hp => ⟨b, off + m, rfl, fun j hj => ?_⟩⟩
    rw [hlen] at hp hj
    obtain ⟨b', off', hao, hc1⟩ := hcs (by omega)
    simp only [Value.slice.injEq] at e
    obtain ⟨rfl, -, -⟩ := e
    simp only [Option.some.injEq, Addr.mk.injEq, and_true] at hao
    obtain ⟨rfl, rfl⟩ := hao
    rw [Nat.add_assoc, hc1 (m + j) (by omega)]
    simp only [List.getD]
    rw [List.getElem?_take, if_pos hj, List.getElem?_drop]
  · simp only [Value.slice.injEq] at e'
    rw [hlen]
    omega
theorem piece_reads {w : World} {b off cap : Nat} {zs : List Int} (h : (Lay.sl Lay.int).Reads w [.slice (some ⟨b, off, none⟩) zs.length cap] zs) (k c : Nat) (hk : 8 * k + 8 ≤ zs.length) (hc : 8 ≤ c) :
    (Lay.sl Lay.int).Reads w [.slice (some ⟨b, off + 8 * k, none⟩) 8 c] (pieceAt zs k) := part_reads h (8 * k) 8 c (by omega) hc
/-- The first numbers of a list. -/
theorem take_reads {w : World} {ao : Option Addr} {n cap : Nat} {zs : List Int} (h : (Lay.sl Lay.int).Reads w [.slice ao n cap] zs) (k : Nat) (hk : k ≤ zs.length) :
    (Lay.sl Lay.int).Reads w [.slice ao k cap] (zs.take k) := by
  have hc := h.cap
  by_cases h0 : k = 0
  · subst h0
    rw [List.take_zero]
    exact Lay.reads_ints ⟨ao, cap, rfl, by simp, fun hp => by simp at hp⟩ (fun _ _ _ => by simp) (by simp)
  · have hi := Lay.ints_reads h
    obtain ⟨ao', cp, e, hwf, hcs⟩ := hi
    obtain ⟨b', off', hao, hc1⟩ := hcs (by omega)
    simp only [Value.slice.injEq] at e
    obtain ⟨rfl, rfl, rfl⟩ := e
    subst hao
    have := part_reads h 0 k cap (by omega) (by omega)
    simpa using this

end Go.Proofs.Ytipomhpimmnchaa

namespace Go.Proofs.Ytipomhpimmnchaa
open Go.RowKit

theorem vcnt_LogResult (x : DLogResult) : Lay.tLogResult.vcnt x = Lay.tLog.vcnt x.log := by
  show 0 + (0 + (Lay.tLog.vcnt x.log)) = Lay.tLog.vcnt x.log
  omega
theorem mkv_LogResult (k : Int) (x : DLogResult) : Lay.tLogResult.mkv k x = ⟨x.code, x.count, Lay.tLog.mkv (k) x.log⟩ := by
  simp [Lay.tLogResult, Lay.via, Lay.pair, Lay.int]
theorem own_LogResult {w : World} {cs : List Value} {x : DLogResult} {bl : List Nat} (h : Lay.tLogResult.Own w cs x bl) : ∃ (a2 : Option Addr) (d2 : Nat) (a3 : Option Addr) (d3 : Nat) (g2 : List Nat), cs = [.int .i64 x.code, .int .i64 x.count, .slice a2 x.log.sure.length d2, .slice a3 x.log.loose.length d3] ∧ bl = g2 ∧ Lay.tLog.Own w [.slice a2 x.log.sure.length d2, .slice a3 x.log.loose.length d3] x.log g2 ∧ (Lit.int .i64 x.code).wf = true ∧ (Lit.int .i64 x.count).wf = true := by
  obtain ⟨hl, hn, hf⟩ := h
  obtain ⟨a2, d2, b2, a3, d3, b3, rfl, hbl, w0, w1, l2, l3⟩ := lies_LogResult.1 hl
  rw [hbl] at hn hf
  simp only [List.nodup_append, List.mem_append] at hn hf
  exact ⟨a2, d2, a3, d3, (b2 ++ b3), rfl, by first | exact hbl | (rw [hbl]; simp only [List.append_assoc]), ⟨lies_Log.2 ⟨a2, d2, b2, a3, d3, b3, rfl, rfl, l2, l3⟩, by simp_all [List.nodup_append], fun b hb => hf b (by simp_all)⟩, w0, w1⟩
theorem mkOwn_LogResult {w : World} {x : DLogResult} {c2 : List Value} {g2 : List Nat} (O2 : Lay.tLog.Own w c2 x.log g2) (v0 : (Lit.int .i64 x.code).wf = true) (v1 : (Lit.int .i64 x.count).wf = true) (hn : (g2).Nodup) : Lay.tLogResult.Own w ([.int .i64 x.code] ++ ([.int .i64 x.count] ++ c2)) x (g2) := by
  refine ⟨⟨[.int .i64 x.code], [.int .i64 x.count] ++ c2, [], [] ++ g2, rfl, by simp, ⟨rfl, v0, rfl⟩, ⟨[.int .i64 x.count], c2, [], g2, rfl, rfl, ⟨rfl, v1, rfl⟩, O2.1⟩⟩, hn, ?_⟩
  intro b hb o
  exact O2.2.2 b hb o

end Go.Proofs.Ytipomhpimmnchaa

namespace Go.Proofs.Ytipomhpimmnchaa
open Go.RowKit

theorem vcnt_WritesResult (x : DWritesResult) : Lay.tWritesResult.vcnt x = (Lay.sl Lay.tWrite).vcnt x.writes := by
  show 0 + ((Lay.sl Lay.tWrite).vcnt x.writes) = (Lay.sl Lay.tWrite).vcnt x.writes
  omega
theorem mkv_WritesResult (k : Int) (x : DWritesResult) : Lay.tWritesResult.mkv k x = ⟨x.code, (Lay.sl Lay.tWrite).mkv (k) x.writes⟩ := by
  simp [Lay.tWritesResult, Lay.via, Lay.pair, Lay.int]
theorem own_WritesResult {w : World} {cs : List Value} {x : DWritesResult} {bl : List Nat} (h : Lay.tWritesResult.Own w cs x bl) : ∃ (a1 : Option Addr) (d1 : Nat) (g1 : List Nat), cs = [.int .i64 x.code, .slice a1 x.writes.length d1] ∧ bl = g1 ∧ (Lay.sl Lay.tWrite).Own w [.slice a1 x.writes.length d1] x.writes g1 ∧ (Lit.int .i64 x.code).wf = true := by
  obtain ⟨hl, hn, hf⟩ := h
  obtain ⟨a1, d1, b1, rfl, hbl, w0, l1⟩ := lies_WritesResult.1 hl
  rw [hbl] at hn hf
  exact ⟨a1, d1, b1, rfl, hbl, ⟨l1, hn, hf⟩, w0⟩
theorem mkOwn_WritesResult {w : World} {x : DWritesResult} {c1 : List Value} {g1 : List Nat} (O1 : (Lay.sl Lay.tWrite).Own w c1 x.writes g1) (v0 : (Lit.int .i64 x.code).wf = true) (hn : (g1).Nodup) : Lay.tWritesResult.Own w ([.int .i64 x.code] ++ c1) x (g1) := by
  refine ⟨⟨[.int .i64 x.code], c1, [], g1, rfl, by simp, ⟨rfl, v0, rfl⟩, O1.1⟩, hn, ?_⟩
  intro b hb o
  exact O1.2.2 b hb o

end Go.Proofs.Ytipomhpimmnchaa

namespace Go.Proofs.Ytipomhpimmnchaa
open Go.RowKit

theorem lies_store {α : Type} {A : Lay α} {w w4 : World} {cs vs : List Value} {y : α} {lo hi : Nat} (h : A.LiesIn w4 cs y lo hi) (hlo : w.heap.size < lo) (hhi : hi ≤ w4.heap.size) :
    A.LiesIn (setAll w4 w.heap.size 0 vs) cs y w.heap.size (setAll w4 w.heap.size 0 vs).heap.size := by
  rw [size_setAll]
  exact (h.ext (ext_setAll (fun q => q = w.heap.size) (Ext.refl _ _) _ _ _ rfl) (fun q h1 h2 h3 => by omega)).mono (by omega) hhi
theorem own_store {α : Type} {A : Lay α} {w w4 : World} {cs vs : List Value} {y : α} {lo hi : Nat} (h : A.OwnIn w4 cs y lo hi) (hlo : w.heap.size < lo) (hhi : hi ≤ w4.heap.size) :
    A.OwnIn (setAll w4 w.heap.size 0 vs) cs y w.heap.size (setAll w4 w.heap.size 0 vs).heap.size := by
  rw [size_setAll]
  exact (h.ext (ext_setAll (fun q => q = w.heap.size) (Ext.refl _ _) _ _ _ rfl) (fun q h1 h2 h3 => by omega)).mono (by omega) hhi

/-- The block s alone may turn, and it is none of those that the answer lies in. -/
theorem lies_store' {α : Type} {A : Lay α} {w4 : World} {s : Nat} {cs vs : List Value} {y : α} {lo hi : Nat} (h : A.LiesIn w4 cs y lo hi) (hs : s < lo) : A.LiesIn (setAll w4 s 0 vs) cs y lo hi :=
  h.ext (ext_setAll (fun q => q = s) (Ext.refl _ _) _ _ _ rfl) (fun q h1 h2 h3 => by omega)
theorem own_store' {α : Type} {A : Lay α} {w4 : World} {s : Nat} {cs vs : List Value} {y : α} {lo hi : Nat} (h : A.OwnIn w4 cs y lo hi) (hs : s < lo) : A.OwnIn (setAll w4 s 0 vs) cs y lo hi :=
  h.ext (ext_setAll (fun q => q = s) (Ext.refl _ _) _ _ _ rfl) (fun q h1 h2 h3 => by omega)

theorem nil_own {α : Type} {A : Lay α} {w : World} {lo hi : Nat} : (Lay.sl A).OwnIn w [.slice none 0 0] [] lo hi := ⟨[], ⟨⟨none, 0, rfl, by simp, Or.inl ⟨rfl, rfl⟩⟩, by simp, by simp⟩, by simp⟩
theorem own_wsR {w : World} {c : Int} {v : Value} {xs : List DWrite} {lo hi : Nat} (hc : (Lit.int .i64 c).wf = true) (h : (Lay.sl Lay.tWrite).OwnIn w [v] xs lo hi) : Lay.tWritesResult.OwnIn w [.int .i64 c, v] ⟨c, xs⟩ lo hi := by
  obtain ⟨bl, ⟨l, n, f⟩, r⟩ := h
  exact ⟨bl, ⟨⟨[.int .i64 c], [v], [], bl, rfl, by simp, ⟨rfl, hc, rfl⟩, l⟩, n, f⟩, r⟩
theorem lies_wsR {w : World} {c : Int} {v : Value} {xs : List DWrite} {lo hi : Nat} (hc : (Lit.int .i64 c).wf = true) (h : (Lay.sl Lay.tWrite).LiesIn w [v] xs lo hi) : Lay.tWritesResult.LiesIn w [.int .i64 c, v] ⟨c, xs⟩ lo hi := by
  obtain ⟨bl, l, r⟩ := h
  exact ⟨bl, ⟨[.int .i64 c], [v], [], bl, rfl, by simp, ⟨rfl, hc, rfl⟩, l⟩, r⟩
theorem own_isR {w : World} {c : Int} {v : Value} {xs : List Int} {lo hi : Nat} (hc : (Lit.int .i64 c).wf = true) (h : (Lay.sl Lay.int).OwnIn w [v] xs lo hi) : Lay.tIntsResult.OwnIn w [.int .i64 c, v] ⟨c, xs⟩ lo hi := by
  obtain ⟨bl, ⟨l, n, f⟩, r⟩ := h
  exact ⟨bl, ⟨⟨[.int .i64 c], [v], [], bl, rfl, by simp, ⟨rfl, hc, rfl⟩, l⟩, n, f⟩, r⟩
theorem lies_isR {w : World} {c : Int} {v : Value} {xs : List Int} {lo hi : Nat} (hc : (Lit.int .i64 c).wf = true) (h : (Lay.sl Lay.int).LiesIn w [v] xs lo hi) : Lay.tIntsResult.LiesIn w [.int .i64 c, v] ⟨c, xs⟩ lo hi := by
  obtain ⟨bl, l, r⟩ := h
  exact ⟨bl, ⟨[.int .i64 c], [v], [], bl, rfl, by simp, ⟨rfl, hc, rfl⟩, l⟩, r⟩

/-- A log of two rows that lie apart. -/
theorem own_logR {w : World} {c n : Int} {u v : Value} {xs ys : List Int} {lo m m' hi : Nat} (hc : (Lit.int .i64 c).wf = true) (hn : (Lit.int .i64 n).wf = true) (h : (Lay.sl Lay.int).OwnIn w [u] xs lo m) (k : (Lay.sl Lay.int).OwnIn w [v] ys m' hi) (hm : m ≤ m') (hlo : lo ≤ m') (hhi : m ≤ hi) :
    Lay.tLogResult.OwnIn w [.int .i64 c, .int .i64 n, u, v] ⟨c, n, ⟨xs, ys⟩⟩ lo hi := by
  obtain ⟨bl, ⟨l, nd, f⟩, r⟩ := Lay.ownIn_pair h k hm hlo hhi
  exact ⟨bl, ⟨⟨[.int .i64 c], [.int .i64 n, u, v], [], bl, rfl, by simp, ⟨rfl, hc, rfl⟩, ⟨[.int .i64 n], [u, v], [], bl, rfl, by simp, ⟨rfl, hn, rfl⟩, l⟩⟩, nd, f⟩, r⟩
theorem lies_logR {w : World} {c n : Int} {u v : Value} {xs ys : List Int} {lo hi : Nat} (hc : (Lit.int .i64 c).wf = true) (hn : (Lit.int .i64 n).wf = true) (h : (Lay.sl Lay.int).LiesIn w [u] xs lo hi) (k : (Lay.sl Lay.int).LiesIn w [v] ys lo hi) :
    Lay.tLogResult.LiesIn w [.int .i64 c, .int .i64 n, u, v] ⟨c, n, ⟨xs, ys⟩⟩ lo hi := by
  obtain ⟨b1, l1, r1⟩ := h
  obtain ⟨b2, l2, r2⟩ := k
  refine ⟨b1 ++ b2, ⟨[.int .i64 c], [.int .i64 n, u, v], [], b1 ++ b2, rfl, by simp, ⟨rfl, hc, rfl⟩, ⟨[.int .i64 n], [u, v], [], b1 ++ b2, rfl, by simp, ⟨rfl, hn, rfl⟩, ⟨[u], [v], b1, b2, rfl, rfl, l1, l2⟩⟩⟩, fun b hb => ?_⟩
  rcases List.mem_append.1 hb with hb | hb
  · exact r1 b hb
  · exact r2 b hb
theorem own_badLog {w : World} {c : Int} {lo hi : Nat} (hc : (Lit.int .i64 c).wf = true) (hlh : lo ≤ hi) : Lay.tLogResult.OwnIn w [.int .i64 c, .int .i64 0, .slice none 0 0, .slice none 0 0] (badLog c) lo hi :=
  own_logR hc (by decide) (nil_own (lo := lo) (hi := lo)) (nil_own (lo := lo) (hi := hi)) (Nat.le_refl _) (Nat.le_refl _) hlh
theorem logFault_wf (x : DLog) : (Lit.int .i64 (logFault x)).wf = true := by
  unfold logFault
  split
  · decide
  · split <;> decide
theorem logFault_zero {x : DLog} (h : logFault x = 0) : x.sure.length + x.loose.length ≤ 320 ∧ 8 * cnt x.sure = x.sure.length ∧ 8 * cnt x.loose = x.loose.length := by
  unfold logFault at h
  split at h
  · simp at h
  · rename_i h1
    split at h
    · rename_i h2
      exact ⟨by omega, h2⟩
    · simp at h
end Go.Proofs.Ytipomhpimmnchaa

namespace Go.Proofs.Ytipomhpimmnchaa
open Go.RowKit

theorem packs_snoc (ws : List DWrite) (k : Nat) (h : k < ws.length) : packs (ws.take (k + 1)) = packs (ws.take k) ++ packD ws[k] := by
  rw [packs, List.take_succ_eq_append_getElem h, List.flatMap_append]
  simp [packs]
theorem packs_wf (ws : List DWrite) : ∀ z ∈ packs ws, (Lit.int .i64 z).wf = true := by
  intro z hz
  obtain ⟨x, -, hx⟩ := List.mem_flatMap.1 hz
  exact packList_wf z hx
theorem take_right {ws : List DWrite} (h : ∀ x ∈ ws, wF x = 0) (k : Nat) : ∀ x ∈ ws.take k, wF x = 0 := fun x hx => h x (List.mem_of_mem_take hx)

set_option maxRecDepth 100000 in
set_option maxHeartbeats 4000000 in
theorem pack8_pos (b off cap : Nat) (ws : List DWrite) (w : World) (h : (Lay.sl Lay.tWrite).Reads w [.slice (some ⟨b, off, none⟩) ws.length cap] ws) (hbl : b < w.heap.size) (hn : ws.length ≤ 1000000) (hf : ∀ x ∈ ws, wF x = 0) :
    Calls Try.prog 54 #[.slice (some ⟨b, off, none⟩) ws.length cap] w fun e w' => ∃ v', e = .returned v' ∧ w'.ownsRow w.heap.size 2 1 v' (packs ws).length ((packs ws).map (Value.int .i64)) ∧ Below w.heap.size w w' := by
  have H := hide h
  have HF := hide hf
  clear h hf
  have HO0 : Hid ((w.alloc (.cells #[] 2)).ownsRow w.heap.size 2 1 (.slice (some ⟨w.heap.size, 0, none⟩) 0 0) 0 []) := World.ownsRow_lit w _ 0 (Nat.le_refl _) (by unfold maxLen; omega) rfl
  have HB0 := hide ((Below.refl w.heap.size w).alloc (Nat.le_refl _) (.cells #[] 2))
  go_enter Try.func54, Try.ntmps54
  go_wp2_with fail
  go_loopw [3, 4] (fun v i wr => ∃ k : Nat, k ≤ ws.length ∧ i = .int .i64 k ∧ wr.ownsRow w.heap.size 2 1 v (packs (ws.take k)).length ((packs (ws.take k)).map (Value.int .i64)) ∧ Below w.heap.size w wr) (fun _ i _ => ws.length - (intOf i).toNat)
  case atStart => exact ⟨0, Nat.zero_le _, rfl, unhide HO0, unhide HB0⟩
  case round =>
    obtain ⟨k, hk, rfl, hO, hB⟩ := hrel
    clear HO0 HB0
    by_cases hlt : k < ws.length
    · obtain ⟨row, hc, hr⟩ := Lay.row_at ((unhide H).later hB) hlt
      obtain ⟨a2, d2, rfl, R2⟩ := open_Write hr
      have c0 : wr.cell? ⟨b, off + k * 5, none⟩ = some (.int .i64 (ws[k]).kind) := hc 0 (by decide)
      have c1 : wr.cell? ⟨b, off + k * 5 + 1, none⟩ = some (.int .i64 (ws[k]).id) := hc 1 (by decide)
      have c2 : wr.cell? ⟨b, off + k * 5 + 2, none⟩ = some (.slice a2 (ws[k]).vec.length d2) := hc 2 (by decide)
      have c3 : wr.cell? ⟨b, off + k * 5 + 3, none⟩ = some (.int .i64 (ws[k]).session) := hc 3 (by decide)
      have c4 : wr.cell? ⟨b, off + k * 5 + 4, none⟩ = some (.int .i64 (ws[k]).seq) := hc 4 (by decide)
      have HT := hide (packs_snoc ws k hlt)
      have hfx : wF ws[k] = 0 := unhide HF ws[k] (List.getElem_mem hlt)
      have hLn : (packs (ws.take k)).length = 8 * k := by rw [packs_len _ (take_right (unhide HF) k), List.length_take]; omega
      have HL := hide (l3PackO b (off + k * 5) _ _ _ _ _ ws[k].vec wr ⟨c0, c1, c2, c3, c4⟩ (Lay.ints_reads R2) hfx)
      have HPD : Hid (packD ws[k] = wordsOf ws[k].kind ws[k].id ws[k].vec ws[k].session ws[k].seq) := by
        show packD ws[k] = _
        rw [packD, packList, if_pos (show writeFault ws[k].kind ws[k].id ws[k].vec ws[k].session ws[k].seq = 0 from hfx)]
      have HWF : Hid (∀ z ∈ packD ws[k], (Lit.int .i64 z).wf = true) := fun z hz => packList_wf z hz
      have hl8 : (packD ws[k]).length = 8 := packD_len hfx
      have hbr : b < wr.heap.size := Nat.lt_of_lt_of_le hbl hB.size
      clear hc hr R2 c0 c1 c2 c3 c4 hfx
      have HO := hide hO
      have HB := hide hB
      rw [← unhide HPD] at HL
      clear hO hB HPD
      generalize packD ws[k] = pd at *
      have HLn := hide hLn
      clear hLn
      go_wp2_with fail
      refine (unhide HL).mono ?_
      rintro e w2 ⟨g2, rfl, O2, hb⟩
      have I2 := isInts_row (unhide HWF) (by rw [hl8]; exact O2)
      have O3 := own_below (unhide HO) hb
      have HB2 := hide ((unhide HB).trans (hb.mono (unhide HB).size))
      have hz := (unhide HB2).size
      have hN : (packs (ws.take k)).length + pd.length ≤ 100000000 := by rw [unhide HLn, hl8]; omega
      clear HL HO HB hb O2
      go_wp2_with (at_builtin; refine wpList_append_ints O3 I2 rfl _ _ rfl rfl rfl hN hz ?_)
      rintro v5 w5 O5 - hb5
      have HO5 := hide O5
      have HB5 := hide ((unhide HB2).trans hb5)
      clear O3 I2 hN hz O5 hb5 HB2
      go_wp2_with fail
      go_roundw
      case rel =>
        refine ⟨k + 1, by omega, by go_num, ?_, unhide HB5⟩
        rw [unhide HT, List.length_append, List.map_append, hl8]
        exact unhide HO5
      case measure => simp [intOf]; omega
    · obtain rfl : k = ws.length := by omega
      rw [List.take_length] at hO
      have HO := hide hO
      have HB := hide hB
      clear hO hB H
      go_wp2_with fail
      go_ret
      exact ⟨_, rfl, unhide HO, unhide HB⟩

set_option maxHeartbeats 400000 in
/-- l8Pack of the model. -/
theorem pack8C (v : Value) (ws : List DWrite) (w : World) (h : (Lay.sl Lay.tWrite).Reads w [v] ws) (hn : ws.length ≤ 1000000) (hf : ∀ x ∈ ws, wF x = 0) :
    Calls Try.prog 54 #[v] w fun e w' => ∃ v', e = .returned v' ∧ w'.ownsRow w.heap.size 2 1 v' (packs ws).length ((packs ws).map (Value.int .i64)) ∧ Below w.heap.size w w' := by
  obtain ⟨ao, cap, rfl⟩ := open_sl h
  by_cases hp : 0 < ws.length
  · obtain ⟨b, off, rfl, hbl⟩ := Lay.sl_addr h hp
    exact pack8_pos b off cap ws w h hbl hn hf
  · obtain rfl : ws = [] := List.eq_nil_of_length_eq_zero (by omega)
    clear h hp hn hf
    have HB := hide ((Below.refl w.heap.size w).alloc (Nat.le_refl _) (.cells #[] 2))
    have HO0 : Hid ((w.alloc (.cells #[] 2)).ownsRow w.heap.size 2 1 (.slice (some ⟨w.heap.size, 0, none⟩) 0 0) 0 []) := World.ownsRow_lit w _ 0 (Nat.le_refl _) (by unfold maxLen; omega) rfl
    go_enter Try.func54, Try.ntmps54
    go_wp2_with fail
    refine wp_loop_rounds 1 ?_
    rw [rounds_succ]
    go_wp2_with fail
    go_ret
    exact ⟨_, rfl, unhide HO0, unhide HB⟩

end Go.Proofs.Ytipomhpimmnchaa

namespace Go.Proofs.Ytipomhpimmnchaa
open Go.RowKit

set_option maxHeartbeats 400000 in
theorem l1Ints (v : Value) (zs : List Int) (w : World) (h : IsInts w v zs) (hn : zs.length ≤ 100000000) :
    Calls Try.prog 65 #[v] w fun e w' => ∃ v', e = .returned v' ∧ w'.ownsRow w.heap.size 2 1 v' zs.length (zs.map (Value.int .i64)) ∧ Below w.heap.size w w' := by
  have nb : Below w.heap.size w (w.alloc (.cells #[] 2)) := (Below.refl _ _).alloc (Nat.le_refl _) _
  have O : (w.alloc (.cells #[] 2)).ownsRow w.heap.size 2 1 (.slice (some ⟨w.heap.size, 0, none⟩) 0 0) 0 [] := World.ownsRow_lit w _ 0 (Nat.le_refl _) (by unfold maxLen; omega) rfl
  have h1 := h.later nb
  obtain ⟨ao, cap, rfl, -⟩ := h
  have HB := hide nb
  clear nb
  go_enter Try.func65, Try.ntmps65
  go_wp2_with (at_builtin; refine wpList_append_ints O h1 rfl _ _ rfl rfl rfl (by omega) (by simp) ?_)
  rintro v' w' O2 - hb
  have HB2 := hide ((unhide HB).trans hb)
  clear O h1 hb HB
  go_wp2_with fail
  go_ret
  exact ⟨v', rfl, by simpa using O2, unhide HB2⟩

end Go.Proofs.Ytipomhpimmnchaa
