/-
  Texts of this proof in one: AppWrite, SessPlain, SpecWs, SpecLast5, Draw5, DrawR8, AppInts, WrPack, WrPackL, PackFacts, LayWriteResult.
  Their conditions stand in their theorems.
-/
import Derived.Test.YtipomhpimmnchaaChecked
import Derived.Test.YtipomhpimmnchaaLq01
import Derived.Test.YtipomhpimmnchaaLq03
import Derived.Test.YtipomhpimmnchaaLq04
import Derived.Deep.CutRange
import Derived.WalkKit
import Derived.OpenShut
import Derived.Test.YtipomhpimmnchaaLq02
import Derived.Maps.AppendAt
import Derived.Deep.RegionHeld3
import Derived.BigQuiet
import Derived.Deep.QuietTactic

namespace Go.Proofs.Ytipomhpimmnchaa
open Go.RowKit

theorem infoAppWrite : (Try.prog.info? 58).map (fun i => (i.zero, i.size, i.bytes)) = some (some (.agg #[.int .i64 0, .int .i64 0, .slice none 0 0, .int .i64 0, .int .i64 0]), 5, 56) := by kernel_rfl
theorem one_Write {w : World} {row : List Value} {x : DWrite} {bl : List Nat} (h : Lay.tWrite.lies w row x bl) : (∀ u ∈ row, u.oneCell' = true) ∧ row.length = 1 * 5 := by
  obtain ⟨_, _, _, rfl, -⟩ := lies_Write.1 h
  simp [Value.oneCell']

/-- At an operation of a plain region: the new one lies in a block of its own. -/
theorem wpList_append_Write {w1 : World} {base : Nat} {v : Value} {rows : List (List Value)} {xs : List DWrite} {bls : List (List Nat)} (hG : Grow Lay.tWrite w1 base 58 v rows xs bls) {row : List Value} {x : DWrite} {bl : List Nat} (hl : Lay.tWrite.lies w1 row x bl) (hbl : ∀ b ∈ bl, v.ownBlock ≠ some b) {ops : Array Oper} {rest : List Oper} {o : Oper} {a : Act} {Q : Exit → Act → World → Prop} (hgd : o.guard = none) (s y : Operand)
    (ho : o.op = .call { callee := .builtin .append, args := #[s, y], argTypes := #[28, 28] }) (hs : a.eval s = v) (hy : a.eval y = .slice (some ⟨w1.heap.size, 0, none⟩) 1 1) (hn : xs.length + 1 ≤ 100000000) (hbase : base ≤ w1.heap.size)
    (h : ∀ g cap w', Grow Lay.tWrite w' base 58 (.slice (some ⟨g, 0, none⟩) (xs.length + 1) cap) (rows ++ [row]) (xs ++ [x]) (bls ++ [bl]) → Below base w1 w' → Ext (fun q => v.ownBlock = some q) w1 w' → g < w'.heap.size → w1.heap.size ≤ w'.heap.size → (v.ownBlock = some g ∨ w1.heap.size ≤ g) → wpList Try.prog ops Q rest (a.put o.dst (.slice (some ⟨g, 0, none⟩) (xs.length + 1) cap)) w') :
    wpList Try.prog ops Q (o :: rest) a (w1.alloc (.cells row.toArray 58)) := by
  obtain ⟨i0, hi0, hz0, hz1, hz2⟩ := info_parts infoAppWrite
  obtain ⟨h1, hlen⟩ := one_Write hl
  refine wpList_append_lies _ hgd s y 28 ho base 58 i0 _ 5 56 Try.underlying28 hi0 hz0 hz1 hz2 rfl (by omega) v xs.length rows.flatten hs (hG.own.alloc _) ⟨w1.heap.size, 0, none⟩ 1 1 row hy hlen (World.news_of_block (cs := row.toArray) (t := 58) (fr := (0, 0)) (heap_alloc_new w1 _)) h1 (by omega) (by unfold maxLen; omega) (by omega) (by simp; omega) (w1.alloc (.cells row.toArray 58)).heap.size rfl ?_
  intro g cap w' h2 h3 h4 h5
  have hg := grown_alloc h3
  have hbw : Below base w1 w' := (Below.refl _ _).grown hg hbase (fun j hj => (hG.own.lt j hj).1)
  have hor : v.ownBlock = some g ∨ w1.heap.size ≤ g := by
    rcases h4 with h4 | h4
    · exact Or.inl h4
    · exact Or.inr (by rw [h4]; simp)
  exact h g cap w' (hG.snoc hl hbl h2 hg hor) hbw ⟨hbw.os, hbw.tape, hbw.output, hbw.size, fun k hk hn => hg.block k hk (fun e => hn e.symm)⟩ h5 hbw.size hor

/-- At a step of a region that draws its order. -/
theorem step_append_Write {w1 : World} {base : Nat} {v : Value} {rows : List (List Value)} {xs : List DWrite} {bls : List (List Nat)} (hG : Grow Lay.tWrite w1 base 58 v rows xs bls) {row : List Value} {x : DWrite} {bl : List Nat} (hl : Lay.tWrite.lies w1 row x bl) (hbl : ∀ b ∈ bl, v.ownBlock ≠ some b) {ops : Array Oper} {o : Oper} {a : Act} {K : Act → World → Prop} {Q : Exit → Act → World → Prop} {E : Prop} (hgd : o.guard = none) (s y : Operand)
    (ho : o.op = .call { callee := .builtin .append, args := #[s, y], argTypes := #[28, 28] }) (hs : a.eval s = v) (hy : a.eval y = .slice (some ⟨w1.heap.size, 0, none⟩) 1 1) (hn : xs.length + 1 ≤ 100000000) (hbase : base ≤ w1.heap.size)
    (h : ∀ g cap w', Grow Lay.tWrite w' base 58 (.slice (some ⟨g, 0, none⟩) (xs.length + 1) cap) (rows ++ [row]) (xs ++ [x]) (bls ++ [bl]) → Below base w1 w' → Ext (fun q => v.ownBlock = some q) w1 w' → g < w'.heap.size → w1.heap.size ≤ w'.heap.size → (v.ownBlock = some g ∨ w1.heap.size ≤ g) → K (a.put o.dst (.slice (some ⟨g, 0, none⟩) (xs.length + 1) cap)) w') :
    if Region.wanted o (yielded ops a.tmps) = true then Oper.wp Try.prog o a (w1.alloc (.cells row.toArray 58)) K Q else E := by
  obtain ⟨i0, hi0, hz0, hz1, hz2⟩ := info_parts infoAppWrite
  obtain ⟨h1, hlen⟩ := one_Write hl
  refine step_append_lies _ hgd s y 28 ho base 58 i0 _ 5 56 Try.underlying28 hi0 hz0 hz1 hz2 rfl (by omega) v xs.length rows.flatten hs (hG.own.alloc _) ⟨w1.heap.size, 0, none⟩ 1 1 row hy hlen (World.news_of_block (cs := row.toArray) (t := 58) (fr := (0, 0)) (heap_alloc_new w1 _)) h1 (by omega) (by unfold maxLen; omega) (by omega) (by simp; omega) (w1.alloc (.cells row.toArray 58)).heap.size rfl ?_
  intro g cap w' h2 h3 h4 h5
  have hg := grown_alloc h3
  have hbw : Below base w1 w' := (Below.refl _ _).grown hg hbase (fun j hj => (hG.own.lt j hj).1)
  have hor : v.ownBlock = some g ∨ w1.heap.size ≤ g := by
    rcases h4 with h4 | h4
    · exact Or.inl h4
    · exact Or.inr (by rw [h4]; simp)
  exact h g cap w' (hG.snoc hl hbl h2 hg hor) hbw ⟨hbw.os, hbw.tape, hbw.output, hbw.size, fun k hk hn => hg.block k hk (fun e => hn e.symm)⟩ h5 hbw.size hor

end Go.Proofs.Ytipomhpimmnchaa

namespace Go.Proofs.Ytipomhpimmnchaa
open Go.RowKit

def ofB (s : Int) (x : DWrite) : Bool := decide (x.session = s)
def sameB (s q : Int) (x : DWrite) : Bool := decide (x.session = s) && decide (x.seq = q)
/-- The greatest number of a session. -/
def lastI (ws : List DWrite) (s : Int) : Int := ws.foldl (fun n x => if x.session = s then max n x.seq else n) 0
/-- How many writes there are up to the first one of a session and number; 0: there is none. -/
def seenFrom (s q : Int) : Nat → List DWrite → Nat
  | _, [] => 0
  | n, x :: xs => if x.session = s ∧ x.seq = q then n + 1 else seenFrom s q (n + 1) xs
def seenI (ws : List DWrite) (s q : Int) : Nat := seenFrom s q 0 ws
/-- Of each session the numbers rise. -/
def onceB : List DWrite → List DWrite → Bool
  | _, [] => true
  | pre, x :: xs => decide (lastI pre x.session < x.seq) && onceB (pre ++ [x]) xs
def askedF (ws : List DWrite) (s : Int) : Int := if writesF ws = 0 then (if 1 ≤ s ∧ s ≤ 9 then 0 else 3) else writesF ws

theorem lastI_nil (s : Int) : lastI [] s = 0 := rfl
theorem lastI_snoc (ws : List DWrite) (x : DWrite) (s : Int) : lastI (ws ++ [x]) s = if x.session = s then max (lastI ws s) x.seq else lastI ws s := by
  simp [lastI]
theorem lastI_take (ws : List DWrite) (k : Nat) (h : k < ws.length) (s : Int) : lastI (ws.take (k + 1)) s = if ws[k].session = s then max (lastI (ws.take k) s) ws[k].seq else lastI (ws.take k) s := by
  rw [List.take_succ_eq_append_getElem h, lastI_snoc]
theorem seenFrom_snoc (s q : Int) (x : DWrite) : ∀ (ws : List DWrite) (n : Nat), seenFrom s q n (ws ++ [x]) = if seenFrom s q n ws = 0 then (if x.session = s ∧ x.seq = q then n + ws.length + 1 else 0) else seenFrom s q n ws
  | [], n => by simp [seenFrom]
  | y :: ws, n => by
    rw [List.cons_append, seenFrom, seenFrom]
    by_cases h : y.session = s ∧ y.seq = q
    · rw [if_pos h, if_pos h, if_neg (by omega)]
    · rw [if_neg h, if_neg h, seenFrom_snoc s q x ws (n + 1)]
      simp only [List.length_cons]
      rw [show n + 1 + ws.length + 1 = n + (ws.length + 1) + 1 by omega]
theorem seenI_snoc (ws : List DWrite) (x : DWrite) (s q : Int) : seenI (ws ++ [x]) s q = if seenI ws s q = 0 then (if x.session = s ∧ x.seq = q then ws.length + 1 else 0) else seenI ws s q := by
  have := seenFrom_snoc s q x ws 0
  rw [Nat.zero_add] at this
  exact this
theorem seenI_le (ws : List DWrite) (s q : Int) : seenI ws s q ≤ ws.length := by
  have : ∀ (ws : List DWrite) (n : Nat), seenFrom s q n ws ≤ n + ws.length := by
    intro ws
    induction ws with
    | nil => intro n; simp [seenFrom]
    | cons x xs ih =>
      intro n
      rw [seenFrom]
      split
      · simp only [List.length_cons]; omega
      · have := ih (n + 1)
        simp only [List.length_cons]
        omega
  have := this ws 0
  rw [Nat.zero_add] at this
  exact this
theorem seenFrom_at (s q : Int) : ∀ (ws : List DWrite) (n k : Nat) (h : k < ws.length), (∀ j (hj : j < ws.length), j < k → ¬ (ws[j].session = s ∧ ws[j].seq = q)) → (ws[k].session = s ∧ ws[k].seq = q) → seenFrom s q n ws = n + k + 1
  | [], _, _, h, _, _ => by simp at h
  | x :: xs, n, 0, _, _, hk => by rw [seenFrom, if_pos (by simpa using hk)]
  | x :: xs, n, k + 1, h, hn, hk => by
    have h0 := hn 0 (by simp) (by omega)
    rw [seenFrom, if_neg (by simpa using h0), seenFrom_at s q xs (n + 1) k (by simpa using h) (fun j hj hjk => by have := hn (j + 1) (by simpa using hj) (by omega); simpa using this) (by simpa using hk)]
    omega
theorem seenI_at {s q : Int} {ws : List DWrite} {k : Nat} (h : k < ws.length) (hn : ∀ j (hj : j < ws.length), j < k → ¬ (ws[j].session = s ∧ ws[j].seq = q)) (hk : ws[k].session = s ∧ ws[k].seq = q) : seenI ws s q = k + 1 := by
  have := seenFrom_at s q ws 0 k h hn hk
  rw [Nat.zero_add] at this
  exact this
theorem seenI_none {s q : Int} {ws : List DWrite} (hn : ∀ j (hj : j < ws.length), ¬ (ws[j].session = s ∧ ws[j].seq = q)) : seenI ws s q = 0 := by
  have : ∀ (ws : List DWrite) (n : Nat), (∀ j (hj : j < ws.length), ¬ (ws[j].session = s ∧ ws[j].seq = q)) → seenFrom s q n ws = 0 := by
    intro ws
    induction ws with
    | nil => intro n _; rfl
    | cons x xs ih =>
      intro n hn
      have h0 := hn 0 (by simp)
      rw [seenFrom, if_neg (by simpa using h0)]
      exact ih (n + 1) fun j hj => by have := hn (j + 1) (by simpa using hj); simpa using this
  exact this ws 0 hn
theorem seenI_zero {ws : List DWrite} {s q : Int} (h : seenI ws s q = 0) : ∀ x ∈ ws, ¬ (x.session = s ∧ x.seq = q) := by
  have : ∀ (ws : List DWrite) (n : Nat), seenFrom s q n ws = 0 → ∀ x ∈ ws, ¬ (x.session = s ∧ x.seq = q) := by
    intro ws
    induction ws with
    | nil => intro n _ x hx; simp at hx
    | cons y xs ih =>
      intro n h x hx
      rw [seenFrom] at h
      split at h
      · omega
      · rename_i hy
        rcases List.mem_cons.1 hx with rfl | hx
        · exact hy
        · exact ih (n + 1) h x hx
  exact this ws 0 h
theorem lastI_nonneg (ws : List DWrite) (s : Int) : 0 ≤ lastI ws s := by
  have : ∀ (ws : List DWrite) (n : Int), 0 ≤ n → 0 ≤ ws.foldl (fun n x => if x.session = s then max n x.seq else n) n := by
    intro ws
    induction ws with
    | nil => intro n h; exact h
    | cons x xs ih =>
      intro n h
      rw [List.foldl_cons]
      apply ih
      split <;> omega
  exact this ws 0 (Int.le_refl _)
theorem lastI_le (ws : List DWrite) (s : Int) (h : ∀ x ∈ ws, x.seq ≤ 999) : lastI ws s ≤ 999 := by
  have : ∀ (ws : List DWrite) (n : Int), n ≤ 999 → (∀ x ∈ ws, x.seq ≤ 999) → ws.foldl (fun n x => if x.session = s then max n x.seq else n) n ≤ 999 := by
    intro ws
    induction ws with
    | nil => intro n h _; exact h
    | cons x xs ih =>
      intro n h hx
      rw [List.foldl_cons]
      apply ih
      · have := hx x (by simp)
        split <;> omega
      · intro y hy; exact hx y (List.mem_cons_of_mem _ hy)
  exact this ws 0 (by omega) h
theorem onceB_at : ∀ (ws pre : List DWrite) (k : Nat) (h : k < ws.length), (ws[k]).seq ≤ lastI (pre ++ ws.take k) (ws[k]).session → onceB pre ws = false
  | [], _, _, h, _ => by simp at h
  | x :: xs, pre, 0, _, hk => by
    have : ¬ (lastI pre x.session < x.seq) := by simpa using hk
    simp [onceB, this]
  | x :: xs, pre, k + 1, h, hk => by
    rw [onceB, onceB_at xs (pre ++ [x]) k (by simpa using h) (by simpa using hk), Bool.and_false]
theorem onceB_all : ∀ (ws pre : List DWrite), (∀ k (h : k < ws.length), lastI (pre ++ ws.take k) (ws[k]).session < (ws[k]).seq) → onceB pre ws = true
  | [], _, _ => rfl
  | x :: xs, pre, h => by
    have h0 := h 0 (by simp)
    rw [onceB, onceB_all xs (pre ++ [x]) fun k hk => by have := h (k + 1) (by simpa using hk); simpa using this]
    simpa using h0
def onceR (ws : List DWrite) : Bool := decide (writesF ws = 0) && onceB [] ws
theorem wF_seq {x : DWrite} (h : wF x = 0) : 1 ≤ x.session ∧ x.session ≤ 9 ∧ 1 ≤ x.seq ∧ x.seq ≤ 999 := by
  obtain ⟨-, h1, h2, -⟩ := writeFault_zero h
  exact ⟨h1.1, h1.2, h2.1, h2.2⟩

end Go.Proofs.Ytipomhpimmnchaa

namespace Go.Proofs.Ytipomhpimmnchaa
open Go.RowKit


end Go.Proofs.Ytipomhpimmnchaa

namespace Go.Proofs.Ytipomhpimmnchaa
open Go.RowKit

theorem l1MaxC (x y : Int) (w : World) : Calls Try.prog 102 #[.int .i64 x, .int .i64 y] w fun e w' => e = .returned (.int .i64 (max x y)) ∧ w' = w := by
  by_cases h : y < x
  · have d : decide (y < x) = true := by simpa using h
    have e : max x y = x := by omega
    rw [e]
    go_enter Try.func102, Try.ntmps102
    go_wp2
    go_ret
    exact ⟨rfl, rfl⟩
  · have d : decide (y < x) = false := by simpa using h
    have e : max x y = y := by omega
    rw [e]
    go_enter Try.func102, Try.ntmps102
    go_wp2
    go_ret
    exact ⟨rfl, rfl⟩

set_option maxRecDepth 10000 in
set_option maxHeartbeats 1000000 in
theorem l5Last_pos (b off cap : Nat) (ws : List DWrite) (s : Int) (w : World) (h : (Lay.sl Lay.tWrite).Reads w [.slice (some ⟨b, off, none⟩) ws.length cap] ws) (hbl : b < w.heap.size) (hn : ws.length ≤ 10000000) :
    Calls Try.prog 92 #[.slice (some ⟨b, off, none⟩) ws.length cap, .int .i64 s] w fun e w' => e = .returned (.int .i64 (lastI ws s)) ∧ w' = w := by
  have H := hide h
  clear h
  go_enter Try.func92, Try.ntmps92
  go_wp2_with fail
  go_loop [5, 6] (fun m i => ∃ k : Nat, k ≤ ws.length ∧ i = .int .i64 k ∧ m = .int .i64 (lastI (ws.take k) s)) (fun _ i => ws.length - (intOf i).toNat)
  case atStart => exact ⟨0, Nat.zero_le _, rfl, rfl⟩
  case round =>
    obtain ⟨k, hk, rfl, rfl⟩ := hrel
    by_cases hlt : k < ws.length
    · obtain ⟨row, hc, hr⟩ := Lay.row_at (unhide H) hlt
      obtain ⟨a2, d2, rfl, R2⟩ := open_Write hr
      have c3 : w.cell? ⟨b, off + k * 5 + 3, none⟩ = some (.int .i64 (ws[k]).session) := hc 3 (by decide)
      have c4 : w.cell? ⟨b, off + k * 5 + 4, none⟩ = some (.int .i64 (ws[k]).seq) := hc 4 (by decide)
      have HT := hide (lastI_take ws k hlt s)
      clear hc hr R2
      generalize hx : ws[k] = x at *
      clear hx
      by_cases hs : x.session = s
      · have ds : (x.session == s) = true := by simpa using hs
        have HL := hide (fun W => l1MaxC (lastI (ws.take k) s) x.seq W)
        have HT2 : Hid (lastI (ws.take (k + 1)) s = max (lastI (ws.take k) s) x.seq) := by
          have := unhide HT
          rw [if_pos hs] at this
          exact this
        clear HT hs
        generalize hl : lastI (ws.take k) s = l at *
        clear hl
        go_wp2_with fail
        refine (unhide HL _).mono ?_
        rintro e w2 ⟨rfl, rfl⟩
        go_wp2_with fail
        go_round
        case rel => exact ⟨k + 1, by omega, by go_num, by rw [unhide HT2]⟩
        case measure => simp [intOf]; omega
      · have ds : (x.session == s) = false := by simpa using hs
        have HT2 : Hid (lastI (ws.take (k + 1)) s = lastI (ws.take k) s) := by
          have := unhide HT
          rw [if_neg hs] at this
          exact this
        clear HT hs
        go_wp2_with fail
        go_round
        case rel => exact ⟨k + 1, by omega, by go_num, by rw [unhide HT2]⟩
        case measure => simp [intOf]; omega
    · obtain rfl : k = ws.length := by omega
      rw [List.take_length]
      clear H
      go_wp2_with fail
      go_ret
      exact ⟨rfl, rfl⟩

theorem l5LastC (v : Value) (ws : List DWrite) (s : Int) (w : World) (h : (Lay.sl Lay.tWrite).Reads w [v] ws) (hn : ws.length ≤ 10000000) :
    Calls Try.prog 92 #[v, .int .i64 s] w fun e w' => e = .returned (.int .i64 (lastI ws s)) ∧ w' = w := by
  obtain ⟨ao, cap, rfl⟩ := open_sl h
  by_cases hp : 0 < ws.length
  · obtain ⟨b, off, rfl, hbl⟩ := Lay.sl_addr h hp
    exact l5Last_pos b off cap ws s w h hbl hn
  · obtain rfl : ws = [] := List.eq_nil_of_length_eq_zero (by omega)
    clear h hn hp
    go_enter Try.func92, Try.ntmps92
    go_wp2_with fail
    refine wp_loop_rounds 1 ?_
    rw [rounds_succ]
    go_wp2_with fail
    go_ret
    exact ⟨rfl, rfl⟩

end Go.Proofs.Ytipomhpimmnchaa

namespace Go.Proofs.Ytipomhpimmnchaa
open Go.RowKit

theorem grown_low5 {a b c : World} {s : Option Nat} (h : a.grownBy b s) (k : Below a.heap.size b c) : a.grownBy c s :=
  ⟨k.os.trans h.os, k.tape.trans h.tape, k.output.trans h.output, Nat.le_trans h.size k.size, fun i hi hn => (k.block i hi).trans (h.block i hi hn)⟩
theorem flat_snoc5 {bls : List (List Nat)} {bl : List Nat} {P : Nat → Prop} (h : ∀ c ∈ bls.flatten, P c) (h2 : ∀ c ∈ bl, P c) : ∀ c ∈ (bls ++ [bl]).flatten, P c := by
  intro c hc
  rw [List.flatten_append] at hc
  rcases List.mem_append.1 hc with hc | hc
  · exact h c hc
  · exact h2 c (by simpa using hc)
theorem chance5 (b m : Nat) (cv : Value) (w : World) (hs : SrcAt w b cv m) (hc : IsCode b w cv) (hm : m ≤ 100000000) (n : Int) (hn : 1 ≤ n) (hn2 : n ≤ 200) :
    Calls Try.prog 77 #[.pointer (some ⟨b, 0, none⟩), .int .i64 n] w fun e w' => ∃ r : Bool, e = .returned (.bool r) ∧ SrcAt w' b cv (m + 1) ∧ IsCode b w' cv ∧ w.grownBy w' (some b) := by
  have HL := hide (next b m cv n w hs hc (by omega) hn (by omega))
  clear hs hc
  go_enter Try.func77, Try.ntmps77
  go_wp2_with fail
  refine (unhide HL).mono ?_
  rintro e w1 ⟨r, rfl, hr, s1, c1, g1⟩
  have HS := hide s1
  have HC := hide c1
  have HG := hide g1
  clear s1 c1 g1 HL
  go_wp2_with fail
  go_ret
  exact ⟨_, rfl, unhide HS, unhide HC, unhide HG⟩

set_option maxRecDepth 100000 in
set_option maxHeartbeats 4000000 in
theorem drawRight (b m n : Nat) (cv : Value) (w : World) (hs : SrcAt w b cv m) (hc : IsCode b w cv) (hm : m ≤ 100000) (hn0 : 0 < n) (hn : n ≤ 100) :
    Calls Try.prog 73 #[.pointer (some ⟨b, 0, none⟩), .int .i64 n] w fun e w' => ∃ (v : Value) (rows : List (List Value)) (xs : List DWrite) (bls : List (List Nat)) (m' : Nat), e = .returned v ∧ Grow Lay.tWrite w' w.heap.size 58 v rows xs bls ∧ (∀ c ∈ bls.flatten, w.heap.size ≤ c) ∧ xs.length ≤ n ∧
      SrcAt w' b cv m' ∧ m' ≤ m + 1 + 101 * n ∧ IsCode b w' cv ∧ w.grownBy w' (some b) := by
  have hbw := hs.lt
  have nb : Below w.heap.size w (w.alloc (.cells #[] 58)) := (Below.refl w.heap.size w).alloc (Nat.le_refl _) (.cells #[] 58)
  have G0 : Grow Lay.tWrite (w.alloc (.cells #[] 58)) w.heap.size 58 (.slice (some ⟨w.heap.size, 0, none⟩) 0 0) [] [] [] := Grow.nil (World.ownsRow_lit w #[] 0 (Nat.le_refl _) (Nat.zero_le _) rfl)
  have L := next b m cv n (w.alloc (.cells #[] 58)) (hs.onW nb) (hc.onW (Nat.le_of_lt hbw) nb) (by omega) (by omega) (by omega)
  have HL := hide L
  have HG := hide G0
  have HN := hide nb
  clear L G0 nb hs hc
  go_enter Try.func73, Try.ntmps73
  go_wp2_with fail
  refine (unhide HL).mono ?_
  rintro e w1 ⟨r, rfl, hr, s1, c1, g1⟩
  have hr2 : r ≤ n := by omega
  have HG1 := hide ((unhide HG).grown g1 hbw (by simp))
  have HS1 := hide s1
  have HC1 := hide c1
  have HGR1 : Hid (w.grownBy w1 (some b)) := ⟨g1.os.trans (unhide HN).os, g1.tape.trans (unhide HN).tape, g1.output.trans (unhide HN).output, Nat.le_trans (unhide HN).size g1.size, fun i hi hn => (g1.block i (Nat.lt_of_lt_of_le hi (unhide HN).size) hn).trans ((unhide HN).block i hi)⟩
  clear s1 c1 g1 HL HG HN hr
  go_wp2_with fail
  go_loopw [5, 6] (fun v kk wr => ∃ (j : Nat) (rows : List (List Value)) (xs : List DWrite) (bls : List (List Nat)) (m' : Nat), j ≤ n ∧ kk = .int .i64 j ∧ Grow Lay.tWrite wr w.heap.size 58 v rows xs bls ∧ (∀ c ∈ bls.flatten, w.heap.size ≤ c) ∧ xs.length + j ≤ n ∧
      SrcAt wr b cv m' ∧ m' + 101 * j ≤ m + 1 + 101 * n ∧ IsCode b wr cv ∧ w.grownBy wr (some b)) (fun _ kk _ => (intOf kk).toNat)
  case atStart => exact ⟨r, [], [], [], m + 1, hr2, rfl, unhide HG1, by simp, by simp; exact hr2, unhide HS1, by omega, unhide HC1, unhide HGR1⟩
  case round =>
    obtain ⟨j, rows, xs, bls, m', hj, rfl, hG, hsf, hlen, hS, hm', hC, hgr⟩ := hrel
    clear HG1 HS1 HC1 HGR1
    by_cases hlt : 0 < j
    · have HL := hide (drawWrite b m' cv wr hS hC (by omega))
      have HG := hide hG
      have HSF := hide hsf
      have HGR := hide hgr
      have d1 : decide ((0 : Int) < (j : Int)) = true := by simp; omega
      have hwr := hgr.size
      clear hG hsf hS hC hgr
      go_wp2_with fail
      refine (unhide HL).mono ?_
      rintro e w3 ⟨cs, x, bl, m3, rfl, hl, hbl, s3, hm3, c3, g3⟩
      obtain ⟨a2, d2, bv, rfl, rfl, k0, k1, hvl, k3, k4⟩ := lies_Write.1 hl
      have nb : Below w3.heap.size w3 (w3.alloc (.cells #[.int .i64 x.kind, .int .i64 x.id, .slice a2 x.vec.length d2, .int .i64 x.session, .int .i64 x.seq] 58)) := (Below.refl _ _).alloc (Nat.le_refl _) _
      have HQ : Hid (Box 0 #[.int .i64 x.kind, .int .i64 x.id, .slice a2 x.vec.length d2, .int .i64 x.session, .int .i64 x.seq] 58 (w3.alloc (.cells #[.int .i64 x.kind, .int .i64 x.id, .slice a2 x.vec.length d2, .int .i64 x.session, .int .i64 x.seq] 58)) w3.heap.size) := newBox (Nat.zero_le _)
      have hG3 := ((unhide HG).grown g3 hbw (unhide HSF))
      have HG4 := hide (hG3.later nb)
      have HLS := hide (l5LastC u5 xs x.session _ ((unhide HG4).toReads (by omega)) (by omega))
      have HNX := hide (next b m3 cv 2 _ (s3.onW nb) (c3.onW (by have := s3.lt; omega) nb) (by omega) (by omega) (by omega))
      have HVL := hide ((Lay.sl Lay.int).keep hvl fun c hc => nb.block c ((Lay.sl Lay.int).lt hvl c hc))
      have HBL : Hid (∀ c ∈ bl, wr.heap.size ≤ c ∧ c < w3.heap.size) := hbl
      have HGR3 : Hid (w.grownBy (w3.alloc (.cells #[.int .i64 x.kind, .int .i64 x.id, .slice a2 x.vec.length d2, .int .i64 x.session, .int .i64 x.seq] 58)) (some b)) := grown_low5 (grown_trans (unhide HGR) g3) (nb.mono (Nat.le_trans hwr g3.size))
      have hz3 : wr.heap.size ≤ w3.heap.size := g3.size
      have HWF := hide (And.intro k0 (And.intro k1 k3))
      have hGo : ∀ c, u5.ownBlock = some c → w.heap.size ≤ c ∧ c < wr.heap.size := fun c hc => (unhide HG).own.lt c hc
      have HSL : Hid (∀ c ∈ bls.flatten, c < wr.heap.size) := fun c hc => (unhide HG).sub_lt c hc
      have HGO := hide hGo
      clear hl hbl s3 c3 g3 HL HG HGR k0 k1 hvl k3 k4 hG3 hGo nb
      go_upto_region 6 with fail
      generalize w3.alloc (.cells #[.int .i64 x.kind, .int .i64 x.id, .slice a2 x.vec.length d2, .int .i64 x.session, .int .i64 x.seq] 58) = W4 at *
      have y3 : W4.cell? ⟨w3.heap.size, 3, none⟩ = some (.int .i64 x.session) := (unhide HQ).at 3 _ rfl
      go_wp2_with fail
      refine (unhide HLS).mono ?_
      rintro e w9 ⟨rfl, hw9⟩
      rw [hw9]
      clear hw9 w9 HLS y3
      go_wp2_with fail
      refine (unhide HNX).mono ?_
      rintro e w5 ⟨r5, rfl, hr5, s5, c5, g5⟩
      have hq4 : w3.heap.size < W4.heap.size := (unhide HQ).lt
      have hQ5 := (unhide HQ).ext (ext_grown g5) (by omega)
      have l5 := hQ5.lt
      have f5 := hQ5.soft 4
      have y4 : w5.cell? ⟨w3.heap.size, 4, none⟩ = some (.int .i64 x.seq) := hQ5.at 4 _ rfl
      have HG5 := hide ((unhide HG4).grown g5 hbw (unhide HSF))
      have HVL5 := hide ((Lay.sl Lay.int).keep (unhide HVL) fun c hc => g5.block c ((Lay.sl Lay.int).lt (unhide HVL) c hc) (fun e => by have := (unhide HBL c hc).1; have e2 : c = b := Option.some.inj e; omega))
      have HS5 := hide s5
      have HC5 := hide c5
      have HGR5 := hide (grown_trans (unhide HGR3) g5)
      have HQ5 := hide hQ5
      clear s5 c5 g5 HNX HQ HG4 HVL HGR3 hQ5
      go_upto_region 7 with fail
      have hzw : (Lit.int .i64 (wrap64 (wrap64 (lastI xs x.session + 1) + (r5 : Int)))).wf = true := by first | exact wf_wrap .i64 _ | (unfold wrap64; rw [← IntKind.wrap_i64]; exact wf_wrap _ _) | (rw [← wrap64_eq]; exact wf_wrap _ _) | (simp only [wrap64]; exact wf_of_bd (by omega))
      generalize wrap64 (wrap64 (lastI xs x.session + 1) + (r5 : Int)) = z at *
      have hE : Ext (fun c => c = w3.heap.size) w5 (w5.setCell ⟨w3.heap.size, 4, none⟩ (.int .i64 z)) := (Ext.refl (fun c => c = w3.heap.size) w5).setCell ⟨w3.heap.size, 4, none⟩ _ rfl
      have hQ6 : Box 0 #[.int .i64 x.kind, .int .i64 x.id, .slice a2 x.vec.length d2, .int .i64 x.session, .int .i64 z] 58 (w5.setCell ⟨w3.heap.size, 4, none⟩ (.int .i64 z)) w3.heap.size := (unhide HQ5).set 4 (.int .i64 z)
      have hl6 : Lay.tWrite.lies (w5.setCell ⟨w3.heap.size, 4, none⟩ (.int .i64 z)) [.int .i64 x.kind, .int .i64 x.id, .slice a2 x.vec.length d2, .int .i64 x.session, .int .i64 z] { x with seq := z } bl := lies_Write.2 ⟨a2, d2, bl, rfl, rfl, (unhide HWF).1, (unhide HWF).2.1, (Lay.sl Lay.int).keep (unhide HVL5) (fun c hc => hE.block c ((Lay.sl Lay.int).lt (unhide HVL5) c hc) (by have := (unhide HBL c hc).2; omega)), (unhide HWF).2.2, hzw⟩
      have hG6 : Grow Lay.tWrite (w5.setCell ⟨w3.heap.size, 4, none⟩ (.int .i64 z)) w.heap.size 58 u5 rows xs bls := (unhide HG5).kept (by
        obtain ⟨h1, h2⟩ := (unhide HG5).own
        refine ⟨h1, ?_⟩
        rcases h2 with h2 | ⟨gb, cap', cur, hv, hg, hh, r⟩
        · exact Or.inl h2
        · exact Or.inr ⟨gb, cap', cur, hv, hg, (hE.block gb (lt_of_block hh) (by have := (unhide HGO gb (by rw [hv]; rfl)).2; omega)).trans hh, r⟩) (fun c hc => hE.block c ((unhide HG5).sub_lt c hc) (by have := unhide HSL c hc; omega))
      have hoff : ∀ c ∈ bl, u5.ownBlock ≠ some c := fun c hc e => by
        have h1 := (unhide HBL c hc).1
        have h2 := (unhide HGO c e).2
        omega
      have hw5 : w.heap.size ≤ w5.heap.size := (unhide HGR5).size
      have HS6 := hide ((unhide HS5).extW hE (by omega))
      have HC6 := hide ((unhide HC5).extW (by omega) hE (fun k hk e => by omega))
      have HGR6 := hide (grown_low5 (unhide HGR5) (hE.below (B := w.heap.size) hw5 (fun k hk e => by omega)))
      have y0 : (w5.setCell ⟨w3.heap.size, 4, none⟩ (.int .i64 z)).cell? ⟨w3.heap.size, 0, none⟩ = some (.int .i64 x.kind) := hQ6.at 0 _ rfl
      have y1 : (w5.setCell ⟨w3.heap.size, 4, none⟩ (.int .i64 z)).cell? ⟨w3.heap.size, 1, none⟩ = some (.int .i64 x.id) := hQ6.at 1 _ rfl
      have y2 : (w5.setCell ⟨w3.heap.size, 4, none⟩ (.int .i64 z)).cell? ⟨w3.heap.size, 2, none⟩ = some (.slice a2 x.vec.length d2) := hQ6.at 2 _ rfl
      have y3 : (w5.setCell ⟨w3.heap.size, 4, none⟩ (.int .i64 z)).cell? ⟨w3.heap.size, 3, none⟩ = some (.int .i64 x.session) := hQ6.at 3 _ rfl
      have y5 : (w5.setCell ⟨w3.heap.size, 4, none⟩ (.int .i64 z)).cell? ⟨w3.heap.size, 4, none⟩ = some (.int .i64 z) := hQ6.at 4 _ rfl
      have hZ : w.heap.size ≤ (w5.setCell ⟨w3.heap.size, 4, none⟩ (.int .i64 z)).heap.size := by simpa using hw5
      have HSF2 : Hid (∀ c ∈ (bls ++ [bl]).flatten, w.heap.size ≤ c) := flat_snoc5 (unhide HSF) (fun c hc => Nat.le_trans hwr (unhide HBL c hc).1)
      clear y4 f5 l5 hE hQ6 HQ5 HVL5 HG5 HS5 HC5 HGR5 HBL HGO HSL HWF HSF hzw
      generalize w5.setCell ⟨w3.heap.size, 4, none⟩ (.int .i64 z) = W6 at *
      go_wp2_with (at_builtin; refine wpList_append_Write hG6 hl6 hoff rfl _ _ rfl rfl rfl (by omega) hZ ?_)
      intro g cap w7 hG7 hb7 hE7 hg7 hz7 hor7
      have HG7 := hide hG7
      have HS7 : Hid (SrcAt w7 b cv (m3 + 1)) := (hb7.block b hbw).trans (unhide HS6)
      have HC7 := hide ((unhide HC6).later (hb7.mono (Nat.le_of_lt hbw)))
      have HGR7 := hide (grown_low5 (unhide HGR6) hb7)
      clear hG6 hl6 hoff hG7 hb7 hE7 hg7 hz7 hor7 HS6 HC6 HGR6 y0 y1 y2 y3 y5
      go_wp2_with fail
      go_roundw
      case rel => exact ⟨j - 1, _, _, _, m3 + 1, by omega, by go_num, unhide HG7, unhide HSF2, by simp; omega, unhide HS7, by omega, unhide HC7, unhide HGR7⟩
      case measure => simp [intOf]; omega
    · obtain rfl : j = 0 := by omega
      have HG := hide hG
      have HSF := hide hsf
      have HGR := hide hgr
      have HS := hide hS
      have HC := hide hC
      clear hG hsf hS hC hgr
      go_wp2_with fail
      go_ret
      exact ⟨u5, rows, xs, bls, m', rfl, unhide HG, unhide HSF, by omega, unhide HS, by omega, unhide HC, unhide HGR⟩

end Go.Proofs.Ytipomhpimmnchaa

namespace Go.Proofs.Ytipomhpimmnchaa
open Go.RowKit

theorem lastI_leB (ws : List DWrite) (s B : Int) (h0 : 0 ≤ B) (h : ∀ x ∈ ws, x.seq ≤ B) : lastI ws s ≤ B := by
  have : ∀ (ys : List DWrite) (n : Int), n ≤ B → (∀ x ∈ ys, x.seq ≤ B) → ys.foldl (fun n x => if x.session = s then max n x.seq else n) n ≤ B := by
    intro ys
    induction ys with
    | nil => intro n hn _; exact hn
    | cons y ys ih =>
      intro n hn hy
      refine ih _ ?_ (fun x hx => hy x (List.mem_cons_of_mem _ hx))
      have := hy y (by simp)
      show (if y.session = s then max n y.seq else n) ≤ B
      split <;> omega
  exact this ws 0 h0 h

set_option maxRecDepth 100000 in
set_option maxHeartbeats 4000000 in
theorem drawRightR (b m n : Nat) (cv : Value) (w : World) (hs : SrcAt w b cv m) (hc : IsCode b w cv) (hm : m ≤ 100000) (hn0 : 0 < n) (hn : n ≤ 100) :
    Calls Try.prog 73 #[.pointer (some ⟨b, 0, none⟩), .int .i64 n] w fun e w' => ∃ (v : Value) (rows : List (List Value)) (xs : List DWrite) (bls : List (List Nat)) (m' : Nat), e = .returned v ∧ Grow Lay.tWrite w' w.heap.size 58 v rows xs bls ∧ (∀ c ∈ bls.flatten, w.heap.size ≤ c) ∧ xs.length ≤ n ∧ (∀ y ∈ xs, wF y = 0 ∧ y.seq ≤ 2 * (xs.length : Int)) ∧
      SrcAt w' b cv m' ∧ m' ≤ m + 1 + 101 * n ∧ IsCode b w' cv ∧ w.grownBy w' (some b) := by
  have hbw := hs.lt
  have nb : Below w.heap.size w (w.alloc (.cells #[] 58)) := (Below.refl w.heap.size w).alloc (Nat.le_refl _) (.cells #[] 58)
  have G0 : Grow Lay.tWrite (w.alloc (.cells #[] 58)) w.heap.size 58 (.slice (some ⟨w.heap.size, 0, none⟩) 0 0) [] [] [] := Grow.nil (World.ownsRow_lit w #[] 0 (Nat.le_refl _) (Nat.zero_le _) rfl)
  have L := next b m cv n (w.alloc (.cells #[] 58)) (hs.onW nb) (hc.onW (Nat.le_of_lt hbw) nb) (by omega) (by omega) (by omega)
  have HL := hide L
  have HG := hide G0
  have HN := hide nb
  clear L G0 nb hs hc
  go_enter Try.func73, Try.ntmps73
  go_wp2_with fail
  refine (unhide HL).mono ?_
  rintro e w1 ⟨r, rfl, hr, s1, c1, g1⟩
  have hr2 : r ≤ n := by omega
  have HG1 := hide ((unhide HG).grown g1 hbw (by simp))
  have HS1 := hide s1
  have HC1 := hide c1
  have HGR1 : Hid (w.grownBy w1 (some b)) := ⟨g1.os.trans (unhide HN).os, g1.tape.trans (unhide HN).tape, g1.output.trans (unhide HN).output, Nat.le_trans (unhide HN).size g1.size, fun i hi hn => (g1.block i (Nat.lt_of_lt_of_le hi (unhide HN).size) hn).trans ((unhide HN).block i hi)⟩
  clear s1 c1 g1 HL HG HN hr
  go_wp2_with fail
  go_loopw [5, 6] (fun v kk wr => ∃ (j : Nat) (rows : List (List Value)) (xs : List DWrite) (bls : List (List Nat)) (m' : Nat), j ≤ n ∧ kk = .int .i64 j ∧ Grow Lay.tWrite wr w.heap.size 58 v rows xs bls ∧ (∀ c ∈ bls.flatten, w.heap.size ≤ c) ∧ xs.length + j ≤ n ∧ (∀ y ∈ xs, wF y = 0 ∧ y.seq ≤ 2 * (xs.length : Int)) ∧
      SrcAt wr b cv m' ∧ m' + 101 * j ≤ m + 1 + 101 * n ∧ IsCode b wr cv ∧ w.grownBy wr (some b)) (fun _ kk _ => (intOf kk).toNat)
  case atStart => exact ⟨r, [], [], [], m + 1, hr2, rfl, unhide HG1, by simp, by simp; exact hr2, by simp, unhide HS1, by omega, unhide HC1, unhide HGR1⟩
  case round =>
    obtain ⟨j, rows, xs, bls, m', hj, rfl, hG, hsf, hlen, hwq, hS, hm', hC, hgr⟩ := hrel
    have HWQ := hide hwq
    clear hwq
    clear HG1 HS1 HC1 HGR1
    by_cases hlt : 0 < j
    · have HL := hide (drawWriteR b m' cv wr hS hC (by omega))
      have HG := hide hG
      have HSF := hide hsf
      have HGR := hide hgr
      have d1 : decide ((0 : Int) < (j : Int)) = true := by simp; omega
      have hwr := hgr.size
      clear hG hsf hS hC hgr
      go_wp2_with fail
      refine (unhide HL).mono ?_
      rintro e w3 ⟨cs, x, bl, m3, rfl, hl, hbl, s3, hm3, c3, g3, hwx, hqx⟩
      have HWX := hide hwx
      clear hwx hqx
      obtain ⟨a2, d2, bv, rfl, rfl, k0, k1, hvl, k3, k4⟩ := lies_Write.1 hl
      have nb : Below w3.heap.size w3 (w3.alloc (.cells #[.int .i64 x.kind, .int .i64 x.id, .slice a2 x.vec.length d2, .int .i64 x.session, .int .i64 x.seq] 58)) := (Below.refl _ _).alloc (Nat.le_refl _) _
      have HQ : Hid (Box 0 #[.int .i64 x.kind, .int .i64 x.id, .slice a2 x.vec.length d2, .int .i64 x.session, .int .i64 x.seq] 58 (w3.alloc (.cells #[.int .i64 x.kind, .int .i64 x.id, .slice a2 x.vec.length d2, .int .i64 x.session, .int .i64 x.seq] 58)) w3.heap.size) := newBox (Nat.zero_le _)
      have hG3 := ((unhide HG).grown g3 hbw (unhide HSF))
      have HG4 := hide (hG3.later nb)
      have HLS := hide (l5LastC u5 xs x.session _ ((unhide HG4).toReads (by omega)) (by omega))
      have HNX := hide (next b m3 cv 2 _ (s3.onW nb) (c3.onW (by have := s3.lt; omega) nb) (by omega) (by omega) (by omega))
      have HVL := hide ((Lay.sl Lay.int).keep hvl fun c hc => nb.block c ((Lay.sl Lay.int).lt hvl c hc))
      have HBL : Hid (∀ c ∈ bl, wr.heap.size ≤ c ∧ c < w3.heap.size) := hbl
      have HGR3 : Hid (w.grownBy (w3.alloc (.cells #[.int .i64 x.kind, .int .i64 x.id, .slice a2 x.vec.length d2, .int .i64 x.session, .int .i64 x.seq] 58)) (some b)) := grown_low5 (grown_trans (unhide HGR) g3) (nb.mono (Nat.le_trans hwr g3.size))
      have hz3 : wr.heap.size ≤ w3.heap.size := g3.size
      have HWF := hide (And.intro k0 (And.intro k1 k3))
      have hGo : ∀ c, u5.ownBlock = some c → w.heap.size ≤ c ∧ c < wr.heap.size := fun c hc => (unhide HG).own.lt c hc
      have HSL : Hid (∀ c ∈ bls.flatten, c < wr.heap.size) := fun c hc => (unhide HG).sub_lt c hc
      have HGO := hide hGo
      clear hl hbl s3 c3 g3 HL HG HGR k0 k1 hvl k3 k4 hG3 hGo nb
      go_upto_region 6 with fail
      generalize w3.alloc (.cells #[.int .i64 x.kind, .int .i64 x.id, .slice a2 x.vec.length d2, .int .i64 x.session, .int .i64 x.seq] 58) = W4 at *
      have y3 : W4.cell? ⟨w3.heap.size, 3, none⟩ = some (.int .i64 x.session) := (unhide HQ).at 3 _ rfl
      go_wp2_with fail
      refine (unhide HLS).mono ?_
      rintro e w9 ⟨rfl, hw9⟩
      rw [hw9]
      clear hw9 w9 HLS y3
      go_wp2_with fail
      refine (unhide HNX).mono ?_
      rintro e w5 ⟨r5, rfl, hr5, s5, c5, g5⟩
      have hq4 : w3.heap.size < W4.heap.size := (unhide HQ).lt
      have hQ5 := (unhide HQ).ext (ext_grown g5) (by omega)
      have l5 := hQ5.lt
      have f5 := hQ5.soft 4
      have y4 : w5.cell? ⟨w3.heap.size, 4, none⟩ = some (.int .i64 x.seq) := hQ5.at 4 _ rfl
      have HG5 := hide ((unhide HG4).grown g5 hbw (unhide HSF))
      have HVL5 := hide ((Lay.sl Lay.int).keep (unhide HVL) fun c hc => g5.block c ((Lay.sl Lay.int).lt (unhide HVL) c hc) (fun e => by have := (unhide HBL c hc).1; have e2 : c = b := Option.some.inj e; omega))
      have HS5 := hide s5
      have HC5 := hide c5
      have HGR5 := hide (grown_trans (unhide HGR3) g5)
      have HQ5 := hide hQ5
      clear s5 c5 g5 HNX HQ HG4 HVL HGR3 hQ5
      go_upto_region 7 with fail
      have hzw : (Lit.int .i64 (wrap64 (wrap64 (lastI xs x.session + 1) + (r5 : Int)))).wf = true := by first | exact wf_wrap .i64 _ | (unfold wrap64; rw [← IntKind.wrap_i64]; exact wf_wrap _ _) | (rw [← wrap64_eq]; exact wf_wrap _ _) | (simp only [wrap64]; exact wf_of_bd (by omega))
      have HZV : Hid (1 ≤ wrap64 (wrap64 (lastI xs x.session + 1) + (r5 : Int)) ∧ wrap64 (wrap64 (lastI xs x.session + 1) + (r5 : Int)) ≤ 2 * (xs.length : Int) + 2) := by
        have h1 := lastI_nonneg xs x.session
        have h2 := lastI_leB xs x.session (2 * (xs.length : Int)) (by omega) (fun y hy => (unhide HWQ y hy).2)
        have h3 : wrap64 (lastI xs x.session + 1) = lastI xs x.session + 1 := by unfold wrap64; omega
        have h4 : wrap64 (lastI xs x.session + 1 + (r5 : Int)) = lastI xs x.session + 1 + (r5 : Int) := by unfold wrap64; omega
        rw [h3, h4]
        exact ⟨by omega, by omega⟩
      generalize wrap64 (wrap64 (lastI xs x.session + 1) + (r5 : Int)) = z at *
      have hE : Ext (fun c => c = w3.heap.size) w5 (w5.setCell ⟨w3.heap.size, 4, none⟩ (.int .i64 z)) := (Ext.refl (fun c => c = w3.heap.size) w5).setCell ⟨w3.heap.size, 4, none⟩ _ rfl
      have hQ6 : Box 0 #[.int .i64 x.kind, .int .i64 x.id, .slice a2 x.vec.length d2, .int .i64 x.session, .int .i64 z] 58 (w5.setCell ⟨w3.heap.size, 4, none⟩ (.int .i64 z)) w3.heap.size := (unhide HQ5).set 4 (.int .i64 z)
      have hl6 : Lay.tWrite.lies (w5.setCell ⟨w3.heap.size, 4, none⟩ (.int .i64 z)) [.int .i64 x.kind, .int .i64 x.id, .slice a2 x.vec.length d2, .int .i64 x.session, .int .i64 z] { x with seq := z } bl := lies_Write.2 ⟨a2, d2, bl, rfl, rfl, (unhide HWF).1, (unhide HWF).2.1, (Lay.sl Lay.int).keep (unhide HVL5) (fun c hc => hE.block c ((Lay.sl Lay.int).lt (unhide HVL5) c hc) (by have := (unhide HBL c hc).2; omega)), (unhide HWF).2.2, hzw⟩
      have hG6 : Grow Lay.tWrite (w5.setCell ⟨w3.heap.size, 4, none⟩ (.int .i64 z)) w.heap.size 58 u5 rows xs bls := (unhide HG5).kept (by
        obtain ⟨h1, h2⟩ := (unhide HG5).own
        refine ⟨h1, ?_⟩
        rcases h2 with h2 | ⟨gb, cap', cur, hv, hg, hh, r⟩
        · exact Or.inl h2
        · exact Or.inr ⟨gb, cap', cur, hv, hg, (hE.block gb (lt_of_block hh) (by have := (unhide HGO gb (by rw [hv]; rfl)).2; omega)).trans hh, r⟩) (fun c hc => hE.block c ((unhide HG5).sub_lt c hc) (by have := unhide HSL c hc; omega))
      have hoff : ∀ c ∈ bl, u5.ownBlock ≠ some c := fun c hc e => by
        have h1 := (unhide HBL c hc).1
        have h2 := (unhide HGO c e).2
        omega
      have hw5 : w.heap.size ≤ w5.heap.size := (unhide HGR5).size
      have HS6 := hide ((unhide HS5).extW hE (by omega))
      have HC6 := hide ((unhide HC5).extW (by omega) hE (fun k hk e => by omega))
      have HGR6 := hide (grown_low5 (unhide HGR5) (hE.below (B := w.heap.size) hw5 (fun k hk e => by omega)))
      have y0 : (w5.setCell ⟨w3.heap.size, 4, none⟩ (.int .i64 z)).cell? ⟨w3.heap.size, 0, none⟩ = some (.int .i64 x.kind) := hQ6.at 0 _ rfl
      have y1 : (w5.setCell ⟨w3.heap.size, 4, none⟩ (.int .i64 z)).cell? ⟨w3.heap.size, 1, none⟩ = some (.int .i64 x.id) := hQ6.at 1 _ rfl
      have y2 : (w5.setCell ⟨w3.heap.size, 4, none⟩ (.int .i64 z)).cell? ⟨w3.heap.size, 2, none⟩ = some (.slice a2 x.vec.length d2) := hQ6.at 2 _ rfl
      have y3 : (w5.setCell ⟨w3.heap.size, 4, none⟩ (.int .i64 z)).cell? ⟨w3.heap.size, 3, none⟩ = some (.int .i64 x.session) := hQ6.at 3 _ rfl
      have y5 : (w5.setCell ⟨w3.heap.size, 4, none⟩ (.int .i64 z)).cell? ⟨w3.heap.size, 4, none⟩ = some (.int .i64 z) := hQ6.at 4 _ rfl
      have hZ : w.heap.size ≤ (w5.setCell ⟨w3.heap.size, 4, none⟩ (.int .i64 z)).heap.size := by simpa using hw5
      have HSF2 : Hid (∀ c ∈ (bls ++ [bl]).flatten, w.heap.size ≤ c) := flat_snoc5 (unhide HSF) (fun c hc => Nat.le_trans hwr (unhide HBL c hc).1)
      clear y4 f5 l5 hE hQ6 HQ5 HVL5 HG5 HS5 HC5 HGR5 HBL HGO HSL HWF HSF hzw
      generalize w5.setCell ⟨w3.heap.size, 4, none⟩ (.int .i64 z) = W6 at *
      go_wp2_with (at_builtin; refine wpList_append_Write hG6 hl6 hoff rfl _ _ rfl rfl rfl (by omega) hZ ?_)
      have HWQ7 : Hid (∀ y ∈ xs ++ [{ x with seq := z }], wF y = 0 ∧ y.seq ≤ 2 * ((xs ++ [{ x with seq := z }]).length : Int)) := by
        intro y hy
        have hl9 : (xs ++ [{ x with seq := z }]).length = xs.length + 1 := by simp
        rw [hl9]
        rcases List.mem_append.1 hy with hy | hy
        · have := unhide HWQ y hy
          exact ⟨this.1, by omega⟩
        · rw [List.mem_singleton.1 hy]
          obtain ⟨q1, q2, -, q4⟩ := writeFault_zero (unhide HWX)
          have hz9 := unhide HZV
          exact ⟨show writeFault x.kind x.id x.vec x.session z = 0 from writeFault_of q1 q2 (by omega) q4, by show z ≤ _; omega⟩
      intro g cap w7 hG7 hb7 hE7 hg7 hz7 hor7
      have HG7 := hide hG7
      have HS7 : Hid (SrcAt w7 b cv (m3 + 1)) := (hb7.block b hbw).trans (unhide HS6)
      have HC7 := hide ((unhide HC6).later (hb7.mono (Nat.le_of_lt hbw)))
      have HGR7 := hide (grown_low5 (unhide HGR6) hb7)
      clear hG6 hl6 hoff hG7 hb7 hE7 hg7 hz7 hor7 HS6 HC6 HGR6 y0 y1 y2 y3 y5
      go_wp2_with fail
      go_roundw
      case rel => exact ⟨j - 1, _, _, _, m3 + 1, by omega, by go_num, unhide HG7, unhide HSF2, by simp; omega, unhide HWQ7, unhide HS7, by omega, unhide HC7, unhide HGR7⟩
      case measure => simp [intOf]; omega
    · obtain rfl : j = 0 := by omega
      have HG := hide hG
      have HSF := hide hsf
      have HGR := hide hgr
      have HS := hide hS
      have HC := hide hC
      clear hG hsf hS hC hgr
      go_wp2_with fail
      go_ret
      exact ⟨u5, rows, xs, bls, m', rfl, unhide HG, unhide HSF, by omega, unhide HWQ, unhide HS, by omega, unhide HC, unhide HGR⟩

end Go.Proofs.Ytipomhpimmnchaa

namespace Go.Proofs.Ytipomhpimmnchaa
open Go.RowKit

theorem append_noneI {P : Program} (t ty e : TypeId) (i : TypeInfo) (ht : P.underlying t = some (.slice e)) (hi : P.info? e = some i) (bo : Option Addr) (n cap c : Nat) (hn : n ≤ cap) (w : World) :
    (Builtin.append_ #[t, t] ty #[.slice bo n cap, .slice none 0 c]).run P w = (Builtin.append_ #[t, t] ty #[.slice bo n cap, .slice (some ⟨0, 0, none⟩) 0 c]).run P w := by
  simp [Builtin.append_, run_underlying ht, sizeOf, typeInfo, hi, Builtin.lenOf, hn, Builtin.firstCells, loadCells, loadCellsFrom]

theorem IsInts.news {w : World} {b off cap : Nat} {zs : List Int} (h : IsInts w (.slice (some ⟨b, off, none⟩) zs.length cap) zs) (hp : 0 < zs.length) : ∀ j u, (zs.map (Value.int .i64))[j]? = some u → w.cell? ((⟨b, off, none⟩ : Addr).add j) = some u := by
  intro j u hu
  obtain ⟨ao, cp, hv, hwf, hc⟩ := h
  obtain ⟨b', off', hao, hc1⟩ := hc hp
  simp only [Value.slice.injEq] at hv
  obtain ⟨rfl, -, -⟩ := hv
  simp only [Option.some.injEq, Addr.mk.injEq, and_true] at hao
  obtain ⟨rfl, rfl⟩ := hao
  have hj : j < zs.length := by
    have := (List.getElem?_eq_some_iff.1 hu).1
    simpa using this
  rw [Addr.add_lit, hc1 j hj]
  simp [hj] at hu
  simp [List.getD, hj, hu]

theorem run_append_ints {w : World} (base ty : Nat) (v : Value) (n : Nat) (xs : List Value) (hown : w.ownsRow base 2 1 v n xs) (x : Value) (ks : List Int) (hx : IsInts w x ks)
    (hn : n + ks.length ≤ 100000000) (hbase : base ≤ w.heap.size) :
    ∃ v' w', (Builtin.append_ #[24, 24] ty #[v, x]).run Try.prog w = .ok v' w' ∧ w'.ownsRow base 2 1 v' (n + ks.length) (xs ++ ks.map (Value.int .i64)) ∧ w.grownBy w' v.ownBlock := by
  obtain ⟨i0, hi, hz0, hz1, hz2⟩ := info_parts info2
  have hml : n + ks.length ≤ maxLen := by unfold maxLen; omega
  by_cases hp : 0 < ks.length
  · have hx' := hx
    obtain ⟨ao, cap, rfl, hwf, hc⟩ := hx'
    obtain ⟨b, off, rfl, hc1⟩ := hc hp
    obtain ⟨v', w', r1, r2, r3, -, -⟩ := run_append_own_at (P := Try.prog) w base 24 ty 2 i0 _ 1 8 Try.underlying24 hi hz0 hz1 hz2 rfl (by omega) v n xs hown ⟨b, off, none⟩ ks.length cap (ks.map (Value.int .i64)) (by simp) (hx.news hp) (by simp [Value.oneCell']) hml (by omega) hbase
    exact ⟨v', w', r1, r2, r3⟩
  · obtain rfl : ks = [] := List.eq_nil_of_length_eq_zero (by omega)
    obtain ⟨ao, cap, rfl, hwf, hc⟩ := hx
    cases ao with
    | none =>
      obtain ⟨v', w', r1, r2, r3, -, -⟩ := run_append_own_at (P := Try.prog) w base 24 ty 2 i0 _ 1 8 Try.underlying24 hi hz0 hz1 hz2 rfl (by omega) v n xs hown ⟨0, 0, none⟩ 0 cap [] rfl (by simp) (by simp) hml (by simp at hn; omega) hbase
      refine ⟨v', w', ?_, r2, r3⟩
      rcases hown.2 with ⟨rfl, h0⟩ | ⟨g, cp, cur, rfl, _, _, hle, _⟩
      · exact (append_noneI _ _ _ i0 Try.underlying24 hi none 0 0 cap (Nat.le_refl _) w).trans r1
      · exact (append_noneI _ _ _ i0 Try.underlying24 hi _ n cp cap hle w).trans r1
    | some ad =>
      obtain ⟨v', w', r1, r2, r3, -, -⟩ := run_append_own_at (P := Try.prog) w base 24 ty 2 i0 _ 1 8 Try.underlying24 hi hz0 hz1 hz2 rfl (by omega) v n xs hown ad 0 cap [] rfl (by simp) (by simp) hml (by simp at hn; omega) hbase
      exact ⟨v', w', r1, r2, r3⟩

/-- The same at an operation of a plain region. -/
theorem wpList_append_ints {w : World} {base : Nat} {v : Value} {n : Nat} {xs : List Value} (hown : w.ownsRow base 2 1 v n xs) {X : Value} {ks : List Int} (hx : IsInts w X ks)
    {ops : Array Oper} {rest : List Oper} {o : Oper} {a : Act} {Q : Exit → Act → World → Prop} (hgd : o.guard = none) (s x : Operand)
    (ho : o.op = .call { callee := .builtin .append, args := #[s, x], argTypes := #[24, 24] }) (hv : a.eval s = v) (hX : a.eval x = X)
    (hn : n + ks.length ≤ 100000000) (hbase : base ≤ w.heap.size)
    (h : ∀ v' w', w'.ownsRow base 2 1 v' (n + ks.length) (xs ++ ks.map (Value.int .i64)) → w.grownBy w' v.ownBlock → Below base w w' → wpList Try.prog ops Q rest (a.put o.dst v') w') :
    wpList Try.prog ops Q (o :: rest) a w := by
  refine wpList_plain hgd fun K hK => ?_
  obtain ⟨v', w', hr, h2, h3⟩ := run_append_ints base o.type v n xs hown X ks hx hn hbase
  unfold Oper.wp execOp
  simp only [ho, resolve, invoke, builtin, Sem.run_bind, Sem.run_pure, Result.andThen_ok, List.map_toArray, List.map_cons, List.map_nil, hv, hX, hr]
  exact hK _ _ (h v' w' h2 h3 ((Below.refl _ _).grown h3 hbase (fun j hj => (hown.lt j hj).1)))

end Go.Proofs.Ytipomhpimmnchaa

namespace Go.Proofs.Ytipomhpimmnchaa
open Go.RowKit

/-- What the last word is. -/
def checkOf (n : Int) : Int := (n.tmod 997 + 997).tmod 997
theorem tmod_bd (n : Int) : -997 < n.tmod 997 ∧ n.tmod 997 < 997 := ⟨by have := Int.lt_tmod_of_pos n (b := 997) (by omega); omega, Int.tmod_lt_of_pos n (by omega)⟩
/-- The sum that the last word tells of. -/
def packSum (k i s q x y z : Int) : Int := k + 3 * i + 5 * s + 7 * q + 11 * x + 13 * y + 17 * z

set_option maxRecDepth 100000 in
set_option maxHeartbeats 1000000 in
theorem l3Pack_putO (b o vb off cap : Nat) (i s q x y z : Int) (w : World) (hc : WriteAtO w b o 1 i (.slice (some ⟨vb, off, none⟩) 3 cap) s q)
    (hx : w.cell? ⟨vb, off, none⟩ = some (.int .i64 x) ∧ w.cell? ⟨vb, off + 1, none⟩ = some (.int .i64 y) ∧ w.cell? ⟨vb, off + 2, none⟩ = some (.int .i64 z))
    (hi : 1 ≤ i ∧ i ≤ 999) (hs : 1 ≤ s ∧ s ≤ 9) (hq : 1 ≤ q ∧ q ≤ 999) (bx : -1000 ≤ x ∧ x ≤ 1000) (bY : -1000 ≤ y ∧ y ≤ 1000) (bz : -1000 ≤ z ∧ z ≤ 1000) :
    Calls Try.prog 66 #[.pointer (some ⟨b, o, none⟩)] w fun e w' => ∃ g : Nat, e = .returned (.slice (some ⟨g, 0, none⟩) 8 8) ∧
      w'.ownsRow w.heap.size 2 1 (.slice (some ⟨g, 0, none⟩) 8 8) 8 ([1, i, s, q, x, y, z, checkOf (packSum 1 i s q x y z)].map (Value.int .i64)) ∧ Below w.heap.size w w' := by
  obtain ⟨c0, c1, c2, c3, c4⟩ := hc
  obtain ⟨x0, x1, x2⟩ := hx
  obtain ⟨i1, i2⟩ := hi
  obtain ⟨s1, s2⟩ := hs
  obtain ⟨q1, q2⟩ := hq
  obtain ⟨m1, m2⟩ := bx
  obtain ⟨m3, m4⟩ := bY
  obtain ⟨m5, m6⟩ := bz
  have LV : Hid (Calls Try.prog 90 #[.pointer (some ⟨b, o, none⟩)] w fun e w' => e = .returned (.slice (some ⟨vb, off, none⟩) 3 cap) ∧ w' = w) := by
    go_enter Try.func90, Try.ntmps90
    go_wp2_with fail
    go_ret
    exact ⟨rfl, rfl⟩
  have HS : Hid (packSum 1 i s q x y z = 1 + 3 * i + 5 * s + 7 * q + 11 * x + 13 * y + 17 * z) := by
    show packSum 1 i s q x y z = 1 + 3 * i + 5 * s + 7 * q + 11 * x + 13 * y + 17 * z
    unfold packSum
    omega
  go_enter Try.func66, Try.ntmps66
  go_wp2_with fail
  refine (unhide LV).mono ?_
  rintro e w1 ⟨rfl, rfl⟩
  go_wp2_with fail
  go_quiet (fail)
  have hS1 : -41000 ≤ 1 + 3 * i + 5 * s + 7 * q + 11 * x + 13 * y + 17 * z := by omega
  have hS2 : 1 + 3 * i + 5 * s + 7 * q + 11 * x + 13 * y + 17 * z ≤ 60000 := by omega
  generalize 1 + 3 * i + 5 * s + 7 * q + 11 * x + 13 * y + 17 * z = S0 at *
  have hT := tmod_bd S0
  have hT1 : IntKind.i64.wrap (S0.tmod 997 + 997) = S0.tmod 997 + 997 := by rw [IntKind.wrap_i64]; omega
  have HC : Hid (checkOf (packSum 1 i s q x y z) = (S0.tmod 997 + 997).tmod 997) := by
    show checkOf (packSum 1 i s q x y z) = (S0.tmod 997 + 997).tmod 997
    rw [unhide HS]
    rfl
  clear hT HS
  go_wp2_with fail
  first
    | go_region_held3 (fun w' => w'.cell? ⟨b, o, none⟩ = some (.int .i64 1) ∧ w'.cell? ⟨b, o + 1, none⟩ = some (.int .i64 i) ∧ w'.cell? ⟨b, o + 3, none⟩ = some (.int .i64 s) ∧ w'.cell? ⟨b, o + 4, none⟩ = some (.int .i64 q) ∧ w'.cell? ⟨vb, off, none⟩ = some (.int .i64 x) ∧ w'.cell? ⟨vb, off + 1, none⟩ = some (.int .i64 y) ∧ w'.cell? ⟨vb, off + 2, none⟩ = some (.int .i64 z))
        (first
          | exact ⟨c0, c1, c3, c4, x0, x1, x2⟩
          | (refine ⟨(World.grownBy_alloc _ _ none).cell ?_ (by simp), (World.grownBy_alloc _ _ none).cell ?_ (by simp), (World.grownBy_alloc _ _ none).cell ?_ (by simp), (World.grownBy_alloc _ _ none).cell ?_ (by simp), (World.grownBy_alloc _ _ none).cell ?_ (by simp), (World.grownBy_alloc _ _ none).cell ?_ (by simp), (World.grownBy_alloc _ _ none).cell ?_ (by simp)⟩ <;> assumption)
          | go_keep)
        (fail)
    | fail
  have BE : Hid (∀ n ob, Below w1.heap.size w1 ((w1.drewN n).alloc ob)) := fun n ob => (below_drawn (Below.refl w1.heap.size w1) n).alloc (Nat.le_refl _) ob
  clear c0 c1 c3 c4 x0 x1 x2
  go_wp2_with fail
  go_ret
  refine ⟨_, rfl, ?_, unhide BE _ _⟩
  rw [unhide HC]
  exact World.ownsRow_lit _ _ 8 (Nat.le_refl _) (by unfold maxLen; omega) rfl

set_option maxRecDepth 100000 in
set_option maxHeartbeats 1000000 in
theorem l3Pack_dropO (b o : Nat) (i : Int) (v : Value) (s q : Int) (w : World) (hc : WriteAtO w b o 2 i v s q)
    (hi : 1 ≤ i ∧ i ≤ 999) (hs : 1 ≤ s ∧ s ≤ 9) (hq : 1 ≤ q ∧ q ≤ 999) :
    Calls Try.prog 66 #[.pointer (some ⟨b, o, none⟩)] w fun e w' => ∃ g : Nat, e = .returned (.slice (some ⟨g, 0, none⟩) 8 8) ∧
      w'.ownsRow w.heap.size 2 1 (.slice (some ⟨g, 0, none⟩) 8 8) 8 ([2, i, s, q, 0, 0, 0, checkOf (packSum 2 i s q 0 0 0)].map (Value.int .i64)) ∧ Below w.heap.size w w' := by
  obtain ⟨c0, c1, c2, c3, c4⟩ := hc
  obtain ⟨i1, i2⟩ := hi
  obtain ⟨s1, s2⟩ := hs
  obtain ⟨q1, q2⟩ := hq
  have LV : Hid (Calls Try.prog 90 #[.pointer (some ⟨b, o, none⟩)] w fun e w' => e = .returned (.slice (some ⟨w.heap.size, 0, none⟩) 3 3) ∧ w.alloc (.cells #[.int .i64 0, .int .i64 0, .int .i64 0] 2) = w') := by
    go_enter Try.func90, Try.ntmps90
    go_wp2_with fail
    go_ret
    exact ⟨rfl, rfl⟩
  have B0 : Below w.heap.size w (w.alloc (.cells #[.int .i64 0, .int .i64 0, .int .i64 0] 2)) := (Below.refl _ _).alloc (Nat.le_refl _) _
  replace c0 := cell_keep B0 c0
  replace c1 := cell_keep B0 c1
  replace c3 := cell_keep B0 c3
  replace c4 := cell_keep B0 c4
  have x0 : (w.alloc (.cells #[.int .i64 0, .int .i64 0, .int .i64 0] 2)).cell? ⟨w.heap.size, 0, none⟩ = some (.int .i64 0) := by simp [go_sem]
  have x1 : (w.alloc (.cells #[.int .i64 0, .int .i64 0, .int .i64 0] 2)).cell? ⟨w.heap.size, 1, none⟩ = some (.int .i64 0) := by simp [go_sem]
  have x2 : (w.alloc (.cells #[.int .i64 0, .int .i64 0, .int .i64 0] 2)).cell? ⟨w.heap.size, 2, none⟩ = some (.int .i64 0) := by simp [go_sem]
  clear c2
  have HS : Hid (packSum 2 i s q 0 0 0 = 2 + 3 * i + 5 * s + 7 * q) := by
    show packSum 2 i s q 0 0 0 = 2 + 3 * i + 5 * s + 7 * q
    unfold packSum
    omega
  go_enter Try.func66, Try.ntmps66
  go_wp2_with fail
  refine (unhide LV).mono ?_
  rintro e w1 ⟨rfl, hw1⟩
  rw [hw1] at c0 c1 c3 c4 x0 x1 x2 B0
  clear hw1
  go_wp2_with fail
  go_quiet (fail)
  have hS1 : -41000 ≤ 2 + 3 * i + 5 * s + 7 * q := by omega
  have hS2 : 2 + 3 * i + 5 * s + 7 * q ≤ 60000 := by omega
  generalize 2 + 3 * i + 5 * s + 7 * q = S0 at *
  have hT := tmod_bd S0
  have hT1 : IntKind.i64.wrap (S0.tmod 997 + 997) = S0.tmod 997 + 997 := by rw [IntKind.wrap_i64]; omega
  have HC : Hid (checkOf (packSum 2 i s q 0 0 0) = (S0.tmod 997 + 997).tmod 997) := by
    show checkOf (packSum 2 i s q 0 0 0) = (S0.tmod 997 + 997).tmod 997
    rw [unhide HS]
    rfl
  clear hT HS
  go_wp2_with fail
  first
    | go_region_held3 (fun w' => w'.cell? ⟨b, o, none⟩ = some (.int .i64 2) ∧ w'.cell? ⟨b, o + 1, none⟩ = some (.int .i64 i) ∧ w'.cell? ⟨b, o + 3, none⟩ = some (.int .i64 s) ∧ w'.cell? ⟨b, o + 4, none⟩ = some (.int .i64 q) ∧ w'.cell? ⟨w.heap.size, 0, none⟩ = some (.int .i64 0) ∧ w'.cell? ⟨w.heap.size, 1, none⟩ = some (.int .i64 0) ∧ w'.cell? ⟨w.heap.size, 2, none⟩ = some (.int .i64 0))
        (first
          | exact ⟨c0, c1, c3, c4, x0, x1, x2⟩
          | (refine ⟨(World.grownBy_alloc _ _ none).cell ?_ (by simp), (World.grownBy_alloc _ _ none).cell ?_ (by simp), (World.grownBy_alloc _ _ none).cell ?_ (by simp), (World.grownBy_alloc _ _ none).cell ?_ (by simp), (World.grownBy_alloc _ _ none).cell ?_ (by simp), (World.grownBy_alloc _ _ none).cell ?_ (by simp), (World.grownBy_alloc _ _ none).cell ?_ (by simp)⟩ <;> assumption)
          | go_keep)
        (fail)
    | fail
  have BSZ := B0.size
  have BE : Hid (∀ n ob, Below w.heap.size w ((w1.drewN n).alloc ob)) := fun n ob => (below_drawn B0 n).alloc B0.size ob
  clear c0 c1 c3 c4 x0 x1 x2
  go_wp2_with fail
  go_ret
  refine ⟨_, rfl, ?_, unhide BE _ _⟩
  rw [unhide HC]
  exact World.ownsRow_lit _ _ 8 (by exact BSZ) (by unfold maxLen; omega) rfl

end Go.Proofs.Ytipomhpimmnchaa

namespace Go.Proofs.Ytipomhpimmnchaa
open Go.RowKit

/-- The parts of a write's vector (of a drop three times 0). -/
def partsOf (k : Int) (zs : List Int) : List Int := if k = 1 then zs else [0, 0, 0]
/-- The eight words. -/
def wordsOf (k i : Int) (zs : List Int) (s q : Int) : List Int :=
  [k, i, s, q, (partsOf k zs).getD 0 0, (partsOf k zs).getD 1 0, (partsOf k zs).getD 2 0, checkOf (packSum k i s q ((partsOf k zs).getD 0 0) ((partsOf k zs).getD 1 0) ((partsOf k zs).getD 2 0))]
def packList (k i : Int) (zs : List Int) (s q : Int) : List Int := if writeFault k i zs s q = 0 then wordsOf k i zs s q else []

/-- What a function that answers an IntsResult tells. -/
def ToldInts (w w' : World) (e : Ending) (c : Int) (l : List Int) : Prop := ∃ r, e = .returned (intsRes c r) ∧ w'.ownsRow w.heap.size 2 1 r l.length (l.map (Value.int .i64)) ∧ Below w.heap.size w w'
theorem toldInts_nil {w w' : World} {c : Int} (h : Below w.heap.size w w') : ToldInts w w' (.returned (intsRes c (.slice none 0 0))) c [] := ⟨_, rfl, World.ownsRow_nil _ _ _ _, h⟩

theorem l3PackO (b o : Nat) (k i : Int) (v : Value) (s q : Int) (zs : List Int) (w : World) (hc : WriteAtO w b o k i v s q) (h : IsInts w v zs) (hf : writeFault k i zs s q = 0) :
    Calls Try.prog 66 #[.pointer (some ⟨b, o, none⟩)] w fun e w' => ∃ g : Nat, e = .returned (.slice (some ⟨g, 0, none⟩) 8 8) ∧
      w'.ownsRow w.heap.size 2 1 (.slice (some ⟨g, 0, none⟩) 8 8) 8 ((wordsOf k i zs s q).map (Value.int .i64)) ∧ Below w.heap.size w w' := by
  obtain ⟨hi, hs, hq, hk⟩ := writeFault_zero hf
  rcases hk with ⟨rfl, hv⟩ | ⟨rfl, rfl⟩
  · obtain ⟨hl, -⟩ := vecFault_zero hv
    match zs, hl with
    | [x, y, z], _ =>
    obtain ⟨b1, b2, b3⟩ := fault3 hv
    obtain ⟨ao, cap, rfl, -, hcells⟩ := h
    obtain ⟨vb, off, rfl, hcl⟩ := hcells (by simp)
    have e0 := hcl 0 (by simp)
    have e1 := hcl 1 (by simp)
    have e2 := hcl 2 (by simp)
    exact l3Pack_putO b o vb off cap i s q x y z w hc ⟨e0, e1, e2⟩ hi hs hq b1 b2 b3
  · exact l3Pack_dropO b o i v s q w hc hi hs hq
theorem l3Pack (b : Nat) (k i : Int) (v : Value) (s q : Int) (zs : List Int) (w : World) (hc : WriteAt w b k i v s q) (h : IsInts w v zs) (hf : writeFault k i zs s q = 0) :
    Calls Try.prog 66 #[.pointer (some ⟨b, 0, none⟩)] w fun e w' => ∃ g : Nat, e = .returned (.slice (some ⟨g, 0, none⟩) 8 8) ∧
      w'.ownsRow w.heap.size 2 1 (.slice (some ⟨g, 0, none⟩) 8 8) 8 ((wordsOf k i zs s q).map (Value.int .i64)) ∧ Below w.heap.size w w' :=
  l3PackO b 0 k i v s q zs w hc h hf

end Go.Proofs.Ytipomhpimmnchaa

namespace Go.Proofs.Ytipomhpimmnchaa
open Go.RowKit

theorem checkOf_bd (n : Int) : -1000 ≤ checkOf n ∧ checkOf n ≤ 1000 := by have := tmod_bd (n.tmod 997 + 997); unfold checkOf; omega
theorem packList_len {k i s q : Int} {zs : List Int} : (packList k i zs s q).length ≤ 8 := by
  unfold packList
  split <;> simp [wordsOf]
theorem packList_wf {k i s q : Int} {zs : List Int} : ∀ z ∈ packList k i zs s q, (Lit.int .i64 z).wf = true := by
  intro z hz
  unfold packList at hz
  split at hz
  · next hf =>
    obtain ⟨hi, hs, hq, hk⟩ := writeFault_zero hf
    have hp : ∀ j, -1000 ≤ (partsOf k zs).getD j 0 ∧ (partsOf k zs).getD j 0 ≤ 1000 := by
      intro j
      rcases hk with ⟨rfl, hv⟩ | ⟨rfl, rfl⟩
      · obtain ⟨hl, hb⟩ := vecFault_zero hv
        by_cases hj : j < 3
        · have := hb j hj
          simpa [partsOf] using this
        · simp [partsOf, List.getD, List.getElem?_eq_none (show zs.length ≤ j by omega)]
      · rcases (show j = 0 ∨ j = 1 ∨ j = 2 ∨ 3 ≤ j by omega) with rfl | rfl | rfl | h
        · simp [partsOf]
        · simp [partsOf]
        · simp [partsOf]
        · have e : (partsOf 2 []).length ≤ j := by simpa [partsOf] using h
          simp [List.getD, List.getElem?_eq_none e]
    have hkb : 1 ≤ k ∧ k ≤ 2 := by rcases hk with ⟨rfl, _⟩ | ⟨rfl, _⟩ <;> omega
    have hcb := checkOf_bd (packSum k i s q ((partsOf k zs).getD 0 0) ((partsOf k zs).getD 1 0) ((partsOf k zs).getD 2 0))
    have h0 := hp 0
    have h1 := hp 1
    have h2 := hp 2
    simp only [wordsOf, List.mem_cons, List.not_mem_nil, or_false] at hz
    rcases hz with rfl | rfl | rfl | rfl | rfl | rfl | rfl | rfl <;> exact wf_of_bd (by omega)
  · simp at hz

end Go.Proofs.Ytipomhpimmnchaa

namespace Go.Proofs.Ytipomhpimmnchaa
open Go.RowKit

structure DWriteResult where
  code : Int
  write : DWrite

def Lay.tWriteResult : Lay DWriteResult := Lay.via (Lay.pair Lay.int Lay.tWrite) (fun x => (x.code, x.write)) (fun p => ⟨p.1, p.2⟩)

theorem lies_WriteResult {w : World} {cs : List Value} {x : DWriteResult} {bl : List Nat} : Lay.tWriteResult.lies w cs x bl ↔ ∃ (a3 : Option Addr) (d3 : Nat) (b3 : List Nat), cs = [.int .i64 x.code, .int .i64 x.write.kind, .int .i64 x.write.id, .slice a3 x.write.vec.length d3, .int .i64 x.write.session, .int .i64 x.write.seq] ∧ bl = b3 ∧ (Lit.int .i64 x.code).wf = true ∧ (Lit.int .i64 x.write.kind).wf = true ∧ (Lit.int .i64 x.write.id).wf = true ∧ (Lay.sl Lay.int).lies w [.slice a3 x.write.vec.length d3] x.write.vec b3 ∧ (Lit.int .i64 x.write.session).wf = true ∧ (Lit.int .i64 x.write.seq).wf = true := by
  constructor
  · intro h
    obtain ⟨c0_, r0_, e0_, s0_, rfl, rfl, h0, h1⟩ := h
    obtain ⟨rfl, w0, rfl⟩ := h0
    obtain ⟨a3, d3, q3, rfl, hq1, w1, w2, l3, w4, w5⟩ := lies_Write.1 h1
    exact ⟨a3, d3, q3, by simp, by simp [hq1], w0, w1, w2, l3, w4, w5⟩
  · rintro ⟨a3, d3, b3, rfl, hbl, w0, w1, w2, l3, w4, w5⟩
    rw [hbl]
    exact ⟨[.int .i64 x.code], [.int .i64 x.write.kind, .int .i64 x.write.id, .slice a3 x.write.vec.length d3, .int .i64 x.write.session, .int .i64 x.write.seq], [], b3, rfl, by simp, ⟨rfl, w0, rfl⟩, lies_Write.2 ⟨a3, d3, b3, rfl, rfl, w1, w2, l3, w4, w5⟩⟩

theorem open_WriteResult {w : World} {cs : List Value} {x : DWriteResult} (h : Lay.tWriteResult.Reads w cs x) : ∃ (a3 : Option Addr) (d3 : Nat), cs = [.int .i64 x.code, .int .i64 x.write.kind, .int .i64 x.write.id, .slice a3 x.write.vec.length d3, .int .i64 x.write.session, .int .i64 x.write.seq] ∧ Lay.tWrite.Reads w [.int .i64 x.write.kind, .int .i64 x.write.id, .slice a3 x.write.vec.length d3, .int .i64 x.write.session, .int .i64 x.write.seq] x.write := by
  obtain ⟨bl, h⟩ := h
  obtain ⟨a3, d3, b3, rfl, -, w0, w1, w2, l3, w4, w5⟩ := lies_WriteResult.1 h
  exact ⟨a3, d3, rfl, ⟨_, lies_Write.2 ⟨a3, d3, _, rfl, rfl, w1, w2, l3, w4, w5⟩⟩⟩

end Go.Proofs.Ytipomhpimmnchaa
