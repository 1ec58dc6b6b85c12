/-
  Texts of this proof in one: Draw1, DrawKeep, Source, Info, Draw2, Draw3.
  Their conditions stand in their theorems.
-/
import Derived.Test.YtipomhpimmnchaaChecked
import Derived.Test.YtipomhpimmnchaaLq01
import Derived.BigQuiet
import Derived.Deep.QuietTactic
import Derived.WalkKit
import Derived.Deep.AppendLies

namespace Go.Proofs.Ytipomhpimmnchaa
open Go.RowKit

/-- The slice of bytes cv lies below block B. -/
def IsCode (B : Nat) (w : World) (cv : Value) : Prop :=
  ∃ ao len cap, cv = .slice ao len cap ∧ len ≤ 1048576 ∧
    (0 < len → ∃ b off, ao = some ⟨b, off, none⟩ ∧ b < B ∧ ∀ j, j < len → ∃ z : Int, w.cell? ⟨b, off + j, none⟩ = some (.int .u8 z) ∧ 0 ≤ z ∧ z ≤ 255)

theorem IsCode.later {B : Nat} {w w' : World} {cv : Value} (h : IsCode B w cv) (hb : Below B w w') : IsCode B w' cv := by
  obtain ⟨ao, len, cap, rfl, hl, hc⟩ := h
  refine ⟨ao, len, cap, rfl, hl, fun hp => ?_⟩
  obtain ⟨b, off, hao, hB, hc1⟩ := hc hp
  refine ⟨b, off, hao, hB, fun j hj => ?_⟩
  obtain ⟨z, h1, h2⟩ := hc1 j hj
  exact ⟨z, (hb.cell (p := ⟨b, off + j, none⟩) hB).trans h1, h2⟩

/-- The source in block b: its code, and how many numbers have been drawn. -/
def SrcAt (w : World) (b : Nat) (cv : Value) (m : Nat) : Prop := w.heap[b]? = some (.cells #[cv, .int .i64 m] 115 (0, 0))

theorem SrcAt.c0 {w : World} {b m : Nat} {cv : Value} (h : SrcAt w b cv m) : w.cell? ⟨b, 0, none⟩ = some cv := by simp [World.cell?, show w.heap[b]? = _ from h]
theorem SrcAt.c1 {w : World} {b m : Nat} {cv : Value} (h : SrcAt w b cv m) : w.cell? ⟨b, 1, none⟩ = some (.int .i64 m) := by simp [World.cell?, show w.heap[b]? = _ from h]
theorem SrcAt.fz {w : World} {b m : Nat} {cv : Value} (h : SrcAt w b cv m) (o : Nat) : w.frozen? ⟨b, o, none⟩ = false := by simp [World.frozen?, show w.heap[b]? = _ from h]
theorem SrcAt.lt {w : World} {b m : Nat} {cv : Value} (h : SrcAt w b cv m) : b < w.heap.size := lt_of_block h
theorem SrcAt.set {w : World} {b m : Nat} {cv : Value} (h : SrcAt w b cv m) : SrcAt (w.setCell ⟨b, 1, none⟩ (.int .i64 ((m : Int) + 1))) b cv (m + 1) :=
  heap_setCell_same w b 1 #[cv, .int .i64 m] 115 (.int .i64 ((m : Int) + 1)) h
theorem grown_set (w : World) (b o : Nat) (u : Value) : w.grownBy (w.setCell ⟨b, o, none⟩ u) (some b) :=
  ⟨rfl, rfl, rfl, by simp, fun k _ hk => heap_setCell_other w ⟨b, o, none⟩ k u (fun e => hk (by simp [e]))⟩
theorem grown_drawn {a w : World} {r : Option Nat} (h : a.grownBy w r) (n : Nat) : a.grownBy (w.drewN n) r := ⟨h.os, h.tape, h.output, h.size, h.block⟩

theorem below_of_grown {w w' : World} {b : Nat} (h : w.grownBy w' (some b)) (hb : b ≤ w.heap.size) : Below b w w' :=
  (Below.refl b w).grown h hb (fun k hk => by simp at hk; omega)

set_option maxHeartbeats 400000 in
theorem next_low (b m : Nat) (cv : Value) (n : Int) (w : World) (hs : SrcAt w b cv m) (hm : m ≤ 1000000000) (hn : n < 1) :
    Calls Try.prog 74 #[.pointer (some ⟨b, 0, none⟩), .int .i64 n] w fun e w' => e = .returned (.int .i64 0) ∧ SrcAt w' b cv (m + 1) ∧ w.grownBy w' (some b) := by
  have c1 := hs.c1
  have fz := hs.fz
  have HS := hide hs.set
  clear hs
  go_enter Try.func74, Try.ntmps74
  go_wp2
  go_ret
  exact ⟨rfl, unhide HS, grown_set _ _ _ _⟩

set_option maxHeartbeats 400000 in
theorem next_empty (b m : Nat) (ao : Option Addr) (cap : Nat) (n : Int) (w : World) (hs : SrcAt w b (.slice ao 0 cap) m) (hm : m ≤ 1000000000) (hn : 1 ≤ n) :
    Calls Try.prog 74 #[.pointer (some ⟨b, 0, none⟩), .int .i64 n] w fun e w' => ∃ r : Int, e = .returned (.int .i64 r) ∧ (0 ≤ r ∧ r < n) ∧ SrcAt w' b (.slice ao 0 cap) (m + 1) ∧ w.grownBy w' (some b) := by
  have c0 := hs.c0
  have c1 := hs.c1
  have fz := hs.fz
  have HS := hide hs.set
  clear hs
  have hd : (n == 0) = false := by rw [beq_eq_false_iff_ne]; omega
  go_enter Try.func74, Try.ntmps74
  go_wp2
  go_ret
  exact ⟨_, rfl, ⟨Int.emod_nonneg _ (by omega), Int.emod_lt_of_pos _ (by omega)⟩, unhide HS, grown_set _ _ _ _⟩

theorem quot_bd (m k : Nat) (hm : m ≤ 1000000000) : 0 ≤ (m : Int) / (k : Int) ∧ (m : Int) / (k : Int) ≤ 1000000000 := by
  refine ⟨Int.ediv_nonneg (by omega) (by omega), ?_⟩
  have := Int.ediv_le_self (a := (m : Int)) (k : Int) (by omega)
  omega

set_option maxHeartbeats 1000000 in
theorem next_some (b m cb off k cap : Nat) (n : Int) (w : World) (hs : SrcAt w b (.slice (some ⟨cb, off, none⟩) k cap) m) (hm : m ≤ 1000000000) (hn : 1 ≤ n) (hn2 : n ≤ 200) (hk : 0 < k) (hk2 : k ≤ 1048576) (hcb : cb < b)
    (hc : ∀ j, j < k → ∃ z : Int, w.cell? ⟨cb, off + j, none⟩ = some (.int .u8 z) ∧ 0 ≤ z ∧ z ≤ 255) :
    Calls Try.prog 74 #[.pointer (some ⟨b, 0, none⟩), .int .i64 n] w fun e w' => ∃ r : Int, e = .returned (.int .i64 r) ∧ (0 ≤ r ∧ r < n) ∧ SrcAt w' b (.slice (some ⟨cb, off, none⟩) k cap) (m + 1) ∧ w.grownBy w' (some b) := by
  have c0 := hs.c0
  have c1 := hs.c1
  have fz := hs.fz
  have HS := hide hs.set
  clear hs
  obtain ⟨z, hz, z1, z2⟩ := hc (m % k) (Nat.mod_lt _ hk)
  obtain ⟨q1, q2⟩ := quot_bd m k hm
  have hd : (n == 0) = false := by rw [beq_eq_false_iff_ne]; omega
  have hd2 : ((k : Int) == 0) = false := by rw [beq_eq_false_iff_ne]; omega
  have hne : ¬ cb = b := by omega
  have hne2 : ¬ b = cb := by omega
  have r1 : 0 ≤ (m : Int) % (k : Int) := Int.emod_nonneg _ (by omega)
  have r2 : (m : Int) % (k : Int) < (k : Int) := Int.emod_lt_of_pos _ (by omega)
  clear hc
  go_enter Try.func74, Try.ntmps74
  go_wp2
  go_quiet (fail)
  go_wp2
  go_ret
  exact ⟨_, rfl, ⟨Int.emod_nonneg _ (by omega), Int.emod_lt_of_pos _ (by omega)⟩, unhide HS, grown_drawn (grown_set _ _ _ _) _⟩

/-- l1Next: a number below n. -/
theorem next (b m : Nat) (cv : Value) (n : Int) (w : World) (hs : SrcAt w b cv m) (hc : IsCode b w cv) (hm : m ≤ 1000000000) (hn : 1 ≤ n) (hn2 : n ≤ 200) :
    Calls Try.prog 74 #[.pointer (some ⟨b, 0, none⟩), .int .i64 n] w fun e w' => ∃ r : Nat, e = .returned (.int .i64 r) ∧ (r : Int) < n ∧ SrcAt w' b cv (m + 1) ∧ IsCode b w' cv ∧ w.grownBy w' (some b) := by
  have fin : ∀ (e : Ending) (w' : World), (∃ r : Int, e = .returned (.int .i64 r) ∧ (0 ≤ r ∧ r < n) ∧ SrcAt w' b cv (m + 1) ∧ w.grownBy w' (some b)) → ∃ r : Nat, e = .returned (.int .i64 r) ∧ (r : Int) < n ∧ SrcAt w' b cv (m + 1) ∧ IsCode b w' cv ∧ w.grownBy w' (some b) := by
    rintro e w' ⟨r, rfl, ⟨h1, h2⟩, h3, h4⟩
    obtain ⟨j, rfl⟩ := Int.eq_ofNat_of_zero_le h1
    exact ⟨j, rfl, h2, h3, hc.later (below_of_grown h4 (Nat.le_of_lt hs.lt)), h4⟩
  obtain ⟨ao, len, cap, rfl, hl, hc1⟩ := hc
  by_cases hp : 0 < len
  · obtain ⟨cb, off, rfl, hB, hc2⟩ := hc1 hp
    exact (next_some b m cb off len cap n w hs hm hn hn2 hp hl hB hc2).mono fin
  · obtain rfl : len = 0 := by omega
    exact (next_empty b m ao cap n w hs hm hn).mono fin

set_option maxHeartbeats 400000 in
/-- l1Pick: one of the list. -/
theorem pick (b m g : Nat) (cv : Value) (zs : List Int) (w : World) (hs : SrcAt w b cv m) (hc : IsCode b w cv) (hm : m ≤ 1000000000) (hl : 1 ≤ zs.length) (hl2 : zs.length ≤ 200) (hg : w.heap[g]? = some (.cells (zs.map (Value.int .i64)).toArray 2 (0, 0))) (hne : g ≠ b) :
    Calls Try.prog 78 #[.pointer (some ⟨b, 0, none⟩), .slice (some ⟨g, 0, none⟩) zs.length zs.length] w fun e w' => ∃ r : Int, e = .returned (.int .i64 r) ∧ r ∈ zs ∧ SrcAt w' b cv (m + 1) ∧ IsCode b w' cv ∧ w.grownBy w' (some b) := by
  go_enter Try.func78, Try.ntmps78
  go_wp2_with fail
  refine (next b m cv zs.length w hs hc hm (by omega) (by omega)).mono ?_
  rintro e w1 ⟨r, rfl, hr, hs1, hc1, hgr⟩
  have hr' : r < zs.length := by omega
  have hcell : w1.cell? ⟨g, r, none⟩ = some (.int .i64 (zs.getD r 0)) := by
    have h1 : w1.heap[g]? = w.heap[g]? := hgr.block g (lt_of_block hg) (by simpa using hne)
    rw [cell_of_row w1 g r _ _ _ (h1.trans hg)]
    simp [List.getD, hr']
  have HS := hide hs1
  have HC := hide hc1
  have HG := hide hgr
  have HR : Hid (zs.getD r 0 ∈ zs) := by
    have e : zs.getD r 0 = zs[r] := by simp [List.getD, hr']
    show zs.getD r 0 ∈ zs
    rw [e]
    exact List.getElem_mem hr'
  generalize zs.getD r 0 = x at *
  clear hs hc hs1 hc1 hgr hg
  go_wp2
  go_ret
  exact ⟨x, rfl, unhide HR, unhide HS, unhide HC, unhide HG⟩

end Go.Proofs.Ytipomhpimmnchaa

namespace Go.Proofs.Ytipomhpimmnchaa
open Go.RowKit

/-- Growth behind growth: what else is written is new. -/
theorem grown_new {a b c : World} {s r : Option Nat} (h : a.grownBy b s) (k : b.grownBy c r) (hr : ∀ j, r = some j → a.heap.size ≤ j) : a.grownBy c s :=
  ⟨k.os.trans h.os, k.tape.trans h.tape, k.output.trans h.output, Nat.le_trans h.size k.size, fun i hi hs => (k.block i (Nat.lt_of_lt_of_le hi h.size) (fun e => by have := hr i e.symm; omega)).trans (h.block i hi hs)⟩

theorem SrcAt.keep {w w' : World} {b m : Nat} {cv : Value} {r : Option Nat} (h : SrcAt w b cv m) (hg : w.grownBy w' r) (hr : some b ≠ r) : SrcAt w' b cv m := (hg.block b h.lt hr).trans h
theorem SrcAt.alloc {w : World} {b m : Nat} {cv : Value} (h : SrcAt w b cv m) (o : Obj) : SrcAt (w.alloc o) b cv m := (Below.heap_alloc w o b h.lt).trans h
theorem IsCode.alloc {w : World} {b : Nat} {cv : Value} (h : IsCode b w cv) (hb : b ≤ w.heap.size) (o : Obj) : IsCode b (w.alloc o) cv := h.later ((Below.refl _ _).alloc hb o)

theorem own_ne {W : World} {b0 b T sz : Nat} {u : Value} {n : Nat} {xs : List Value} (h : W.ownsRow b0 T sz u n xs) (hb : b < b0) : u.ownBlock ≠ some b := fun e => by have := (h.lt b e).1; omega

end Go.Proofs.Ytipomhpimmnchaa

namespace Go.Proofs.Ytipomhpimmnchaa
open Go.RowKit

theorem source (ao : Option Addr) (len cap : Nat) (w : World) :
    Calls Try.prog 72 #[.slice ao len cap] w fun e w' => e = .returned (.pointer (some ⟨w.heap.size, 0, none⟩)) ∧ w.alloc (.cells #[.slice ao len cap, .int .i64 0] 115) = w' := by
  go_enter Try.func72, Try.ntmps72
  go_wp2
  go_ret
  exact ⟨rfl, rfl⟩

theorem src_new (w : World) (cv : Value) : SrcAt (w.alloc (.cells #[cv, .int .i64 0] 115)) w.heap.size cv 0 := heap_alloc_new w _

/-- What a row's reading tells of a slice of bytes that came in. -/
theorem isCode_of_row {w : World} {a : Option Addr} {len cap : Nat} {zs : List Int} (h : (a = none ∧ len = 0 ∧ cap = 0 ∧ zs = []) ∨
    ∃ x, a = some x ∧ len ≤ cap ∧ cap ≤ maxLen ∧ zs.length = cap ∧ (∀ i, i < zs.length → w.cell? (x.add i) = some (.int .u8 (zs.getD i 0))) ∧ ∀ n ∈ zs, (Lit.int .u8 n).wf = true) (hn : len ≤ 1048576) :
    IsCode w.heap.size w (.slice a len cap) := by
  refine ⟨a, len, cap, rfl, hn, fun hp => ?_⟩
  rcases h with ⟨rfl, rfl, rfl, rfl⟩ | ⟨x, rfl, hl, hm, hz, hcell, hwz⟩
  · omega
  · obtain ⟨b, off, spot⟩ := x
    have hc := hcell 0 (by omega)
    have hspot : spot = none := by simpa [Addr.add] using World.cell?_spot hc
    subst hspot
    refine ⟨b, off, rfl, by simpa [Addr.add] using World.block_lt_of_cell? _ _ hc, fun j hj => ⟨zs.getD j 0, ?_, ?_⟩⟩
    · have h1 := hcell j (by omega)
      rwa [Addr.add_lit] at h1
    · have h1 := hwz (zs.getD j 0) (by simp [List.getD, show j < zs.length by omega])
      simpa [Lit.wf, IntKind.min, IntKind.max, IntKind.signed, IntKind.bits] using h1

end Go.Proofs.Ytipomhpimmnchaa

namespace Go.Proofs.Ytipomhpimmnchaa

theorem info2 : (Try.prog.info? 2).map (fun i => (i.zero, i.size, i.bytes)) = some (some (.int .i64 0), 1, 8) := by kernel_rfl

end Go.Proofs.Ytipomhpimmnchaa

namespace Go.Proofs.Ytipomhpimmnchaa
open Go.RowKit

def inRange (ds : List Int) : Prop := ∀ d ∈ ds, -1000 ≤ d ∧ d ≤ 1000

set_option maxHeartbeats 1000000 in
theorem draw (b m : Nat) (cv : Value) (w : World) (hs : SrcAt w b cv m) (hc : IsCode b w cv) (hm : m ≤ 100000000) :
    Calls Try.prog 101 #[.pointer (some ⟨b, 0, none⟩)] w fun e w' => ∃ (v : Value) (ds : List Int), e = .returned v ∧ ds.length = 3 ∧ inRange ds ∧ w'.ownsRow w.heap.size 2 1 v 3 (ds.map (Value.int .i64)) ∧
      SrcAt w' b cv (m + 9) ∧ IsCode b w' cv ∧ w.grownBy w' (some b) := by
  obtain ⟨i0, hi0, hz0, hz1, hz2⟩ := info_parts info2
  go_enter Try.func101, Try.ntmps101
  go_wp2_with fail
  go_loopw [3, 4] (fun v i wr => ∃ (k : Nat) (ds : List Int), k ≤ 3 ∧ i = .int .i64 k ∧ ds.length = k ∧ inRange ds ∧ wr.ownsRow w.heap.size 2 1 v k (ds.map (Value.int .i64)) ∧ SrcAt wr b cv (m + 3 * k) ∧ IsCode b wr cv ∧ w.grownBy wr (some b))
    (fun _ i _ => 3 - (intOf i).toNat)
  case atStart =>
    refine ⟨0, [], by omega, rfl, rfl, fun d hd => by simp at hd, ?_, hs.alloc _, hc.alloc (Nat.le_of_lt hs.lt) _, World.grownBy_alloc w _ _⟩
    exact World.ownsRow_lit w #[] 0 (Nat.le_refl _) (by unfold maxLen; omega) rfl
  case round =>
    obtain ⟨k, ds, hk, rfl, hl, hd, hown, hs1, hc1, hg1⟩ := hrel
    have hbw := hs.lt
    have HW := hide hg1
    have hwr := hg1.size
    clear hs hc hg1
    by_cases hlt : k < 3
    · have HD := hide hd
      have HL := hide hl
      clear hd hl hi0 hz0 hz1 hz2
      go_wp2_with fail
      refine (next b (m + 3 * k) cv 9 _ hs1 hc1 (by omega) (by omega) (by omega)).mono ?_
      rintro e w1 ⟨x, rfl, hx, hs2, hc2, hg2⟩
      have hown2 := hown.kept hg2 (Or.inr (own_ne hown hbw))
      have HW2 := hide (grown_trans (unhide HW) hg2)
      have hw1 : wr.heap.size ≤ w1.heap.size := hg2.size
      clear hown hs1 hc1 hg2 HW
      go_wp2_with fail
      refine (next b (m + 3 * k + 1) cv 40 _ hs2 hc2 (by omega) (by omega) (by omega)).mono ?_
      rintro e w2 ⟨y, rfl, hy, hs3, hc3, hg3⟩
      have hown3 := hown2.kept hg3 (Or.inr (own_ne hown2 hbw))
      have HW3 := hide (grown_trans (unhide HW2) hg3)
      have hw2 : w1.heap.size ≤ w2.heap.size := hg3.size
      clear hown2 hs2 hc2 hg3 HW2
      go_wp2_with fail
      have e := pick b (m + 3 * k + 1 + 1) w2.heap.size cv [(x : Int) - 4, (y : Int) - 20, 0, 1000, -1000] (w2.alloc (.cells #[.int .i64 ((x : Int) - 4), .int .i64 ((y : Int) - 20), .int .i64 0, .int .i64 1000, .int .i64 (-1000)] 2)) (hs3.alloc _) (hc3.alloc (by omega) _) (by omega) (by simp) (by simp) (heap_alloc_new w2 _) (by omega)
      refine e.mono ?_
      clear e
      rintro e w3 ⟨r, rfl, hr, hs4, hc4, hg4⟩
      have hrr : -1000 ≤ r ∧ r ≤ 1000 := by
        simp at hr
        omega
      have hown4 := (hown3.alloc (.cells #[.int .i64 ((x : Int) - 4), .int .i64 ((y : Int) - 20), .int .i64 0, .int .i64 1000, .int .i64 (-1000)] 2)).kept hg4 (Or.inr (own_ne hown3 hbw))
      have HW4 := hide (grown_trans (grown_trans (unhide HW3) (World.grownBy_alloc w2 _ _)) hg4)
      have hw3 : w2.heap.size ≤ w3.heap.size := by have := hg4.size; simp at this; omega
      have HR := hide hrr
      clear hown3 hs3 hc3 hg4 HW3 hr hrr
      obtain ⟨i0, hi0, hz0, hz1, hz2⟩ := info_parts info2
      have HS := hide hs4
      have HC := hide hc4
      clear hs4 hc4
      go_wp2_with (at_builtin; refine wpList_append_lies _ rfl _ _ 24 rfl w.heap.size 2 i0 _ 1 8 Try.underlying24 hi0 hz0 hz1 hz2 rfl (by omega) _ k _ rfl (hown4.alloc _) ⟨w3.heap.size, 0, none⟩ 1 1 [.int .i64 r] rfl rfl (World.news_of_block (cs := #[.int .i64 r]) (t := 2) (fr := (0, 0)) (heap_alloc_new w3 _)) (by simp [Value.oneCell']) (by omega) (by unfold maxLen; omega) (by omega) (by simp; omega) (w3.heap.size + 1) (by simp) ?_)
      intro gg cap2 w4 hown5 hgr hat hlt4
      have hne := own_ne hown4 hbw
      have HS5 := hide (((unhide HS).alloc (.cells #[.int .i64 r] 2)).keep hgr (Ne.symm hne))
      have HW5 := hide (grown_new (grown_trans (unhide HW4) (World.grownBy_alloc w3 (.cells #[.int .i64 r] 2) _)) hgr (fun j hj => (hown4.lt j hj).1))
      have HC5 := hide (((unhide HC).alloc (by omega) (.cells #[.int .i64 r] 2)).later (((Below.refl b _).grown hgr (by simp; omega) (fun j hj => by have := (hown4.lt j hj).1; omega))))
      have HO5 : Hid (w4.ownsRow w.heap.size 2 1 (Value.slice (some ⟨gg, 0, none⟩) (k + 1) cap2) (k + 1) ((ds ++ [r]).map (Value.int .i64))) := by
        show w4.ownsRow w.heap.size 2 1 (Value.slice (some ⟨gg, 0, none⟩) (k + 1) cap2) (k + 1) ((ds ++ [r]).map (Value.int .i64))
        rw [List.map_append]
        exact hown5
      clear hown4 hown5 hgr hat HS HC HW4 hne hi0 hz0 hz1 hz2
      go_wp2
      go_roundw
      case rel =>
        refine ⟨k + 1, ds ++ [r], by omega, by go_num, by simp [unhide HL], fun d hd => ?_, unhide HO5, unhide HS5, unhide HC5, unhide HW5⟩
        rcases List.mem_append.1 hd with h | h
        · exact unhide HD d h
        · simp at h
          subst h
          exact unhide HR
      case measure => simp [intOf]; omega
    · obtain rfl : k = 3 := by omega
      have HD := hide hd
      have HL := hide hl
      have HO := hide hown
      have HS := hide hs1
      have HC := hide hc1
      clear hd hl hown hs1 hc1 hi0 hz0 hz1 hz2
      go_wp2
      go_ret
      exact ⟨_, ds, rfl, unhide HL, unhide HD, unhide HO, unhide HS, unhide HC, unhide HW⟩

end Go.Proofs.Ytipomhpimmnchaa

namespace Go.Proofs.Ytipomhpimmnchaa
open Go.RowKit

/-- The slice v holds the numbers zs in memory from block B on. -/
def NewInts (B : Nat) (w : World) (v : Value) (zs : List Int) : Prop :=
  ∃ ao cap, v = .slice ao zs.length cap ∧ (∀ z ∈ zs, -1001 ≤ z ∧ z ≤ 1001) ∧
    (0 < zs.length → ∃ g off, ao = some ⟨g, off, none⟩ ∧ B ≤ g ∧ ∀ j, j < zs.length → w.cell? ⟨g, off + j, none⟩ = some (.int .i64 (zs.getD j 0))) ∧ zs.length ≤ cap

theorem NewInts.ints {B : Nat} {w : World} {v : Value} {zs : List Int} (h : NewInts B w v zs) : IsInts w v zs := by
  obtain ⟨ao, cap, rfl, hb, hc, -⟩ := h
  refine ⟨ao, cap, rfl, fun z hz => wf_of_bd (by have := hb z hz; omega), fun hp => ?_⟩
  obtain ⟨g, off, h1, _, h2⟩ := hc hp
  exact ⟨g, off, h1, h2⟩

theorem NewInts.keep {B b : Nat} {w w' : World} {v : Value} {zs : List Int} (h : NewInts B w v zs) (hg : w.grownBy w' (some b)) (hb : b < B) : NewInts B w' v zs := by
  obtain ⟨ao, cap, rfl, hr, hc, hcap⟩ := h
  refine ⟨ao, cap, rfl, hr, fun hp => ?_, hcap⟩
  obtain ⟨g, off, h1, h2, h3⟩ := hc hp
  refine ⟨g, off, h1, h2, fun j hj => ?_⟩
  have h4 := h3 j hj
  exact (hg.cell_far _ (World.block_lt_of_cell? _ _ h4) (by simp; omega)).trans h4

theorem newInts_own {B T : Nat} {w : World} {v : Value} {zs : List Int} (hr : ∀ z ∈ zs, -1001 ≤ z ∧ z ≤ 1001) (h : w.ownsRow B T 1 v zs.length (zs.map (Value.int .i64))) : NewInts B w v zs := by
  rcases h.2 with ⟨rfl, h0⟩ | ⟨g, cap, cur, rfl, hB, _, hcap, _⟩
  · obtain rfl : zs = [] := List.eq_nil_of_length_eq_zero h0
    exact ⟨none, 0, rfl, hr, by simp, by simp⟩
  · refine ⟨_, _, rfl, hr, fun hp => ⟨g, 0, rfl, hB, fun j hj => ?_⟩, hcap⟩
    rw [Nat.zero_add, h.cellAt j (by omega)]
    simp [List.getD, hj]

theorem own_three {w : World} {B T : Nat} {v : Value} {xs : List Value} (h : w.ownsRow B T 1 v 3 xs) : ∃ g cap, v = .slice (some ⟨g, 0, none⟩) 3 cap ∧ B ≤ g ∧ g < w.heap.size ∧ 3 ≤ cap := by
  rcases h.2 with ⟨_, h0⟩ | ⟨g, cap, cur, rfl, hB, hh, hcap, _⟩
  · omega
  · exact ⟨g, cap, rfl, hB, lt_of_block hh, hcap⟩

/-- What a bent draw leaves. -/
def BentPost (b m : Nat) (cv : Value) (w : World) (e : Ending) (w' : World) : Prop :=
  ∃ (v : Value) (zs : List Int) (m' : Nat), e = .returned v ∧ zs.length ≤ 4 ∧ NewInts w.heap.size w' v zs ∧ m' ≤ m + 11 ∧ SrcAt w' b cv m' ∧ IsCode b w' cv ∧ w.grownBy w' (some b)

set_option maxHeartbeats 1000000 in
theorem bent (b m : Nat) (cv : Value) (w : World) (hs : SrcAt w b cv m) (hc : IsCode b w cv) (hm : m ≤ 90000000) :
    Calls Try.prog 93 #[.pointer (some ⟨b, 0, none⟩)] w (BentPost b m cv w) := by
  have hbw := hs.lt
  go_enter Try.func93, Try.ntmps93
  go_wp2_with fail
  refine (draw b m cv w hs hc (by omega)).mono ?_
  rintro e w1 ⟨v, ds, rfl, hl, hr, hown, hs1, hc1, hg1⟩
  obtain ⟨g, cap, rfl, hBg, -, hcap⟩ := own_three hown
  have HL := hide hl
  have HR := hide hr
  have hw1 : w.heap.size ≤ w1.heap.size := hg1.size
  clear hs hc hl hr
  go_wp2_with fail
  refine (next b (m + 9) cv 12 _ hs1 hc1 (by omega) (by omega) (by omega)).mono ?_
  rintro e w2 ⟨r, rfl, hr, hs2, hc2, hg2⟩
  have hown2 := hown.kept hg2 (Or.inr (own_ne hown hbw))
  have HW := hide (grown_trans hg1 hg2)
  have hw2 : w1.heap.size ≤ w2.heap.size := hg2.size
  clear hown hs1 hc1 hg1 hg2
  rcases (show r = 0 ∨ r = 1 ∨ r = 2 ∨ 3 ≤ r by omega) with rfl | rfl | rfl | h3
  · go_wp2_with fail
    have e := pick b (m + 9 + 1) w2.heap.size cv [1001, -1001] (w2.alloc (.cells #[.int .i64 1001, .int .i64 (-1001)] 2)) (hs2.alloc _) (hc2.alloc (by omega) _) (by omega) (by simp) (by simp) (heap_alloc_new w2 _) (by omega)
    refine e.mono ?_
    clear e
    rintro e w3 ⟨q, rfl, hq, hs3, hc3, hg3⟩
    have hqq : -1001 ≤ q ∧ q ≤ 1001 := by
      simp at hq
      omega
    have hown3 := (hown2.alloc (.cells #[.int .i64 1001, .int .i64 (-1001)] 2)).kept hg3 (Or.inr (own_ne hown2 hbw))
    have hw3 : w2.heap.size ≤ w3.heap.size := by have := hg3.size; simp at this; omega
    obtain ⟨u, hcd⟩ : ∃ u, w3.cell? ⟨g, 0, none⟩ = some u := by
      rw [hown3.cellAt 0 (by omega)]
      exact ⟨_, List.getElem?_eq_getElem (by simp [unhide HL])⟩
    have hfz := hown3.frozenAt 0
    have hst := hown3.stored 0 (.int .i64 q)
    have HO := hide hst.1
    have hgb : some b ≠ some g := by simp; omega
    have HS := hide (hs3.keep hst.2 hgb)
    have HC := hide (hc3.later ((Below.refl b _).grown hst.2 (by omega) (fun j hj => by simp at hj; omega)))
    have HW2 := hide (grown_new (grown_trans (grown_trans (unhide HW) (World.grownBy_alloc w2 (.cells #[.int .i64 1001, .int .i64 (-1001)] 2) _)) hg3) hst.2 (fun j hj => by simp at hj; omega))
    have HQ := hide hqq
    clear hown2 hs2 hc2 hs3 hc3 hg3 hown3 hst hq hqq HW
    go_wp2_with fail
    go_ret
    refine ⟨_, ds.set 0 q, m + 11, rfl, by simp [unhide HL], newInts_own (T := 2) (fun z hz => ?_) (by simpa [unhide HL, List.map_set] using unhide HO), by omega, unhide HS, unhide HC, unhide HW2⟩
    rcases List.mem_or_eq_of_mem_set hz with h | h
    · have := unhide HR z h; omega
    · subst h; exact unhide HQ
  · have hcell : ∀ j, j < 2 → w2.cell? ⟨g, 1 + j, none⟩ = some (.int .i64 (ds.tail.getD j 0)) := by
      intro j hj
      rw [hown2.cellAt (1 + j) (by omega)]
      match ds, unhide HL with
      | [x, y, z], _ =>
        rcases (show j = 0 ∨ j = 1 by omega) with rfl | rfl <;> rfl
    have HC2 := hide hcell
    have HS := hide hs2
    have HC := hide hc2
    clear hown2 hs2 hc2 hcell
    go_wp2_with fail
    go_ret
    have hl2 : ds.tail.length = 2 := by simp [unhide HL]
    refine ⟨_, ds.tail, m + 10, rfl, by omega, ⟨some ⟨g, 1, none⟩, cap - 1, by rw [hl2]; rfl, fun z hz => ?_, fun _ => ⟨g, 1, rfl, hBg, fun j hj => unhide HC2 j (by omega)⟩, by omega⟩, by omega, unhide HS, unhide HC, unhide HW⟩
    have := unhide HR z (List.mem_of_mem_tail hz)
    omega
  · obtain ⟨i0, hi0, hz0, hz1, hz2⟩ := info_parts info2
    have HS := hide hs2
    have HC := hide hc2
    clear hs2 hc2
    go_wp2_with (at_builtin; refine wpList_append_lies _ rfl _ _ 24 rfl w.heap.size 2 i0 _ 1 8 Try.underlying24 hi0 hz0 hz1 hz2 rfl (by omega) _ 3 _ rfl (hown2.alloc _) ⟨w2.heap.size, 0, none⟩ 1 1 [.int .i64 0] rfl rfl (World.news_of_block (cs := #[.int .i64 0]) (t := 2) (fr := (0, 0)) (heap_alloc_new w2 _)) (by simp [Value.oneCell']) (by omega) (by unfold maxLen; omega) (by omega) (by simp; omega) (w2.heap.size + 1) (by simp) ?_)
    intro gg cap2 w3 hown3 hgr hat hlt4
    have HO : Hid (w3.ownsRow w.heap.size 2 1 (.slice (some ⟨gg, 0, none⟩) (ds ++ [0]).length cap2) (ds ++ [0]).length ((ds ++ [0]).map (Value.int .i64))) := by
      show w3.ownsRow w.heap.size 2 1 (.slice (some ⟨gg, 0, none⟩) (ds ++ [0]).length cap2) (ds ++ [0]).length ((ds ++ [0]).map (Value.int .i64))
      rw [List.map_append, List.length_append, unhide HL]
      exact hown3
    have hne := own_ne hown2 hbw
    have HS3 := hide (((unhide HS).alloc (.cells #[.int .i64 0] 2)).keep hgr (Ne.symm hne))
    have HW3 := hide (grown_new (grown_trans (unhide HW) (World.grownBy_alloc w2 (.cells #[.int .i64 0] 2) _)) hgr (fun j hj => (hown2.lt j hj).1))
    have HC3 := hide (((unhide HC).alloc (by omega) (.cells #[.int .i64 0] 2)).later (((Below.refl b _).grown hgr (by simp; omega) (fun j hj => by have := (hown2.lt j hj).1; omega))))
    clear hown2 hown3 hgr hat HS HC HW hne hi0 hz0 hz1 hz2
    go_wp2_with fail
    go_ret
    have hl4 : (ds ++ [(0 : Int)]).length = 4 := by simp [unhide HL]
    refine ⟨_, ds ++ [0], m + 10, rfl, by omega, ?_, by omega, unhide HS3, unhide HC3, unhide HW3⟩
    have h1 := unhide HO
    rw [hl4] at h1
    refine newInts_own (T := 2) (fun z hz => ?_) (by rw [hl4]; exact h1)
    rcases List.mem_append.1 hz with h | h
    · have := unhide HR z h; omega
    · simp at h; omega
  · have e0 : ((r : Int) == 0) = false := by rw [beq_eq_false_iff_ne]; omega
    have e1 : ((r : Int) == 1) = false := by rw [beq_eq_false_iff_ne]; omega
    have e2 : ((r : Int) == 2) = false := by rw [beq_eq_false_iff_ne]; omega
    have HO := hide hown2
    have HS := hide hs2
    have HC := hide hc2
    clear hown2 hs2 hc2
    go_wp2_with fail
    go_ret
    refine ⟨_, ds, m + 10, rfl, by rw [unhide HL]; omega, newInts_own (T := 2) (fun z hz => by have := unhide HR z hz; omega) (by rw [unhide HL]; exact unhide HO), by omega, unhide HS, unhide HC, unhide HW⟩

theorem NewInts.lies {B : Nat} {w : World} {v : Value} {zs : List Int} (h : NewInts B w v zs) (hn : zs.length ≤ 10) : ∃ bl, (Lay.sl Lay.int).lies w [v] zs bl ∧ ∀ c ∈ bl, B ≤ c := by
  obtain ⟨ao, cap, rfl, hr, hc, hcap⟩ := h
  have hwf : ∀ z ∈ zs, (Lit.int .i64 z).wf = true := fun z hz => wf_of_bd (by have := hr z hz; omega)
  by_cases hp : 0 < zs.length
  · obtain ⟨g, off, rfl, hB, hcell⟩ := hc hp
    exact ⟨[g], Lay.lies_ints.2 ⟨_, cap, rfl, ⟨hcap, by omega⟩, hwf, Or.inr ⟨g, off, rfl, World.block_lt_of_cell? _ _ (hcell 0 hp), rfl, hcell⟩⟩, by simp; exact hB⟩
  · obtain rfl : zs = [] := List.eq_nil_of_length_eq_zero (by omega)
    exact ⟨[], Lay.lies_ints.2 ⟨ao, cap, rfl, ⟨hcap, by simp⟩, by simp, Or.inl ⟨rfl, rfl⟩⟩, by simp⟩

end Go.Proofs.Ytipomhpimmnchaa
