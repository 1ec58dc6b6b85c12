/-
  The law FnExactPackWrite answers true at every write, and writes nothing that was there.
  Condition: PackWrite of the program tells what the model tells (a premise).
-/
import Derived.Test.YtgjjmbliahhhjaaLawWrFault
import Derived.Test.YtgjjmbliahhhjaaWrPackOp
import Derived.Test.YtgjjmbliahhhjaaMarks
import Derived.Deep.CutRange
import Derived.Deep.AppendLies
namespace Go.Proofs.Ytgjjmbliahhhjaa
open Go.RowKit

/-- What PackWrite of the program is to tell. -/
def ImplPack : Prop := ∀ (k i : Int) (v : Value) (s q : Int) (zs : List Int) (w : World), Wf4 k i s q → IsInts w v zs →
    Calls Try.prog 13 #[.agg #[.int .i64 k, .int .i64 i, v, .int .i64 s, .int .i64 q]] w fun e w' => ToldInts w w' e (writeFault k i zs s q) (packList k i zs s q)

theorem checkOf_bd (n : Int) : -1000 ≤ checkOf n ∧ checkOf n ≤ 1000 := by have := tmod_bd (n.tmod 997 + 997); unfold checkOf; omega
theorem packList_len {k i s q : Int} {zs : List Int} : (packList k i zs s q).length ≤ 8 := by
  unfold packList
  split <;> simp [wordsOf]
theorem packList_wf {k i s q : Int} {zs : List Int} : ∀ z ∈ packList k i zs s q, (Lit.int .i64 z).wf = true := by
  intro z hz
  unfold packList at hz
  split at hz
  · next hf =>
    obtain ⟨hi, hs, hq, hk⟩ := writeFault_zero hf
    have hp : ∀ j, -1000 ≤ (partsOf k zs).getD j 0 ∧ (partsOf k zs).getD j 0 ≤ 1000 := by
      intro j
      rcases hk with ⟨rfl, hv⟩ | ⟨rfl, rfl⟩
      · obtain ⟨hl, hb⟩ := vecFault_zero hv
        by_cases hj : j < 3
        · have := hb j hj
          simpa [partsOf] using this
        · simp [partsOf, List.getD, List.getElem?_eq_none (show zs.length ≤ j by omega)]
      · rcases (show j = 0 ∨ j = 1 ∨ j = 2 ∨ 3 ≤ j by omega) with rfl | rfl | rfl | h
        · simp [partsOf]
        · simp [partsOf]
        · simp [partsOf]
        · have e : (partsOf 2 []).length ≤ j := by simpa [partsOf] using h
          simp [List.getD, List.getElem?_eq_none e]
    have hkb : 1 ≤ k ∧ k ≤ 2 := by rcases hk with ⟨rfl, _⟩ | ⟨rfl, _⟩ <;> omega
    have hcb := checkOf_bd (packSum k i s q ((partsOf k zs).getD 0 0) ((partsOf k zs).getD 1 0) ((partsOf k zs).getD 2 0))
    have h0 := hp 0
    have h1 := hp 1
    have h2 := hp 2
    simp only [wordsOf, List.mem_cons, List.not_mem_nil, or_false] at hz
    rcases hz with rfl | rfl | rfl | rfl | rfl | rfl | rfl | rfl <;> exact wf_of_bd (by omega)
  · simp at hz

theorem markWrite (k i : Int) (v : Value) (s q : Int) (base : Nat) (zs : List Int) (m : Int) (w : World) (hn : zs.length ≤ 1048576) (hk : 0 ≤ m) (hk2 : m ≤ 100000000)
    (hown : w.ownsRow base 2 1 v zs.length (zs.map (Value.int .i64))) :
    Calls Try.prog 15 #[.agg #[.int .i64 k, .int .i64 i, v, .int .i64 s, .int .i64 q], .int .i64 m] w fun e w' => e = .returned (.int .i64 (m + zs.length)) ∧ w.grownBy w' v.ownBlock := by
  obtain ⟨ao, cap, rfl⟩ := own_shape hown
  have G0 := World.grownBy_alloc w (.cells #[.int .i64 k, .int .i64 i, .slice ao zs.length cap, .int .i64 s, .int .i64 q] 27) (Value.slice ao zs.length cap).ownBlock
  have O0 := hown.alloc (.cells #[.int .i64 k, .int .i64 i, .slice ao zs.length cap, .int .i64 s, .int .i64 q] 27)
  have L := markInts _ base zs m _ hn hk hk2 O0
  have HG := hide G0
  clear G0 O0 hown
  go_enter Try.func15, Try.ntmps15
  go_wp2_with fail
  refine L.mono ?_
  rintro e w1 ⟨rfl, -, hg⟩
  have HG2 := hide (grown_trans (unhide HG) hg)
  clear L hg HG
  go_wp2_with fail
  go_ret
  exact ⟨rfl, unhide HG2⟩

theorem lawPack_many (k i : Int) (ao : Option Addr) (n cap : Nat) (s q : Int) (w : World) (hn : 1048576 < n) (hm : n ≤ 9223372036854775807) :
    Calls Try.prog 4 #[.agg #[.int .i64 k, .int .i64 i, .slice ao n cap, .int .i64 s, .int .i64 q]] w fun e w' => e = .returned (.bool true) ∧ Below w.heap.size w w' := by
  have B0 : Below w.heap.size w (w.alloc (.cells #[.int .i64 k, .int .i64 i, .slice ao n cap, .int .i64 s, .int .i64 q] 24)) := (Below.refl _ _).alloc (Nat.le_refl _) _
  go_enter Try.func4, Try.ntmps4
  go_wp2_with fail
  refine (szWrite_many k i ao n cap s q 1048576 _ hn (by omega) hm).mono ?_
  rintro e w' ⟨rfl, hb⟩
  have HB := hide (B0.trans (hb.mono B0.size))
  clear hb B0
  go_wp2_with fail
  go_ret
  exact ⟨rfl, unhide HB⟩

set_option maxRecDepth 100000 in
set_option maxHeartbeats 2000000 in
theorem lawPack_few (impl : ImplPack) (k i : Int) (ao : Option Addr) (cap : Nat) (s q : Int) (zs : List Int) (w : World) (hwf : Wf4 k i s q) (h : IsInts w (.slice ao zs.length cap) zs) (hn : zs.length ≤ 1048576) :
    Calls Try.prog 4 #[.agg #[.int .i64 k, .int .i64 i, .slice ao zs.length cap, .int .i64 s, .int .i64 q]] w fun e w' => e = .returned (.bool true) ∧ Below w.heap.size w w' := by
  have HI := hide impl
  have HWF := hide hwf
  have HZW := hide h.wf
  clear impl hwf
  obtain ⟨ms, hms⟩ : ∃ ms, ms = packList k i zs s q := ⟨_, rfl⟩
  obtain ⟨c, hcc⟩ : ∃ c, c = writeFault k i zs s q := ⟨_, rfl⟩
  have hlen : ms.length ≤ 1048576 := by rw [hms]; have := packList_len (k := k) (i := i) (s := s) (q := q) (zs := zs); omega
  have hmwf : ∀ m ∈ ms, (Lit.int .i64 m).wf = true := by rw [hms]; exact packList_wf
  have HM := hide hms
  have HC := hide hcc
  have HL := hide hlen
  have HW := hide hmwf
  clear hms hcc hlen hmwf
  have B0 : Below w.heap.size w (w.alloc (.cells #[.int .i64 k, .int .i64 i, .slice ao zs.length cap, .int .i64 s, .int .i64 q] 24)) := (Below.refl _ _).alloc (Nat.le_refl _) _
  have bA : Box w.heap.size #[.int .i64 k, .int .i64 i, .slice ao zs.length cap, .int .i64 s, .int .i64 q] 24 (w.alloc (.cells #[.int .i64 k, .int .i64 i, .slice ao zs.length cap, .int .i64 s, .int .i64 q] 24)) w.heap.size := newBox (Nat.le_refl _)
  have h0 := h.later B0
  clear h
  go_enter Try.func4, Try.ntmps4
  go_wp2_with fail
  generalize w.alloc (.cells #[.int .i64 k, .int .i64 i, .slice ao zs.length cap, .int .i64 s, .int .i64 q] 24) = W0 at *
  have keep0 : Hid (∀ W, Below W0.heap.size W0 W → IsInts W (.slice ao zs.length cap) zs ∧ (W.cell? ⟨w.heap.size, 0, none⟩ = some (.int .i64 k) ∧ W.cell? ⟨w.heap.size, 1, none⟩ = some (.int .i64 i) ∧ W.cell? ⟨w.heap.size, 2, none⟩ = some (.slice ao zs.length cap) ∧ W.cell? ⟨w.heap.size, 3, none⟩ = some (.int .i64 s) ∧ W.cell? ⟨w.heap.size, 4, none⟩ = some (.int .i64 q)) ∧ Below w.heap.size w W) := fun W hW => ⟨h0.later hW, (bA.keep hW).five.1, B0.trans (hW.mono B0.size)⟩
  clear h0 bA B0
  refine (szWrite_ok k i ao zs.length cap s q 1048576 _ hn (by omega)).mono ?_
  rintro e w1 ⟨rfl, hb1⟩
  have hd0 : decide (((1048576 - zs.length : Nat) : Int) < 0) = false := by simp
  obtain ⟨i1, ⟨c0, c1, c2, c3, c4⟩, -⟩ := unhide keep0 w1 hb1
  go_wp2_with fail
  refine (toWrite k i _ s q zs _ i1 hn).mono ?_
  rintro e w2 ⟨g, rfl, ho, hb2⟩
  have b2 : Below W0.heap.size W0 w2 := hb1.trans (hb2.mono hb1.size)
  have i2 := isInts_row i1.wf ho
  clear hb1 hb2 ho i1 c0 c1 c2 c3 c4
  go_wp2_with fail
  refine (modelPack k i _ s q zs _ i2).mono ?_
  rintro e w3 ⟨r0, rfl, ho, hb3⟩
  rw [← unhide HM] at ho
  rw [← unhide HC]
  obtain ⟨a0, d0, rfl⟩ := own_shape ho
  have b3 := b2.trans (hb3.mono b2.size)
  have nb : Below w3.heap.size w3 (w3.alloc (.cells #[.int .i64 c, .slice a0 ms.length d0] 32)) := (Below.refl _ _).alloc (Nat.le_refl _) _
  obtain ⟨k0, k1⟩ := new_cells (w := w3) (T := 32) (x := .int .i64 c) (y := .slice a0 ms.length d0)
  have hP1 : IsInts (w3.alloc (.cells #[.int .i64 c, .slice a0 ms.length d0] 32)) (.slice a0 ms.length d0) ms := (isInts_row (unhide HW) ho).later nb
  have b4 := b3.trans (nb.mono b3.size)
  simp only [intsRes]
  obtain ⟨-, ⟨q0, q1, q2, q3, q4⟩, -⟩ := unhide keep0 _ b4
  clear b2 hb3 i2 ho b3 nb
  go_wp2_with fail
  clear q0 q1 q2 q3 q4
  generalize hwa : w3.alloc (.cells #[.int .i64 c, .slice a0 ms.length d0] 32) = wa at *
  generalize w3.heap.size = s0 at *
  clear hwa
  obtain ⟨i4, -, bwa⟩ := unhide keep0 wa b4
  refine (toWrite k i _ s q zs _ i4 hn).mono ?_
  rintro e w4 ⟨gx, rfl, hox, hb4⟩
  obtain ⟨G, hG⟩ : ∃ G, G = wa.heap.size := ⟨_, rfl⟩
  have hs0 : s0 < G := by rw [hG]; exact World.block_lt_of_cell? _ _ k0
  have hwg : w.heap.size ≤ G := by rw [hG]; exact bwa.size
  have keep : Hid (∀ W, Below G wa W → IsInts W (.slice ao zs.length cap) zs ∧ (W.cell? ⟨w.heap.size, 0, none⟩ = some (.int .i64 k) ∧ W.cell? ⟨w.heap.size, 1, none⟩ = some (.int .i64 i) ∧ W.cell? ⟨w.heap.size, 2, none⟩ = some (.slice ao zs.length cap) ∧ W.cell? ⟨w.heap.size, 3, none⟩ = some (.int .i64 s) ∧ W.cell? ⟨w.heap.size, 4, none⟩ = some (.int .i64 q)) ∧ IsInts W (.slice a0 ms.length d0) ms ∧ W.cell? ⟨s0, 0, none⟩ = some (.int .i64 c) ∧ W.cell? ⟨s0, 1, none⟩ = some (.slice a0 ms.length d0)) := by
    intro W hW
    rw [hG] at hW
    obtain ⟨p1, p2, -⟩ := unhide keep0 W (b4.trans (hW.mono b4.size))
    exact ⟨p1, p2, hP1.later hW, cell_keep hW k0, cell_keep hW k1⟩
  have HWA := hide bwa
  rw [← hG] at hox
  have B4 : Below G wa w4 := by rw [hG]; exact hb4
  have hgx : G ≤ gx ∧ gx < w4.heap.size := ⟨(hox.lt gx rfl).1, (hox.lt gx rfl).2⟩
  have hG4 : G ≤ w4.heap.size := by omega
  have nb : Below w4.heap.size w4 (w4.alloc (.cells #[.int .i64 k, .int .i64 i, .slice (some ⟨gx, 0, none⟩) zs.length zs.length, .int .i64 s, .int .i64 q] 27)) := (Below.refl _ _).alloc (Nat.le_refl _) _
  have bX : Box w4.heap.size #[.int .i64 k, .int .i64 i, .slice (some ⟨gx, 0, none⟩) zs.length zs.length, .int .i64 s, .int .i64 q] 27 (w4.alloc (.cells #[.int .i64 k, .int .i64 i, .slice (some ⟨gx, 0, none⟩) zs.length zs.length, .int .i64 s, .int .i64 q] 27)) w4.heap.size := newBox (Nat.le_refl _)
  have B5 : Below G wa (w4.alloc (.cells #[.int .i64 k, .int .i64 i, .slice (some ⟨gx, 0, none⟩) zs.length zs.length, .int .i64 s, .int .i64 q] 27)) := B4.trans (nb.mono hG4)
  have hox5 := own_below hox nb
  clear b4 i4 bwa k0 k1 hP1 keep0 hb4 hG hox B4 nb
  go_wp2_with fail
  generalize hwx : w4.alloc (.cells #[.int .i64 k, .int .i64 i, .slice (some ⟨gx, 0, none⟩) zs.length zs.length, .int .i64 s, .int .i64 q] 27) = w5 at *
  have hsx : w4.heap.size < w5.heap.size := by rw [← hwx]; simp
  generalize w4.heap.size = sx at *
  clear hwx
  have ix5 := isInts_row (unhide HZW) hox5
  refine (unhide HI k i _ s q zs _ (unhide HWF) ix5).mono ?_
  rintro e w6 ⟨r1, rfl, ho, hb6⟩
  rw [← unhide HM] at ho
  rw [← unhide HC]
  obtain ⟨a1, d1, rfl⟩ := own_shape ho
  simp only [intsRes]
  have nb : Below w6.heap.size w6 (w6.alloc (.cells #[.int .i64 c, .slice a1 ms.length d1] 32)) := (Below.refl _ _).alloc (Nat.le_refl _) _
  obtain ⟨k2, k3⟩ := new_cells (w := w6) (T := 32) (x := .int .i64 c) (y := .slice a1 ms.length d1)
  have hz56 : w5.heap.size ≤ w6.heap.size := hb6.size
  have hrs : ∀ j, (Value.slice a1 ms.length d1).ownBlock = some j → w5.heap.size ≤ j ∧ j < w6.heap.size := fun j hj => ho.lt j hj
  have HRS := hide hrs
  have HX := hide (own_below (own_below hox5 hb6) nb)
  have HR := hide (own_below ho nb)
  have HB := hide ((B5.trans (hb6.mono (by omega))).trans (nb.mono (by omega)))
  have HBX := hide ((bX.keep hb6).keep nb)
  obtain ⟨-, -, -, z0, z1⟩ := unhide keep _ (unhide HB)
  clear ho hb6 nb hox5 B5 bX ix5 hrs
  go_wp2_with fail
  generalize hwb : w6.alloc (.cells #[.int .i64 c, .slice a1 ms.length d1] 32) = w7 at *
  have hs1 : w6.heap.size < w7.heap.size := by rw [← hwb]; simp
  generalize w6.heap.size = s1 at *
  clear hwb
  have e := eqIntsRes c a1 a0 ms.length d1 ms.length d0 ms w7 (unhide HL) (isInts_row (unhide HW) (unhide HR)) (unhide keep _ (unhide HB)).2.2.1
  simp only [intsRes] at e
  refine e.mono ?_
  clear e
  rintro e w8 ⟨rfl, hb8⟩
  have hz8 : w7.heap.size ≤ w8.heap.size := hb8.size
  replace HX := hide (own_below (unhide HX) hb8)
  replace HR := hide (own_below (unhide HR) hb8)
  replace HB := hide ((unhide HB).trans (hb8.mono (by omega)))
  replace HBX := hide ((unhide HBX).keep hb8)
  replace k2 := cell_keep hb8 k2
  replace k3 := cell_keep hb8 k3
  clear hb8 z0 z1
  have LT : Hid (∀ W, Below w8.heap.size w8 W → Calls Try.prog 9 #[.agg #[.int .i64 k, .int .i64 i, .slice ao zs.length cap, .int .i64 s, .int .i64 q]] W fun e w' => ∃ g : Nat, e = .returned (.agg #[.int .i64 k, .int .i64 i, .slice (some ⟨g, 0, none⟩) zs.length zs.length, .int .i64 s, .int .i64 q]) ∧ IsInts w' (.slice (some ⟨g, 0, none⟩) zs.length zs.length) zs ∧ Below w8.heap.size w8 w') := fun W hW =>
    (toWrite k i _ s q zs W (unhide keep W ((unhide HB).trans (hW.mono (by omega)))).1 hn).mono fun e w' ⟨g, h1, h2, h3⟩ => ⟨g, h1, isInts_row (unhide HZW) h2, hW.trans (h3.mono hW.size)⟩
  have LE : Hid (∀ W v, Below w8.heap.size w8 W → IsInts W v zs → Calls Try.prog 11 #[.agg #[.int .i64 k, .int .i64 i, .slice (some ⟨gx, 0, none⟩) zs.length zs.length, .int .i64 s, .int .i64 q], .agg #[.int .i64 k, .int .i64 i, v, .int .i64 s, .int .i64 q]] W fun e w' => e = .returned (.bool true) ∧ Below w8.heap.size w8 w') := fun W v hW hv =>
    (eqWrite k i _ v s q zs W ((isInts_row (unhide HZW) (unhide HX)).later hW) hv hn).mono fun e w' ⟨h1, h3⟩ => ⟨h1, hW.trans (h3.mono hW.size)⟩
  have HCC : Hid (∀ W, Below w8.heap.size w8 W → (W.cell? ⟨w.heap.size, 0, none⟩ = some (.int .i64 k) ∧ W.cell? ⟨w.heap.size, 1, none⟩ = some (.int .i64 i) ∧ W.cell? ⟨w.heap.size, 2, none⟩ = some (.slice ao zs.length cap) ∧ W.cell? ⟨w.heap.size, 3, none⟩ = some (.int .i64 s) ∧ W.cell? ⟨w.heap.size, 4, none⟩ = some (.int .i64 q)) ∧ (W.cell? ⟨sx, 0, none⟩ = some (.int .i64 k) ∧ W.cell? ⟨sx, 1, none⟩ = some (.int .i64 i) ∧ W.cell? ⟨sx, 2, none⟩ = some (.slice (some ⟨gx, 0, none⟩) zs.length zs.length) ∧ W.cell? ⟨sx, 3, none⟩ = some (.int .i64 s) ∧ W.cell? ⟨sx, 4, none⟩ = some (.int .i64 q))) := fun W hW =>
    ⟨(unhide keep W ((unhide HB).trans (hW.mono (by omega)))).2.1, ((unhide HBX).keep hW).five.1⟩
  go_upto_region 10 with fail
  go_cut [31] from 27 to 30 (fun s31 wx => s31 = .bool false ∧ Below w8.heap.size w8 wx)
  case first =>
    first
      | go_region_held3 (fun w' => (w'.cell? ⟨w.heap.size, 0, none⟩ = some (.int .i64 k) ∧ w'.cell? ⟨w.heap.size, 1, none⟩ = some (.int .i64 i) ∧ w'.cell? ⟨w.heap.size, 2, none⟩ = some (.slice ao zs.length cap) ∧ w'.cell? ⟨w.heap.size, 3, none⟩ = some (.int .i64 s) ∧ w'.cell? ⟨w.heap.size, 4, none⟩ = some (.int .i64 q)) ∧ (w'.cell? ⟨sx, 0, none⟩ = some (.int .i64 k) ∧ w'.cell? ⟨sx, 1, none⟩ = some (.int .i64 i) ∧ w'.cell? ⟨sx, 2, none⟩ = some (.slice (some ⟨gx, 0, none⟩) zs.length zs.length) ∧ w'.cell? ⟨sx, 3, none⟩ = some (.int .i64 s) ∧ w'.cell? ⟨sx, 4, none⟩ = some (.int .i64 q)))
          (first
            | exact unhide HCC _ hbw
            | exact unhide HCC _ (Below.refl _ _).drew
            | go_keep)
          (first
            | (go_at_call 9; refine (unhide LT _ (Below.refl _ _).drew).mono ?_; rintro e w9 ⟨g3, rfl, hi9, hbw⟩)
            | (go_at_call 11; refine (unhide LE _ _ hbw hi9).mono ?_; rintro e w9 ⟨rfl, hbw⟩))
      | fail
    have BW := hide hbw
    go_wp2_with fail
    go_meet
    exact ⟨rfl, unhide BW⟩
  case rest =>
  obtain ⟨rfl, hb9⟩ := hcut
  have hz9 : w8.heap.size ≤ wc.heap.size := hb9.size
  replace HX := hide (own_below (unhide HX) hb9)
  replace HR := hide (own_below (unhide HR) hb9)
  replace HB := hide ((unhide HB).trans (hb9.mono (by omega)))
  replace HBX := hide ((unhide HBX).keep hb9)
  replace k2 := cell_keep hb9 k2
  replace k3 := cell_keep hb9 k3
  clear hb9 LT LE HCC
  obtain ⟨⟨x0, x1, x2, x3, x4⟩, -, -⟩ := (unhide HBX).five
  obtain ⟨w9, hw9⟩ : ∃ w9, w9 = wc := ⟨_, rfl⟩
  subst hw9
  have hsxl : sx < w9.heap.size := by omega
  go_wp2_with fail
  refine (markWrite k i _ s q G zs 1 w9 hn (by omega) (by omega) (unhide HX)).mono ?_
  rintro e w10 ⟨rfl, hgr⟩
  have hgr' : w9.grownBy w10 (some gx) := hgr
  have hne : (Value.slice a1 ms.length d1).ownBlock ≠ some gx := fun e => by have := (unhide HRS gx e).1; omega
  have HR10 := hide ((unhide HR).kept hgr' (Or.inr hne))
  have HB10 := hide ((unhide HB).grown hgr' (by omega) (fun j hj => by simp at hj; omega))
  replace k2 := (hgr'.cell_far ⟨s1, 0, none⟩ (by simp; omega) (by simp; omega)).trans k2
  replace k3 := (hgr'.cell_far ⟨s1, 1, none⟩ (by simp; omega) (by simp; omega)).trans k3
  have hz10 : w9.heap.size ≤ w10.heap.size := hgr'.size
  obtain ⟨-, -, -, z0, z1⟩ := unhide keep _ (unhide HB10)
  clear HX HR HB HBX hgr hgr' hne x0 x1 x2 x3 x4
  obtain ⟨mk, hmk⟩ : ∃ mk : Int, mk = 1 + (zs.length : Int) := ⟨_, rfl⟩
  rw [← hmk]
  have hm3 : decide (mk < 0) = false := decide_eq_false (by omega)
  clear hmk
  go_wp2_with fail
  have e := eqIntsRes c a1 a0 ms.length d1 ms.length d0 ms w10 (unhide HL) (isInts_row (unhide HW) (unhide HR10)) (unhide keep _ (unhide HB10)).2.2.1
  simp only [intsRes] at e
  refine e.mono ?_
  clear e
  rintro e w11 ⟨rfl, hb11⟩
  have HR11 := hide (own_below (unhide HR10) hb11)
  have HB11 := hide ((unhide HB10).trans (hb11.mono (by omega)))
  replace k2 := cell_keep hb11 k2
  replace k3 := cell_keep hb11 k3
  have hz11 : w10.heap.size ≤ w11.heap.size := hb11.size
  clear HR10 HB10 hb11 z0 z1 hm3
  go_wp2_with fail
  have e := markRes c a1 ms.length d1 w5.heap.size ms 1 w11 rfl (unhide HL) (by omega) (by omega) (unhide HR11)
  simp only [intsRes] at e
  refine e.mono ?_
  clear e
  rintro e w12 ⟨rfl, ho, hgr⟩
  have HII := hide (isInts_row (zs := marks 1 ms.length) (base := w5.heap.size) (T := 2) (marks_wf 1 ms.length (by omega) (by omega) (unhide HL)) (by rw [marks_len]; exact ho))
  have hne : some s1 ≠ (Value.slice a1 ms.length d1).ownBlock := fun e => by have := (unhide HRS s1 e.symm).2; omega
  have HB12 := hide ((unhide HB11).grown hgr (by omega) (fun j hj => by have := (unhide HRS j hj).1; omega))
  replace k2 := (hgr.cell_far ⟨s1, 0, none⟩ (by simp; omega) hne).trans k2
  replace k3 := (hgr.cell_far ⟨s1, 1, none⟩ (by simp; omega) hne).trans k3
  have hz12 : w11.heap.size ≤ w12.heap.size := hgr.size
  clear HR11 HB11 hgr hne ho
  go_wp2_with fail
  have hL := unhide HL
  have hq : ((1 + (ms.length : Int)) != (1 + (ms.length : Int))) = false := by simp
  have e := heldRes c a1 ms.length d1 ms.length 1 w12 hL (by omega) (by omega) (unhide HII)
  simp only [intsRes] at e
  refine e.mono ?_
  clear e
  rintro e w13 ⟨rfl, hb13⟩
  have HII13 := hide ((unhide HII).later hb13)
  have HB13 := hide ((unhide HB12).trans (hb13.mono (by omega)))
  replace k2 := cell_keep hb13 k2
  replace k3 := cell_keep hb13 k3
  have hz13 : w12.heap.size ≤ w13.heap.size := hb13.size
  obtain ⟨i13, ⟨y0, y1, y2, y3, y4⟩, -⟩ := unhide keep _ (unhide HB13)
  clear HII HB12 hb13
  go_wp2_with fail
  refine (toWrite k i _ s q zs _ i13 hn).mono ?_
  rintro e w14 ⟨g4, rfl, ho4, hb14⟩
  have i14 := isInts_row (unhide HZW) ho4
  have HII14 := hide ((unhide HII13).later hb14)
  have HB14 := hide ((unhide HB13).trans (hb14.mono (by omega)))
  replace k2 := cell_keep hb14 k2
  replace k3 := cell_keep hb14 k3
  have hz14 : w13.heap.size ≤ w14.heap.size := hb14.size
  clear HII13 HB13 hb14 i13 y0 y1 y2 y3 y4 ho4
  go_wp2_with fail
  refine (unhide HI k i _ s q zs _ (unhide HWF) i14).mono ?_
  rintro e w15 ⟨r2, rfl, ho, hb15⟩
  rw [← unhide HM] at ho
  rw [← unhide HC]
  obtain ⟨a2, d2, rfl⟩ := own_shape ho
  simp only [intsRes]
  have nb : Below w15.heap.size w15 (w15.alloc (.cells #[.int .i64 c, .slice a2 ms.length d2] 32)) := (Below.refl _ _).alloc (Nat.le_refl _) _
  have hz15 : w14.heap.size ≤ w15.heap.size := hb15.size
  have HII15 := hide (((unhide HII14).later hb15).later nb)
  have HB15 := hide (((unhide HB14).trans (hb15.mono (by omega))).trans (nb.mono (by omega)))
  replace k2 := cell_keep nb (cell_keep hb15 k2)
  replace k3 := cell_keep nb (cell_keep hb15 k3)
  have HR2 := hide ((isInts_row (unhide HW) ho).later nb)
  obtain ⟨-, -, -, z0, z1⟩ := unhide keep _ (unhide HB15)
  have hs03 : s0 < w15.heap.size := by omega
  clear HII14 HB14 hb15 ho i14 nb
  go_wp2_with fail
  generalize hwd : w15.alloc (.cells #[.int .i64 c, .slice a2 ms.length d2] 32) = wd at *
  have hzd : w15.heap.size < wd.heap.size := by rw [← hwd]; simp
  clear hwd
  have e := eqIntsRes c a2 a0 ms.length d2 ms.length d0 ms wd hL (unhide HR2) (unhide keep _ (unhide HB15)).2.2.1
  simp only [intsRes] at e
  refine e.mono ?_
  clear e
  rintro e w16 ⟨rfl, hb16⟩
  have HII16 := hide ((unhide HII15).later hb16)
  have HB16 := hide ((unhide HB15).trans (hb16.mono (by omega)))
  replace k2 := cell_keep hb16 k2
  replace k3 := cell_keep hb16 k3
  have hz16 : wd.heap.size ≤ w16.heap.size := hb16.size
  clear HII15 HB15 hb16 HR2 z0 z1
  go_wp2_with fail
  have e := heldRes c a1 ms.length d1 ms.length 1 w16 hL (by omega) (by omega) (unhide HII16)
  simp only [intsRes] at e
  refine e.mono ?_
  clear e
  rintro e w17 ⟨rfl, hb17⟩
  have HB17 := hide ((unhide HB16).trans (hb17.mono (by omega)))
  clear HII16 HB16 hb17 k2 k3
  go_wp2_with fail
  go_ret
  exact ⟨rfl, (unhide HWA).trans ((unhide HB17).mono hwg)⟩

theorem lawPack (impl : ImplPack) (k i : Int) (v : Value) (s q : Int) (zs : List Int) (w : World) (hwf : Wf4 k i s q) (h : IsInts w v zs) (hm : zs.length ≤ 9223372036854775807) :
    Calls Try.prog 4 #[.agg #[.int .i64 k, .int .i64 i, v, .int .i64 s, .int .i64 q]] w fun e w' => e = .returned (.bool true) ∧ Below w.heap.size w w' := by
  have h' := h
  obtain ⟨ao, cap, rfl, -⟩ := h'
  by_cases hn : zs.length ≤ 1048576
  · exact lawPack_few impl k i ao cap s q zs w hwf h hn
  · exact lawPack_many k i ao zs.length cap s q w (by omega) hm

end Go.Proofs.Ytgjjmbliahhhjaa
