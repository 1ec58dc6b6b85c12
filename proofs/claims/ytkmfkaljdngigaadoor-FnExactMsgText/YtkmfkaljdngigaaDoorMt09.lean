/-
  Texts of this proof in one: StoreKit, SpecMText, LawMText, LayOpen, OpenWrite, OpenMsg.
  Their conditions stand in their theorems.
-/
import Derived.Test.YtkmfkaljdngigaaDoorMt01
import Derived.Test.YtkmfkaljdngigaaDoorMt08
import Derived.Test.YtkmfkaljdngigaaDoorMt05
import Derived.Test.YtkmfkaljdngigaaDoorMt06
import Derived.Deep.RegionHeld3
import Derived.Deep.CutRange
import Derived.Test.YtkmfkaljdngigaaDoorMt03
import Derived.Test.YtkmfkaljdngigaaDoorMt07
import Derived.Test.YtkmfkaljdngigaaDoorChecked
import Derived.ProofKit
import Derived.OpenShut
import Derived.Deep.Slices
import Derived.Test.YtkmfkaljdngigaaDoorMt02

namespace Go.Proofs.YtkmfkaljdngigaaDoor
open Go.RowKit

theorem lies_store {α : Type} {A : Lay α} {w w4 : World} {cs vs : List Value} {y : α} {lo hi : Nat} (h : A.LiesIn w4 cs y lo hi) (hlo : w.heap.size < lo) (hhi : hi ≤ w4.heap.size) :
    A.LiesIn (setAll w4 w.heap.size 0 vs) cs y w.heap.size (setAll w4 w.heap.size 0 vs).heap.size := by
  rw [size_setAll]
  exact (h.ext (ext_setAll (fun q => q = w.heap.size) (Ext.refl _ _) _ _ _ rfl) (fun q h1 h2 h3 => by omega)).mono (by omega) hhi
theorem own_store {α : Type} {A : Lay α} {w w4 : World} {cs vs : List Value} {y : α} {lo hi : Nat} (h : A.OwnIn w4 cs y lo hi) (hlo : w.heap.size < lo) (hhi : hi ≤ w4.heap.size) :
    A.OwnIn (setAll w4 w.heap.size 0 vs) cs y w.heap.size (setAll w4 w.heap.size 0 vs).heap.size := by
  rw [size_setAll]
  exact (h.ext (ext_setAll (fun q => q = w.heap.size) (Ext.refl _ _) _ _ _ rfl) (fun q h1 h2 h3 => by omega)).mono (by omega) hhi

/-- The block s alone may turn, and it is none of those that the answer lies in. -/
theorem lies_store' {α : Type} {A : Lay α} {w4 : World} {s : Nat} {cs vs : List Value} {y : α} {lo hi : Nat} (h : A.LiesIn w4 cs y lo hi) (hs : s < lo) : A.LiesIn (setAll w4 s 0 vs) cs y lo hi :=
  h.ext (ext_setAll (fun q => q = s) (Ext.refl _ _) _ _ _ rfl) (fun q h1 h2 h3 => by omega)
theorem own_store' {α : Type} {A : Lay α} {w4 : World} {s : Nat} {cs vs : List Value} {y : α} {lo hi : Nat} (h : A.OwnIn w4 cs y lo hi) (hs : s < lo) : A.OwnIn (setAll w4 s 0 vs) cs y lo hi :=
  h.ext (ext_setAll (fun q => q = s) (Ext.refl _ _) _ _ _ rfl) (fun q h1 h2 h3 => by omega)

theorem nil_own {α : Type} {A : Lay α} {w : World} {lo hi : Nat} : (Lay.sl A).OwnIn w [.slice none 0 0] [] lo hi := ⟨[], ⟨⟨none, 0, rfl, by simp, Or.inl ⟨rfl, rfl⟩⟩, by simp, by simp⟩, by simp⟩

end Go.Proofs.YtkmfkaljdngigaaDoor

namespace Go.Proofs.YtkmfkaljdngigaaDoor
open Go.RowKit

set_option maxRecDepth 100000 in
set_option maxHeartbeats 4000000 in
theorem specMText_ok (a2 : Option Addr) (d2 : Nat) (x : DMsg) (w : World) (RX : (Lay.sl Lay.int).Reads w [.slice a2 x.write.vec.length d2] x.write.vec) (hm : msgFault x = 0) :
    Calls Tryd.prog 5 #[.agg #[.int .i64 x.kind, .int .i64 x.epoch, .int .i64 x.src, .int .i64 x.dst, .int .i64 x.index, .int .i64 x.write.kind, .int .i64 x.write.id, .slice a2 x.write.vec.length d2, .int .i64 x.write.session, .int .i64 x.write.seq]] w fun e w' => e = .returned (.agg #[.int .i64 0, .string ⟨(textM x).toArray⟩]) ∧ Below w.heap.size w w' := by
  have nb : Below w.heap.size w ((w.alloc (.cells #[.int .i64 x.kind, .int .i64 x.epoch, .int .i64 x.src, .int .i64 x.dst, .int .i64 x.index, .int .i64 x.write.kind, .int .i64 x.write.id, .slice a2 x.write.vec.length d2, .int .i64 x.write.session, .int .i64 x.write.seq] 33)).alloc (.cells #[.int .i64 0, .string ⟨#[]⟩] 29)) := ((Below.refl _ _).alloc (Nat.le_refl _) _).alloc (by simp) _
  have hX : Box 0 #[.int .i64 x.kind, .int .i64 x.epoch, .int .i64 x.src, .int .i64 x.dst, .int .i64 x.index, .int .i64 x.write.kind, .int .i64 x.write.id, .slice a2 x.write.vec.length d2, .int .i64 x.write.session, .int .i64 x.write.seq] 33 ((w.alloc (.cells #[.int .i64 x.kind, .int .i64 x.epoch, .int .i64 x.src, .int .i64 x.dst, .int .i64 x.index, .int .i64 x.write.kind, .int .i64 x.write.id, .slice a2 x.write.vec.length d2, .int .i64 x.write.session, .int .i64 x.write.seq] 33)).alloc (.cells #[.int .i64 0, .string ⟨#[]⟩] 29)) w.heap.size := (newBox (Nat.zero_le _)).grow _
  have bR : Box 0 #[.int .i64 0, .string ⟨#[]⟩] 29 ((w.alloc (.cells #[.int .i64 x.kind, .int .i64 x.epoch, .int .i64 x.src, .int .i64 x.dst, .int .i64 x.index, .int .i64 x.write.kind, .int .i64 x.write.id, .slice a2 x.write.vec.length d2, .int .i64 x.write.session, .int .i64 x.write.seq] 33)).alloc (.cells #[.int .i64 0, .string ⟨#[]⟩] 29)) (w.heap.size + 1) := newBoxAt (Nat.zero_le _) (by simp)
  have HF := hide (l11MsgC w.heap.size 0 a2 d2 x _ (msgAt_box hX) (RX.later nb))
  rw [hm] at HF
  have HRX := hide RX
  have HB := hide nb
  have HX := hide hX
  have HR := hide bR
  have ok := msgFault_ok hm
  obtain ⟨b1, b2, b3, b4, hk⟩ := ok
  have D1 : Hid (∀ W, Calls Tryd.prog 12 #[.int .i64 x.epoch] W fun e w' => e = .returned (str (dec x.epoch)) ∧ Below W.heap.size W w') := fun W => digits x.epoch W (by omega) (by omega)
  have D2 : Hid (∀ W, Calls Tryd.prog 12 #[.int .i64 x.src] W fun e w' => e = .returned (str (dec x.src)) ∧ Below W.heap.size W w') := fun W => digits x.src W (by omega) (by omega)
  have D3 : Hid (∀ W, Calls Tryd.prog 12 #[.int .i64 x.dst] W fun e w' => e = .returned (str (dec x.dst)) ∧ Below W.heap.size W w') := fun W => digits x.dst W (by omega) (by omega)
  have D4 : Hid (∀ W, Calls Tryd.prog 12 #[.int .i64 x.index] W fun e w' => e = .returned (str (dec x.index)) ∧ Below W.heap.size W w') := fun W => digits x.index W (by omega) (by omega)
  simp only [str] at D1 D2 D3 D4
  have l1 := dec_len x.epoch
  have l2 := dec_len x.src
  have l3 := dec_len x.dst
  have l4 := dec_len x.index
  have lw := wtext_len x.write
  have HTX : Hid (textM x = if x.kind = 2 then [97, 99, 107] ++ ([32] ++ dec x.epoch ++ [32] ++ dec x.src ++ [32] ++ dec x.dst ++ [32] ++ dec x.index) else [102, 111, 114, 119, 97, 114, 100] ++ ([32] ++ dec x.epoch ++ [32] ++ dec x.src ++ [32] ++ dec x.dst ++ [32] ++ dec x.index) ++ [32] ++ wtext x.write) := rfl
  have HWT : Hid (x.kind = 1 → ∀ W, Below w.heap.size w W → Box 0 #[.int .i64 x.kind, .int .i64 x.epoch, .int .i64 x.src, .int .i64 x.dst, .int .i64 x.index, .int .i64 x.write.kind, .int .i64 x.write.id, .slice a2 x.write.vec.length d2, .int .i64 x.write.session, .int .i64 x.write.seq] 33 W w.heap.size → Calls Tryd.prog 13 #[.pointer (some ⟨w.heap.size, 5, none⟩)] W fun e w' => e = .returned (.string ⟨(wtext x.write).toArray⟩) ∧ Below W.heap.size W w') := fun q W hW hXW => by
    have hwf : wF x.write = 0 := by rcases hk with h | h; omega; exact h.2
    have q := msgAt_box hXW
    exact l3TextO w.heap.size 5 x.write.kind x.write.id _ x.write.session x.write.seq x.write.vec W ⟨q.2.2.2.2.2.1, q.2.2.2.2.2.2.1, q.2.2.2.2.2.2.2.1, q.2.2.2.2.2.2.2.2.1, q.2.2.2.2.2.2.2.2.2⟩ (Lay.ints_reads (RX.later hW)) hwf
  have hk2 : x.kind = 2 ∨ x.kind = 1 := by rcases hk with h | h; exact Or.inl h; exact Or.inr h.1
  generalize dec x.epoch = de at *
  generalize dec x.src = ds at *
  generalize dec x.dst = dt at *
  generalize dec x.index = di at *
  generalize wtext x.write = wt at *
  obtain ⟨p1, h1⟩ : ∃ p1, [32] ++ de = p1 := ⟨_, rfl⟩
  obtain ⟨p2, h2⟩ : ∃ p2, p1 ++ [32] = p2 := ⟨_, rfl⟩
  obtain ⟨p3, h3⟩ : ∃ p3, p2 ++ ds = p3 := ⟨_, rfl⟩
  obtain ⟨p4, h4⟩ : ∃ p4, p3 ++ [32] = p4 := ⟨_, rfl⟩
  obtain ⟨p5, h5⟩ : ∃ p5, p4 ++ dt = p5 := ⟨_, rfl⟩
  obtain ⟨p6, h6⟩ : ∃ p6, p5 ++ [32] = p6 := ⟨_, rfl⟩
  obtain ⟨p7, h7⟩ : ∃ p7, p6 ++ di = p7 := ⟨_, rfl⟩
  have e1 : p1.length ≤ 10 := by rw [← h1]; simp; omega
  have e2 : p2.length ≤ 20 := by rw [← h2]; simp; omega
  have e3 : p3.length ≤ 30 := by rw [← h3]; simp; omega
  have e4 : p4.length ≤ 40 := by rw [← h4]; simp; omega
  have e5 : p5.length ≤ 50 := by rw [← h5]; simp; omega
  have e6 : p6.length ≤ 60 := by rw [← h6]; simp; omega
  have e7 : p7.length ≤ 70 := by rw [← h7]; simp; omega
  have s1 := addS h1 (by omega)
  have s2 := addS h2 (by omega)
  have s3 := addS h3 (by omega)
  have s4 := addS h4 (by omega)
  have s5 := addS h5 (by omega)
  have s6 := addS h6 (by omega)
  have s7 := addS h7 (by omega)
  replace HTX : Hid (textM x = if x.kind = 2 then [97, 99, 107] ++ p7 else [102, 111, 114, 119, 97, 114, 100] ++ p7 ++ [32] ++ wt) := by
    have q := unhide HTX
    rw [h1, h2, h3, h4, h5, h6, h7] at q
    exact q
  clear h1 h2 h3 h4 h5 h6 h7 e1 e2 e3 e4 e5 e6 l1 l2 l3 l4 hm nb hX bR RX hk
  go_enter Tryd.func5, Tryd.ntmps5
  go_wp2_with fail
  generalize (w.alloc (.cells #[.int .i64 x.kind, .int .i64 x.epoch, .int .i64 x.src, .int .i64 x.dst, .int .i64 x.index, .int .i64 x.write.kind, .int .i64 x.write.id, .slice a2 x.write.vec.length d2, .int .i64 x.write.session, .int .i64 x.write.seq] 33)).alloc (.cells #[.int .i64 0, .string ⟨#[]⟩] 29) = W0 at *
  refine (unhide HF).mono ?_
  rintro e W ⟨rfl, hb⟩
  replace HX := hide ((unhide HX).keep hb)
  replace HR := hide ((unhide HR).keep hb)
  replace HB := hide ((unhide HB).trans (hb.mono (unhide HB).size))
  clear HF hb
  have hxl := (unhide HX).lt
  have c1 : W.cell? ⟨w.heap.size, 1, none⟩ = some (.int .i64 x.epoch) := (unhide HX).at 1 _ rfl
  have c2 : W.cell? ⟨w.heap.size, 2, none⟩ = some (.int .i64 x.src) := (unhide HX).at 2 _ rfl
  have c3 : W.cell? ⟨w.heap.size, 3, none⟩ = some (.int .i64 x.dst) := (unhide HX).at 3 _ rfl
  have c4 : W.cell? ⟨w.heap.size, 4, none⟩ = some (.int .i64 x.index) := (unhide HX).at 4 _ rfl
  go_upto_region 4 with fail
  go_cut [4] from 10 to 28 (fun s4 wx => ∃ wz, wz = wx ∧ s4 = .string ⟨p7.toArray⟩ ∧ Below W.heap.size W wx)
  case first =>
    refine wp_region_noPanic ?_
    refine wp_region_held_drew (S := fun w' => Below W.heap.size W w') (by kernel_rfl) (Below.refl _ _).drew (fun hHeld => ?_)
    generalize W.drew = wD at hHeld ⊢
    refine wpAnyH_take (i := 0) (oi := { dst := some 10, op := Go.Op.fieldAddr 33 (Go.Operand.tmp 1) 1, type := 0, pos := "l11_net.go:107", after := #[], guard := none }) (v := ?v0_1) rfl (by kernel_rfl) (by kernel_rfl) (by kernel_rfl) (fun _ _ _ h => h) (Or.inl ⟨by rfl, ?h0_1⟩) hHeld ?r0_1
    case h0_1 =>
      intro wS hSw
      (try dsimp only at hSw)
      go_simp
      try with_reducible rfl
    case r0_1 =>
    simp only [Act.put, List.setIfInBounds_toArray, List.set_cons_zero, List.set_cons_succ]
    refine wpAnyH_take (i := 1) (oi := { dst := some 11, op := Go.Op.load 2 (Go.Operand.tmp 10), type := 2, pos := "l11_net.go:107", after := #[{ on := 0, ground := Go.Ground.data }], guard := none }) (v := ?v1_2) rfl (by kernel_rfl) (by kernel_rfl) (by kernel_rfl) (fun _ _ _ h => h) (Or.inl ⟨by rfl, ?h1_2⟩) hHeld ?r1_2
    case h1_2 =>
      intro wS hSw
      have q := (hSw.cell (p := ⟨w.heap.size, 1, none⟩) hxl).trans c1
      clear hSw
      (try dsimp only at hSw)
      go_simp
      try with_reducible rfl
    case r1_2 =>
    simp only [Act.put, List.setIfInBounds_toArray, List.set_cons_zero, List.set_cons_succ]
    refine wpAnyH_take (i := 5) (oi := { dst := some 15, op := Go.Op.fieldAddr 33 (Go.Operand.tmp 1) 2, type := 0, pos := "l11_net.go:107", after := #[], guard := none }) (v := ?v5_3) rfl (by kernel_rfl) (by kernel_rfl) (by kernel_rfl) (fun _ _ _ h => h) (Or.inl ⟨by rfl, ?h5_3⟩) hHeld ?r5_3
    case h5_3 =>
      intro wS hSw
      (try dsimp only at hSw)
      go_simp
      try with_reducible rfl
    case r5_3 =>
    simp only [Act.put, List.setIfInBounds_toArray, List.set_cons_zero, List.set_cons_succ]
    refine wpAnyH_take (i := 6) (oi := { dst := some 16, op := Go.Op.load 2 (Go.Operand.tmp 15), type := 2, pos := "l11_net.go:107", after := #[{ on := 5, ground := Go.Ground.data }], guard := none }) (v := ?v6_4) rfl (by kernel_rfl) (by kernel_rfl) (by kernel_rfl) (fun _ _ _ h => h) (Or.inl ⟨by rfl, ?h6_4⟩) hHeld ?r6_4
    case h6_4 =>
      intro wS hSw
      have q := (hSw.cell (p := ⟨w.heap.size, 2, none⟩) hxl).trans c2
      clear hSw
      (try dsimp only at hSw)
      go_simp
      try with_reducible rfl
    case r6_4 =>
    simp only [Act.put, List.setIfInBounds_toArray, List.set_cons_zero, List.set_cons_succ]
    refine wpAnyH_take (i := 10) (oi := { dst := some 20, op := Go.Op.fieldAddr 33 (Go.Operand.tmp 1) 3, type := 0, pos := "l11_net.go:107", after := #[], guard := none }) (v := ?v10_5) rfl (by kernel_rfl) (by kernel_rfl) (by kernel_rfl) (fun _ _ _ h => h) (Or.inl ⟨by rfl, ?h10_5⟩) hHeld ?r10_5
    case h10_5 =>
      intro wS hSw
      (try dsimp only at hSw)
      go_simp
      try with_reducible rfl
    case r10_5 =>
    simp only [Act.put, List.setIfInBounds_toArray, List.set_cons_zero, List.set_cons_succ]
    refine wpAnyH_take (i := 11) (oi := { dst := some 21, op := Go.Op.load 2 (Go.Operand.tmp 20), type := 2, pos := "l11_net.go:107", after := #[{ on := 10, ground := Go.Ground.data }], guard := none }) (v := ?v11_6) rfl (by kernel_rfl) (by kernel_rfl) (by kernel_rfl) (fun _ _ _ h => h) (Or.inl ⟨by rfl, ?h11_6⟩) hHeld ?r11_6
    case h11_6 =>
      intro wS hSw
      have q := (hSw.cell (p := ⟨w.heap.size, 3, none⟩) hxl).trans c3
      clear hSw
      (try dsimp only at hSw)
      go_simp
      try with_reducible rfl
    case r11_6 =>
    simp only [Act.put, List.setIfInBounds_toArray, List.set_cons_zero, List.set_cons_succ]
    refine wpAnyH_take (i := 15) (oi := { dst := some 25, op := Go.Op.fieldAddr 33 (Go.Operand.tmp 1) 4, type := 0, pos := "l11_net.go:107", after := #[], guard := none }) (v := ?v15_7) rfl (by kernel_rfl) (by kernel_rfl) (by kernel_rfl) (fun _ _ _ h => h) (Or.inl ⟨by rfl, ?h15_7⟩) hHeld ?r15_7
    case h15_7 =>
      intro wS hSw
      (try dsimp only at hSw)
      go_simp
      try with_reducible rfl
    case r15_7 =>
    simp only [Act.put, List.setIfInBounds_toArray, List.set_cons_zero, List.set_cons_succ]
    refine wpAnyH_take (i := 16) (oi := { dst := some 26, op := Go.Op.load 2 (Go.Operand.tmp 25), type := 2, pos := "l11_net.go:107", after := #[{ on := 15, ground := Go.Ground.data }], guard := none }) (v := ?v16_8) rfl (by kernel_rfl) (by kernel_rfl) (by kernel_rfl) (fun _ _ _ h => h) (Or.inl ⟨by rfl, ?h16_8⟩) hHeld ?r16_8
    case h16_8 =>
      intro wS hSw
      have q := (hSw.cell (p := ⟨w.heap.size, 4, none⟩) hxl).trans c4
      clear hSw
      (try dsimp only at hSw)
      go_simp
      try with_reducible rfl
    case r16_8 =>
    simp only [Act.put, List.setIfInBounds_toArray, List.set_cons_zero, List.set_cons_succ]
    refine wpAnyH_ready (rs := [2]) (by kernel_rfl) (by simp) ?_
    refine AllReadyH.cons (o := { dst := some 12, op := Go.Op.call { callee := Go.Callee.value (Go.Operand.func 12), args := #[Go.Operand.tmp 11], argTypes := #[2] }, type := 9, pos := "l11_net.go:107", after := #[{ on := 1, ground := Go.Ground.data }], guard := none }) rfl (fun K hK => ?_) AllReadyH.nil
    go_simp
    go_at_call 12
    refine (unhide D1 _).mono ?_
    rintro e v1 ⟨rfl, hbw⟩
    have hSv1 := hHeld.trans (hbw.mono hHeld.size)
    clear hbw
    try go_wp2_with fail
    refine hK.out _ _ hSv1 (fun hHeld => ?_)
    clear hK K
    try simp only [Act.put, List.setIfInBounds_toArray, List.set_cons_zero, List.set_cons_succ]
    refine wpAnyH_take (i := 3) (oi := { dst := some 13, op := Go.Op.binOp Go.BinOp.add 9 (Go.Operand.const (Go.Value.string { data := #[32] })) (Go.Operand.tmp 12) 9, type := 9, pos := "l11_net.go:107", after := #[{ on := 2, ground := Go.Ground.data }], guard := none }) (v := ?v3_9) rfl (by kernel_rfl) (by kernel_rfl) (by kernel_rfl) (fun _ _ _ h => h) (Or.inl ⟨by rfl, ?h3_9⟩) hHeld ?r3_9
    case h3_9 =>
      intro wS hSw
      clear hSw
      (try dsimp only at hSw)
      go_simp
      try with_reducible rfl
    case r3_9 =>
    simp only [Act.put, List.setIfInBounds_toArray, List.set_cons_zero, List.set_cons_succ]
    refine wpAnyH_take (i := 4) (oi := { dst := some 14, op := Go.Op.binOp Go.BinOp.add 9 (Go.Operand.tmp 13) (Go.Operand.const (Go.Value.string { data := #[32] })) 9, type := 9, pos := "l11_net.go:107", after := #[{ on := 3, ground := Go.Ground.data }], guard := none }) (v := ?v4_10) rfl (by kernel_rfl) (by kernel_rfl) (by kernel_rfl) (fun _ _ _ h => h) (Or.inl ⟨by rfl, ?h4_10⟩) hHeld ?r4_10
    case h4_10 =>
      intro wS hSw
      clear hSw
      (try dsimp only at hSw)
      go_simp
      try with_reducible rfl
    case r4_10 =>
    simp only [Act.put, List.setIfInBounds_toArray, List.set_cons_zero, List.set_cons_succ]
    refine wpAnyH_ready (rs := [7]) (by kernel_rfl) (by simp) ?_
    refine AllReadyH.cons (o := { dst := some 17, op := Go.Op.call { callee := Go.Callee.value (Go.Operand.func 12), args := #[Go.Operand.tmp 16], argTypes := #[2] }, type := 9, pos := "l11_net.go:107", after := #[{ on := 6, ground := Go.Ground.data }, { on := 2, ground := Go.Ground.chain }], guard := none }) rfl (fun K hK => ?_) AllReadyH.nil
    go_simp
    go_at_call 12
    refine (unhide D2 _).mono ?_
    rintro e v2 ⟨rfl, hbw⟩
    have hSv2 := hHeld.trans (hbw.mono hHeld.size)
    clear hbw
    try go_wp2_with fail
    refine hK.out _ _ hSv2 (fun hHeld => ?_)
    clear hK K
    try simp only [Act.put, List.setIfInBounds_toArray, List.set_cons_zero, List.set_cons_succ]
    refine wpAnyH_take (i := 8) (oi := { dst := some 18, op := Go.Op.binOp Go.BinOp.add 9 (Go.Operand.tmp 14) (Go.Operand.tmp 17) 9, type := 9, pos := "l11_net.go:107", after := #[{ on := 4, ground := Go.Ground.data }, { on := 7, ground := Go.Ground.data }], guard := none }) (v := ?v8_11) rfl (by kernel_rfl) (by kernel_rfl) (by kernel_rfl) (fun _ _ _ h => h) (Or.inl ⟨by rfl, ?h8_11⟩) hHeld ?r8_11
    case h8_11 =>
      intro wS hSw
      clear hSw
      (try dsimp only at hSw)
      go_simp
      try with_reducible rfl
    case r8_11 =>
    simp only [Act.put, List.setIfInBounds_toArray, List.set_cons_zero, List.set_cons_succ]
    refine wpAnyH_take (i := 9) (oi := { dst := some 19, op := Go.Op.binOp Go.BinOp.add 9 (Go.Operand.tmp 18) (Go.Operand.const (Go.Value.string { data := #[32] })) 9, type := 9, pos := "l11_net.go:107", after := #[{ on := 8, ground := Go.Ground.data }], guard := none }) (v := ?v9_12) rfl (by kernel_rfl) (by kernel_rfl) (by kernel_rfl) (fun _ _ _ h => h) (Or.inl ⟨by rfl, ?h9_12⟩) hHeld ?r9_12
    case h9_12 =>
      intro wS hSw
      clear hSw
      (try dsimp only at hSw)
      go_simp
      try with_reducible rfl
    case r9_12 =>
    simp only [Act.put, List.setIfInBounds_toArray, List.set_cons_zero, List.set_cons_succ]
    refine wpAnyH_ready (rs := [12]) (by kernel_rfl) (by simp) ?_
    refine AllReadyH.cons (o := { dst := some 22, op := Go.Op.call { callee := Go.Callee.value (Go.Operand.func 12), args := #[Go.Operand.tmp 21], argTypes := #[2] }, type := 9, pos := "l11_net.go:107", after := #[{ on := 11, ground := Go.Ground.data }, { on := 7, ground := Go.Ground.chain }], guard := none }) rfl (fun K hK => ?_) AllReadyH.nil
    go_simp
    go_at_call 12
    refine (unhide D3 _).mono ?_
    rintro e v3 ⟨rfl, hbw⟩
    have hSv3 := hHeld.trans (hbw.mono hHeld.size)
    clear hbw
    try go_wp2_with fail
    refine hK.out _ _ hSv3 (fun hHeld => ?_)
    clear hK K
    try simp only [Act.put, List.setIfInBounds_toArray, List.set_cons_zero, List.set_cons_succ]
    refine wpAnyH_take (i := 13) (oi := { dst := some 23, op := Go.Op.binOp Go.BinOp.add 9 (Go.Operand.tmp 19) (Go.Operand.tmp 22) 9, type := 9, pos := "l11_net.go:107", after := #[{ on := 9, ground := Go.Ground.data }, { on := 12, ground := Go.Ground.data }], guard := none }) (v := ?v13_13) rfl (by kernel_rfl) (by kernel_rfl) (by kernel_rfl) (fun _ _ _ h => h) (Or.inl ⟨by rfl, ?h13_13⟩) hHeld ?r13_13
    case h13_13 =>
      intro wS hSw
      clear hSw
      (try dsimp only at hSw)
      go_simp
      try with_reducible rfl
    case r13_13 =>
    simp only [Act.put, List.setIfInBounds_toArray, List.set_cons_zero, List.set_cons_succ]
    refine wpAnyH_take (i := 14) (oi := { dst := some 24, op := Go.Op.binOp Go.BinOp.add 9 (Go.Operand.tmp 23) (Go.Operand.const (Go.Value.string { data := #[32] })) 9, type := 9, pos := "l11_net.go:107", after := #[{ on := 13, ground := Go.Ground.data }], guard := none }) (v := ?v14_14) rfl (by kernel_rfl) (by kernel_rfl) (by kernel_rfl) (fun _ _ _ h => h) (Or.inl ⟨by rfl, ?h14_14⟩) hHeld ?r14_14
    case h14_14 =>
      intro wS hSw
      clear hSw
      (try dsimp only at hSw)
      go_simp
      try with_reducible rfl
    case r14_14 =>
    simp only [Act.put, List.setIfInBounds_toArray, List.set_cons_zero, List.set_cons_succ]
    refine wpAnyH_ready (rs := [17]) (by kernel_rfl) (by simp) ?_
    refine AllReadyH.cons (o := { dst := some 27, op := Go.Op.call { callee := Go.Callee.value (Go.Operand.func 12), args := #[Go.Operand.tmp 26], argTypes := #[2] }, type := 9, pos := "l11_net.go:107", after := #[{ on := 16, ground := Go.Ground.data }, { on := 12, ground := Go.Ground.chain }], guard := none }) rfl (fun K hK => ?_) AllReadyH.nil
    go_simp
    go_at_call 12
    refine (unhide D4 _).mono ?_
    rintro e v4 ⟨rfl, hbw⟩
    have hSv4 := hHeld.trans (hbw.mono hHeld.size)
    clear hbw
    try go_wp2_with fail
    refine hK.out _ _ hSv4 (fun hHeld => ?_)
    clear hK K
    try simp only [Act.put, List.setIfInBounds_toArray, List.set_cons_zero, List.set_cons_succ]
    refine wpAnyH_take (i := 18) (oi := { dst := some 28, op := Go.Op.binOp Go.BinOp.add 9 (Go.Operand.tmp 24) (Go.Operand.tmp 27) 9, type := 9, pos := "l11_net.go:107", after := #[{ on := 14, ground := Go.Ground.data }, { on := 17, ground := Go.Ground.data }], guard := none }) (v := ?v18_15) rfl (by kernel_rfl) (by kernel_rfl) (by kernel_rfl) (fun _ _ _ h => h) (Or.inl ⟨by rfl, ?h18_15⟩) hHeld ?r18_15
    case h18_15 =>
      intro wS hSw
      clear hSw
      (try dsimp only at hSw)
      go_simp
      try with_reducible rfl
    case r18_15 =>
    simp only [Act.put, List.setIfInBounds_toArray, List.set_cons_zero, List.set_cons_succ]
    refine wpAnyH_take (i := 19) (oi := { dst := some 4, op := Go.Op.assign (Go.Operand.tmp 28), type := 9, pos := "l11_net.go:107", after := #[{ on := 18, ground := Go.Ground.data }, { on := 17, ground := Go.Ground.chain }, { on := 0, ground := Go.Ground.phase }, { on := 1, ground := Go.Ground.phase }, { on := 2, ground := Go.Ground.phase }, { on := 3, ground := Go.Ground.phase }, { on := 4, ground := Go.Ground.phase }, { on := 5, ground := Go.Ground.phase }, { on := 6, ground := Go.Ground.phase }, { on := 7, ground := Go.Ground.phase }, { on := 8, ground := Go.Ground.phase }, { on := 9, ground := Go.Ground.phase }, { on := 10, ground := Go.Ground.phase }, { on := 11, ground := Go.Ground.phase }, { on := 12, ground := Go.Ground.phase }, { on := 13, ground := Go.Ground.phase }, { on := 14, ground := Go.Ground.phase }, { on := 15, ground := Go.Ground.phase }, { on := 16, ground := Go.Ground.phase }, { on := 17, ground := Go.Ground.phase }, { on := 18, ground := Go.Ground.phase }], guard := none }) (v := ?v19_16) rfl (by kernel_rfl) (by kernel_rfl) (by kernel_rfl) (fun _ _ _ h => h) (Or.inl ⟨by rfl, ?h19_16⟩) hHeld ?r19_16
    case h19_16 =>
      intro wS hSw
      (try dsimp only at hSw)
      go_simp
      try with_reducible rfl
    case r19_16 =>
    simp only [Act.put, List.setIfInBounds_toArray, List.set_cons_zero, List.set_cons_succ]
    refine wpAnyH_done (by kernel_rfl) ?_ _
    refine NoPanic.normal ?_
    have HS := hide hHeld
    clear hHeld
    go_wp2_with fail
    go_meet
    exact ⟨_, rfl, rfl, unhide HS⟩
  case rest =>
    obtain ⟨wz, rfl, rfl, hBZ⟩ := hcut
    clear s1 s2 s3 s4 s5 s6 s7 D1 D2 D3 D4 c1 c2 c3 c4
    have HXZ := hide ((unhide HX).keep hBZ)
    have HRZ := hide ((unhide HR).keep hBZ)
    have HBZ := hide ((unhide HB).trans (hBZ.mono (unhide HB).size))
    have hxz := (unhide HXZ).lt
    have c0 : wz.cell? ⟨w.heap.size, 0, none⟩ = some (.int .i64 x.kind) := (unhide HXZ).at 0 _ rfl
    clear HX HR HB hBZ hxl
    by_cases h2 : x.kind = 2
    · have HF : Hid (textM x = [97, 99, 107] ++ p7) := (unhide HTX).trans (if_pos h2)
      obtain ⟨t, ht⟩ : ∃ t, [97, 99, 107] ++ p7 = t := ⟨_, rfl⟩
      have s8 := addS ht (by rw [← ht]; simp; omega)
      rw [ht] at HF
      have hd : (x.kind == 2) = true := by simpa using h2
      have z0 : wz.cell? ⟨w.heap.size + 1, 0, none⟩ = some (.int .i64 0) := (unhide HRZ).at 0 _ rfl
      have z1 : wz.cell? ⟨w.heap.size + 1, 1, none⟩ = some (.string ⟨#[]⟩) := (unhide HRZ).at 1 _ rfl
      have ff := (unhide HRZ).soft
      have l0 := (unhide HRZ).lt
      have HB2 := hide (below_setAll (unhide HBZ) (w.heap.size + 1) 0 [.int .i64 0, .string ⟨t.toArray⟩] (by omega))
      clear HTX HWT ht h2 hk2 HRZ HXZ HBZ
      go_wp2_with fail
      refine bodyPost_ret (v := .agg #[.int .i64 0, .string ⟨t.toArray⟩]) (by simp [results, Tryd.results5, go_sem, z0, z1]) rfl ?_
      exact ⟨by rw [unhide HF], unhide HB2⟩
    · have HF : Hid (textM x = [102, 111, 114, 119, 97, 114, 100] ++ p7 ++ [32] ++ wt) := (unhide HTX).trans (if_neg h2)
      have hk1 : x.kind = 1 := by omega
      have HL := hide (unhide HWT hk1 wz (unhide HBZ) (unhide HXZ))
      obtain ⟨t1, ht1⟩ : ∃ t, [102, 111, 114, 119, 97, 114, 100] ++ p7 = t := ⟨_, rfl⟩
      obtain ⟨t2, ht2⟩ : ∃ t, t1 ++ [32] = t := ⟨_, rfl⟩
      obtain ⟨t, ht⟩ : ∃ t, t2 ++ wt = t := ⟨_, rfl⟩
      have g1 : t1.length ≤ 100 := by rw [← ht1]; simp; omega
      have g2 : t2.length ≤ 110 := by rw [← ht2]; simp; omega
      have s8 := addS ht1 (by omega)
      have s9 := addS ht2 (by omega)
      have s10 := addS ht (by rw [← ht]; simp; omega)
      rw [ht1, ht2, ht] at HF
      have hd : (x.kind == 2) = false := by simpa using h2
      clear HTX HWT ht ht1 ht2 g1 g2 h2 hk2 hk1
      go_wp2_with fail
      refine (unhide HL).mono ?_
      rintro e w9 ⟨rfl, hb⟩
      have bR := (unhide HRZ).keep hb
      have z0 : w9.cell? ⟨w.heap.size + 1, 0, none⟩ = some (.int .i64 0) := bR.at 0 _ rfl
      have z1 : w9.cell? ⟨w.heap.size + 1, 1, none⟩ = some (.string ⟨#[]⟩) := bR.at 1 _ rfl
      have ff := bR.soft
      have l0 := bR.lt
      have HB2 := hide (below_setAll ((unhide HBZ).trans (hb.mono (unhide HBZ).size)) (w.heap.size + 1) 0 [.int .i64 0, .string ⟨t.toArray⟩] (by omega))
      clear hb bR HL HRZ HXZ HBZ c0
      go_wp2_with fail
      refine bodyPost_ret (v := .agg #[.int .i64 0, .string ⟨t.toArray⟩]) (by simp [results, Tryd.results5, go_sem, z0, z1]) rfl ?_
      exact ⟨by rw [unhide HF], unhide HB2⟩

set_option maxRecDepth 10000 in
set_option maxHeartbeats 1000000 in
theorem specMText_bad (a2 : Option Addr) (d2 : Nat) (x : DMsg) (w : World) (RX : (Lay.sl Lay.int).Reads w [.slice a2 x.write.vec.length d2] x.write.vec) (hm : msgFault x ≠ 0) :
    Calls Tryd.prog 5 #[.agg #[.int .i64 x.kind, .int .i64 x.epoch, .int .i64 x.src, .int .i64 x.dst, .int .i64 x.index, .int .i64 x.write.kind, .int .i64 x.write.id, .slice a2 x.write.vec.length d2, .int .i64 x.write.session, .int .i64 x.write.seq]] w fun e w' => e = .returned (.agg #[.int .i64 (msgFault x), .string ⟨#[]⟩]) ∧ Below w.heap.size w w' := by
  have nb : Below w.heap.size w ((w.alloc (.cells #[.int .i64 x.kind, .int .i64 x.epoch, .int .i64 x.src, .int .i64 x.dst, .int .i64 x.index, .int .i64 x.write.kind, .int .i64 x.write.id, .slice a2 x.write.vec.length d2, .int .i64 x.write.session, .int .i64 x.write.seq] 33)).alloc (.cells #[.int .i64 0, .string ⟨#[]⟩] 29)) := ((Below.refl _ _).alloc (Nat.le_refl _) _).alloc (by simp) _
  have hX : Box 0 #[.int .i64 x.kind, .int .i64 x.epoch, .int .i64 x.src, .int .i64 x.dst, .int .i64 x.index, .int .i64 x.write.kind, .int .i64 x.write.id, .slice a2 x.write.vec.length d2, .int .i64 x.write.session, .int .i64 x.write.seq] 33 ((w.alloc (.cells #[.int .i64 x.kind, .int .i64 x.epoch, .int .i64 x.src, .int .i64 x.dst, .int .i64 x.index, .int .i64 x.write.kind, .int .i64 x.write.id, .slice a2 x.write.vec.length d2, .int .i64 x.write.session, .int .i64 x.write.seq] 33)).alloc (.cells #[.int .i64 0, .string ⟨#[]⟩] 29)) w.heap.size := (newBox (Nat.zero_le _)).grow _
  have bR : Box 0 #[.int .i64 0, .string ⟨#[]⟩] 29 ((w.alloc (.cells #[.int .i64 x.kind, .int .i64 x.epoch, .int .i64 x.src, .int .i64 x.dst, .int .i64 x.index, .int .i64 x.write.kind, .int .i64 x.write.id, .slice a2 x.write.vec.length d2, .int .i64 x.write.session, .int .i64 x.write.seq] 33)).alloc (.cells #[.int .i64 0, .string ⟨#[]⟩] 29)) (w.heap.size + 1) := newBoxAt (Nat.zero_le _) (by simp)
  have HF := hide (l11MsgC w.heap.size 0 a2 d2 x _ (msgAt_box hX) (RX.later nb))
  have HB := hide nb
  have HR := hide bR
  have hd : (msgFault x != 0) = true := by simpa using hm
  clear hm nb hX bR RX
  obtain ⟨f, hf⟩ : ∃ f, f = msgFault x := ⟨_, rfl⟩
  rw [← hf] at HF hd
  have HFF := hide hf
  clear hf
  go_enter Tryd.func5, Tryd.ntmps5
  go_wp2_with fail
  generalize (w.alloc (.cells #[.int .i64 x.kind, .int .i64 x.epoch, .int .i64 x.src, .int .i64 x.dst, .int .i64 x.index, .int .i64 x.write.kind, .int .i64 x.write.id, .slice a2 x.write.vec.length d2, .int .i64 x.write.session, .int .i64 x.write.seq] 33)).alloc (.cells #[.int .i64 0, .string ⟨#[]⟩] 29) = W0 at *
  refine (unhide HF).mono ?_
  rintro e W ⟨rfl, hb⟩
  have bR := (unhide HR).keep hb
  have z0 : W.cell? ⟨w.heap.size + 1, 0, none⟩ = some (.int .i64 0) := bR.at 0 _ rfl
  have z1 : W.cell? ⟨w.heap.size + 1, 1, none⟩ = some (.string ⟨#[]⟩) := bR.at 1 _ rfl
  have ff := bR.soft
  have l0 := bR.lt
  have HB2 := hide (below_setAll ((unhide HB).trans (hb.mono (unhide HB).size)) (w.heap.size + 1) 0 [.int .i64 f, .string ⟨#[]⟩] (by omega))
  clear hb bR HF HB HR
  go_wp2_with fail
  refine bodyPost_ret (v := .agg #[.int .i64 f, .string ⟨#[]⟩]) (by simp [results, Tryd.results5, go_sem, z0, z1]) rfl ?_
  exact ⟨by rw [unhide HFF], unhide HB2⟩

theorem specMsgText (cs : List Value) (x : DMsg) (w : World) (h : Lay.tMsg.Reads w cs x) :
    Calls Tryd.prog 5 #[.agg cs.toArray] w fun e w' => ∃ cs, e = .returned (.agg cs.toArray) ∧ Lay.tTextResult.OwnIn w' cs (textMR x) w.heap.size w'.heap.size ∧ Below w.heap.size w w' := by
  obtain ⟨a, d, rfl, R⟩ := open_Msg h
  by_cases hf : msgFault x = 0
  · refine (specMText_ok a d x w (write_vec R) hf).mono ?_
    rintro e w' ⟨rfl, hb⟩
    rw [textMR, if_pos hf]
    exact ⟨[_, _], rfl, lies_textRM (by decide), hb⟩
  · refine (specMText_bad a d x w (write_vec R) hf).mono ?_
    rintro e w' ⟨rfl, hb⟩
    rw [textMR, if_neg hf]
    have := msgFault_vals x
    exact ⟨[_, _], rfl, lies_textRM (wf_of_bd (by omega)), hb⟩
end Go.Proofs.YtkmfkaljdngigaaDoor

namespace Go.Proofs.YtkmfkaljdngigaaDoor
open Go.RowKit

theorem lawMText (u : List Value) (x : DMsg) (w : World) (h : Lay.tMsg.Reads w u x) (ht : Tab w) :
    Calls Tryd.prog 3 #[.agg u.toArray] w fun e w' => e = .returned (.bool true) ∧ Below w.heap.size w w' := by
  by_cases hn : Lay.tMsg.sz x ≤ 1048576
  · refine lawx_MsgText u x (textMR x) w h hn ht (fun W a _ ha => (specMsgText a x W ha).mono fun e w' ⟨cs, he, ho, hb⟩ => ⟨cs, he, ho.reads, hb⟩) (fun W a hT ha => implMsgText a x W hT ha)
  · exact lawover_MsgText u x w h (by omega)

end Go.Proofs.YtkmfkaljdngigaaDoor

namespace Go.Proofs.YtkmfkaljdngigaaDoor
open Go.RowKit Go.ChangeShapes Go.WideShapes

/-- Whatever reads as data of the type t lies as A says. -/
def Opens {α : Type} (A : Lay α) (t : TypeId) : Prop :=
  ∀ {H : Type} (enc : TypeId × Value → H) (W : World) (base : Nat) (spare : Nat → Bool) (held : Bool) (fuel : Nat) (cs : List Value) (x : DataW H × List MemPlace), DataW.trod enc Tryd.prog W base spare held fuel t cs = some x → ∃ y, A.Reads W cs y

theorem reads_pair {α β : Type} {A : Lay α} {B : Lay β} {W : World} {c1 c2 : List Value} {x : α} {y : β} (h : A.Reads W c1 x) (k : B.Reads W c2 y) : (Lay.pair A B).Reads W (c1 ++ c2) (x, y) := by
  obtain ⟨b1, h⟩ := h
  obtain ⟨b2, k⟩ := k
  exact ⟨b1 ++ b2, c1, c2, b1, b2, rfl, rfl, h, k⟩

theorem opens_int {t : TypeId} (ht : Tryd.prog.underlying t = some (.int .i64)) : Opens Lay.int t := by
  intro H enc W base spare held fuel cs x h
  obtain ⟨n, rfl, -, hw⟩ := DataW.trod_int ht h
  exact ⟨n, [], rfl, hw, rfl⟩
theorem opens_bool {t : TypeId} (ht : Tryd.prog.underlying t = some .bool) : Opens Lay.bool t := by
  intro H enc W base spare held fuel cs x h
  obtain ⟨b, rfl, -⟩ := DataW.trod_bool ht h
  exact ⟨b, [], rfl, rfl⟩
theorem opens_str {t : TypeId} (ht : Tryd.prog.underlying t = some .string) : Opens Lay.str t := by
  intro H enc W base spare held fuel cs x h
  obtain ⟨s, rfl, -, -⟩ := DataW.trod_string ht h
  exact ⟨s, [], rfl, rfl⟩

theorem opens_sl {α : Type} {A : Lay α} {t e : TypeId} (ht : Tryd.prog.underlying t = some (.slice e)) (hn : Tryd.prog.cellsOf e = A.n) (h0 : 0 < A.n) (h : Opens A e) : Opens (Lay.sl A) t := by
  intro H enc W base spare held fuel cs x hx
  rcases Go.Deep.open_slice ht hx with ⟨rfl, -⟩ | ⟨a, len, cap, m, n, D, Pl, rfl, hb, hl, hm, hmm, -, hel⟩
  · exact ⟨[], [], none, 0, rfl, ⟨Nat.le_refl _, by simp⟩, Or.inl ⟨rfl, rfl⟩⟩
  · have hlm : len ≤ m := by rw [hmm]; split <;> omega
    rw [hn] at hel
    have each : ∀ i, i < len → ∃ q : List Value × α, (∀ j, j < A.n → W.cell? (a.add (i * A.n + j)) = q.1[j]?) ∧ q.1.length = A.n ∧ A.Reads W q.1 q.2 := by
      intro i hi
      obtain ⟨cs', h1, h2⟩ := hel i (by omega)
      obtain ⟨-, hlen, hc⟩ := World.cells?_some h1
      obtain ⟨y, hy⟩ := h enc W base spare held n cs' _ h2
      refine ⟨(cs', y), fun j hj => ?_, hlen, hy⟩
      have := hc j hj
      rw [Addr.add_add] at this
      exact this
    by_cases hp : 0 < len
    · obtain ⟨b, off, spot⟩ := a
      obtain ⟨q0, c0, l0, -⟩ := each 0 hp
      have hc0 := c0 0 h0
      have hs0 : ∃ v, W.cell? ((⟨b, off, spot⟩ : Addr).add (0 * A.n + 0)) = some v := ⟨_, hc0.trans (List.getElem?_eq_getElem (by omega))⟩
      obtain ⟨v0, hv0⟩ := hs0
      have hspot : spot = none := by simpa [Addr.add] using World.cell?_spot hv0
      subst hspot
      have hbl : b < W.heap.size := by
        have := World.block_lt_of_cell? _ _ hv0
        simpa [Addr.add] using this
      have pick : ∃ f : (i : Nat) → i < len → List Value × α, ∀ i (hi : i < len), (∀ j, j < A.n → W.cell? ((⟨b, off, none⟩ : Addr).add (i * A.n + j)) = (f i hi).1[j]?) ∧ (f i hi).1.length = A.n ∧ A.Reads W (f i hi).1 (f i hi).2 :=
        ⟨fun i hi => Classical.choose (each i hi), fun i hi => Classical.choose_spec (each i hi)⟩
      obtain ⟨f, hf⟩ := pick
      have pick2 : ∃ g : (i : Nat) → i < len → List Nat, ∀ i (hi : i < len), A.lies W (f i hi).1 (f i hi).2 (g i hi) :=
        ⟨fun i hi => Classical.choose (hf i hi).2.2, fun i hi => Classical.choose_spec (hf i hi).2.2⟩
      obtain ⟨g, hg⟩ := pick2
      refine ⟨(List.finRange len).map (fun i => (f i.1 i.2).2), b :: ((List.finRange len).map (fun i => g i.1 i.2)).flatten, some ⟨b, off, none⟩, cap, by simp, ⟨by simpa using hl, by simp; unfold maxLen at hm; omega⟩, Or.inr ⟨b, off, (List.finRange len).map (fun i => (f i.1 i.2).1), (List.finRange len).map (fun i => g i.1 i.2), rfl, hbl, rfl, by simp, by simp, fun j h1 h2 h3 => ?_⟩⟩
      have hj : j < len := by simpa using h1
      refine ⟨fun k hk => ?_, ?_⟩
      · have := (hf j hj).1 k hk
        rw [Addr.add_lit] at this
        simpa [Nat.add_assoc] using this
      · simpa using hg j hj
    · obtain rfl : len = 0 := by omega
      exact ⟨[], [], some a, cap, rfl, ⟨hl, by simp⟩, Or.inl ⟨rfl, rfl⟩⟩

theorem open_arg {α : Type} {A : Lay α} {t : TypeId} (O : Opens A t) {H : Type} {enc : TypeId × Value → H} {W : World} {base : Nat} {spare : Nat → Bool} {held : Bool} {a : Option Addr} {len cap : Nat} {d : DataW H} {p : List MemPlace}
    (h : DataW.Trod enc Tryd.prog W base spare held t (.slice a len cap) d p) : ∃ y, A.Reads W [.slice a len cap] y := by
  obtain ⟨fuel, hf⟩ := h
  exact O enc W base spare held fuel _ _ (by simpa [Value.cells] using hf)
theorem open_arg_st {α : Type} {A : Lay α} {t : TypeId} (O : Opens A t) {H : Type} {enc : TypeId × Value → H} {W : World} {base : Nat} {spare : Nat → Bool} {held : Bool} {cs : Array Value} {d : DataW H} {p : List MemPlace}
    (h : DataW.Trod enc Tryd.prog W base spare held t (.agg cs) d p) : ∃ y, A.Reads W cs.toList y := by
  obtain ⟨fuel, hf⟩ := h
  exact O enc W base spare held fuel _ _ (by simpa [Value.cells] using hf)

end Go.Proofs.YtkmfkaljdngigaaDoor

namespace Go.Proofs.YtkmfkaljdngigaaDoor
open Go.RowKit

set_option maxRecDepth 10000 in
theorem opens_Write : Opens Lay.tWrite 24 := by
  intro H enc W base spare held fuel cs x h
  obtain ⟨xs, n, _, _, hlen, hl, hfi⟩ := DataW.trod_struct Tryd.underlying24 h
  rw [show Tryd.prog.cellsOf 24 = 5 by kernel_rfl] at hlen
  match cs, hlen with
  | [c0, c1, c2, c3, c4], _ =>
  match xs, hl with
  | [y0, y1, y2, y3, y4], _ =>
  have z0 : Tryd.prog.cellsOf 2 = 1 := by kernel_rfl
  have z1 : Tryd.prog.cellsOf 22 = 1 := by kernel_rfl
  have f0 : DataW.trod enc Tryd.prog W base spare held n 2 (([c0, c1, c2, c3, c4].drop 0).take (Tryd.prog.cellsOf 2)) = some y0 := hfi 0 _ rfl
  rw [z0] at f0
  obtain ⟨d0, r0⟩ := (opens_int Tryd.underlying2) enc W base spare held n _ _ f0
  have f1 : DataW.trod enc Tryd.prog W base spare held n 2 (([c0, c1, c2, c3, c4].drop 1).take (Tryd.prog.cellsOf 2)) = some y1 := hfi 1 _ rfl
  rw [z0] at f1
  obtain ⟨d1, r1⟩ := (opens_int Tryd.underlying2) enc W base spare held n _ _ f1
  have f2 : DataW.trod enc Tryd.prog W base spare held n 22 (([c0, c1, c2, c3, c4].drop 2).take (Tryd.prog.cellsOf 22)) = some y2 := hfi 2 _ rfl
  rw [z1] at f2
  obtain ⟨d2, r2⟩ := (opens_sl Tryd.underlying22 (by kernel_rfl) (by decide) (opens_int Tryd.underlying2)) enc W base spare held n _ _ f2
  have f3 : DataW.trod enc Tryd.prog W base spare held n 2 (([c0, c1, c2, c3, c4].drop 3).take (Tryd.prog.cellsOf 2)) = some y3 := hfi 3 _ rfl
  rw [z0] at f3
  obtain ⟨d3, r3⟩ := (opens_int Tryd.underlying2) enc W base spare held n _ _ f3
  have f4 : DataW.trod enc Tryd.prog W base spare held n 2 (([c0, c1, c2, c3, c4].drop 4).take (Tryd.prog.cellsOf 2)) = some y4 := hfi 4 _ rfl
  rw [z0] at f4
  obtain ⟨d4, r4⟩ := (opens_int Tryd.underlying2) enc W base spare held n _ _ f4
  exact ⟨⟨d0, d1, d2, d3, d4⟩, (reads_pair r0 (reads_pair r1 (reads_pair r2 (reads_pair r3 r4))))⟩

end Go.Proofs.YtkmfkaljdngigaaDoor

namespace Go.Proofs.YtkmfkaljdngigaaDoor
open Go.RowKit

set_option maxRecDepth 10000 in
theorem opens_Msg : Opens Lay.tMsg 26 := by
  intro H enc W base spare held fuel cs x h
  obtain ⟨xs, n, _, _, hlen, hl, hfi⟩ := DataW.trod_struct Tryd.underlying26 h
  rw [show Tryd.prog.cellsOf 26 = 10 by kernel_rfl] at hlen
  match cs, hlen with
  | [c0, c1, c2, c3, c4, c5, c6, c7, c8, c9], _ =>
  match xs, hl with
  | [y0, y1, y2, y3, y4, y5], _ =>
  have z0 : Tryd.prog.cellsOf 2 = 1 := by kernel_rfl
  have z1 : Tryd.prog.cellsOf 24 = 5 := by kernel_rfl
  have f0 : DataW.trod enc Tryd.prog W base spare held n 2 (([c0, c1, c2, c3, c4, c5, c6, c7, c8, c9].drop 0).take (Tryd.prog.cellsOf 2)) = some y0 := hfi 0 _ rfl
  rw [z0] at f0
  obtain ⟨d0, r0⟩ := (opens_int Tryd.underlying2) enc W base spare held n _ _ f0
  have f1 : DataW.trod enc Tryd.prog W base spare held n 2 (([c0, c1, c2, c3, c4, c5, c6, c7, c8, c9].drop 1).take (Tryd.prog.cellsOf 2)) = some y1 := hfi 1 _ rfl
  rw [z0] at f1
  obtain ⟨d1, r1⟩ := (opens_int Tryd.underlying2) enc W base spare held n _ _ f1
  have f2 : DataW.trod enc Tryd.prog W base spare held n 2 (([c0, c1, c2, c3, c4, c5, c6, c7, c8, c9].drop 2).take (Tryd.prog.cellsOf 2)) = some y2 := hfi 2 _ rfl
  rw [z0] at f2
  obtain ⟨d2, r2⟩ := (opens_int Tryd.underlying2) enc W base spare held n _ _ f2
  have f3 : DataW.trod enc Tryd.prog W base spare held n 2 (([c0, c1, c2, c3, c4, c5, c6, c7, c8, c9].drop 3).take (Tryd.prog.cellsOf 2)) = some y3 := hfi 3 _ rfl
  rw [z0] at f3
  obtain ⟨d3, r3⟩ := (opens_int Tryd.underlying2) enc W base spare held n _ _ f3
  have f4 : DataW.trod enc Tryd.prog W base spare held n 2 (([c0, c1, c2, c3, c4, c5, c6, c7, c8, c9].drop 4).take (Tryd.prog.cellsOf 2)) = some y4 := hfi 4 _ rfl
  rw [z0] at f4
  obtain ⟨d4, r4⟩ := (opens_int Tryd.underlying2) enc W base spare held n _ _ f4
  have f5 : DataW.trod enc Tryd.prog W base spare held n 24 (([c0, c1, c2, c3, c4, c5, c6, c7, c8, c9].drop 5).take (Tryd.prog.cellsOf 24)) = some y5 := hfi 5 _ rfl
  rw [z1] at f5
  obtain ⟨d5, r5⟩ := (opens_Write) enc W base spare held n _ _ f5
  exact ⟨⟨d0, d1, d2, d3, d4, d5⟩, (reads_pair r0 (reads_pair r1 (reads_pair r2 (reads_pair r3 (reads_pair r4 r5)))))⟩

end Go.Proofs.YtkmfkaljdngigaaDoor
