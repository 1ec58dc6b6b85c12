/-
  Texts of this proof in one: AppIntsAt, DrawRL8, SamePlain, TornPlain, LogsPlain, Big, LwAt, ImplJoined, CopyExt, VecOf, ImplDeed.
  Their conditions stand in their theorems.
-/
import Derived.Test.YtipomhpimmnchaaLq05
import Derived.Test.YtipomhpimmnchaaLq07
import Derived.Deep.RegionHeld3
import Derived.Test.YtipomhpimmnchaaLq03
import Derived.Test.YtipomhpimmnchaaLq01
import Derived.Test.YtipomhpimmnchaaLq06
import Derived.Test.YtipomhpimmnchaaChecked
import Derived.Test.YtipomhpimmnchaaLq02
import Derived.Laws.CopyOwn
import Derived.WalkSmall
import Derived.Outline
import Derived.Test.YtipomhpimmnchaaLq04

namespace Go.Proofs.Ytipomhpimmnchaa
open Go.RowKit

theorem step_append_ints {w : World} {base : Nat} {v : Value} {n : Nat} {xs : List Value} (hown : w.ownsRow base 2 1 v n xs) {X : Value} {ks : List Int} (hx : IsInts w X ks)
    {ops : Array Oper} {o : Oper} {a : Act} {K : Act → World → Prop} {Q : Exit → Act → World → Prop} {E : Prop} (hgd : o.guard = none) (s x : Operand)
    (ho : o.op = .call { callee := .builtin .append, args := #[s, x], argTypes := #[24, 24] }) (hv : a.eval s = v) (hX : a.eval x = X)
    (hn : n + ks.length ≤ 100000000) (hbase : base ≤ w.heap.size)
    (h : ∀ v' w', w'.ownsRow base 2 1 v' (n + ks.length) (xs ++ ks.map (Value.int .i64)) → w.grownBy w' v.ownBlock → Below base w w' → K (a.put o.dst v') w') :
    if Region.wanted o (yielded ops a.tmps) = true then Oper.wp Try.prog o a w K Q else E := by
  rw [if_pos (show Region.wanted o (yielded ops a.tmps) = true by simp [Region.wanted, hgd])]
  obtain ⟨v', w', hr, h2, h3⟩ := run_append_ints base o.type v n xs hown X ks hx hn hbase
  unfold Oper.wp execOp
  simp only [ho, resolve, invoke, builtin, Sem.run_bind, Sem.run_pure, Result.andThen_ok, List.map_toArray, List.map_cons, List.map_nil, hv, hX, hr]
  exact h v' w' h2 h3 ((Below.refl _ _).grown h3 hbase (fun j hj => (hown.lt j hj).1))

end Go.Proofs.Ytipomhpimmnchaa

namespace Go.Proofs.Ytipomhpimmnchaa
open Go.RowKit

set_option maxRecDepth 100000 in
set_option maxHeartbeats 4000000 in
theorem drawRL (ao : Option Addr) (len cap : Nat) (w0 : World) (hc0 : IsCode w0.heap.size w0 (.slice ao len cap)) :
    Calls Try.prog 50 #[.slice ao len cap] w0 fun e w' => ∃ (v : Value) (zs : List Int), e = .returned v ∧ (Lay.sl Lay.int).Reads w' [v] zs ∧ zs.length ≤ 1000 ∧ Below w0.heap.size w0 w' := by
  obtain ⟨cv, hcv⟩ : ∃ cv, cv = Value.slice ao len cap := ⟨_, rfl⟩
  have nb0 : Below w0.heap.size w0 (w0.alloc (.cells #[.slice ao len cap, .int .i64 0] 115)) := (Below.refl _ _).alloc (Nat.le_refl _) _
  have hs : SrcAt (w0.alloc (.cells #[.slice ao len cap, .int .i64 0] 115)) w0.heap.size cv 0 := by rw [hcv]; exact src_new w0 _
  have hc : IsCode w0.heap.size (w0.alloc (.cells #[.slice ao len cap, .int .i64 0] 115)) cv := by rw [hcv]; exact hc0.later nb0
  have HB00 := hide nb0
  clear nb0 hc0 hcv
  go_enter Try.func50, Try.ntmps50
  go_wp2_with fail
  refine (source ao len cap w0).mono ?_
  rintro e w ⟨rfl, hw⟩
  rw [hw] at hs hc HB00
  clear hw
  obtain ⟨b, hbe⟩ : ∃ b, w0.heap.size = b := ⟨_, rfl⟩
  rw [hbe] at hs hc ⊢
  have HBE := hide hbe
  have hbw := hs.lt
  have L := hide (drawBent8 b 0 cv w hs hc (by omega))
  clear hbe hs hc
  go_wp2_with fail
  refine (unhide L).mono ?_
  rintro e w2 ⟨cs, x, m2, rfl, hLI, n1, n2, s2, hm2, c2, g2⟩
  obtain ⟨a1, d1, a2, d2, rfl, hS, hL⟩ := open_Log hLI.reads
  have nb3 : Below w2.heap.size w2 (w2.alloc (.cells #[.slice a1 x.sure.length d1, .slice a2 x.loose.length d2] 48)) := (Below.refl _ _).alloc (Nat.le_refl _) _
  have HL : Hid (Box 0 #[.slice a1 x.sure.length d1, .slice a2 x.loose.length d2] 48 (w2.alloc (.cells #[.slice a1 x.sure.length d1, .slice a2 x.loose.length d2] 48)) w2.heap.size) := newBox (Nat.zero_le _)
  have HS3 := hide (s2.onW nb3)
  have HC3 := hide (c2.onW (by have := s2.lt; omega) nb3)
  have HB2 := hide ((unhide HB00).trans (low8 g2 (unhide HBE) (unhide HB00).size))
  have HB3 := hide ((unhide HB2).trans (nb3.mono (unhide HB2).size))
  have H0 := hide (hS.later nb3)
  have H1 := hide (hL.later nb3)
  have HWZ : Hid (w0.heap.size + 1 ≤ (w2.alloc (.cells #[.slice a1 x.sure.length d1, .slice a2 x.loose.length d2] 48)).heap.size) := by
    have h1 := s2.lt
    have h2 := unhide HBE
    show w0.heap.size + 1 ≤ (w2.alloc (.cells #[.slice a1 x.sure.length d1, .slice a2 x.loose.length d2] 48)).heap.size
    simp
    omega
  clear L hLI hS hL s2 c2 g2 nb3 HB00 HB2
  go_wp2_with fail
  generalize w2.alloc (.cells #[.slice a1 x.sure.length d1, .slice a2 x.loose.length d2] 48) = W3 at *
  refine wp_region_noPanic ?_
  refine wp_region_held_drew (S := fun w' => Below W3.heap.size W3 w') (by kernel_rfl) (Below.refl _ _).drew (fun hHeld => ?_)
  generalize W3.drew = wD at hHeld ⊢
  refine wpAnyH_take (i := 0) (oi := { dst := some 10, op := Go.Op.fieldAddr 48 (Go.Operand.tmp 4) 0, type := 0, pos := "l08_log.go:140", after := #[], guard := none }) (v := ?v0_1) rfl (by kernel_rfl) (by kernel_rfl) (by kernel_rfl) (fun _ _ _ h => h) (Or.inl ⟨by rfl, ?h0_1⟩) hHeld ?r0_1
  case h0_1 =>
    intro wS hSw
    (try dsimp only at hSw)
    go_simp
    try with_reducible rfl
  case r0_1 =>
  simp only [Act.put, List.setIfInBounds_toArray, List.set_cons_zero, List.set_cons_succ]
  refine wpAnyH_take (i := 1) (oi := { dst := some 11, op := Go.Op.load 24 (Go.Operand.tmp 10), type := 24, pos := "l08_log.go:140", after := #[{ on := 0, ground := Go.Ground.data }], guard := none }) (v := ?v1_2) rfl (by kernel_rfl) (by kernel_rfl) (by kernel_rfl) (fun _ _ _ h => h) (Or.inl ⟨by rfl, ?h1_2⟩) hHeld ?r1_2
  case h1_2 =>
    intro wS hSw
    have y0 := ((unhide HL).keep hSw).at 0 _ rfl
    simp only [List.getElem_toArray, List.getElem_cons_zero] at y0
    clear hSw
    (try dsimp only at hSw)
    go_simp
    try with_reducible rfl
  case r1_2 =>
  simp only [Act.put, List.setIfInBounds_toArray, List.set_cons_zero, List.set_cons_succ]
  refine wpAnyH_take (i := 3) (oi := { dst := some 13, op := Go.Op.fieldAddr 48 (Go.Operand.tmp 4) 1, type := 0, pos := "l08_log.go:140", after := #[], guard := none }) (v := ?v3_3) rfl (by kernel_rfl) (by kernel_rfl) (by kernel_rfl) (fun _ _ _ h => h) (Or.inl ⟨by rfl, ?h3_3⟩) hHeld ?r3_3
  case h3_3 =>
    intro wS hSw
    (try dsimp only at hSw)
    go_simp
    try with_reducible rfl
  case r3_3 =>
  simp only [Act.put, List.setIfInBounds_toArray, List.set_cons_zero, List.set_cons_succ]
  refine wpAnyH_take (i := 4) (oi := { dst := some 14, op := Go.Op.load 24 (Go.Operand.tmp 13), type := 24, pos := "l08_log.go:140", after := #[{ on := 3, ground := Go.Ground.data }], guard := none }) (v := ?v4_4) rfl (by kernel_rfl) (by kernel_rfl) (by kernel_rfl) (fun _ _ _ h => h) (Or.inl ⟨by rfl, ?h4_4⟩) hHeld ?r4_4
  case h4_4 =>
    intro wS hSw
    have y1 := ((unhide HL).keep hSw).at 1 _ rfl
    simp only [List.getElem_toArray, List.getElem_cons_zero, List.getElem_cons_succ] at y1
    clear hSw
    (try dsimp only at hSw)
    go_simp
    try with_reducible rfl
  case r4_4 =>
  simp only [Act.put, List.setIfInBounds_toArray, List.set_cons_zero, List.set_cons_succ]
  refine wpAnyH_ready (rs := [2]) (by kernel_rfl) (by simp) ?_
  refine AllReadyH.cons (o := { dst := some 12, op := Go.Op.call { callee := Go.Callee.value (Go.Operand.func 65), args := #[Go.Operand.tmp 11], argTypes := #[24] }, type := 24, pos := "l08_log.go:140", after := #[{ on := 1, ground := Go.Ground.data }], guard := none }) rfl (fun K hK => ?_) AllReadyH.nil
  go_simp
  go_at_call 65
  refine (l1Ints _ x.sure _ (Lay.ints_reads ((unhide H0).later hHeld)) (by omega)).mono ?_
  rintro e w4 ⟨v4, rfl, O4, hbw⟩
  have hS4 := hHeld.trans (hbw.mono hHeld.size)
  have hzD := hHeld.size
  have hz4 := hbw.size
  try go_wp2_with fail
  refine hK.out _ _ hS4 (fun hHeld => ?_)
  clear hK K
  try simp only [Act.put, List.setIfInBounds_toArray, List.set_cons_zero, List.set_cons_succ]
  refine wpAnyH_ready (rs := [5]) (by kernel_rfl) (by simp) ?_
  refine AllReadyH.cons (o := { dst := some 15, op := Go.Op.call { callee := Go.Callee.builtin Go.Builtin.append, args := #[Go.Operand.tmp 12, Go.Operand.tmp 14], argTypes := #[24, 24] }, type := 24, pos := "l08_log.go:140", after := #[{ on := 2, ground := Go.Ground.data }, { on := 4, ground := Go.Ground.data }, { on := 2, ground := Go.Ground.chain }], guard := none }) rfl (fun K hK => ?_) AllReadyH.nil
  refine step_append_ints O4 (Lay.ints_reads ((unhide H1).later hS4)) rfl _ _ rfl rfl rfl (by omega) hz4 ?_
  rintro v5 w5 O5 hg5 hb5
  have hS5 := hS4.trans (hb5.mono hzD)
  have hz5 := hb5.size
  refine hK.out _ _ hS5 (fun hHeld => ?_)
  clear hK K
  try simp only [Act.put, List.setIfInBounds_toArray, List.set_cons_zero, List.set_cons_succ]
  refine wpAnyH_take (i := 6) (oi := { dst := some 5, op := Go.Op.assign (Go.Operand.tmp 15), type := 24, pos := "l08_log.go:140", after := #[{ on := 5, ground := Go.Ground.data }, { on := 5, ground := Go.Ground.chain }, { on := 0, ground := Go.Ground.phase }, { on := 1, ground := Go.Ground.phase }, { on := 2, ground := Go.Ground.phase }, { on := 3, ground := Go.Ground.phase }, { on := 4, ground := Go.Ground.phase }, { on := 5, ground := Go.Ground.phase }], guard := none }) (v := ?v6_5) rfl (by kernel_rfl) (by kernel_rfl) (by kernel_rfl) (fun _ _ _ h => h) (Or.inl ⟨by rfl, ?h6_5⟩) hHeld ?r6_5
  case h6_5 =>
    intro wS hSw
    (try dsimp only at hSw)
    go_simp
    try with_reducible rfl
  case r6_5 =>
  simp only [Act.put, List.setIfInBounds_toArray, List.set_cons_zero, List.set_cons_succ]
  refine wpAnyH_done (by kernel_rfl) ?_ _
  refine NoPanic.normal ?_
  have HS9 := hide hHeld
  obtain ⟨zs, hzs⟩ : ∃ zs, zs = x.sure ++ x.loose := ⟨_, rfl⟩
  have hzl : zs.length = x.sure.length + x.loose.length := by rw [hzs, List.length_append]
  have hO : w5.ownsRow wD.heap.size 2 1 v5 zs.length (zs.map (Value.int .i64)) := by rw [hzl, hzs, List.map_append]; exact O5
  obtain ⟨a5, c5, rfl⟩ := own_shape hO
  have HWA : Hid (∀ z ∈ zs, (Lit.int .i64 z).wf = true) := by
    intro z hz
    rw [hzs] at hz
    rcases List.mem_append.1 hz with hz | hz
    · exact (Lay.ints_reads (unhide H0)).wf z hz
    · exact (Lay.ints_reads (unhide H1)).wf z hz
  have hz8 : zs.length ≤ 800 := by omega
  have HO := hide (own_mono (b' := w0.heap.size + 1) (by have := unhide HWZ; omega) hO)
  have HS5 := hide ((unhide HS3).onW (unhide HS9))
  have HC5 := hide ((unhide HC3).onW (Nat.le_of_lt (unhide HS3).lt) (unhide HS9))
  have HB5 := hide ((unhide HB3).trans ((unhide HS9).mono (unhide HB3).size))
  have HZ5 := hide (unhide HS9).size
  clear hHeld O4 O5 hO hg5 hb5 hbw hS4 hS5 hzD hz4 hz5 hzs hzl HL H0 H1 HS9
  have L6 := hide (chance5 b m2 cv w5 (unhide HS5) (unhide HC5) (by omega) 2 (by omega) (by omega))
  by_cases hz0 : zs.length = 0
  · have hd : decide ((0 : Int) < (zs.length : Int)) = false := decide_eq_false (by omega)
    have HR9 := hide (Lay.ownInts (unhide HWA) (by omega) (unhide HO)).reads
    clear L6
    go_wp2_with fail
    go_ret
    exact ⟨_, zs, rfl, unhide HR9, by omega, unhide HB5⟩
  · have hd : decide ((0 : Int) < (zs.length : Int)) = true := decide_eq_true (by omega)
    go_wp2_with fail
    refine (unhide L6).mono ?_
    rintro e w6 ⟨ch, rfl, s6, c6, g6⟩
    have HB6 := hide ((unhide HB5).trans (low8 g6 (unhide HBE) (unhide HB5).size))
    have HO6 := hide (own_ext8 (unhide HO) (ext_grown g6) (fun c hc e => by have h1 := ((unhide HO).lt c hc).1; have h2 := unhide HBE; omega))
    have HS6 := hide s6
    have HC6 := hide c6
    clear s6 c6 g6 L6 HS5 HC5 HO HB5
    cases ch with
    | false =>
      have HR9 := hide (Lay.ownInts (unhide HWA) (by omega) (unhide HO6)).reads
      go_wp2_with fail
      go_ret
      exact ⟨_, zs, rfl, unhide HR9, by omega, unhide HB6⟩
    | true =>
      have L7 := hide (nextAll b (m2 + 1) cv (zs.length : Int) w6 (unhide HS6) (unhide HC6) (by omega) (by omega) (by omega))
      go_wp2_with fail
      refine (unhide L7).mono ?_
      rintro e w7 ⟨r, rfl, hr, s7, c7, g7⟩
      have hrz : r < zs.length := by omega
      have nb8 : Below w7.heap.size w7 (w7.alloc (.cells #[.int .i64 0, .int .i64 1, .int .i64 2, .int .i64 9] 2)) := (Below.refl _ _).alloc (Nat.le_refl _) _
      have b8 : Box 0 #[.int .i64 0, .int .i64 1, .int .i64 2, .int .i64 9] 2 (w7.alloc (.cells #[.int .i64 0, .int .i64 1, .int .i64 2, .int .i64 9] 2)) w7.heap.size := newBox (Nat.zero_le _)
      have hbl := s7.lt
      have L9 := hide (pick b (m2 + 1 + 1) w7.heap.size cv [0, 1, 2, 9] _ (s7.onW nb8) (c7.onW (by omega) nb8) (by omega) (by simp) (by simp) b8.2 (by omega))
      have HB7 := hide ((unhide HB6).trans (low8 g7 (unhide HBE) (unhide HB6).size))
      have HB8 := hide ((unhide HB7).trans (nb8.mono (unhide HB7).size))
      have HO8 := hide (own_below (own_ext8 (unhide HO6) (ext_grown g7) (fun c hc e => by have h1 := ((unhide HO6).lt c hc).1; have h2 := unhide HBE; omega)) nb8)
      clear L7 s7 c7 g7 nb8 b8 HS6 HC6 HO6 HB6 HB7
      go_wp2_with fail
      refine (unhide L9).mono ?_
      rintro e w9 ⟨pz, rfl, hpz, -, -, g9⟩
      have hpw : (Lit.int .i64 pz).wf = true := by
        simp only [List.mem_cons, List.not_mem_nil, or_false] at hpz
        exact wf_of_bd (by omega)
      have HB9 := hide ((unhide HB8).trans (low8 g9 (unhide HBE) (unhide HB8).size))
      have hO9 := own_ext8 (unhide HO8) (ext_grown g9) (fun c hc e => by have h1 := ((unhide HO8).lt c hc).1; have h2 := unhide HBE; omega)
      obtain ⟨g, rfl⟩ : ∃ g, a5 = some ⟨g, 0, none⟩ := by
        rcases hO9.2 with ⟨h1, h2⟩ | ⟨g, cp, cur, h1, -⟩
        · omega
        · simp only [Value.slice.injEq] at h1; exact ⟨g, h1.1⟩
      have hgl := (hO9.lt g rfl).2
      have hgb := (hO9.lt g rfl).1
      have hcell : w9.cell? ⟨g, r, none⟩ = some (.int .i64 (zs.getD r 0)) := by
        rw [hO9.cellAt r (by have : (zs.map (Value.int .i64)).length = zs.length * 1 := hO9.1; omega)]
        simp [List.getD, hrz]
      have hfz := hO9.frozenAt r
      have hst := (hO9.stored r (.int .i64 pz)).1
      have HST : Hid (World.ownsRow (w9.setCell ⟨g, r, none⟩ (.int .i64 pz)) (w0.heap.size + 1) 2 1 (.slice (some ⟨g, 0, none⟩) zs.length c5) zs.length ((zs.set r pz).map (Value.int .i64))) := by
        rw [List.map_set]
        exact hst
      have HW9 : Hid (∀ z ∈ zs.set r pz, (Lit.int .i64 z).wf = true) := fun z hz => by
        rcases List.mem_or_eq_of_mem_set hz with h1 | h1
        · exact unhide HWA z h1
        · rw [h1]; exact hpw
      have hls : (zs.set r pz).length = zs.length := by simp
      have HLS := hide hls
      have HBF : Hid (Below w0.heap.size w0 (w9.setCell ⟨g, r, none⟩ (.int .i64 pz))) := (unhide HB9).setCell (by simp; omega) _
      clear L9 g9 hpz hO9 hst hls HB8 HO8 HB9
      go_wp2_with fail
      go_ret
      refine ⟨_, zs.set r pz, rfl, ?_, by have := unhide HLS; omega, unhide HBF⟩
      have h9 := (Lay.ownInts (zs := zs.set r pz) (unhide HW9) (by have := unhide HLS; omega) (by rw [unhide HLS]; exact unhide HST)).reads
      exact h9

end Go.Proofs.Ytipomhpimmnchaa

namespace Go.Proofs.Ytipomhpimmnchaa
open Go.RowKit

def sameW (x y : DWrite) : Bool := x.kind == y.kind && (x.id == y.id && (x.session == y.session && (x.seq == y.seq && decide (x.vec = y.vec))))
def sameWs : List DWrite → List DWrite → Bool
  | [], [] => true
  | x :: xs, y :: ys => sameW x y && sameWs xs ys
  | _, _ => false
theorem sameWs_len {xs ys : List DWrite} (h : xs.length ≠ ys.length) : sameWs xs ys = false := by
  induction xs generalizing ys with
  | nil => match ys, h with | y :: ys, _ => rfl
  | cons x xs ih =>
    match ys, h with
    | [], _ => rfl
    | y :: ys, h => rw [sameWs, ih (by simpa using h), Bool.and_false]
theorem sameWs_at {xs ys : List DWrite} (k : Nat) (h1 : k < xs.length) (h2 : k < ys.length) (h : sameW xs[k] ys[k] = false) : sameWs xs ys = false := by
  induction xs generalizing ys k with
  | nil => simp at h1
  | cons x xs ih =>
    match ys, k with
    | y :: ys, 0 => rw [sameWs, show sameW x y = false by simpa using h, Bool.false_and]
    | y :: ys, k + 1 => rw [sameWs, ih k (by simpa using h1) (by simpa using h2) (by simpa using h), Bool.and_false]
theorem sameWs_all {xs ys : List DWrite} (hl : xs.length = ys.length) (h : ∀ k (h1 : k < xs.length) (h2 : k < ys.length), sameW xs[k] ys[k] = true) : sameWs xs ys = true := by
  induction xs generalizing ys with
  | nil => match ys, hl with | [], _ => rfl
  | cons x xs ih =>
    match ys, hl with
    | y :: ys, hl =>
      rw [sameWs, show sameW x y = true from h 0 (by simp) (by simp), ih (by simpa using hl) fun k h1 h2 => h (k + 1) (by simpa using h1) (by simpa using h2), Bool.true_and]
theorem sameWs_refl_self (x : DWrite) : sameW x x = true := by simp [sameW]

end Go.Proofs.Ytipomhpimmnchaa

namespace Go.Proofs.Ytipomhpimmnchaa
open Go.RowKit

/-- A drop of the item 1, the first of session 1. -/
def dropOne : DWrite := ⟨2, 1, [], 1, 1⟩
theorem sameWs_self (xs : List DWrite) : sameWs xs xs = true := sameWs_all rfl fun _ _ _ => sameWs_refl_self _
theorem read_take_all (zs : List Int) : cnt (zs.take (8 * cnt zs)) = cnt zs ∧ readL (zs.take (8 * cnt zs)) = readL zs := by
  have h := packs_read zs
  have hr := readL_right zs
  rw [← h]
  exact ⟨by rw [cnt_packs _ hr, read_len], read_packs _ hr⟩
theorem read_first {zs ys : List Int} {k : Nat} (h1 : k ≤ cnt zs) (h2 : ∀ j, j < k → pieceAt zs j = pieceAt ys j) (h3 : cnt ys = k) : readL ys = (readL zs).take k := by
  refine List.ext_getElem (by rw [List.length_take, read_len, read_len]; omega) fun j a b => ?_
  have hj : j < k := by rw [read_len] at a; omega
  rw [read_at, List.getElem_take, read_at, wAt, wAt, h2 j hj]
theorem torn_plain {x : DLog} {kept : Int} (hf : logFault x = 0) (hk : 0 ≤ kept ∧ kept ≤ x.loose.length) :
    ∃ (SS : List Int) (n A : Nat) (NW AW SW : List DWrite) (c ca : Int) (lo : DLog), crashLogR x kept = ⟨0, (n : Int), ⟨SS, []⟩⟩ ∧ SS.length ≤ 320 ∧ logFault ⟨SS, []⟩ = 0 ∧ readLogR x.sure = ⟨0, SW⟩ ∧ SW.length ≤ n ∧
      readLogR (x.sure ++ x.loose) = ⟨0, AW⟩ ∧ AW.length = A ∧ n ≤ A ∧ A ≤ 40 ∧ readLogR SS = ⟨0, NW⟩ ∧ NW.length = n ∧ sameWs NW (AW.take n) = true ∧ syncLogR x = ⟨0, (A : Int), ⟨x.sure ++ x.loose, []⟩⟩ ∧
      appendLogR x dropOne = ⟨c, ca, lo⟩ ∧ (c = 2 ∨ c = 0 ∧ ca = (A : Int) + 1) := by
  obtain ⟨hn, hs, hl⟩ := logFault_zero hf
  obtain ⟨k, rfl⟩ : ∃ k : Nat, kept = (k : Int) := ⟨kept.toNat, by omega⟩
  have hk1 : k ≤ x.loose.length := by omega
  obtain ⟨zs, hzs⟩ : ∃ zs, zs = x.sure ++ x.loose.take k := ⟨_, rfl⟩
  have hcz : cnt zs = cnt x.sure + k / 8 := by rw [hzs, cnt_append hs, cnt_take hl hk1]
  have hca : cnt (x.sure ++ x.loose) = cnt x.sure + cnt x.loose := cnt_append hs
  have hzl : zs.length = x.sure.length + k := by rw [hzs, List.length_append, List.length_take]; omega
  have hclz := cnt_le zs
  obtain ⟨t1, t2⟩ := read_take_all zs
  have hSl : (zs.take (8 * cnt zs)).length = 8 * cnt zs := by rw [List.length_take]; omega
  have hsame : readL zs = (readL (x.sure ++ x.loose)).take (cnt zs) := by
    refine read_first (by rw [hcz, hca]; omega) (fun j hj => ?_) rfl
    have e : x.sure ++ x.loose = zs ++ x.loose.drop k := by rw [hzs, List.append_assoc, List.take_append_drop]
    rw [e, piece_left (by omega)]
  have hcr : crashLogR x (k : Int) = ⟨0, ((cnt zs : Nat) : Int), ⟨zs.take (8 * cnt zs), []⟩⟩ := by
    rw [crashLogR, if_pos hf, if_pos hk, keptOf, Int.toNat_natCast, ← hzs, logOf, hSl]
    have : (8 * cnt zs + ([] : List Int).length) / 8 = cnt zs := by simp
    rw [this]
  have hdr : wF dropOne = 0 := by decide
  have h8 := packD_len hdr
  refine ⟨zs.take (8 * cnt zs), cnt zs, cnt x.sure + cnt x.loose, readL zs, readL (x.sure ++ x.loose), readL x.sure, (appendLogR x dropOne).code, (appendLogR x dropOne).count, (appendLogR x dropOne).log, hcr, by omega, ?_, ?_, by rw [read_len]; omega, ?_, by rw [read_len, hca], by omega, by omega, ?_, read_len zs, ?_, ?_, rfl, ?_⟩
  · rw [logFault, if_neg (by simp only [List.length_nil]; omega), if_pos ⟨by show 8 * cnt (zs.take (8 * cnt zs)) = _; rw [t1]; exact hSl.symm, by rfl⟩]
  · rw [readLogR, if_neg (by omega)]
  · rw [readLogR, if_neg (by rw [List.length_append]; omega)]
  · rw [readLogR, if_neg (by omega), t2]
  · rw [hsame]
    exact sameWs_self _
  · rw [syncLogR, if_pos hf, logOf, List.length_append, List.length_nil]
    have : (x.sure.length + x.loose.length + 0) / 8 = cnt x.sure + cnt x.loose := by omega
    rw [this]
  · unfold appendLogR
    rw [if_pos hf, if_pos hdr]
    by_cases hm : 320 ≤ x.sure.length + x.loose.length
    · rw [if_pos hm]
      exact Or.inl rfl
    · rw [if_neg hm]
      refine Or.inr ⟨rfl, ?_⟩
      show (((x.sure.length + (x.loose ++ packD dropOne).length) / 8 : Nat) : Int) = _
      rw [List.length_append, h8]
      have : (x.sure.length + (x.loose.length + 8)) / 8 = cnt x.sure + cnt x.loose + 1 := by omega
      rw [this]
      omega

end Go.Proofs.Ytipomhpimmnchaa

namespace Go.Proofs.Ytipomhpimmnchaa
open Go.RowKit

theorem logs_plain {ws : List DWrite} (hl : ws.length ≤ 40) (hf : wsFrom ws = 0) (k : Nat) (hk : k ≤ 8 * ws.length) :
    packAllR ws = ⟨0, packs ws⟩ ∧ (packs ws).length = 8 * ws.length ∧ readLogR (packs ws) = ⟨0, ws⟩ ∧ readLogR ((packs ws).take k) = ⟨0, ws.take (k / 8)⟩ := by
  have ha := wsFrom_zero hf
  have hp := packs_len ws ha
  have hc := cnt_packs ws ha
  have hr := read_packs ws ha
  refine ⟨by rw [packAllR, if_neg (by omega), if_pos hf], hp, by rw [readLogR, if_neg (by omega), hr], ?_⟩
  have hlt : ((packs ws).take k).length = k := by rw [List.length_take]; omega
  rw [readLogR, if_neg (by omega)]
  have hct : cnt ((packs ws).take k) = k / 8 := cnt_take (by omega) (by omega)
  have e : packs ws = (packs ws).take k ++ (packs ws).drop k := (List.take_append_drop k _).symm
  rw [read_first (zs := packs ws) (ys := (packs ws).take k) (k := k / 8) (by omega) (fun j hj => by
    have h1 := piece_left (xs := (packs ws).take k) (ys := (packs ws).drop k) (j := j) (by omega)
    rw [← e] at h1
    exact h1) hct, hr]

end Go.Proofs.Ytipomhpimmnchaa

namespace Go.Proofs.Ytipomhpimmnchaa
open Go.RowKit

theorem big_no (ao : Option Addr) (len cap : Nat) (w : World) (hn : len ≤ 1048576) :
    Calls Try.prog 47 #[.slice ao len cap] w fun e w' => e = .returned (.bool false) ∧ w' = w := by
  have hd : decide (1048576 < (len : Int)) = false := by simp; omega
  go_enter Try.func47, Try.ntmps47
  go_wp2
  go_ret
  exact ⟨rfl, rfl⟩

theorem big_yes (ao : Option Addr) (len cap : Nat) (w : World) (hn : 1048576 < len) :
    Calls Try.prog 47 #[.slice ao len cap] w fun e w' => e = .returned (.bool true) ∧ w' = w := by
  have hd : decide (1048576 < (len : Int)) = true := by simp; omega
  go_enter Try.func47, Try.ntmps47
  go_wp2
  go_ret
  exact ⟨rfl, rfl⟩

/-- A function that computes: what it answers wherever w1 stands. -/
def Tells (P : Program) (f : Nat) (args : Array Value) (w1 : World) (v : Value) : Prop :=
  ∀ W, Below w1.heap.size w1 W → Calls P f args W fun e w' => e = .returned v ∧ Below W.heap.size W w'

theorem below_step {w1 W W' : World} (h : Below w1.heap.size w1 W) (k : Below W.heap.size W W') : Below w1.heap.size w1 W' := h.trans (k.mono h.size)

end Go.Proofs.Ytipomhpimmnchaa

namespace Go.Proofs.Ytipomhpimmnchaa
open Go.RowKit

theorem lwAt_one (ao : Option Addr) (len cap : Nat) (i : Nat) (w : World) :
    Calls Try.prog 49 #[.slice ao len cap, .int .i64 i, .int .i64 1] w fun e w' => e = .returned (.int .i64 0) ∧ Below w.heap.size w w' := by
  go_enter Try.func49, Try.ntmps49
  go_wp2
  go_ret
  exact ⟨rfl, Below.refl _ _⟩

set_option maxHeartbeats 400000 in
theorem lwAt_empty (ao : Option Addr) (cap : Nat) (i : Nat) (n : Int) (w : World) (hi : i ≤ 1000000) (hn : 1 < n) (hn2 : n ≤ 1000000) :
    Calls Try.prog 49 #[.slice ao 0 cap, .int .i64 i, .int .i64 n] w fun e w' => ∃ r : Int, e = .returned (.int .i64 r) ∧ (0 ≤ r ∧ r < n) ∧ Below w.heap.size w w' := by
  have hd : (n == 0) = false := by rw [beq_eq_false_iff_ne]; omega
  have hd2 : decide (n ≤ 1) = false := by simp; omega
  go_enter Try.func49, Try.ntmps49
  go_wp2
  go_ret
  exact ⟨_, rfl, ⟨Int.emod_nonneg _ (by omega), Int.emod_lt_of_pos _ (by omega)⟩, Below.refl _ _⟩

set_option maxHeartbeats 1000000 in
theorem lwAt_some (cb off k cap i : Nat) (n : Int) (w : World) (hi : i ≤ 1000000) (hn : 1 < n) (hn2 : n ≤ 1000000) (hk : 0 < k) (hk2 : k ≤ 1048576)
    (hc : ∀ j, j < k → ∃ z : Int, w.cell? ⟨cb, off + j, none⟩ = some (.int .u8 z) ∧ 0 ≤ z ∧ z ≤ 255) :
    Calls Try.prog 49 #[.slice (some ⟨cb, off, none⟩) k cap, .int .i64 i, .int .i64 n] w fun e w' => ∃ r : Int, e = .returned (.int .i64 r) ∧ (0 ≤ r ∧ r < n) ∧ Below w.heap.size w w' := by
  obtain ⟨z, hz, z1, z2⟩ := hc (i % k) (Nat.mod_lt _ hk)
  obtain ⟨y, hy, y1, y2⟩ := hc ((i + 1) % k) (Nat.mod_lt _ hk)
  obtain ⟨q1, q2⟩ := quot_bd i k (by omega)
  have hd : (n == 0) = false := by rw [beq_eq_false_iff_ne]; omega
  have hd2 : ((k : Int) == 0) = false := by rw [beq_eq_false_iff_ne]; omega
  have hd3 : decide (n ≤ 1) = false := by simp; omega
  have r1 : 0 ≤ (i : Int) % (k : Int) := Int.emod_nonneg _ (by omega)
  have r2 : (i : Int) % (k : Int) < (k : Int) := Int.emod_lt_of_pos _ (by omega)
  have r3 : 0 ≤ ((i : Int) + 1) % (k : Int) := Int.emod_nonneg _ (by omega)
  have r4 : ((i : Int) + 1) % (k : Int) < (k : Int) := Int.emod_lt_of_pos _ (by omega)
  clear hc
  by_cases h200 : 200 < n
  · have hd4 : decide (200 < n) = true := by simp; omega
    go_enter Try.func49, Try.ntmps49
    go_wp2
    go_quiet (fail)
    go_wp2
    go_ret
    exact ⟨_, rfl, ⟨Int.emod_nonneg _ (by omega), Int.emod_lt_of_pos _ (by omega)⟩, below_drewN (Below.refl _ _) _⟩
  · have hd4 : decide (200 < n) = false := by simp; omega
    go_enter Try.func49, Try.ntmps49
    go_wp2
    go_quiet (fail)
    go_wp2
    go_ret
    exact ⟨_, rfl, ⟨Int.emod_nonneg _ (by omega), Int.emod_lt_of_pos _ (by omega)⟩, below_drewN (Below.refl _ _) _⟩

/-- lwAt: a number below n. -/
theorem lwAt {B : Nat} (ao : Option Addr) (len cap i n : Nat) (w : World) (hc : IsCode B w (.slice ao len cap)) (hi : i ≤ 1000000) (hn : 1 ≤ n) (hn2 : n ≤ 1000000) :
    Calls Try.prog 49 #[.slice ao len cap, .int .i64 i, .int .i64 n] w fun e w' => ∃ r : Nat, e = .returned (.int .i64 r) ∧ r < n ∧ Below w.heap.size w w' := by
  have fin : ∀ (e : Ending) (w' : World), (∃ r : Int, e = .returned (.int .i64 r) ∧ (0 ≤ r ∧ r < (n : Int)) ∧ Below w.heap.size w w') → ∃ r : Nat, e = .returned (.int .i64 r) ∧ r < n ∧ Below w.heap.size w w' := by
    rintro e w' ⟨r, rfl, ⟨h1, h2⟩, h3⟩
    obtain ⟨j, rfl⟩ := Int.eq_ofNat_of_zero_le h1
    exact ⟨j, rfl, by omega, h3⟩
  obtain ⟨ao', len', cap', he, hl, hc1⟩ := hc
  simp only [Value.slice.injEq] at he
  obtain ⟨rfl, rfl, rfl⟩ := he
  by_cases h1 : n = 1
  · subst h1
    refine (lwAt_one ao len cap i w).mono ?_
    rintro e w' ⟨rfl, h⟩
    exact ⟨0, rfl, by omega, h⟩
  · by_cases hp : 0 < len
    · obtain ⟨cb, off, rfl, hB, hc2⟩ := hc1 hp
      exact (lwAt_some cb off len cap i n w hi (by omega) (by omega) hp hl hc2).mono fin
    · obtain rfl : len = 0 := by omega
      exact (lwAt_empty ao cap i n w hi (by omega) (by omega)).mono fin

end Go.Proofs.Ytipomhpimmnchaa

namespace Go.Proofs.Ytipomhpimmnchaa
open Go.RowKit

theorem own_full {w : World} {base e g n : Nat} {xs : List Value} (h : w.ownsRow base e 1 (.slice (some ⟨g, 0, none⟩) n n) n xs) : w.heap[g]? = some (.cells xs.toArray e (0, 0)) ∧ base ≤ g ∧ xs.length = n := by
  obtain ⟨hl, h⟩ := h
  rcases h with ⟨h, -⟩ | ⟨g', cap, cur, hv, hb, hh, -, -, hs, ht⟩
  · cases h
  · simp only [Value.slice.injEq, Option.some.injEq, Addr.mk.injEq, and_true, true_and] at hv
    obtain ⟨rfl, rfl⟩ := hv
    refine ⟨?_, hb, by omega⟩
    rw [hh]
    rw [List.take_of_length_le (by simp; omega)] at ht
    rw [← ht]
theorem full_own {w : World} {base e g n : Nat} {xs : List Value} (h : w.heap[g]? = some (.cells xs.toArray e (0, 0))) (hb : base ≤ g) (hl : xs.length = n) (hn : n ≤ maxLen) : w.ownsRow base e 1 (.slice (some ⟨g, 0, none⟩) n n) n xs :=
  ⟨by omega, Or.inr ⟨g, n, xs.toArray, rfl, hb, h, Nat.le_refl _, hn, by simpa using hl, by rw [Nat.mul_one, ← hl, List.take_length]⟩⟩
theorem news_reads {w : World} {ao : Option Addr} {n cap : Nat} {zs : List Int} (h : (Lay.sl Lay.int).Reads w [.slice ao n cap] zs) (hp : 0 < zs.length) : ∃ ad, ao = some ad ∧ ∀ j u, (zs.map (Value.int .i64))[j]? = some u → w.cell? (ad.add j) = some u := by
  have hc := h.cap.1
  subst hc
  obtain ⟨b, off, rfl, -⟩ := Lay.sl_addr h hp
  exact ⟨_, rfl, (Lay.ints_reads h).news hp⟩
theorem size_int : (Try.prog.info? 2).map (·.size) = some 1 := by kernel_rfl
theorem splice_first (n : Nat) (X : List Value) (z : Value) : splice (List.replicate n z) 0 X = X ++ List.replicate (n - X.length) z := by
  simp [splice]
theorem splice_second (X Y : List Value) (m : Nat) (z : Value) (h : Y.length = m) : splice (X ++ List.replicate m z) X.length Y = X ++ Y := by
  simp [splice, h]

theorem splice_end (X Y : List Value) (h : Y.length = 0) : splice X X.length Y = X ++ Y := by
  obtain rfl := List.eq_nil_of_length_eq_zero h
  simp [splice]

set_option maxRecDepth 100000 in
set_option maxHeartbeats 2000000 in
theorem implJoined (u v : Value) (xs ys : List Int) (w : World) (h1 : (Lay.sl Lay.int).Reads w [u] xs) (h2 : (Lay.sl Lay.int).Reads w [v] ys) (n1 : xs.length ≤ 10000000) (n2 : ys.length ≤ 10000000) :
    Calls Try.prog 69 #[u, v] w fun e w' => ∃ m, m = xs.length + ys.length ∧ e = .returned (.slice (some ⟨w.heap.size, 0, none⟩) m m) ∧ w'.ownsRow w.heap.size 2 1 (.slice (some ⟨w.heap.size, 0, none⟩) m m) m ((xs ++ ys).map (Value.int .i64)) ∧ Below w.heap.size w w' := by
  obtain ⟨a1, d1, rfl⟩ := open_sl h1
  obtain ⟨a2, d2, rfl⟩ := open_sl h2
  obtain ⟨i0, hi, hz0, hz1, hz2⟩ := info_parts info2
  obtain ⟨X, hX⟩ : ∃ X, X = xs.map (Value.int .i64) := ⟨_, rfl⟩
  obtain ⟨Y, hY⟩ : ∃ Y, Y = ys.map (Value.int .i64) := ⟨_, rfl⟩
  have lX : X.length = xs.length := by rw [hX, List.length_map]
  have lY : Y.length = ys.length := by rw [hY, List.length_map]
  have HX := hide hX
  have HY := hide hY
  have H1 := hide h1
  have H2 := hide h2
  have HP1 : Hid (∀ W, Below w.heap.size w W → 0 < X.length → ∃ ad, a1 = some ad ∧ ∀ j u, X[j]? = some u → W.cell? (ad.add j) = some u) := fun W hW hp => by rw [hX]; exact news_reads (h1.later hW) (by omega)
  have HP2 : Hid (∀ W, Below w.heap.size w W → 0 < Y.length → ∃ ad, a2 = some ad ∧ ∀ j u, Y[j]? = some u → W.cell? (ad.add j) = some u) := fun W hW hp => by rw [hY]; exact news_reads (h2.later hW) (by omega)
  have HC1 : Hid (∀ v ∈ X, v.oneCell' = true) := by rw [hX]; intro v hv; obtain ⟨z, -, rfl⟩ := List.mem_map.1 hv; rfl
  have HC2 : Hid (∀ v ∈ Y, v.oneCell' = true) := by rw [hY]; intro v hv; obtain ⟨z, -, rfl⟩ := List.mem_map.1 hv; rfl
  generalize xs.length = nx at *
  generalize ys.length = ny at *
  clear h1 h2 hX hY
  go_enter Try.func69, Try.ntmps69
  go_wp2_with (at_make; refine wpList_make_full _ rfl _ _ 24 rfl w.heap.size 2 i0 (.int .i64 0) 1 Try.underlying24 hi hz0 hz1 _ _ _ _ (nx + ny) rfl rfl ?c0 ?c01 ?c1 ?c2 ?c3 ?_)
  case c0 => simp
  case c01 => simp
  case c1 => rw [hz2]; omega
  case c2 => unfold maxLen; omega
  case c3 => exact Nat.le_refl _
  intro w2 hown hgrow
  have hB : Below w.heap.size w w2 := (Below.refl _ _).grown hgrow (Nat.le_refl _) (by simp)
  rw [toList_madeCells_one] at hown
  obtain ⟨hh, -, -⟩ := own_full hown
  clear hgrow hi hz0 hz1 hz2 hown
  have M1 : Hid (X.length = Nat.min nx (nx + ny)) := by show X.length = _; rw [lX]; exact (Nat.min_eq_left (by omega)).symm
  have M2 : Hid (0 < X.length → some (⟨w.heap.size, 0, none⟩ : Addr) = some ⟨w.heap.size, 0, none⟩ ∧ ∃ ad, a1 = some ad ∧ ∀ j u, X[j]? = some u → w2.cell? (ad.add j) = some u) := fun hp => ⟨rfl, unhide HP1 _ hB hp⟩
  have M3 : Hid (0 + X.length ≤ (List.replicate (nx + ny) (Value.int .i64 0)).length) := by show _ ≤ _; rw [List.length_replicate]; omega
  have HH := hide hh
  clear hh
  go_wp2_with (refine wpList_copy_splice rfl _ _ _ _ rfl 2 Try.underlying24 size_int (some ⟨w.heap.size, 0, none⟩) a1 (nx + ny) (nx + ny) nx d1 (by rfl) (by rfl) w.heap.size 0 _ 2 (unhide HH) X (unhide M1) (unhide M2) (unhide M3) (unhide HC1) w.heap.size w hB (Nat.le_refl _) ?_)
  intro w3 HG3 hB3
  rw [splice_first] at HG3
  clear HH hB M1 M2 M3
  have M3 : Hid (nx + Y.length ≤ (X ++ List.replicate (nx + ny - X.length) (Value.int .i64 0)).length) := by show _ ≤ _; rw [List.length_append, List.length_replicate]; omega
  by_cases h0 : ny = 0
  · subst h0
    have M1 : Hid (Y.length = Nat.min 0 0) := lY
    have M2 : Hid (0 < Y.length → some (⟨w.heap.size, 0, none⟩ : Addr) = some ⟨w.heap.size, nx, none⟩ ∧ ∃ ad, a2 = some ad ∧ ∀ j u, Y[j]? = some u → w3.cell? (ad.add j) = some u) := fun hp => by omega
    go_wp2_with (refine wpList_copy_splice rfl _ _ _ _ rfl 2 Try.underlying24 size_int (some ⟨w.heap.size, 0, none⟩) a2 0 0 0 d2 (by rfl) (by rfl) w.heap.size nx _ 2 (unhide HG3) Y (unhide M1) (unhide M2) (unhide M3) (unhide HC2) w.heap.size w hB3 (Nat.le_refl _) ?_)
    intro w4 HG4 hB4
    have HF : Hid (w4.ownsRow w.heap.size 2 1 (.slice (some ⟨w.heap.size, 0, none⟩) nx nx) nx ((xs ++ ys).map (Value.int .i64))) := by
      refine full_own (xs := (xs ++ ys).map (Value.int .i64)) ?_ (Nat.le_refl _) ?_ (by unfold maxLen; omega)
      · have hg := unhide HG4
        rw [← lX, splice_end X Y (by omega)] at hg
        rw [List.map_append, ← unhide HX, ← unhide HY]
        exact hg
      · rw [List.map_append, ← unhide HX, ← unhide HY, List.length_append]; omega
    have HB4 := hide hB4
    clear HG3 HG4 hB3 hB4 M1 M2 M3
    go_wp2_with fail
    go_ret
    exact ⟨_, rfl, rfl, unhide HF, unhide HB4⟩
  · have hp0 : 0 < ny := by omega
    have M1 : Hid (Y.length = Nat.min ny ny) := by show Y.length = _; rw [lY]; exact (Nat.min_self _).symm
    have M2 : Hid (0 < Y.length → some (⟨w.heap.size, nx, none⟩ : Addr) = some ⟨w.heap.size, nx, none⟩ ∧ ∃ ad, a2 = some ad ∧ ∀ j u, Y[j]? = some u → w3.cell? (ad.add j) = some u) := fun hp => ⟨rfl, unhide HP2 _ hB3 hp⟩
    go_wp2_with (refine wpList_copy_splice rfl _ _ _ _ rfl 2 Try.underlying24 size_int (some ⟨w.heap.size, nx, none⟩) a2 ny ny ny d2 (by rfl) (by rfl) w.heap.size nx _ 2 (unhide HG3) Y (unhide M1) (unhide M2) (unhide M3) (unhide HC2) w.heap.size w hB3 (Nat.le_refl _) ?_)
    intro w4 HG4 hB4
    have HF : Hid (w4.ownsRow w.heap.size 2 1 (.slice (some ⟨w.heap.size, 0, none⟩) (nx + ny) (nx + ny)) (nx + ny) ((xs ++ ys).map (Value.int .i64))) := by
      refine full_own (xs := (xs ++ ys).map (Value.int .i64)) ?_ (Nat.le_refl _) ?_ (by unfold maxLen; omega)
      · have hg := unhide HG4
        rw [← lX, splice_second X Y _ _ (by omega)] at hg
        rw [List.map_append, ← unhide HX, ← unhide HY]
        exact hg
      · rw [List.map_append, ← unhide HX, ← unhide HY, List.length_append]; omega
    have HB4 := hide hB4
    clear HG3 HG4 hB3 hB4 M1 M2 M3
    go_wp2_with fail
    go_ret
    exact ⟨_, rfl, rfl, unhide HF, unhide HB4⟩

end Go.Proofs.Ytipomhpimmnchaa

namespace Go.Proofs.Ytipomhpimmnchaa
open Go.RowKit

theorem ext_setRow (w : World) (g : Nat) (cs : Array Value) : Ext (fun q => q = g) w (w.setRow g cs) := ⟨rfl, rfl, rfl, by simp [World.setRow], fun k _ hn => setRow_other w g k cs (fun e => hn e)⟩
theorem step_copy_ext {P : Program} {ops : Array Oper} {o : Oper} {a : Act} {w : World} {K : Act → World → Prop} {Q : Exit → Act → World → Prop} {E : Prop} (hgd : o.guard = none) (d s : Operand) (dT sT : TypeId)
    (ho : o.op = .call { callee := .builtin .copy, args := #[d, s], argTypes := #[dT, sT] }) (elem : TypeId) (hu : P.underlying dT = some (.slice elem)) (hsz : (P.info? elem).map (·.size) = some 1)
    (dp sp : Option Addr) (dLen dCap sLen sCap : Nat) (hd : a.eval d = .slice dp dLen dCap) (hs : a.eval s = .slice sp sLen sCap)
    (g off : Nat) (cur : List Value) (t : TypeId) (hg : w.heap[g]? = some (.cells cur.toArray t (0, 0))) (cs : List Value) (hn : cs.length = Nat.min sLen dLen)
    (hpos : 0 < cs.length → dp = some ⟨g, off, none⟩ ∧ ∃ ad, sp = some ad ∧ ∀ j v, cs[j]? = some v → w.cell? (ad.add j) = some v)
    (hfit : off + cs.length ≤ cur.length) (h1 : ∀ v ∈ cs, v.oneCell' = true)
    (h : ∀ w', Hid (w'.heap[g]? = some (.cells (splice cur off cs).toArray t (0, 0))) → Ext (fun q => q = g) w w' → K (a.put o.dst (goInt cs.length)) w') :
    if Region.wanted o (yielded ops a.tmps) = true then Oper.wp P o a w K Q else E := by
  have hw : Region.wanted o (yielded ops a.tmps) = true := by simp [Region.wanted, hgd]
  rw [if_pos hw]
  by_cases h0 : cs.length = 0
  · obtain rfl : cs = [] := List.eq_nil_of_length_eq_zero h0
    have hrun := run_copy_none (P := P) w dT sT o.type elem dp sp dLen dCap sLen sCap hu hsz (by simpa using hn.symm)
    unfold Oper.wp
    simp [execOp, ho, resolve, invoke, builtin, hd, hs, hrun, Result.andThen]
    exact h w (show _ = _ by simpa [splice] using hg) (Ext.refl _ _)
  · obtain ⟨rfl, ad, rfl, hsrc⟩ := hpos (by omega)
    have hrun := run_copy_row (P := P) w dT sT o.type elem g off dLen dCap ad sLen sCap cur.toArray t cs hu hsz hg hn hsrc (by simpa using hfit) h1
    unfold Oper.wp
    simp [execOp, ho, resolve, invoke, builtin, hd, hs, hrun, Result.andThen]
    exact h _ (show _ = _ by simpa [splice] using setRow_heap w g _ _ t _ hg) (ext_setRow w g _)

end Go.Proofs.Ytipomhpimmnchaa

namespace Go.Proofs.Ytipomhpimmnchaa
open Go.RowKit

theorem bcell {W w1 : World} (hb : Below W.heap.size W w1) : (∀ b o, b < W.heap.size → w1.cell? ⟨b, o, none⟩ = W.cell? ⟨b, o, none⟩) ∧ (∀ b o, b < W.heap.size → w1.frozen? ⟨b, o, none⟩ = W.frozen? ⟨b, o, none⟩) :=
  ⟨fun b o h => hb.cell (p := ⟨b, o, none⟩) h, fun b o h => hb.frozen (p := ⟨b, o, none⟩) h⟩

/-- Two blocks of three cells that were laid ahead of a call are there behind it, and may be written. -/
theorem two_kept {w w1 : World} {T : TypeId} {x0 x1 x2 y0 y1 y2 : Value} (hb : Below ((w.alloc (.cells #[x0, x1, x2] T)).alloc (.cells #[y0, y1, y2] T)).heap.size ((w.alloc (.cells #[x0, x1, x2] T)).alloc (.cells #[y0, y1, y2] T)) w1) :
    (w1.cell? ⟨w.heap.size, 0, none⟩ = some x0 ∧ w1.cell? ⟨w.heap.size, 1, none⟩ = some x1 ∧ w1.cell? ⟨w.heap.size, 2, none⟩ = some x2) ∧
    (w1.cell? ⟨w.heap.size + 1, 0, none⟩ = some y0 ∧ w1.cell? ⟨w.heap.size + 1, 1, none⟩ = some y1 ∧ w1.cell? ⟨w.heap.size + 1, 2, none⟩ = some y2) ∧
    (∀ o, w1.frozen? ⟨w.heap.size, o, none⟩ = false) ∧ (∀ o, w1.frozen? ⟨w.heap.size + 1, o, none⟩ = false) := by
  refine ⟨⟨?_, ?_, ?_⟩, ⟨?_, ?_, ?_⟩, fun o => ?_, fun o => ?_⟩
  all_goals first | rw [hb.cell (by simp [World.size_alloc]; try omega)] | rw [hb.frozen (by simp [World.size_alloc]; try omega)]
  all_goals simp [go_sem]

/-- Three numbers as an array. -/
def arr3 (x y z : Int) : Value := .agg #[.int .i64 x, .int .i64 y, .int .i64 z]

theorem IsInts.three {w : World} {v : Value} {zs : List Int} (h : IsInts w v zs) (h3 : zs.length = 3) :
    ∃ b off cap x y z, zs = [x, y, z] ∧ v = .slice (some ⟨b, off, none⟩) 3 cap ∧ b < w.heap.size ∧ w.cell? ⟨b, off, none⟩ = some (.int .i64 x) ∧ w.cell? ⟨b, off + 1, none⟩ = some (.int .i64 y) ∧ w.cell? ⟨b, off + 2, none⟩ = some (.int .i64 z) := by
  obtain ⟨ao, cap, rfl, hwf, hc⟩ := h
  match zs, h3 with
  | [x, y, z], _ =>
    obtain ⟨b, off, rfl, hc1⟩ := hc (by simp)
    have c0 := hc1 0 (by simp)
    have c1 := hc1 1 (by simp)
    have c2 := hc1 2 (by simp)
    exact ⟨b, off, cap, x, y, z, rfl, rfl, World.block_lt_of_cell? _ _ c0, by simpa using c0, by simpa using c1, by simpa using c2⟩

set_option maxHeartbeats 400000 in
theorem vectorOf_bad (v : Value) (zs : List Int) (w : World) (h : IsInts w v zs) (hf : vecFault zs ≠ 0) :
    Calls Try.prog 99 #[v] w fun e w' => e = .returned (.tuple #[arr3 0 0 0, .int .i64 (vecFault zs)]) ∧ Below w.heap.size w w' := by
  go_enter Try.func99, Try.ntmps99
  go_wp2_with fail
  refine (implFault v zs _ (h.later (((Below.refl _ _).alloc (Nat.le_refl _) _).alloc (by simp) _))).mono ?_
  rintro e w' ⟨rfl, rfl⟩
  have hne : (vecFault zs != 0) = true := by rw [bne_iff_ne]; exact hf
  go_wp2_with fail
  refine bodyPost_ret (v := .tuple #[arr3 0 0 0, .int .i64 (vecFault zs)]) (by simp [results, Try.results99, go_sem, arr3]) rfl ⟨rfl, ?_⟩
  exact ((Below.refl _ _).alloc (Nat.le_refl _) _).alloc (by simp) _

set_option maxHeartbeats 1000000 in
theorem vectorOf_three (b off cap : Nat) (x y z : Int) (w : World) (hbl : b < w.heap.size) (c0 : w.cell? ⟨b, off, none⟩ = some (.int .i64 x)) (c1 : w.cell? ⟨b, off + 1, none⟩ = some (.int .i64 y)) (c2 : w.cell? ⟨b, off + 2, none⟩ = some (.int .i64 z))
    (h : IsInts w (.slice (some ⟨b, off, none⟩) 3 cap) [x, y, z]) (hf : vecFault [x, y, z] = 0) :
    Calls Try.prog 99 #[.slice (some ⟨b, off, none⟩) 3 cap] w fun e w' => e = .returned (.tuple #[arr3 x y z, .int .i64 0]) ∧ Below w.heap.size w w' := by
  go_enter Try.func99, Try.ntmps99
  go_wp2_with fail
  refine (implFault _ [x, y, z] _ (h.later (((Below.refl _ _).alloc (Nat.le_refl _) _).alloc (by simp) _))).mono ?_
  rintro e w' ⟨rfl, rfl⟩
  rw [hf]
  clear h hf
  go_wp2_with fail
  refine wp_loop_rounds 4 ?_
  rw [rounds_succ]
  go_wp2
  rw [rounds_succ]
  go_wp2
  rw [rounds_succ]
  go_wp2
  rw [rounds_succ]
  go_wp2
  refine bodyPost_ret (v := .tuple #[arr3 x y z, .int .i64 0]) (by simp [results, Try.results99, go_sem, arr3]) rfl ⟨rfl, ?_⟩
  exact ((Below.refl _ _).alloc (Nat.le_refl _) _).alloc (by simp) _

theorem vectorOf_ok (v : Value) (x y z : Int) (w : World) (h : IsInts w v [x, y, z]) (hf : vecFault [x, y, z] = 0) :
    Calls Try.prog 99 #[v] w fun e w' => e = .returned (.tuple #[arr3 x y z, .int .i64 0]) ∧ Below w.heap.size w w' := by
  obtain ⟨b, off, cap, x', y', z', he, rfl, hbl, c0, c1, c2⟩ := h.three rfl
  simp only [List.cons.injEq, and_true] at he
  obtain ⟨rfl, rfl, rfl⟩ := he
  exact vectorOf_three b off cap x y z w hbl c0 c1 c2 h hf

end Go.Proofs.Ytipomhpimmnchaa

namespace Go.Proofs.Ytipomhpimmnchaa
open Go.RowKit

/-- A put of three parts, and a drop, as deeds. -/
def putV (x y z : Int) : Value := .iface 123 (.agg #[.int .i64 x, .int .i64 y, .int .i64 z])
def dropV : Value := .iface 119 (.agg #[])
def deedV (k : Int) (zs : List Int) : Value := if k = 1 then putV (zs.getD 0 0) (zs.getD 1 0) (zs.getD 2 0) else dropV
def deedRes (k i : Int) (zs : List Int) (s q : Int) : Value := if writeFault k i zs s q = 0 then deedV k zs else .nilIface

def Bds (i s q : Int) : Prop := (1 ≤ i ∧ i ≤ 999) ∧ (1 ≤ s ∧ s ≤ 9) ∧ 1 ≤ q ∧ q ≤ 999
theorem bound_yes {i s q : Int} (h : Bds i s q) : boundB i s q = true := by
  obtain ⟨⟨a, b⟩, ⟨c, d⟩, e, f⟩ := h
  simp [boundB, a, b, c, d, e, f]
theorem bound_no {i s q : Int} (h : ¬ Bds i s q) : boundB i s q = false := by
  rw [Bool.eq_false_iff]
  intro hb
  simp only [boundB, Bool.and_eq_true, decide_eq_true_eq] at hb
  exact h ⟨hb.1, hb.2.1, hb.2.2⟩
theorem fault_out {k i s q : Int} {zs : List Int} (hk : kindB k zs.length = true) (h : ¬ Bds i s q) : writeFault k i zs s q = 3 := by
  rw [writeFault, hk, if_pos rfl, bound_no h]; rfl
theorem fault_drop {i s q : Int} (h : Bds i s q) : writeFault 2 i [] s q = 0 := by
  rw [writeFault, show kindB 2 ([] : List Int).length = true from rfl, if_pos rfl, bound_yes h]; rfl
theorem fault_in {k i s q : Int} {zs : List Int} (hk : kindB k zs.length = true) (h : Bds i s q) : writeFault k i zs s q = if k = 1 then vecFault zs else 0 := by
  rw [writeFault, hk, if_pos rfl, bound_yes h, if_pos rfl]

def ToldDeed (w w' : World) (e : Ending) (k i : Int) (zs : List Int) (s q : Int) : Prop := e = .returned (.tuple #[deedRes k i zs s q, .int .i64 (writeFault k i zs s q)]) ∧ Below w.heap.size w w'
theorem toldDeed_bad {w w' : World} {k i s q c : Int} {zs : List Int} (hc : writeFault k i zs s q = c) (h0 : c ≠ 0) (hb : Below w.heap.size w w') : ToldDeed w w' (.returned (.tuple #[.nilIface, .int .i64 c])) k i zs s q := by
  refine ⟨?_, hb⟩
  rw [deedRes, hc, if_neg h0]
theorem toldDeed_ok {w w' : World} {k i s q : Int} {zs : List Int} {v : Value} (hc : writeFault k i zs s q = 0) (hv : v = deedV k zs) (hb : Below w.heap.size w w') : ToldDeed w w' (.returned (.tuple #[v, .int .i64 0])) k i zs s q := by
  refine ⟨?_, hb⟩
  rw [deedRes, hc, if_pos rfl, hv]

theorem isIdC (n : Int) (w : World) : Calls Try.prog 96 #[.int .i64 n] w fun e w' => e = .returned (.bool (decide (1 ≤ n) && decide (n ≤ 999))) ∧ w' = w := by
  by_cases h1 : 1 ≤ n
  · have d1 : decide (1 ≤ n) = true := by simpa using h1
    rw [d1]
    cases d2 : decide (n ≤ 999) <;>
    · go_enter Try.func96, Try.ntmps96
      go_wp2
      go_ret
      exact ⟨rfl, rfl⟩
  · have d1 : decide (1 ≤ n) = false := by simpa using h1
    rw [d1]
    go_enter Try.func96, Try.ntmps96
    go_wp2
    go_ret
    exact ⟨rfl, rfl⟩
theorem isSessionC (n : Int) (w : World) : Calls Try.prog 97 #[.int .i64 n] w fun e w' => e = .returned (.bool (decide (1 ≤ n) && decide (n ≤ 9))) ∧ w' = w := by
  by_cases h1 : 1 ≤ n
  · have d1 : decide (1 ≤ n) = true := by simpa using h1
    rw [d1]
    cases d2 : decide (n ≤ 9) <;>
    · go_enter Try.func97, Try.ntmps97
      go_wp2
      go_ret
      exact ⟨rfl, rfl⟩
  · have d1 : decide (1 ≤ n) = false := by simpa using h1
    rw [d1]
    go_enter Try.func97, Try.ntmps97
    go_wp2
    go_ret
    exact ⟨rfl, rfl⟩
theorem isSeqC (n : Int) (w : World) : Calls Try.prog 98 #[.int .i64 n] w fun e w' => e = .returned (.bool (decide (1 ≤ n) && decide (n ≤ 999))) ∧ w' = w := by
  by_cases h1 : 1 ≤ n
  · have d1 : decide (1 ≤ n) = true := by simpa using h1
    rw [d1]
    cases d2 : decide (n ≤ 999) <;>
    · go_enter Try.func98, Try.ntmps98
      go_wp2
      go_ret
      exact ⟨rfl, rfl⟩
  · have d1 : decide (1 ≤ n) = false := by simpa using h1
    rw [d1]
    go_enter Try.func98, Try.ntmps98
    go_wp2
    go_ret
    exact ⟨rfl, rfl⟩

set_option maxHeartbeats 2000000 in
theorem deedOf_put_out (i : Int) (ao : Option Addr) (cap : Nat) (s q : Int) (zs : List Int) (w : World) (hb : ¬ Bds i s q) :
    Calls Try.prog 84 #[.agg #[.int .i64 1, .int .i64 i, .slice ao zs.length cap, .int .i64 s, .int .i64 q]] w fun e w' => ToldDeed w w' e 1 i zs s q := by
  have HB : Hid (∀ o, Below w.heap.size w (w.alloc o)) := fun o => (Below.refl _ _).alloc (Nat.le_refl _) o
  have HF : Hid (writeFault 1 i zs s q = 3) := fault_out rfl hb
  have hbb := bound_no hb
  unfold boundB at hbb
  clear hb
  cases dI : (decide (1 ≤ i) && decide (i ≤ 999)) with
  | false =>
    clear hbb
    go_enter Try.func84, Try.ntmps84
    go_wp2_with fail
    refine (isIdC i _).mono ?_
    rintro e w1 ⟨rfl, rfl⟩
    rw [dI]
    go_wp2_with fail
    go_ret2
    exact toldDeed_bad (unhide HF) (by omega) (unhide HB _)
  | true =>
    cases dS : (decide (1 ≤ s) && decide (s ≤ 9)) with
    | false =>
      clear hbb
      go_enter Try.func84, Try.ntmps84
      go_wp2_with fail
      refine (isIdC i _).mono ?_
      rintro e w1 ⟨rfl, rfl⟩
      rw [dI]
      go_wp2_with fail
      refine (isSessionC s _).mono ?_
      rintro e w1 ⟨rfl, rfl⟩
      rw [dS]
      go_wp2_with fail
      go_ret2
      exact toldDeed_bad (unhide HF) (by omega) (unhide HB _)
    | true =>
      have dQ : (decide (1 ≤ q) && decide (q ≤ 999)) = false := by rw [dI, dS] at hbb; simpa using hbb
      clear hbb
      go_enter Try.func84, Try.ntmps84
      go_wp2_with fail
      refine (isIdC i _).mono ?_
      rintro e w1 ⟨rfl, rfl⟩
      rw [dI]
      go_wp2_with fail
      refine (isSessionC s _).mono ?_
      rintro e w1 ⟨rfl, rfl⟩
      rw [dS]
      go_wp2_with fail
      refine (isSeqC q _).mono ?_
      rintro e w1 ⟨rfl, rfl⟩
      rw [dQ]
      go_wp2_with fail
      go_ret2
      exact toldDeed_bad (unhide HF) (by omega) (unhide HB _)

set_option maxHeartbeats 2000000 in
theorem deedOf_drop_out (i : Int) (ao : Option Addr) (cap : Nat) (s q : Int) (w : World) (hb : ¬ Bds i s q) :
    Calls Try.prog 84 #[.agg #[.int .i64 2, .int .i64 i, .slice ao 0 cap, .int .i64 s, .int .i64 q]] w fun e w' => ToldDeed w w' e 2 i [] s q := by
  have HB : Hid (∀ o, Below w.heap.size w (w.alloc o)) := fun o => (Below.refl _ _).alloc (Nat.le_refl _) o
  have HF : Hid (writeFault 2 i [] s q = 3) := fault_out rfl hb
  have hbb := bound_no hb
  unfold boundB at hbb
  clear hb
  cases dI : (decide (1 ≤ i) && decide (i ≤ 999)) with
  | false =>
    clear hbb
    go_enter Try.func84, Try.ntmps84
    go_wp2_with fail
    refine (isIdC i _).mono ?_
    rintro e w1 ⟨rfl, rfl⟩
    rw [dI]
    go_wp2_with fail
    go_ret2
    exact toldDeed_bad (unhide HF) (by omega) (unhide HB _)
  | true =>
    cases dS : (decide (1 ≤ s) && decide (s ≤ 9)) with
    | false =>
      clear hbb
      go_enter Try.func84, Try.ntmps84
      go_wp2_with fail
      refine (isIdC i _).mono ?_
      rintro e w1 ⟨rfl, rfl⟩
      rw [dI]
      go_wp2_with fail
      refine (isSessionC s _).mono ?_
      rintro e w1 ⟨rfl, rfl⟩
      rw [dS]
      go_wp2_with fail
      go_ret2
      exact toldDeed_bad (unhide HF) (by omega) (unhide HB _)
    | true =>
      have dQ : (decide (1 ≤ q) && decide (q ≤ 999)) = false := by rw [dI, dS] at hbb; simpa using hbb
      clear hbb
      go_enter Try.func84, Try.ntmps84
      go_wp2_with fail
      refine (isIdC i _).mono ?_
      rintro e w1 ⟨rfl, rfl⟩
      rw [dI]
      go_wp2_with fail
      refine (isSessionC s _).mono ?_
      rintro e w1 ⟨rfl, rfl⟩
      rw [dS]
      go_wp2_with fail
      refine (isSeqC q _).mono ?_
      rintro e w1 ⟨rfl, rfl⟩
      rw [dQ]
      go_wp2_with fail
      go_ret2
      exact toldDeed_bad (unhide HF) (by omega) (unhide HB _)

set_option maxHeartbeats 2000000 in
theorem deedOf_drop (i : Int) (ao : Option Addr) (cap : Nat) (s q : Int) (w : World) (hb : Bds i s q) :
    Calls Try.prog 84 #[.agg #[.int .i64 2, .int .i64 i, .slice ao 0 cap, .int .i64 s, .int .i64 q]] w fun e w' => ToldDeed w w' e 2 i [] s q := by
  have HB : Hid (∀ o, Below w.heap.size w (w.alloc o)) := fun o => (Below.refl _ _).alloc (Nat.le_refl _) o
  have HF : Hid (writeFault 2 i [] s q = 0) := fault_drop hb
  obtain ⟨⟨i1, i2⟩, ⟨s1, s2⟩, q1, q2⟩ := hb
  have dI : (decide (1 ≤ i) && decide (i ≤ 999)) = true := by simp [i1, i2]
  have dS : (decide (1 ≤ s) && decide (s ≤ 9)) = true := by simp [s1, s2]
  have dQ : (decide (1 ≤ q) && decide (q ≤ 999)) = true := by simp [q1, q2]
  go_enter Try.func84, Try.ntmps84
  go_wp2_with fail
  refine (isIdC i _).mono ?_
  rintro e w1 ⟨rfl, rfl⟩
  rw [dI]
  go_wp2_with fail
  refine (isSessionC s _).mono ?_
  rintro e w1 ⟨rfl, rfl⟩
  rw [dS]
  go_wp2_with fail
  refine (isSeqC q _).mono ?_
  rintro e w1 ⟨rfl, rfl⟩
  rw [dQ]
  go_wp2_with fail
  go_ret2
  exact toldDeed_ok (unhide HF) rfl (unhide HB _)

set_option maxHeartbeats 1000000 in
theorem deedOf_many (i : Int) (ao : Option Addr) (cap n : Nat) (s q : Int) (zs : List Int) (w : World) (hn : zs.length = n + 1) :
    Calls Try.prog 84 #[.agg #[.int .i64 2, .int .i64 i, .slice ao (n + 1) cap, .int .i64 s, .int .i64 q]] w fun e w' => ToldDeed w w' e 2 i zs s q := by
  have B0 : ∀ o, Below w.heap.size w (w.alloc o) := fun o => (Below.refl _ _).alloc (Nat.le_refl _) o
  have HB := hide B0
  have hF : writeFault 2 i zs s q = 1 := by
    have : kindB 2 zs.length = false := by simp [kindB]; omega
    rw [writeFault, this]; rfl
  have HF := hide hF
  clear B0 hF hn
  go_enter Try.func84, Try.ntmps84
  go_wp2
  go_ret2
  exact toldDeed_bad (unhide HF) (by omega) (unhide HB _)

set_option maxHeartbeats 1000000 in
theorem deedOf_none (k i : Int) (ao : Option Addr) (cap : Nat) (s q : Int) (zs : List Int) (w : World) (h1 : k ≠ 1) (h2 : k ≠ 2) :
    Calls Try.prog 84 #[.agg #[.int .i64 k, .int .i64 i, .slice ao zs.length cap, .int .i64 s, .int .i64 q]] w fun e w' => ToldDeed w w' e k i zs s q := by
  have B0 : ∀ o, Below w.heap.size w (w.alloc o) := fun o => (Below.refl _ _).alloc (Nat.le_refl _) o
  have HB := hide B0
  have hF : writeFault k i zs s q = 1 := by
    have : kindB k zs.length = false := by simp [kindB]; omega
    rw [writeFault, this]; rfl
  have HF := hide hF
  clear B0 hF
  go_enter Try.func84, Try.ntmps84
  go_wp2
  go_ret2
  exact toldDeed_bad (unhide HF) (by omega) (unhide HB _)

theorem vectorOf_any (v : Value) (zs : List Int) (w : World) (h : IsInts w v zs) :
    Calls Try.prog 99 #[v] w fun e w' => e = .returned (.tuple #[if vecFault zs = 0 then arr3 (zs.getD 0 0) (zs.getD 1 0) (zs.getD 2 0) else arr3 0 0 0, .int .i64 (vecFault zs)]) ∧ Below w.heap.size w w' := by
  by_cases hf : vecFault zs = 0
  · obtain ⟨hl, -⟩ := vecFault_zero hf
    match zs, hl with
    | [x, y, z], _ =>
      rw [if_pos hf]
      refine (vectorOf_ok v x y z w h hf).mono ?_
      rintro e w' ⟨rfl, hb⟩
      exact ⟨by rw [hf]; rfl, hb⟩
  · rw [if_neg hf]
    exact vectorOf_bad v zs w h hf

set_option maxHeartbeats 2000000 in
theorem deedOf_put (i : Int) (ao : Option Addr) (cap : Nat) (s q : Int) (zs : List Int) (w : World) (h : IsInts w (.slice ao zs.length cap) zs) (hb : Bds i s q) :
    Calls Try.prog 84 #[.agg #[.int .i64 1, .int .i64 i, .slice ao zs.length cap, .int .i64 s, .int .i64 q]] w fun e w' => ToldDeed w w' e 1 i zs s q := by
  have B0 : Below w.heap.size w (w.alloc (.cells #[.int .i64 1, .int .i64 i, .slice ao zs.length cap, .int .i64 s, .int .i64 q] 58)) := (Below.refl _ _).alloc (Nat.le_refl _) _
  have HB := hide B0
  have H := hide (h.later B0)
  clear h B0
  have HF : Hid (writeFault 1 i zs s q = vecFault zs) := fault_in rfl hb
  obtain ⟨⟨i1, i2⟩, ⟨s1, s2⟩, q1, q2⟩ := hb
  have dI : (decide (1 ≤ i) && decide (i ≤ 999)) = true := by simp [i1, i2]
  have dS : (decide (1 ≤ s) && decide (s ≤ 9)) = true := by simp [s1, s2]
  have dQ : (decide (1 ≤ q) && decide (q ≤ 999)) = true := by simp [q1, q2]
  go_enter Try.func84, Try.ntmps84
  go_wp2_with fail
  refine (isIdC i _).mono ?_
  rintro e w1 ⟨rfl, rfl⟩
  rw [dI]
  go_wp2_with fail
  refine (isSessionC s _).mono ?_
  rintro e w1 ⟨rfl, rfl⟩
  rw [dS]
  go_wp2_with fail
  refine (isSeqC q _).mono ?_
  rintro e w1 ⟨rfl, rfl⟩
  rw [dQ]
  go_wp2_with fail
  refine (vectorOf_any _ zs _ (unhide H)).mono ?_
  rintro e w1 ⟨rfl, hb1⟩
  have HB1 := hide ((unhide HB).trans (hb1.mono (unhide HB).size))
  have hz : w.heap.size ≤ w1.heap.size := (unhide HB1).size
  clear HB hb1 H
  generalize hV : vecFault zs = F at *
  by_cases hf : F = 0
  · subst hf
    rw [if_pos rfl]
    simp only [arr3]
    go_wp2_with fail
    go_ret2
    refine toldDeed_ok (unhide HF) ?_ ?_
    · rw [deedV, if_pos rfl]; rfl
    · exact (unhide HB1).alloc hz _
  · rw [if_neg hf]
    have hd : (F != 0) = true := by rw [bne_iff_ne]; exact hf
    have HN := hide hf
    clear hf
    simp only [arr3]
    go_wp2_with fail
    go_ret2
    exact toldDeed_bad (unhide HF) (unhide HN) ((unhide HB1).alloc hz _)

/-- deedOf of the program. -/
theorem implDeed (k i : Int) (v : Value) (s q : Int) (zs : List Int) (w : World) (h : IsInts w v zs) :
    Calls Try.prog 84 #[.agg #[.int .i64 k, .int .i64 i, v, .int .i64 s, .int .i64 q]] w fun e w' => ToldDeed w w' e k i zs s q := by
  have h' := h
  obtain ⟨ao, cap, rfl, -⟩ := h'
  by_cases h1 : k = 1
  · subst h1
    by_cases hb : Bds i s q
    · exact deedOf_put i ao cap s q zs w h hb
    · exact deedOf_put_out i ao cap s q zs w hb
  · by_cases h2 : k = 2
    · subst h2
      rcases Nat.eq_zero_or_pos zs.length with h0 | h0
      · obtain rfl : zs = [] := List.eq_nil_of_length_eq_zero h0
        by_cases hb : Bds i s q
        · exact deedOf_drop i ao cap s q w hb
        · exact deedOf_drop_out i ao cap s q w hb
      · obtain ⟨n, hn⟩ : ∃ n, zs.length = n + 1 := ⟨zs.length - 1, by omega⟩
        rw [hn]
        exact deedOf_many i ao cap n s q zs w hn
    · exact deedOf_none k i ao cap s q zs w h1 h2

end Go.Proofs.Ytipomhpimmnchaa
