/-
  Texts of this proof in one: ImplApp, SpecSeen, AppInts, SpecIntsB, SpecWCopy.
  Their conditions stand in their theorems.
-/
import Derived.Test.YtkodenmpadehjaaDoorSqO07
import Derived.Test.YtkodenmpadehjaaDoorSqO09
import Derived.Test.YtkodenmpadehjaaDoorSqO06
import Derived.Test.YtkodenmpadehjaaDoorSqO05
import Derived.Test.YtkodenmpadehjaaDoorSqO01
import Derived.Test.YtkodenmpadehjaaDoorSqO02
import Derived.Test.YtkodenmpadehjaaDoorSqO04
import Derived.Maps.AppendAt
import Derived.Test.YtkodenmpadehjaaDoorChecked
import Derived.BigQuiet
import Derived.Deep.QuietTactic
import Derived.WalkSmall
import Derived.Deep.CutRange

namespace Go.Proofs.YtkodenmpadehjaaDoor
open Go.RowKit

theorem wF_wfs {x : DWrite} (h : wF x = 0) : (Lit.int .i64 x.session).wf = true ∧ (Lit.int .i64 x.seq).wf = true := by
  have := wF_seq h
  exact ⟨wf_of_bd (by omega), wf_of_bd (by omega)⟩
theorem own_once {w : World} {c : Int} {b : Bool} {n : Int} {v : Value} {xs : List DWrite} {lo hi : Nat} (hc : (Lit.int .i64 c).wf = true) (hn : (Lit.int .i64 n).wf = true) (h : (Lay.sl Lay.tWrite).OwnIn w [v] xs lo hi) : Lay.tOnceResult.OwnIn w [.int .i64 c, .bool b, .int .i64 n, v] ⟨c, b, n, xs⟩ lo hi := by
  obtain ⟨bl, O, i⟩ := h
  exact ⟨bl, mkOwn_OnceResult (x := ⟨c, b, n, xs⟩) O hc hn O.2.1, i⟩
theorem own_codeOnce {w : World} {c : Int} {lo hi : Nat} (hc : (Lit.int .i64 c).wf = true) : Lay.tOnceResult.OwnIn w [.int .i64 c, .bool false, .int .i64 0, .slice none 0 0] ⟨c, false, 0, []⟩ lo hi := own_once hc (by decide) ⟨[], ⟨⟨none, 0, rfl, by simp, Or.inl ⟨rfl, rfl⟩⟩, by simp, by simp⟩, by simp⟩
theorem box_low {lo B : Nat} {cs : Array Value} {T : TypeId} {W w' : World} {s : Nat} (h : Box lo cs T W s) (hb : Below B W w') (hs : s < B) : Box lo cs T w' s := ⟨h.1, (hb.block s hs).trans h.2⟩
theorem told_form {w : World} {p mb N : Nat} {ws : List DWrite} {v : Value} {rows : List (List Value)} {bls : List (List Nat)} (h : Told w p mb N ws v rows bls) : ∃ ao cap, v = .slice ao ws.length cap := by
  rcases h.grow.form with ⟨rfl, rfl⟩ | ⟨g, cap, rfl, -⟩
  · exact ⟨_, _, rfl⟩
  · exact ⟨_, _, rfl⟩
theorem below4 {B b : Nat} {w w' : World} (h : Below B w w') (hb : B ≤ b) (v0 v1 v2 v3 : Value) : Below B w ((((w'.setCell ⟨b, 0, none⟩ v0).setCell ⟨b, 1, none⟩ v1).setCell ⟨b, 2, none⟩ v2).setCell ⟨b, 3, none⟩ v3) := (((h.setCell (by simpa using hb) _).setCell (by simpa using hb) _).setCell (by simpa using hb) _).setCell (by simpa using hb) _

set_option maxRecDepth 100000 in
set_option maxHeartbeats 4000000 in
theorem implApp (v : Value) (ws : List DWrite) (u : List Value) (x : DWrite) (w : World) (hE : Errs w) (h : (Lay.sl Lay.tWrite).Reads w [v] ws) (hx : Lay.tWrite.Reads w u x) :
    Calls Tryd.prog 7 #[v, .agg u.toArray] w fun e w' => ∃ cs, e = .returned (.agg cs.toArray) ∧ Lay.tOnceResult.OwnIn w' cs (appR ws x) w.heap.size w'.heap.size ∧ Below w.heap.size w w' := by
  obtain ⟨a2, d2, rfl, R2⟩ := open_Write hx
  have n1 : Below w.heap.size w (w.alloc (.cells #[.int .i64 x.kind, .int .i64 x.id, .slice a2 x.vec.length d2, .int .i64 x.session, .int .i64 x.seq] 27)) := (Below.refl _ _).alloc (Nat.le_refl _) _
  have nb := n1.alloc n1.size (.cells #[.int .i64 0, .bool false, .int .i64 0, .slice none 0 0] 31)
  have hQ1 : Box 0 #[.int .i64 x.kind, .int .i64 x.id, .slice a2 x.vec.length d2, .int .i64 x.session, .int .i64 x.seq] 27 (w.alloc (.cells #[.int .i64 x.kind, .int .i64 x.id, .slice a2 x.vec.length d2, .int .i64 x.session, .int .i64 x.seq] 27)) w.heap.size := newBox (Nat.zero_le _)
  have HQ := hide (hQ1.keep ((Below.refl _ _).alloc (Nat.le_refl _) (.cells #[.int .i64 0, .bool false, .int .i64 0, .slice none 0 0] 31)))
  have hsz1 : (w.alloc (.cells #[.int .i64 x.kind, .int .i64 x.id, .slice a2 x.vec.length d2, .int .i64 x.session, .int .i64 x.seq] 27)).heap.size = w.heap.size + 1 := by simp
  have HBR : Hid (Box w.heap.size #[.int .i64 0, .bool false, .int .i64 0, .slice none 0 0] 31 ((w.alloc (.cells #[.int .i64 x.kind, .int .i64 x.id, .slice a2 x.vec.length d2, .int .i64 x.session, .int .i64 x.seq] 27)).alloc (.cells #[.int .i64 0, .bool false, .int .i64 0, .slice none 0 0] 31)) (w.heap.size + 1)) := by
    have := newBox (lo := w.heap.size) (cs := #[.int .i64 0, .bool false, .int .i64 0, .slice none 0 0]) (T := 31) (W := w.alloc (.cells #[.int .i64 x.kind, .int .i64 x.id, .slice a2 x.vec.length d2, .int .i64 x.session, .int .i64 x.seq] 27)) n1.size
    rwa [hsz1] at this
  have HL := hide (storyC _ ws _ (h.later nb))
  have HR2 := hide (R2.later nb)
  have HE := hide (hE.later nb)
  have HB0 := hide nb
  have hsz : ((w.alloc (.cells #[.int .i64 x.kind, .int .i64 x.id, .slice a2 x.vec.length d2, .int .i64 x.session, .int .i64 x.seq] 27)).alloc (.cells #[.int .i64 0, .bool false, .int .i64 0, .slice none 0 0] 31)).heap.size = w.heap.size + 2 := by simp
  obtain ⟨ao, cap, rfl⟩ := open_sl h
  clear n1 nb hQ1 hsz1 h hx R2 hE
  go_enter Tryd.func7, Tryd.ntmps7
  go_wp2_with fail
  generalize (w.alloc (.cells #[.int .i64 x.kind, .int .i64 x.id, .slice a2 x.vec.length d2, .int .i64 x.session, .int .i64 x.seq] 27)).alloc (.cells #[.int .i64 0, .bool false, .int .i64 0, .slice none 0 0] 31) = W1 at *
  refine (unhide HL).mono ?_
  rintro e w2 ⟨r, rfl, g0, g1, hb⟩
  rw [hsz] at g0
  have bR := (unhide HBR).keep hb
  have HB2 := hide ((unhide HB0).trans (hb.mono (unhide HB0).size))
  have HQ2 := hide ((unhide HQ).keep hb)
  have HR3 := hide ((unhide HR2).later hb)
  have HE2 := hide ((unhide HE).later hb)
  clear hb HL HB0 HBR HQ HR2 HE
  by_cases hfw : writesF ws = 0
  · obtain ⟨rfl, v2, rows, bls, hT⟩ := g0 hfw
    clear g0 g1
    have HFW := hide hfw
    rw [hfw]
    clear hfw
    have y0 : w2.cell? ⟨w.heap.size, 0, none⟩ = some (.int .i64 x.kind) := (unhide HQ2).at 0 _ rfl
    have y1 : w2.cell? ⟨w.heap.size, 1, none⟩ = some (.int .i64 x.id) := (unhide HQ2).at 1 _ rfl
    have y2 : w2.cell? ⟨w.heap.size, 2, none⟩ = some (.slice a2 x.vec.length d2) := (unhide HQ2).at 2 _ rfl
    have y3 : w2.cell? ⟨w.heap.size, 3, none⟩ = some (.int .i64 x.session) := (unhide HQ2).at 3 _ rfl
    have y4 : w2.cell? ⟨w.heap.size, 4, none⟩ = some (.int .i64 x.seq) := (unhide HQ2).at 4 _ rfl
    have L := implDeed x.kind x.id (.slice a2 x.vec.length d2) x.session x.seq x.vec w2 (Lay.ints_reads (unhide HR3))
    simp only [ToldDeed] at L
    rw [show writeFault x.kind x.id x.vec x.session x.seq = wF x from rfl] at L
    have HL := hide L
    have HT := hide hT
    have HBR := hide bR
    clear L hT bR
    go_wp2_with fail
    clear y0 y1 y2 y3 y4
    refine (unhide HL).mono ?_
    rintro e w4 ⟨rfl, hb⟩
    have bR := (unhide HBR).keep hb
    have HB4 := hide ((unhide HB2).trans (hb.mono (unhide HB2).size))
    have hQ4 := (unhide HQ2).keep hb
    have HE4 := hide ((unhide HE2).later hb)
    have hT4 := (unhide HT).later hb
    clear hb HL HBR HB2 HQ2 HE2 HT HR3
    by_cases hf : wF x = 0
    · rw [hf, show deedRes x.kind x.id x.vec x.session x.seq = deedV x.kind x.vec from if_pos hf]
      have HDV : Hid (∀ W : World, Calls Tryd.prog 36 #[deedV x.kind x.vec, .int .i64 x.id, .int .i64 x.session, .int .i64 x.seq] W fun e w' => ∃ cs, e = .returned (.agg cs.toArray) ∧ Lay.tWrite.OwnIn w' cs x W.heap.size w'.heap.size ∧ Below W.heap.size W w') := fun W => writeOfC x W hf
      generalize hdv : deedV x.kind x.vec = dv at *
      clear hdv
      obtain ⟨bs, hbs⟩ : ∃ bs, bs = decide (seenI ws x.session x.seq ≠ 0) := ⟨_, rfl⟩
      have HBS := hide hbs
      clear hbs
      go_wp2_with fail
      refine wp_region_noPanic ?_
      refine wp_region_held_drew (S := fun w' => Below w4.heap.size w4 w') (by kernel_rfl) (Below.refl _ _).drew (fun hHeld => ?_)
      refine wpAnyH_take (i := 0) (oi := { dst := some 30, op := Go.Op.move (Go.Operand.tmp 5), type := 60, pos := "l05_session.go:139", after := #[], guard := none }) (v := ?vk0) rfl (by kernel_rfl) (by kernel_rfl) (by kernel_rfl) (fun _ _ _ h => h) (Or.inl ⟨by rfl, ?hk0⟩) hHeld ?rk0
      case hk0 =>
        intro wS hSw
        (try dsimp only at hSw)
        go_simp
        try with_reducible rfl
      case rk0 =>
      simp only [Act.put, List.setIfInBounds_toArray, List.set_cons_zero, List.set_cons_succ]
      refine wpAnyH_take (i := 1) (oi := { dst := some 31, op := Go.Op.nilCheck (Go.Operand.tmp 30), type := 0, pos := "l05_session.go:139", after := #[{ on := 0, ground := Go.Ground.data }], guard := none }) (v := ?vk1) rfl (by kernel_rfl) (by kernel_rfl) (by kernel_rfl) (fun _ _ _ h => h) (Or.inl ⟨by rfl, ?hk1⟩) hHeld ?rk1
      case hk1 =>
        intro wS hSw
        (try dsimp only at hSw)
        go_simp
        try with_reducible rfl
      case rk1 =>
      simp only [Act.put, List.setIfInBounds_toArray, List.set_cons_zero, List.set_cons_succ]
      refine wpAnyH_take (i := 2) (oi := { dst := some 32, op := Go.Op.fieldAddr 71 (Go.Operand.tmp 31) 1, type := 0, pos := "l05_session.go:139", after := #[{ on := 1, ground := Go.Ground.data }], guard := none }) (v := ?vk2) rfl (by kernel_rfl) (by kernel_rfl) (by kernel_rfl) (fun _ _ _ h => h) (Or.inl ⟨by rfl, ?hk2⟩) hHeld ?rk2
      case hk2 =>
        intro wS hSw
        (try dsimp only at hSw)
        go_simp
        try with_reducible rfl
      case rk2 =>
      simp only [Act.put, List.setIfInBounds_toArray, List.set_cons_zero, List.set_cons_succ]
      refine wpAnyH_take (i := 3) (oi := { dst := some 33, op := Go.Op.load 68 (Go.Operand.tmp 32), type := 68, pos := "l05_session.go:139", after := #[{ on := 2, ground := Go.Ground.data }], guard := none }) (v := ?vk3) rfl (by kernel_rfl) (by kernel_rfl) (by kernel_rfl) (fun _ _ _ h => h) (Or.inl ⟨by rfl, ?hk3⟩) hHeld ?rk3
      case hk3 =>
        intro wS hSw
        have y0 : wS.cell? ⟨w.heap.size, 0, none⟩ = some (.int .i64 x.kind) := (hQ4.keep hSw).at 0 _ rfl
        have y1 : wS.cell? ⟨w.heap.size, 1, none⟩ = some (.int .i64 x.id) := (hQ4.keep hSw).at 1 _ rfl
        have y2 : wS.cell? ⟨w.heap.size, 2, none⟩ = some (.slice a2 x.vec.length d2) := (hQ4.keep hSw).at 2 _ rfl
        have y3 : wS.cell? ⟨w.heap.size, 3, none⟩ = some (.int .i64 x.session) := (hQ4.keep hSw).at 3 _ rfl
        have y4 : wS.cell? ⟨w.heap.size, 4, none⟩ = some (.int .i64 x.seq) := (hQ4.keep hSw).at 4 _ rfl
        have zm : wS.cell? ⟨w.heap.size + 2 + 1, 1, none⟩ = some (.map (some (w.heap.size + 2))) := (hT4.box.keep hSw).at 1 _ rfl
        clear hSw
        (try dsimp only at hSw)
        go_simp
        try with_reducible rfl
      case rk3 =>
      simp only [Act.put, List.setIfInBounds_toArray, List.set_cons_zero, List.set_cons_succ]
      refine wpAnyH_take (i := 4) (oi := { dst := some 34, op := Go.Op.load 27 (Go.Operand.tmp 3), type := 27, pos := "l05_session.go:139", after := #[], guard := none }) (v := ?vk4) rfl (by kernel_rfl) (by kernel_rfl) (by kernel_rfl) (fun _ _ _ h => h) (Or.inl ⟨by rfl, ?hk4⟩) hHeld ?rk4
      case hk4 =>
        intro wS hSw
        have y0 : wS.cell? ⟨w.heap.size, 0, none⟩ = some (.int .i64 x.kind) := (hQ4.keep hSw).at 0 _ rfl
        have y1 : wS.cell? ⟨w.heap.size, 1, none⟩ = some (.int .i64 x.id) := (hQ4.keep hSw).at 1 _ rfl
        have y2 : wS.cell? ⟨w.heap.size, 2, none⟩ = some (.slice a2 x.vec.length d2) := (hQ4.keep hSw).at 2 _ rfl
        have y3 : wS.cell? ⟨w.heap.size, 3, none⟩ = some (.int .i64 x.session) := (hQ4.keep hSw).at 3 _ rfl
        have y4 : wS.cell? ⟨w.heap.size, 4, none⟩ = some (.int .i64 x.seq) := (hQ4.keep hSw).at 4 _ rfl
        have zm : wS.cell? ⟨w.heap.size + 2 + 1, 1, none⟩ = some (.map (some (w.heap.size + 2))) := (hT4.box.keep hSw).at 1 _ rfl
        clear hSw
        (try dsimp only at hSw)
        go_simp
        try with_reducible rfl
      case rk4 =>
      simp only [Act.put, List.setIfInBounds_toArray, List.set_cons_zero, List.set_cons_succ]
      refine wpAnyH_ready (rs := [5]) (by kernel_rfl) (by simp) ?_
      refine AllReadyH.cons (o := { dst := some 35, op := Go.Op.call { callee := Go.Callee.value (Go.Operand.func 32), args := #[Go.Operand.tmp 34], argTypes := #[27] }, type := 73, pos := "l05_session.go:139", after := #[{ on := 4, ground := Go.Ground.data }], guard := none }) rfl (fun K hK => ?_) AllReadyH.nil
      go_simp
      go_at_call 32
      refine (ticketC _ _ _ _ _ _ _ _).mono ?_
      rintro e w7 ⟨rfl, hb7⟩
      simp only [tick]
      try go_wp2_with fail
      refine hK.out _ _ (hHeld.trans (hb7.mono hHeld.size)) (fun hHeld => ?_)
      clear hK K
      try simp only [Act.put, List.setIfInBounds_toArray, List.set_cons_zero, List.set_cons_succ]
      refine wpAnyH_take (i := 6) (oi := { dst := some 36, op := Go.Op.lookup 68 (Go.Operand.tmp 33) (Go.Operand.tmp 35) true, type := 67, pos := "l05_session.go:139", after := #[{ on := 3, ground := Go.Ground.data }, { on := 5, ground := Go.Ground.data }], guard := none }) (v := ?vk6) rfl (by kernel_rfl) (by kernel_rfl) (by kernel_rfl) (fun _ _ _ h => h) (Or.inl ⟨by rfl, ?hk6⟩) hHeld ?rk6
      case hk6 =>
        intro wS hSw
        have hlk := (hT4.later hSw).seen.look (wF_wfs hf).1 (wF_wfs hf).2
        simp only [tick] at hlk
        rw [← unhide HBS] at hlk
        clear hSw
        (try dsimp only at hSw)
        go_simp
        try with_reducible rfl
      case rk6 =>
      simp only [Act.put, List.setIfInBounds_toArray, List.set_cons_zero, List.set_cons_succ]
      refine wpAnyH_take (i := 7) (oi := { dst := some 29, op := Go.Op.move (Go.Operand.tmp 36), type := 67, pos := "l05_session.go:139", after := #[{ on := 6, ground := Go.Ground.data }], guard := none }) (v := ?vk7) rfl (by kernel_rfl) (by kernel_rfl) (by kernel_rfl) (fun _ _ _ h => h) (Or.inl ⟨by rfl, ?hk7⟩) hHeld ?rk7
      case hk7 =>
        intro wS hSw
        (try dsimp only at hSw)
        go_simp
        try with_reducible rfl
      case rk7 =>
      simp only [Act.put, List.setIfInBounds_toArray, List.set_cons_zero, List.set_cons_succ]
      refine wpAnyH_take (i := 8) (oi := { dst := some 37, op := Go.Op.extract (Go.Operand.tmp 29) 0, type := 2, pos := "l05_session.go:139", after := #[{ on := 7, ground := Go.Ground.data }], guard := none }) (v := ?vk8) rfl (by kernel_rfl) (by kernel_rfl) (by kernel_rfl) (fun _ _ _ h => h) (Or.inl ⟨by rfl, ?hk8⟩) hHeld ?rk8
      case hk8 =>
        intro wS hSw
        (try dsimp only at hSw)
        go_simp
        try with_reducible rfl
      case rk8 =>
      simp only [Act.put, List.setIfInBounds_toArray, List.set_cons_zero, List.set_cons_succ]
      refine wpAnyH_take (i := 9) (oi := { dst := some 38, op := Go.Op.extract (Go.Operand.tmp 29) 1, type := 4, pos := "l05_session.go:139", after := #[{ on := 7, ground := Go.Ground.data }, { on := 10, ground := Go.Ground.gcOnly Go.Departure.lateStores }], guard := none }) (v := ?vk9) rfl (by kernel_rfl) (by kernel_rfl) (by kernel_rfl) (fun _ _ _ h => h) (Or.inl ⟨by rfl, ?hk9⟩) hHeld ?rk9
      case hk9 =>
        intro wS hSw
        (try dsimp only at hSw)
        go_simp
        try with_reducible rfl
      case rk9 =>
      simp only [Act.put, List.setIfInBounds_toArray, List.set_cons_zero, List.set_cons_succ]
      refine wpAnyH_take (i := 10) (oi := { dst := some 8, op := Go.Op.assign (Go.Operand.tmp 37), type := 2, pos := "l05_session.go:139", after := #[{ on := 8, ground := Go.Ground.data }, { on := 5, ground := Go.Ground.chain }, { on := 0, ground := Go.Ground.phase }, { on := 1, ground := Go.Ground.phase }, { on := 2, ground := Go.Ground.phase }, { on := 3, ground := Go.Ground.phase }, { on := 4, ground := Go.Ground.phase }, { on := 5, ground := Go.Ground.phase }, { on := 6, ground := Go.Ground.phase }, { on := 7, ground := Go.Ground.phase }, { on := 8, ground := Go.Ground.phase }, { on := 9, ground := Go.Ground.textOnly Go.Departure.lateStores }], guard := none }) (v := ?vk10) rfl (by kernel_rfl) (by kernel_rfl) (by kernel_rfl) (fun _ _ _ h => h) (Or.inl ⟨by rfl, ?hk10⟩) hHeld ?rk10
      case hk10 =>
        intro wS hSw
        (try dsimp only at hSw)
        go_simp
        try with_reducible rfl
      case rk10 =>
      simp only [Act.put, List.setIfInBounds_toArray, List.set_cons_zero, List.set_cons_succ]
      refine wpAnyH_take (i := 11) (oi := { dst := some 9, op := Go.Op.assign (Go.Operand.tmp 38), type := 4, pos := "l05_session.go:139", after := #[{ on := 9, ground := Go.Ground.data }, { on := 10, ground := Go.Ground.chain }, { on := 0, ground := Go.Ground.phase }, { on := 1, ground := Go.Ground.phase }, { on := 2, ground := Go.Ground.phase }, { on := 3, ground := Go.Ground.phase }, { on := 4, ground := Go.Ground.phase }, { on := 5, ground := Go.Ground.phase }, { on := 6, ground := Go.Ground.phase }, { on := 7, ground := Go.Ground.phase }, { on := 8, ground := Go.Ground.phase }, { on := 9, ground := Go.Ground.phase }, { on := 10, ground := Go.Ground.phase }], guard := none }) (v := ?vk11) rfl (by kernel_rfl) (by kernel_rfl) (by kernel_rfl) (fun _ _ _ h => h) (Or.inl ⟨by rfl, ?hk11⟩) hHeld ?rk11
      case hk11 =>
        intro wS hSw
        (try dsimp only at hSw)
        go_simp
        try with_reducible rfl
      case rk11 =>
      simp only [Act.put, List.setIfInBounds_toArray, List.set_cons_zero, List.set_cons_succ]
      refine wpAnyH_done (by kernel_rfl) ?_ _
      refine NoPanic.normal ?_
      have hT5 := (hT4.later hHeld)
      have bR5 := bR.keep hHeld
      have hQ5 := hQ4.keep hHeld
      have HB5 := hide ((unhide HB4).trans (hHeld.mono (unhide HB4).size))
      have HE5 := hide ((unhide HE4).later hHeld)
      clear hHeld hT4 hQ4 bR HB4 HE4 hb7
      by_cases hsn : seenI ws x.session x.seq = 0
      · obtain rfl : bs = false := by rw [unhide HBS]; simpa using hsn
        have hbs := HBS
        clear HBS hbs
        obtain ⟨ea, hF⟩ := (unhide HE5).2
        have HRF := hide (refusalC hT5 x a2 d2 hf ea hF)
        have y0 : w7.cell? ⟨w.heap.size, 0, none⟩ = some (.int .i64 x.kind) := hQ5.at 0 _ rfl
        have y1 : w7.cell? ⟨w.heap.size, 1, none⟩ = some (.int .i64 x.id) := hQ5.at 1 _ rfl
        have y2 : w7.cell? ⟨w.heap.size, 2, none⟩ = some (.slice a2 x.vec.length d2) := hQ5.at 2 _ rfl
        have y3 : w7.cell? ⟨w.heap.size, 3, none⟩ = some (.int .i64 x.session) := hQ5.at 3 _ rfl
        have y4 : w7.cell? ⟨w.heap.size, 4, none⟩ = some (.int .i64 x.seq) := hQ5.at 4 _ rfl
        have HT5 := hide hT5
        have HBR5 := hide bR5
        have HQ5 := hide hQ5
        have HF := hide hf
        have HSN := hide hsn
        clear hT5 bR5 hQ5 hf hsn hF
        go_wp2_with fail
        clear y0 y1 y2 y3 y4
        refine (unhide HRF).mono ?_
        rintro e w8 ⟨rfl, hb8⟩
        have hT8 := (unhide HT5).later hb8
        have bR := (unhide HBR5).keep hb8
        have hQ8 := (unhide HQ5).keep hb8
        have HB8 := hide ((unhide HB5).trans (hb8.mono (unhide HB5).size))
        have HE8 := hide ((unhide HE5).later hb8)
        clear hb8 HT5 HBR5 HQ5 HB5 HE5 HRF
        by_cases c1 : x.seq < lastI ws x.session
        · rw [show refV ea ws x = _ from if_pos c1]
          have HG : Hid (appR ws x = ⟨7, false, 0, []⟩) := appR_old (unhide HFW) (unhide HF) (unhide HSN) c1
          have HRC := hide (refusal_old x.seq (lastI ws x.session) w8 (unhide HE8).1)
          have HBR := hide bR
          clear c1 bR hT8 hQ8 HE8
          go_wp2_with fail
          refine (unhide HRC).mono ?_
          rintro e w9 ⟨rfl, hb9⟩
          have bR := (unhide HBR).keep hb9
          have HB9 := hide ((unhide HB8).trans (hb9.mono (unhide HB8).size))
          have z0 : w9.cell? ⟨w.heap.size + 1, 0, none⟩ = some (.int .i64 0) := bR.at 0 _ rfl
          have z1 : w9.cell? ⟨w.heap.size + 1, 1, none⟩ = some (.bool false) := bR.at 1 _ rfl
          have z2 : w9.cell? ⟨w.heap.size + 1, 2, none⟩ = some (.int .i64 0) := bR.at 2 _ rfl
          have z3 : w9.cell? ⟨w.heap.size + 1, 3, none⟩ = some (.slice none 0 0) := bR.at 3 _ rfl
          have f0 := bR.soft 0
          have f1 := bR.soft 1
          have f2 := bR.soft 2
          have f3 := bR.soft 3
          have l0 := bR.lt
          clear bR hb9 HRC HBR HB8
          go_wp2_with fail
          refine bodyPost_ret (v := .agg #[.int .i64 (7), .bool false, .int .i64 0, .slice none 0 0]) (by simp [results, Tryd.results7, go_sem, z0, z1, z2, z3]) rfl ?_
          rw [unhide HG]
          exact ⟨_, rfl, own_codeOnce (by decide), ((((unhide HB9).setCell (by simp) _).setCell (by simp) _).setCell (by simp) _).setCell (by simp) _⟩
        · by_cases c2 : 200 ≤ ws.length
          · rw [show refV ea ws x = .iface 143 (.pointer (some ea)) by rw [refV, if_neg c1, if_pos c2]]
            have HG : Hid (appR ws x = ⟨2, false, 0, []⟩) := appR_full (unhide HFW) (unhide HF) (unhide HSN) c1 c2
            have HRC := hide (refusal_full ea w8 (unhide HE8).1)
            have HBR := hide bR
            clear c1 c2 bR hT8 hQ8 HE8
            go_wp2_with fail
            refine (unhide HRC).mono ?_
            rintro e w9 ⟨rfl, hb9⟩
            have bR := (unhide HBR).keep hb9
            have HB9 := hide ((unhide HB8).trans (hb9.mono (unhide HB8).size))
            have z0 : w9.cell? ⟨w.heap.size + 1, 0, none⟩ = some (.int .i64 0) := bR.at 0 _ rfl
            have z1 : w9.cell? ⟨w.heap.size + 1, 1, none⟩ = some (.bool false) := bR.at 1 _ rfl
            have z2 : w9.cell? ⟨w.heap.size + 1, 2, none⟩ = some (.int .i64 0) := bR.at 2 _ rfl
            have z3 : w9.cell? ⟨w.heap.size + 1, 3, none⟩ = some (.slice none 0 0) := bR.at 3 _ rfl
            have f0 := bR.soft 0
            have f1 := bR.soft 1
            have f2 := bR.soft 2
            have f3 := bR.soft 3
            have l0 := bR.lt
            clear bR hb9 HRC HBR HB8
            go_wp2_with fail
            refine bodyPost_ret (v := .agg #[.int .i64 (2), .bool false, .int .i64 0, .slice none 0 0]) (by simp [results, Tryd.results7, go_sem, z0, z1, z2, z3]) rfl ?_
            rw [unhide HG]
            exact ⟨_, rfl, own_codeOnce (by decide), ((((unhide HB9).setCell (by simp) _).setCell (by simp) _).setCell (by simp) _).setCell (by simp) _⟩
          · rw [show refV ea ws x = .nilIface by rw [refV, if_neg c1, if_neg c2]]
            have HG : Hid (appR ws x = ⟨0, true, (ws.length : Int) + 1, ws ++ [x]⟩) := appR_new (unhide HFW) (unhide HF) (unhide HSN) c1 c2
            have y1 : w8.cell? ⟨w.heap.size, 1, none⟩ = some (.int .i64 x.id) := hQ8.at 1 _ rfl
            have y3 : w8.cell? ⟨w.heap.size, 3, none⟩ = some (.int .i64 x.session) := hQ8.at 3 _ rfl
            have y4 : w8.cell? ⟨w.heap.size, 4, none⟩ = some (.int .i64 x.seq) := hQ8.at 4 _ rfl
            have hlen : ws.length < 1000 := by omega
            have HT8 := hide hT8.top
            have HBR := hide bR
            clear c1 c2 bR hT8 hQ8 HE8 HSN HFW
            go_wp2_with fail
            clear y1 y3 y4
            refine (unhide HDV w8).mono ?_
            rintro e w10 ⟨cs, rfl, ⟨bl, hO, hr⟩, hb10⟩
            have HC := hide (tellC ((unhide HT8).later hb10) hO.1 (fun c hc => ⟨(hr c hc).1, hO.2.2 c hc⟩) hO.2.1 hb10.size (unhide HF) hlen)
            have HB10 := hide ((unhide HB8).trans (hb10.mono (unhide HB8).size))
            have HBR10 := hide ((unhide HBR).keep hb10)
            clear hO hr hb10 HB8 HBR HT8 HDV HF
            go_wp2_with fail
            refine (unhide HC).mono ?_
            rintro e w12 ⟨rfl, ⟨v4, rows4, bls4, hT12⟩, hb12⟩
            have HB12 := hide ((unhide HB10).trans (hb12.mono (Nat.le_add_right _ _)))
            have bR12 := box_low (unhide HBR10) hb12 (by omega)
            obtain ⟨ao9, cp9, hv9⟩ : ∃ ao cap, v4 = .slice ao (ws.length + 1) cap := by
              obtain ⟨ao, cap, e⟩ := told_form hT12
              exact ⟨ao, cap, by rw [e]; simp⟩
            subst hv9
            have HO12 := hide (hT12.own (by simp; omega))
            clear hb12 HB10 HBR10 HC
            go_wp2_with fail
            have bS : Box w.heap.size #[.int .i64 0, .bool false, .int .i64 0, .slice none 0 0] 31 w12.drew (w.heap.size + 1) := bR12
            have hBS : Below w.heap.size w w12.drew := (unhide HB12).drew
            have hOS : (Lay.sl Lay.tWrite).OwnIn w12.drew [.slice ao9 (ws.length + 1) cp9] (ws ++ [x]) (w.heap.size + 2 + 1 + 1) w12.drew.heap.size := (unhide HO12).later (below_drawn (Below.refl _ _) 1)
            refine wp_region_noPanic ?_
            refine wp_region_held_drew (S := fun w' => Ext (fun c => c = w.heap.size + 1) w12 w') (by kernel_rfl) (Ext.refl _ _).drew3 (fun hHeld => ?_)
            generalize w12.drew = wS14 at hHeld bS hBS hOS ⊢
            refine wpAnyH_take (i := 0) (oi := { dst := some 64, op := Go.Op.move (Go.Operand.tmp 5), type := 60, pos := "l05_session.go:146", after := #[], guard := none }) (v := ?vm0) rfl (by kernel_rfl) (by kernel_rfl) (by kernel_rfl) (fun _ _ _ h => h) (Or.inl ⟨by rfl, ?hm0⟩) hHeld ?rm0
            case hm0 =>
              intro wS hSw
              (try dsimp only at hSw)
              go_simp
              try with_reducible rfl
            case rm0 =>
            simp only [Act.put, List.setIfInBounds_toArray, List.set_cons_zero, List.set_cons_succ]
            refine wpAnyH_take (i := 1) (oi := { dst := some 65, op := Go.Op.nilCheck (Go.Operand.tmp 64), type := 0, pos := "l05_session.go:146", after := #[{ on := 0, ground := Go.Ground.data }], guard := none }) (v := ?vm1) rfl (by kernel_rfl) (by kernel_rfl) (by kernel_rfl) (fun _ _ _ h => h) (Or.inl ⟨by rfl, ?hm1⟩) hHeld ?rm1
            case hm1 =>
              intro wS hSw
              (try dsimp only at hSw)
              go_simp
              try with_reducible rfl
            case rm1 =>
            simp only [Act.put, List.setIfInBounds_toArray, List.set_cons_zero, List.set_cons_succ]
            refine wpAnyH_take (i := 2) (oi := { dst := some 66, op := Go.Op.fieldAddr 71 (Go.Operand.tmp 65) 0, type := 0, pos := "l05_session.go:146", after := #[{ on := 1, ground := Go.Ground.data }], guard := none }) (v := ?vm2) rfl (by kernel_rfl) (by kernel_rfl) (by kernel_rfl) (fun _ _ _ h => h) (Or.inl ⟨by rfl, ?hm2⟩) hHeld ?rm2
            case hm2 =>
              intro wS hSw
              (try dsimp only at hSw)
              go_simp
              try with_reducible rfl
            case rm2 =>
            simp only [Act.put, List.setIfInBounds_toArray, List.set_cons_zero, List.set_cons_succ]
            refine wpAnyH_take (i := 3) (oi := { dst := some 67, op := Go.Op.load 24 (Go.Operand.tmp 66), type := 24, pos := "l05_session.go:146", after := #[{ on := 2, ground := Go.Ground.data }], guard := none }) (v := ?vm3) rfl (by kernel_rfl) (by kernel_rfl) (by kernel_rfl) (fun _ _ _ h => h) (Or.inl ⟨by rfl, ?hm3⟩) hHeld ?rm3
            case hm3 =>
              intro wS hSw
              have zp : wS.cell? ⟨w.heap.size + 2 + 1, 0, none⟩ = some (.slice ao9 (ws.length + 1) cp9) := (hT12.box.ext hSw (by omega)).at 0 _ rfl
              clear hSw
              (try dsimp only at hSw)
              go_simp
              try with_reducible rfl
            case rm3 =>
            simp only [Act.put, List.setIfInBounds_toArray, List.set_cons_zero, List.set_cons_succ]
            refine wpAnyH_take (i := 4) (oi := { dst := some 68, op := Go.Op.call { callee := Go.Callee.builtin Go.Builtin.len, args := #[Go.Operand.tmp 67], argTypes := #[24] }, type := 3, pos := "l05_session.go:146", after := #[{ on := 3, ground := Go.Ground.data }], guard := none }) (v := ?vm4) rfl (by kernel_rfl) (by kernel_rfl) (by kernel_rfl) (fun _ _ _ h => h) (Or.inl ⟨by rfl, ?hm4⟩) hHeld ?rm4
            case hm4 =>
              intro wS hSw
              (try dsimp only at hSw)
              go_simp
              try with_reducible rfl
            case rm4 =>
            simp only [Act.put, List.setIfInBounds_toArray, List.set_cons_zero, List.set_cons_succ]
            refine wpAnyH_take (i := 5) (oi := { dst := some 69, op := Go.Op.move (Go.Operand.tmp 5), type := 60, pos := "l05_session.go:146", after := #[], guard := none }) (v := ?vm5) rfl (by kernel_rfl) (by kernel_rfl) (by kernel_rfl) (fun _ _ _ h => h) (Or.inl ⟨by rfl, ?hm5⟩) hHeld ?rm5
            case hm5 =>
              intro wS hSw
              (try dsimp only at hSw)
              go_simp
              try with_reducible rfl
            case rm5 =>
            simp only [Act.put, List.setIfInBounds_toArray, List.set_cons_zero, List.set_cons_succ]
            refine wpAnyH_take (i := 6) (oi := { dst := some 70, op := Go.Op.nilCheck (Go.Operand.tmp 69), type := 0, pos := "l05_session.go:146", after := #[{ on := 5, ground := Go.Ground.data }], guard := none }) (v := ?vm6) rfl (by kernel_rfl) (by kernel_rfl) (by kernel_rfl) (fun _ _ _ h => h) (Or.inl ⟨by rfl, ?hm6⟩) hHeld ?rm6
            case hm6 =>
              intro wS hSw
              (try dsimp only at hSw)
              go_simp
              try with_reducible rfl
            case rm6 =>
            simp only [Act.put, List.setIfInBounds_toArray, List.set_cons_zero, List.set_cons_succ]
            refine wpAnyH_take (i := 7) (oi := { dst := some 71, op := Go.Op.fieldAddr 71 (Go.Operand.tmp 70) 0, type := 0, pos := "l05_session.go:146", after := #[{ on := 6, ground := Go.Ground.data }], guard := none }) (v := ?vm7) rfl (by kernel_rfl) (by kernel_rfl) (by kernel_rfl) (fun _ _ _ h => h) (Or.inl ⟨by rfl, ?hm7⟩) hHeld ?rm7
            case hm7 =>
              intro wS hSw
              (try dsimp only at hSw)
              go_simp
              try with_reducible rfl
            case rm7 =>
            simp only [Act.put, List.setIfInBounds_toArray, List.set_cons_zero, List.set_cons_succ]
            refine wpAnyH_take (i := 8) (oi := { dst := some 72, op := Go.Op.load 24 (Go.Operand.tmp 71), type := 24, pos := "l05_session.go:146", after := #[{ on := 7, ground := Go.Ground.data }], guard := none }) (v := ?vm8) rfl (by kernel_rfl) (by kernel_rfl) (by kernel_rfl) (fun _ _ _ h => h) (Or.inl ⟨by rfl, ?hm8⟩) hHeld ?rm8
            case hm8 =>
              intro wS hSw
              have zp : wS.cell? ⟨w.heap.size + 2 + 1, 0, none⟩ = some (.slice ao9 (ws.length + 1) cp9) := (hT12.box.ext hSw (by omega)).at 0 _ rfl
              clear hSw
              (try dsimp only at hSw)
              go_simp
              try with_reducible rfl
            case rm8 =>
            simp only [Act.put, List.setIfInBounds_toArray, List.set_cons_zero, List.set_cons_succ]
            refine wpAnyH_take (i := 9) (oi := { dst := some 73, op := Go.Op.build 31 #[(1, Go.Operand.const (Go.Value.bool true)), (2, Go.Operand.tmp 68), (3, Go.Operand.tmp 72)], type := 31, pos := "l05_session.go:146", after := #[{ on := 4, ground := Go.Ground.data }, { on := 8, ground := Go.Ground.data }], guard := none }) (v := ?vm9) rfl (by kernel_rfl) (by kernel_rfl) (by kernel_rfl) (fun _ _ _ h => h) (Or.inl ⟨by rfl, ?hm9⟩) hHeld ?rm9
            case hm9 =>
              intro wS hSw
              (try dsimp only at hSw)
              go_simp
              try with_reducible rfl
            case rm9 =>
            simp only [Act.put, List.setIfInBounds_toArray, List.set_cons_zero, List.set_cons_succ]
            refine wpAnyH_ready (rs := [10]) (by kernel_rfl) (by simp) ?_
            refine AllReadyH.cons (o := { dst := none, op := Go.Op.store 31 (Go.Operand.tmp 4) (Go.Operand.tmp 73), type := 0, pos := "l05_session.go:146", after := #[{ on := 9, ground := Go.Ground.data }, { on := 0, ground := Go.Ground.phase }, { on := 1, ground := Go.Ground.phase }, { on := 2, ground := Go.Ground.phase }, { on := 3, ground := Go.Ground.phase }, { on := 4, ground := Go.Ground.phase }, { on := 5, ground := Go.Ground.phase }, { on := 6, ground := Go.Ground.phase }, { on := 7, ground := Go.Ground.phase }, { on := 8, ground := Go.Ground.phase }, { on := 9, ground := Go.Ground.phase }], guard := none }) rfl (fun K hK => ?_) AllReadyH.nil
            have zz0 : wS14.cell? ⟨w.heap.size + 1, 0, none⟩ = some (.int .i64 0) := bS.at 0 _ rfl
            have zz1 : wS14.cell? ⟨w.heap.size + 1, 1, none⟩ = some (.bool false) := bS.at 1 _ rfl
            have zz2 : wS14.cell? ⟨w.heap.size + 1, 2, none⟩ = some (.int .i64 0) := bS.at 2 _ rfl
            have zz3 : wS14.cell? ⟨w.heap.size + 1, 3, none⟩ = some (.slice none 0 0) := bS.at 3 _ rfl
            have f0 := bS.soft 0
            have f1 := bS.soft 1
            have f2 := bS.soft 2
            have f3 := bS.soft 3
            have l0 := bS.lt
            go_simp
            refine hK.out _ _ ((((hHeld.setCell ⟨w.heap.size + 1, 0, none⟩ _ rfl).setCell ⟨w.heap.size + 1, 1, none⟩ _ rfl).setCell ⟨w.heap.size + 1, 2, none⟩ _ rfl).setCell ⟨w.heap.size + 1, 3, none⟩ _ rfl) (fun hHeld => ?_)
            clear hK K
            try simp only [Act.put, List.setIfInBounds_toArray, List.set_cons_zero, List.set_cons_succ]
            refine wpAnyH_done (by kernel_rfl) ?_ _
            refine NoPanic.normal ?_
            have HBZ := hide (below4 hBS (Nat.le_add_right _ 1) (.int .i64 0) (.bool true) (.int .i64 ((ws.length : Int) + 1)) (.slice ao9 (ws.length + 1) cp9))
            have hE : Ext (fun c => c = w.heap.size + 1) wS14 ((((wS14.setCell ⟨w.heap.size + 1, 0, none⟩ (.int .i64 0)).setCell ⟨w.heap.size + 1, 1, none⟩ (.bool true)).setCell ⟨w.heap.size + 1, 2, none⟩ (.int .i64 ((ws.length : Int) + 1))).setCell ⟨w.heap.size + 1, 3, none⟩ (.slice ao9 (ws.length + 1) cp9)) := ((((Ext.refl (fun c => c = w.heap.size + 1) _).setCell ⟨w.heap.size + 1, 0, none⟩ _ rfl).setCell ⟨w.heap.size + 1, 1, none⟩ _ rfl).setCell ⟨w.heap.size + 1, 2, none⟩ _ rfl).setCell ⟨w.heap.size + 1, 3, none⟩ _ rfl
            have HOZ : Hid ((Lay.sl Lay.tWrite).OwnIn ((((wS14.setCell ⟨w.heap.size + 1, 0, none⟩ (.int .i64 0)).setCell ⟨w.heap.size + 1, 1, none⟩ (.bool true)).setCell ⟨w.heap.size + 1, 2, none⟩ (.int .i64 ((ws.length : Int) + 1))).setCell ⟨w.heap.size + 1, 3, none⟩ (.slice ao9 (ws.length + 1) cp9)) [.slice ao9 (ws.length + 1) cp9] (ws ++ [x]) w.heap.size ((((wS14.setCell ⟨w.heap.size + 1, 0, none⟩ (.int .i64 0)).setCell ⟨w.heap.size + 1, 1, none⟩ (.bool true)).setCell ⟨w.heap.size + 1, 2, none⟩ (.int .i64 ((ws.length : Int) + 1))).setCell ⟨w.heap.size + 1, 3, none⟩ (.slice ao9 (ws.length + 1) cp9)).heap.size) := (hOS.ext hE (fun c h1 _ h3 => by omega)).mono (by omega) (by simp)
            have zz := bS
            have z0 : ((((wS14.setCell ⟨w.heap.size + 1, 0, none⟩ (.int .i64 0)).setCell ⟨w.heap.size + 1, 1, none⟩ (.bool true)).setCell ⟨w.heap.size + 1, 2, none⟩ (.int .i64 ((ws.length : Int) + 1))).setCell ⟨w.heap.size + 1, 3, none⟩ (.slice ao9 (ws.length + 1) cp9)).cell? ⟨w.heap.size + 1, 0, none⟩ = some (.int .i64 0) := ((((bS.set 0 (.int .i64 0)).set 1 (.bool true)).set 2 (.int .i64 ((ws.length : Int) + 1))).set 3 (.slice ao9 (ws.length + 1) cp9)).at 0 _ rfl
            have z1 : ((((wS14.setCell ⟨w.heap.size + 1, 0, none⟩ (.int .i64 0)).setCell ⟨w.heap.size + 1, 1, none⟩ (.bool true)).setCell ⟨w.heap.size + 1, 2, none⟩ (.int .i64 ((ws.length : Int) + 1))).setCell ⟨w.heap.size + 1, 3, none⟩ (.slice ao9 (ws.length + 1) cp9)).cell? ⟨w.heap.size + 1, 1, none⟩ = some (.bool true) := ((((bS.set 0 (.int .i64 0)).set 1 (.bool true)).set 2 (.int .i64 ((ws.length : Int) + 1))).set 3 (.slice ao9 (ws.length + 1) cp9)).at 1 _ rfl
            have z2 : ((((wS14.setCell ⟨w.heap.size + 1, 0, none⟩ (.int .i64 0)).setCell ⟨w.heap.size + 1, 1, none⟩ (.bool true)).setCell ⟨w.heap.size + 1, 2, none⟩ (.int .i64 ((ws.length : Int) + 1))).setCell ⟨w.heap.size + 1, 3, none⟩ (.slice ao9 (ws.length + 1) cp9)).cell? ⟨w.heap.size + 1, 2, none⟩ = some (.int .i64 ((ws.length : Int) + 1)) := ((((bS.set 0 (.int .i64 0)).set 1 (.bool true)).set 2 (.int .i64 ((ws.length : Int) + 1))).set 3 (.slice ao9 (ws.length + 1) cp9)).at 2 _ rfl
            have z3 : ((((wS14.setCell ⟨w.heap.size + 1, 0, none⟩ (.int .i64 0)).setCell ⟨w.heap.size + 1, 1, none⟩ (.bool true)).setCell ⟨w.heap.size + 1, 2, none⟩ (.int .i64 ((ws.length : Int) + 1))).setCell ⟨w.heap.size + 1, 3, none⟩ (.slice ao9 (ws.length + 1) cp9)).cell? ⟨w.heap.size + 1, 3, none⟩ = some (.slice ao9 (ws.length + 1) cp9) := ((((bS.set 0 (.int .i64 0)).set 1 (.bool true)).set 2 (.int .i64 ((ws.length : Int) + 1))).set 3 (.slice ao9 (ws.length + 1) cp9)).at 3 _ rfl
            clear hHeld bS hBS hOS hE zz hT12 bR12 HB12 HO12
            generalize ((((wS14.setCell ⟨w.heap.size + 1, 0, none⟩ (.int .i64 0)).setCell ⟨w.heap.size + 1, 1, none⟩ (.bool true)).setCell ⟨w.heap.size + 1, 2, none⟩ (.int .i64 ((ws.length : Int) + 1))).setCell ⟨w.heap.size + 1, 3, none⟩ (.slice ao9 (ws.length + 1) cp9)) = wZ at *
            go_wp2_with fail
            refine bodyPost_ret (v := .agg #[.int .i64 0, .bool true, .int .i64 ((ws.length : Int) + 1), .slice ao9 (ws.length + 1) cp9]) (by simp [results, Tryd.results7, go_sem, z0, z1, z2, z3]) rfl ?_
            rw [unhide HG]
            exact ⟨_, rfl, own_once (by decide) (wf_of_bd (by omega)) (unhide HOZ), unhide HBZ⟩
      · obtain rfl : bs = true := by rw [unhide HBS]; simpa using hsn
        have HG : Hid (appR ws x = ⟨0, false, seenI ws x.session x.seq, ws⟩) := appR_seen (unhide HFW) hf hsn
        have hlen := (writesF_zero (unhide HFW)).1
        have hsl := Nat.le_trans (seenI_le ws x.session x.seq) hlen
        obtain ⟨ao9, cp9, rfl⟩ := told_form hT5
        have zp : w7.cell? ⟨w.heap.size + 2 + 1, 0, none⟩ = some (.slice ao9 ws.length cp9) := hT5.box.at 0 _ rfl
        have HO := hide (hT5.own (by omega))
        have bR := bR5
        have z0 : w7.cell? ⟨w.heap.size + 1, 0, none⟩ = some (.int .i64 0) := bR.at 0 _ rfl
        have z1 : w7.cell? ⟨w.heap.size + 1, 1, none⟩ = some (.bool false) := bR.at 1 _ rfl
        have z2 : w7.cell? ⟨w.heap.size + 1, 2, none⟩ = some (.int .i64 0) := bR.at 2 _ rfl
        have z3 : w7.cell? ⟨w.heap.size + 1, 3, none⟩ = some (.slice none 0 0) := bR.at 3 _ rfl
        have f0 := bR.soft 0
        have f1 := bR.soft 1
        have f2 := bR.soft 2
        have f3 := bR.soft 3
        have l0 := bR.lt
        have hE : Ext (fun c => c = w.heap.size + 1) w7 ((((w7.setCell ⟨w.heap.size + 1, 0, none⟩ (.int .i64 0)).setCell ⟨w.heap.size + 1, 1, none⟩ (.bool false)).setCell ⟨w.heap.size + 1, 2, none⟩ (.int .i64 (seenI ws x.session x.seq))).setCell ⟨w.heap.size + 1, 3, none⟩ (.slice ao9 ws.length cp9)) := ((((Ext.refl (fun c => c = w.heap.size + 1) _).setCell ⟨w.heap.size + 1, 0, none⟩ _ rfl).setCell ⟨w.heap.size + 1, 1, none⟩ _ rfl).setCell ⟨w.heap.size + 1, 2, none⟩ _ rfl).setCell ⟨w.heap.size + 1, 3, none⟩ _ rfl
        have HOZ : Hid ((Lay.sl Lay.tWrite).OwnIn ((((w7.setCell ⟨w.heap.size + 1, 0, none⟩ (.int .i64 0)).setCell ⟨w.heap.size + 1, 1, none⟩ (.bool false)).setCell ⟨w.heap.size + 1, 2, none⟩ (.int .i64 (seenI ws x.session x.seq))).setCell ⟨w.heap.size + 1, 3, none⟩ (.slice ao9 ws.length cp9)) [.slice ao9 ws.length cp9] ws w.heap.size ((((w7.setCell ⟨w.heap.size + 1, 0, none⟩ (.int .i64 0)).setCell ⟨w.heap.size + 1, 1, none⟩ (.bool false)).setCell ⟨w.heap.size + 1, 2, none⟩ (.int .i64 (seenI ws x.session x.seq))).setCell ⟨w.heap.size + 1, 3, none⟩ (.slice ao9 ws.length cp9)).heap.size) := ((unhide HO).ext hE (fun c h1 _ h3 => by omega)).mono (by omega) (by simp)
        have HBZ := hide (below4 (unhide HB5) (Nat.le_add_right _ 1) (.int .i64 0) (.bool false) (.int .i64 (seenI ws x.session x.seq)) (.slice ao9 ws.length cp9))
        clear HBS hsn bR bR5 hT5 hQ5 HE5 HO hE HB5 hf
        go_wp2_with fail
        refine bodyPost_ret (v := .agg #[.int .i64 0, .bool false, .int .i64 (seenI ws x.session x.seq), .slice ao9 ws.length cp9]) (by simp [results, Tryd.results7, go_sem, z0, z1, z2, z3]) rfl ?_
        rw [unhide HG]
        exact ⟨_, rfl, own_once (by decide) (wf_of_bd (by omega)) (unhide HOZ), unhide HBZ⟩
    · have hd : (wF x != 0) = true := by simpa using hf
      have HG : Hid (appR ws x = ⟨wF x, false, 0, []⟩) := appR_bad (unhide HFW) hf
      have HWF := hide (wF_wf x)
      generalize hdr : deedRes x.kind x.id x.vec x.session x.seq = dr at *
      have z0 : w4.cell? ⟨w.heap.size + 1, 0, none⟩ = some (.int .i64 0) := bR.at 0 _ rfl
      have z1 : w4.cell? ⟨w.heap.size + 1, 1, none⟩ = some (.bool false) := bR.at 1 _ rfl
      have z2 : w4.cell? ⟨w.heap.size + 1, 2, none⟩ = some (.int .i64 0) := bR.at 2 _ rfl
      have z3 : w4.cell? ⟨w.heap.size + 1, 3, none⟩ = some (.slice none 0 0) := bR.at 3 _ rfl
      have f0 := bR.soft 0
      have f1 := bR.soft 1
      have f2 := bR.soft 2
      have f3 := bR.soft 3
      have l0 := bR.lt
      clear hf hdr bR hQ4 hT4 HE4
      go_wp2_with fail
      refine bodyPost_ret (v := .agg #[.int .i64 (wF x), .bool false, .int .i64 0, .slice none 0 0]) (by simp [results, Tryd.results7, go_sem, z0, z1, z2, z3]) rfl ?_
      rw [unhide HG]
      exact ⟨_, rfl, own_codeOnce (unhide HWF), ((((unhide HB4).setCell (by simp) _).setCell (by simp) _).setCell (by simp) _).setCell (by simp) _⟩
  · obtain rfl := g1 hfw
    clear g0 g1
    have HG : Hid (appR ws x = ⟨writesF ws, false, 0, []⟩) := appR_wrong hfw
    have HWF := hide (wsF_wf ws)
    have hd : (writesF ws != 0) = true := by simpa using hfw
    have z0 : w2.cell? ⟨w.heap.size + 1, 0, none⟩ = some (.int .i64 0) := bR.at 0 _ rfl
    have z1 : w2.cell? ⟨w.heap.size + 1, 1, none⟩ = some (.bool false) := bR.at 1 _ rfl
    have z2 : w2.cell? ⟨w.heap.size + 1, 2, none⟩ = some (.int .i64 0) := bR.at 2 _ rfl
    have z3 : w2.cell? ⟨w.heap.size + 1, 3, none⟩ = some (.slice none 0 0) := bR.at 3 _ rfl
    have f0 := bR.soft 0
    have f1 := bR.soft 1
    have f2 := bR.soft 2
    have f3 := bR.soft 3
    have l0 := bR.lt
    clear hfw bR HQ2 HR3 HE2
    go_wp2_with fail
    refine bodyPost_ret (v := .agg #[.int .i64 (writesF ws), .bool false, .int .i64 0, .slice none 0 0]) (by simp [results, Tryd.results7, go_sem, z0, z1, z2, z3]) rfl ?_
    rw [unhide HG]
    exact ⟨_, rfl, own_codeOnce (unhide HWF), ((((unhide HB2).setCell (by simp) _).setCell (by simp) _).setCell (by simp) _).setCell (by simp) _⟩

end Go.Proofs.YtkodenmpadehjaaDoor

namespace Go.Proofs.YtkodenmpadehjaaDoor
open Go.RowKit

set_option maxRecDepth 10000 in
set_option maxHeartbeats 1000000 in
theorem l5Seen_pos (b off cap : Nat) (ws : List DWrite) (s q : Int) (w : World) (h : (Lay.sl Lay.tWrite).Reads w [.slice (some ⟨b, off, none⟩) ws.length cap] ws)  (hn : ws.length ≤ 10000000) :
    Calls Tryd.prog 62 #[.slice (some ⟨b, off, none⟩) ws.length cap, .int .i64 s, .int .i64 q] w fun e w' => e = .returned (.int .i64 (seenI ws s q)) ∧ w' = w := by
  have H := hide h
  clear h
  go_enter Tryd.func62, Tryd.ntmps62
  go_wp2_with fail
  go_loop [7] (fun i => ∃ k : Nat, k ≤ ws.length ∧ i = .int .i64 k ∧ (∀ j (hj : j < ws.length), j < k → ¬ (ws[j].session = s ∧ ws[j].seq = q))) (fun i => ws.length - (intOf i).toNat)
  case atStart => exact ⟨0, Nat.zero_le _, rfl, fun j _ hj => by omega⟩
  case round =>
    obtain ⟨k, hk, rfl, hz⟩ := hrel
    by_cases hlt : k < ws.length
    · obtain ⟨row, hc, hr⟩ := Lay.row_at (unhide H) hlt
      obtain ⟨a2, d2, rfl, R2⟩ := open_Write hr
      have c3 : w.cell? ⟨b, off + k * 5 + 3, none⟩ = some (.int .i64 (ws[k]).session) := hc 3 (by decide)
      have c4 : w.cell? ⟨b, off + k * 5 + 4, none⟩ = some (.int .i64 (ws[k]).seq) := hc 4 (by decide)
      have HAT : Hid (ws[k].session = s ∧ ws[k].seq = q → seenI ws s q = k + 1) := fun he => seenI_at hlt hz he
      have HZ2 : Hid (¬ (ws[k].session = s ∧ ws[k].seq = q) → ∀ j (hj : j < ws.length), j < k + 1 → ¬ (ws[j].session = s ∧ ws[j].seq = q)) := by
        intro h0 j hj hjk
        by_cases hjk2 : j < k
        · exact hz j hj hjk2
        · obtain rfl : j = k := by omega
          exact h0
      clear hc hr R2 hz
      generalize hx : ws[k] = x at *
      clear hx
      have hwr : IntKind.i64.wrap ((k : Int) + 1) = (k : Int) + 1 := by rw [IntKind.wrap_i64]; omega
      by_cases hs : x.session = s
      · have ds : (x.session == s) = true := by simpa using hs
        by_cases hq : x.seq = q
        · have dq : (x.seq == q) = true := by simpa using hq
          have HG := hide (unhide HAT ⟨hs, hq⟩)
          clear HAT HZ2 hs hq
          go_wp2_with fail
          go_ret
          exact ⟨by rw [unhide HG]; simp, rfl⟩
        · have dq : (x.seq == q) = false := by simpa using hq
          have HZ := hide (unhide HZ2 fun e => hq e.2)
          clear HAT HZ2 hs hq hwr
          go_wp2_with fail
          go_round
          case rel => exact ⟨k + 1, by omega, by go_num, unhide HZ⟩
          case measure => simp [intOf]; omega
      · have ds : (x.session == s) = false := by simpa using hs
        have HZ := hide (unhide HZ2 fun e => hs e.1)
        clear HAT HZ2 hs hwr
        go_wp2_with fail
        go_round
        case rel => exact ⟨k + 1, by omega, by go_num, unhide HZ⟩
        case measure => simp [intOf]; omega
    · obtain rfl : k = ws.length := by omega
      have HG : Hid (seenI ws s q = 0) := seenI_none fun j hj => hz j hj hj
      clear H hz
      go_wp2_with fail
      go_ret
      exact ⟨by rw [unhide HG]; rfl, rfl⟩

theorem l5SeenC (v : Value) (ws : List DWrite) (s q : Int) (w : World) (h : (Lay.sl Lay.tWrite).Reads w [v] ws) (hn : ws.length ≤ 10000000) :
    Calls Tryd.prog 62 #[v, .int .i64 s, .int .i64 q] w fun e w' => e = .returned (.int .i64 (seenI ws s q)) ∧ w' = w := by
  obtain ⟨ao, cap, rfl⟩ := open_sl h
  by_cases hp : 0 < ws.length
  · obtain ⟨b, off, rfl, -⟩ := Lay.sl_addr h hp
    exact l5Seen_pos b off cap ws s q w h hn
  · obtain rfl : ws = [] := List.eq_nil_of_length_eq_zero (by omega)
    clear h hn hp
    go_enter Tryd.func62, Tryd.ntmps62
    go_wp2_with fail
    refine wp_loop_rounds 1 ?_
    rw [rounds_succ]
    go_wp2_with fail
    go_ret
    exact ⟨rfl, rfl⟩

end Go.Proofs.YtkodenmpadehjaaDoor

namespace Go.Proofs.YtkodenmpadehjaaDoor
open Go.RowKit

theorem append_noneI {P : Program} (t ty e : TypeId) (i : TypeInfo) (ht : P.underlying t = some (.slice e)) (hi : P.info? e = some i) (bo : Option Addr) (n cap c : Nat) (hn : n ≤ cap) (w : World) :
    (Builtin.append_ #[t, t] ty #[.slice bo n cap, .slice none 0 c]).run P w = (Builtin.append_ #[t, t] ty #[.slice bo n cap, .slice (some ⟨0, 0, none⟩) 0 c]).run P w := by
  simp [Builtin.append_, run_underlying ht, sizeOf, typeInfo, hi, Builtin.lenOf, hn, Builtin.firstCells, loadCells, loadCellsFrom]

theorem IsInts.news {w : World} {b off cap : Nat} {zs : List Int} (h : IsInts w (.slice (some ⟨b, off, none⟩) zs.length cap) zs) (hp : 0 < zs.length) : ∀ j u, (zs.map (Value.int .i64))[j]? = some u → w.cell? ((⟨b, off, none⟩ : Addr).add j) = some u := by
  intro j u hu
  obtain ⟨ao, cp, hv, hwf, hc⟩ := h
  obtain ⟨b', off', hao, hc1⟩ := hc hp
  simp only [Value.slice.injEq] at hv
  obtain ⟨rfl, -, -⟩ := hv
  simp only [Option.some.injEq, Addr.mk.injEq, and_true] at hao
  obtain ⟨rfl, rfl⟩ := hao
  have hj : j < zs.length := by
    have := (List.getElem?_eq_some_iff.1 hu).1
    simpa using this
  rw [Addr.add_lit, hc1 j hj]
  simp [hj] at hu
  simp [List.getD, hj, hu]

theorem run_append_ints {w : World} (base ty : Nat) (v : Value) (n : Nat) (xs : List Value) (hown : w.ownsRow base 2 1 v n xs) (x : Value) (ks : List Int) (hx : IsInts w x ks)
    (hn : n + ks.length ≤ 100000000) (hbase : base ≤ w.heap.size) :
    ∃ v' w', (Builtin.append_ #[25, 25] ty #[v, x]).run Tryd.prog w = .ok v' w' ∧ w'.ownsRow base 2 1 v' (n + ks.length) (xs ++ ks.map (Value.int .i64)) ∧ w.grownBy w' v.ownBlock := by
  obtain ⟨i0, hi, hz0, hz1, hz2⟩ := info_parts info2
  have hml : n + ks.length ≤ maxLen := by unfold maxLen; omega
  by_cases hp : 0 < ks.length
  · have hx' := hx
    obtain ⟨ao, cap, rfl, hwf, hc⟩ := hx'
    obtain ⟨b, off, rfl, hc1⟩ := hc hp
    obtain ⟨v', w', r1, r2, r3, -, -⟩ := run_append_own_at (P := Tryd.prog) w base 25 ty 2 i0 _ 1 8 Tryd.underlying25 hi hz0 hz1 hz2 rfl (by omega) v n xs hown ⟨b, off, none⟩ ks.length cap (ks.map (Value.int .i64)) (by simp) (hx.news hp) (by simp [Value.oneCell']) hml (by omega) hbase
    exact ⟨v', w', r1, r2, r3⟩
  · obtain rfl : ks = [] := List.eq_nil_of_length_eq_zero (by omega)
    obtain ⟨ao, cap, rfl, hwf, hc⟩ := hx
    cases ao with
    | none =>
      obtain ⟨v', w', r1, r2, r3, -, -⟩ := run_append_own_at (P := Tryd.prog) w base 25 ty 2 i0 _ 1 8 Tryd.underlying25 hi hz0 hz1 hz2 rfl (by omega) v n xs hown ⟨0, 0, none⟩ 0 cap [] rfl (by simp) (by simp) hml (by simp at hn; omega) hbase
      refine ⟨v', w', ?_, r2, r3⟩
      rcases hown.2 with ⟨rfl, h0⟩ | ⟨g, cp, cur, rfl, _, _, hle, _⟩
      · exact (append_noneI _ _ _ i0 Tryd.underlying25 hi none 0 0 cap (Nat.le_refl _) w).trans r1
      · exact (append_noneI _ _ _ i0 Tryd.underlying25 hi _ n cp cap hle w).trans r1
    | some ad =>
      obtain ⟨v', w', r1, r2, r3, -, -⟩ := run_append_own_at (P := Tryd.prog) w base 25 ty 2 i0 _ 1 8 Tryd.underlying25 hi hz0 hz1 hz2 rfl (by omega) v n xs hown ad 0 cap [] rfl (by simp) (by simp) hml (by simp at hn; omega) hbase
      exact ⟨v', w', r1, r2, r3⟩

/-- The same at an operation of a plain region. -/
theorem wpList_append_ints {w : World} {base : Nat} {v : Value} {n : Nat} {xs : List Value} (hown : w.ownsRow base 2 1 v n xs) {X : Value} {ks : List Int} (hx : IsInts w X ks)
    {ops : Array Oper} {rest : List Oper} {o : Oper} {a : Act} {Q : Exit → Act → World → Prop} (hgd : o.guard = none) (s x : Operand)
    (ho : o.op = .call { callee := .builtin .append, args := #[s, x], argTypes := #[25, 25] }) (hv : a.eval s = v) (hX : a.eval x = X)
    (hn : n + ks.length ≤ 100000000) (hbase : base ≤ w.heap.size)
    (h : ∀ v' w', w'.ownsRow base 2 1 v' (n + ks.length) (xs ++ ks.map (Value.int .i64)) → w.grownBy w' v.ownBlock → Below base w w' → wpList Tryd.prog ops Q rest (a.put o.dst v') w') :
    wpList Tryd.prog ops Q (o :: rest) a w := by
  refine wpList_plain hgd fun K hK => ?_
  obtain ⟨v', w', hr, h2, h3⟩ := run_append_ints base o.type v n xs hown X ks hx hn hbase
  unfold Oper.wp execOp
  simp only [ho, resolve, invoke, builtin, Sem.run_bind, Sem.run_pure, Result.andThen_ok, List.map_toArray, List.map_cons, List.map_nil, hv, hX, hr]
  exact hK _ _ (h v' w' h2 h3 ((Below.refl _ _).grown h3 hbase (fun j hj => (hown.lt j hj).1)))

end Go.Proofs.YtkodenmpadehjaaDoor

namespace Go.Proofs.YtkodenmpadehjaaDoor
open Go.RowKit

set_option maxHeartbeats 400000 in
theorem l1Ints (v : Value) (zs : List Int) (w : World) (h : IsInts w v zs) (hn : zs.length ≤ 100000000) :
    Calls Tryd.prog 65 #[v] w fun e w' => ∃ v', e = .returned v' ∧ w'.ownsRow w.heap.size 2 1 v' zs.length (zs.map (Value.int .i64)) ∧ Below w.heap.size w w' := by
  have nb : Below w.heap.size w (w.alloc (.cells #[] 2)) := (Below.refl _ _).alloc (Nat.le_refl _) _
  have O : (w.alloc (.cells #[] 2)).ownsRow w.heap.size 2 1 (.slice (some ⟨w.heap.size, 0, none⟩) 0 0) 0 [] := World.ownsRow_lit w _ 0 (Nat.le_refl _) (by unfold maxLen; omega) rfl
  have h1 := h.later nb
  obtain ⟨ao, cap, rfl, -⟩ := h
  have HB := hide nb
  clear nb
  go_enter Tryd.func65, Tryd.ntmps65
  go_wp2_with (at_builtin; refine wpList_append_ints O h1 rfl _ _ rfl rfl rfl (by omega) (by simp) ?_)
  rintro v' w' O2 - hb
  have HB2 := hide ((unhide HB).trans hb)
  clear O h1 hb HB
  go_wp2_with fail
  go_ret
  exact ⟨v', rfl, by simpa using O2, unhide HB2⟩

end Go.Proofs.YtkodenmpadehjaaDoor

namespace Go.Proofs.YtkodenmpadehjaaDoor
open Go.RowKit

set_option maxRecDepth 100000 in
set_option maxHeartbeats 4000000 in
theorem wcopy_pos (b off cap : Nat) (ws : List DWrite) (w : World) (h : (Lay.sl Lay.tWrite).Reads w [.slice (some ⟨b, off, none⟩) ws.length cap] ws) (hbl : b < w.heap.size) (hn : ws.length ≤ 10000000) (hv : ∀ x ∈ ws, x.vec.length ≤ 100000000) :
    Calls Tryd.prog 63 #[.slice (some ⟨b, off, none⟩) ws.length cap] w fun e w' => ∃ v', e = .returned v' ∧ (∃ rows bls, Grow Lay.tWrite w' w.heap.size 27 v' rows ws bls ∧ ∀ c ∈ bls.flatten, w.heap.size ≤ c) ∧ Below w.heap.size w w' := by
  have H := hide h
  have HV := hide hv
  clear h hv
  have HG0 : Hid (Grow Lay.tWrite (w.alloc (.cells #[] 27)) w.heap.size 27 (.slice (some ⟨w.heap.size, 0, none⟩) 0 0) [] [] []) := Grow.nil (World.ownsRow_lit w #[] 0 (Nat.le_refl _) (Nat.zero_le _) rfl)
  have HB0 := hide ((Below.refl w.heap.size w).alloc (Nat.le_refl _) (.cells #[] 27))
  go_enter Tryd.func63, Tryd.ntmps63
  go_wp2_with fail
  go_loopw [3, 4] (fun v i wr => ∃ (k : Nat) (rows : List (List Value)) (bls : List (List Nat)), k ≤ ws.length ∧ i = .int .i64 k ∧ Grow Lay.tWrite wr w.heap.size 27 v rows (ws.take k) bls ∧ (∀ c ∈ bls.flatten, w.heap.size ≤ c) ∧ Below w.heap.size w wr) (fun _ i _ => ws.length - (intOf i).toNat)
  case atStart => exact ⟨0, [], [], Nat.zero_le _, rfl, unhide HG0, by simp, unhide HB0⟩
  case round =>
    obtain ⟨k, rows, bls, hk, rfl, hG, hSB, hB⟩ := hrel
    have HSB := hide hSB
    clear HG0 HB0 hSB
    by_cases hlt : k < ws.length
    · obtain ⟨row, hc, hr⟩ := Lay.row_at ((unhide H).later hB) hlt
      have hr2 := hr
      obtain ⟨a2, d2, rfl, R2⟩ := open_Write hr
      have c0 : wr.cell? ⟨b, off + k * 5, none⟩ = some (.int .i64 (ws[k]).kind) := hc 0 (by decide)
      have c1 : wr.cell? ⟨b, off + k * 5 + 1, none⟩ = some (.int .i64 (ws[k]).id) := hc 1 (by decide)
      have c2 : wr.cell? ⟨b, off + k * 5 + 2, none⟩ = some (.slice a2 (ws[k]).vec.length d2) := hc 2 (by decide)
      have c3 : wr.cell? ⟨b, off + k * 5 + 3, none⟩ = some (.int .i64 (ws[k]).session) := hc 3 (by decide)
      have c4 : wr.cell? ⟨b, off + k * 5 + 4, none⟩ = some (.int .i64 (ws[k]).seq) := hc 4 (by decide)
      have HWF : Hid ((Lit.int .i64 (ws[k]).kind).wf = true ∧ (Lit.int .i64 (ws[k]).id).wf = true ∧ (Lit.int .i64 (ws[k]).session).wf = true ∧ (Lit.int .i64 (ws[k]).seq).wf = true) := by
        obtain ⟨_, hq⟩ := hr2
        obtain ⟨_, _, _, _, _, q0, q1, _, q3, q4⟩ := lies_Write.1 hq
        exact ⟨q0, q1, q3, q4⟩
      have HT : Hid (ws.take (k + 1) = ws.take k ++ [ws[k]]) := List.take_succ_eq_append_getElem hlt
      have HLn : Hid ((ws.take k).length = k) := by show (ws.take k).length = k; rw [List.length_take]; omega
      have HN := hide (unhide HV ws[k] (List.getElem_mem hlt))
      clear hc hr hr2
      generalize hx : ws[k] = x at *
      clear hx
      have hbr : b < wr.heap.size := Nat.lt_of_lt_of_le hbl hB.size
      have nb : Below wr.heap.size wr (wr.alloc (.cells #[.int .i64 x.kind, .int .i64 x.id, .slice a2 x.vec.length d2, .int .i64 x.session, .int .i64 x.seq] 27)) := (Below.refl _ _).alloc (Nat.le_refl _) _
      have bI : Box 0 #[.int .i64 x.kind, .int .i64 x.id, .slice a2 x.vec.length d2, .int .i64 x.session, .int .i64 x.seq] 27 (wr.alloc (.cells #[.int .i64 x.kind, .int .i64 x.id, .slice a2 x.vec.length d2, .int .i64 x.session, .int .i64 x.seq] 27)) wr.heap.size := newBox (Nat.zero_le _)
      have HRW := hide (Lay.ints_reads R2).wf
      have HL := hide (l1Ints _ x.vec _ ((Lay.ints_reads R2).later nb) (unhide HN))
      have HG := hide (hG.later nb)
      have HB := hide (hB.trans (nb.mono hB.size))
      have HBI := hide bI
      have HZW : Hid (w.heap.size ≤ wr.heap.size) := hB.size
      have HOW : Hid (∀ c, u3.ownBlock = some c → c < wr.heap.size) := fun c hc => (hG.own.lt c hc).2
      have HSL : Hid (∀ c ∈ bls.flatten, c < wr.heap.size) := fun c hc => hG.sub_lt c hc
      clear R2 hG hB nb bI
      go_wp2_with fail
      clear c0 c1 c2 c3 c4
      refine (unhide HL).mono ?_
      generalize hW0 : wr.alloc (.cells #[.int .i64 x.kind, .int .i64 x.id, .slice a2 x.vec.length d2, .int .i64 x.session, .int .i64 x.seq] 27) = W0 at *
      clear hW0
      rintro e w2 ⟨v2, rfl, hO, hb⟩
      have hO2 := Lay.ownInts (unhide HRW) (by have := unhide HN; omega) hO
      obtain ⟨ao2, cp2, rfl⟩ := open_sl hO2.reads
      obtain ⟨bl2, ⟨hl2, -, -⟩, hr2⟩ := hO2
      have bI2 := (unhide HBI).keep hb
      have hZ0 : wr.heap.size < W0.heap.size := (unhide HBI).lt
      have z0 : w2.cell? ⟨wr.heap.size, 0, none⟩ = some (.int .i64 x.kind) := bI2.at 0 _ rfl
      have z1 : w2.cell? ⟨wr.heap.size, 1, none⟩ = some (.int .i64 x.id) := bI2.at 1 _ rfl
      have z2 : w2.cell? ⟨wr.heap.size, 2, none⟩ = some (.slice a2 x.vec.length d2) := bI2.at 2 _ rfl
      have z3 : w2.cell? ⟨wr.heap.size, 3, none⟩ = some (.int .i64 x.session) := bI2.at 3 _ rfl
      have z4 : w2.cell? ⟨wr.heap.size, 4, none⟩ = some (.int .i64 x.seq) := bI2.at 4 _ rfl
      have f2 := bI2.soft 2
      have l2 := bI2.lt
      have hE : Ext (fun c => c = wr.heap.size) w2 (w2.setCell ⟨wr.heap.size, 2, none⟩ (.slice ao2 x.vec.length cp2)) := (Ext.refl (fun c => c = wr.heap.size) w2).setCell ⟨wr.heap.size, 2, none⟩ _ rfl
      have hl3 : Lay.tWrite.lies (w2.setCell ⟨wr.heap.size, 2, none⟩ (.slice ao2 x.vec.length cp2)) [.int .i64 x.kind, .int .i64 x.id, .slice ao2 x.vec.length cp2, .int .i64 x.session, .int .i64 x.seq] x bl2 := lies_Write.2 ⟨ao2, cp2, bl2, rfl, rfl, (unhide HWF).1, (unhide HWF).2.1, (Lay.sl Lay.int).keep hl2 (fun c hc => hE.block c ((Lay.sl Lay.int).lt hl2 c hc) (by have := (hr2 c hc).1; omega)), (unhide HWF).2.2.1, (unhide HWF).2.2.2⟩
      have hG2 := (unhide HG).later hb
      have hoff : ∀ c ∈ bl2, u3.ownBlock ≠ some c := fun c hc e => by have h1 := (hr2 c hc).1; have h2 := unhide HOW c e; omega
      have HB3 : Hid (Below w.heap.size w (w2.setCell ⟨wr.heap.size, 2, none⟩ (.slice ao2 x.vec.length cp2))) := ((unhide HB).trans (hb.mono (unhide HB).size)).setCell (by simpa using unhide HZW) _
      have hG3 : Grow Lay.tWrite (w2.setCell ⟨wr.heap.size, 2, none⟩ (.slice ao2 x.vec.length cp2)) w.heap.size 27 u3 rows (ws.take k) bls := hG2.kept (by
        obtain ⟨h1, h2⟩ := hG2.own
        refine ⟨h1, ?_⟩
        rcases h2 with h2 | ⟨gb, cap', cur, hv, hg, hh, r⟩
        · exact Or.inl h2
        · exact Or.inr ⟨gb, cap', cur, hv, hg, (hE.block gb (lt_of_block hh) (by have := unhide HOW gb (by rw [hv]; rfl); omega)).trans hh, r⟩) (fun c hc => hE.block c (hG2.sub_lt c hc) (fun e => by
        have := unhide HSL c hc
        omega))
      have hZ3 : w.heap.size ≤ (w2.setCell ⟨wr.heap.size, 2, none⟩ (.slice ao2 x.vec.length cp2)).heap.size := (unhide HB3).size
      have hK : (ws.take k).length + 1 ≤ 100000000 := by rw [unhide HLn]; omega
      have y0 : (w2.setCell ⟨wr.heap.size, 2, none⟩ (.slice ao2 x.vec.length cp2)).cell? ⟨wr.heap.size, 0, none⟩ = some (.int .i64 x.kind) := (bI2.set 2 _).at 0 _ rfl
      have y1 : (w2.setCell ⟨wr.heap.size, 2, none⟩ (.slice ao2 x.vec.length cp2)).cell? ⟨wr.heap.size, 1, none⟩ = some (.int .i64 x.id) := (bI2.set 2 _).at 1 _ rfl
      have y2 : (w2.setCell ⟨wr.heap.size, 2, none⟩ (.slice ao2 x.vec.length cp2)).cell? ⟨wr.heap.size, 2, none⟩ = some (.slice ao2 x.vec.length cp2) := (bI2.set 2 _).at 2 _ rfl
      have y3 : (w2.setCell ⟨wr.heap.size, 2, none⟩ (.slice ao2 x.vec.length cp2)).cell? ⟨wr.heap.size, 3, none⟩ = some (.int .i64 x.session) := (bI2.set 2 _).at 3 _ rfl
      have y4 : (w2.setCell ⟨wr.heap.size, 2, none⟩ (.slice ao2 x.vec.length cp2)).cell? ⟨wr.heap.size, 4, none⟩ = some (.int .i64 x.seq) := (bI2.set 2 _).at 4 _ rfl
      have HSB5 : Hid (∀ c ∈ (bls ++ [bl2]).flatten, w.heap.size ≤ c) := by
        intro c hc
        rw [List.flatten_append] at hc
        rcases List.mem_append.1 hc with hc | hc
        · exact unhide HSB c hc
        · have h1 := (hr2 c (by simpa using hc)).1
          have h2 := unhide HZW
          omega
      clear z0 z1 z3 z4 bI2 hE hG2 hl2 hO HG HL HB HBI HRW HN HWF hb hr2 hZ0
      go_upto_region 7 with fail
      generalize w2.setCell ⟨wr.heap.size, 2, none⟩ (.slice ao2 x.vec.length cp2) = W3 at *
      go_wp2_with (at_builtin; refine wpList_append_Write hG3 hl3 hoff rfl _ _ rfl rfl rfl hK hZ3 ?_)
      intro g5 cap5 w5 hG5 hb5 hE5 hg5 hz5 hor5
      have HG5 := hide hG5
      have HB5 := hide ((unhide HB3).trans hb5)
      clear hG3 hl3 hoff hZ3 hK hG5 hb5 hE5 hg5 hz5 hor5 HB3 y0 y1 y2 y3 y4 z2 f2 l2
      go_wp2_with fail
      go_roundw
      case rel =>
        have hg := unhide HG5
        rw [← unhide HT] at hg
        try rw [unhide HLn] at hg
        exact ⟨k + 1, _, _, by omega, by go_num, hg, unhide HSB5, unhide HB5⟩
      case measure => simp [intOf]; omega
    · obtain rfl : k = ws.length := by omega
      rw [List.take_length] at hG
      have HG := hide hG
      have HB := hide hB
      clear hG hB H
      go_wp2_with fail
      go_ret
      exact ⟨_, rfl, ⟨_, _, unhide HG, unhide HSB⟩, unhide HB⟩

/-- l3Copy of the model. -/
theorem wcopyC (v : Value) (ws : List DWrite) (w : World) (h : (Lay.sl Lay.tWrite).Reads w [v] ws) (hn : ws.length ≤ 10000000) (hv : ∀ x ∈ ws, x.vec.length ≤ 100000000) :
    Calls Tryd.prog 63 #[v] w fun e w' => ∃ v', e = .returned v' ∧ (∃ rows bls, Grow Lay.tWrite w' w.heap.size 27 v' rows ws bls ∧ ∀ c ∈ bls.flatten, w.heap.size ≤ c) ∧ Below w.heap.size w w' := by
  obtain ⟨ao, cap, rfl⟩ := open_sl h
  by_cases hp : 0 < ws.length
  · obtain ⟨b, off, rfl, hbl⟩ := Lay.sl_addr h hp
    exact wcopy_pos b off cap ws w h hbl hn hv
  · obtain rfl : ws = [] := List.eq_nil_of_length_eq_zero (by omega)
    clear h hp hn hv
    have HB := hide ((Below.refl w.heap.size w).alloc (Nat.le_refl _) (.cells #[] 27))
    have HG : Hid (Grow Lay.tWrite (w.alloc (.cells #[] 27)) w.heap.size 27 (.slice (some ⟨w.heap.size, 0, none⟩) 0 0) [] [] []) := Grow.nil (World.ownsRow_lit w #[] 0 (Nat.le_refl _) (Nat.zero_le _) rfl)
    go_enter Tryd.func63, Tryd.ntmps63
    go_wp2_with fail
    refine wp_loop_rounds 1 ?_
    rw [rounds_succ]
    go_wp2_with fail
    go_ret
    exact ⟨_, rfl, ⟨_, _, unhide HG, by simp⟩, unhide HB⟩

end Go.Proofs.YtkodenmpadehjaaDoor
