/-
  OnceRight of the program: whether of each session the numbers rise; nothing old is written.
  No condition.
-/
import Derived.Test.YtkodenmpadehjaaImplStory
import Derived.Deep.RegionHeld3
namespace Go.Proofs.Ytkodenmpadehjaa
open Go.RowKit

def acells (f : Int → Int) : Array Value := #[.int .i64 (f 0), .int .i64 (f 1), .int .i64 (f 2), .int .i64 (f 3), .int .i64 (f 4), .int .i64 (f 5), .int .i64 (f 6), .int .i64 (f 7), .int .i64 (f 8), .int .i64 (f 9)]
theorem acells_at (f : Int → Int) (i : Nat) (h : i < 10) : (acells f)[i]? = some (.int .i64 (f i)) := by
  match i, h with
  | 0, _ => rfl
  | 1, _ => rfl
  | 2, _ => rfl
  | 3, _ => rfl
  | 4, _ => rfl
  | 5, _ => rfl
  | 6, _ => rfl
  | 7, _ => rfl
  | 8, _ => rfl
  | 9, _ => rfl
theorem acells_set (f : Int → Int) (i : Nat) (h : i < 10) (z : Int) : (acells f).setIfInBounds i (.int .i64 z) = acells (fun j => if j = i then z else f j) := by
  match i, h with
  | 0, _ => rfl
  | 1, _ => rfl
  | 2, _ => rfl
  | 3, _ => rfl
  | 4, _ => rfl
  | 5, _ => rfl
  | 6, _ => rfl
  | 7, _ => rfl
  | 8, _ => rfl
  | 9, _ => rfl

set_option maxRecDepth 100000 in
set_option maxHeartbeats 4000000 in
theorem onceRight_pos (b off cap : Nat) (ws : List DWrite) (w : World) (h : (Lay.sl Lay.tWrite).Reads w [.slice (some ⟨b, off, none⟩) ws.length cap] ws) (hbl : b < w.heap.size) (hf : writesF ws = 0) :
    Calls Try.prog 16 #[.slice (some ⟨b, off, none⟩) ws.length cap] w fun e w' => e = .returned (.bool (onceB [] ws)) ∧ Below w.heap.size w w' := by
  have HL := hide (storyC _ ws w h)
  have H := hide h
  obtain ⟨hlen, hall⟩ := writesF_zero hf
  have HA := hide hall
  have HF := hide hf
  clear h hall hf
  go_enter Try.func16, Try.ntmps16
  go_wp2_with fail
  refine (unhide HL).mono ?_
  rintro e w2 ⟨r, rfl, g0, -, hb⟩
  obtain ⟨rfl, -⟩ := g0 (unhide HF)
  rw [unhide HF]
  have HB0 := hide (hb.alloc hb.size (.cells #[.int .i64 0, .int .i64 0, .int .i64 0, .int .i64 0, .int .i64 0, .int .i64 0, .int .i64 0, .int .i64 0, .int .i64 0, .int .i64 0] 54))
  have HX0 : Hid (Box 0 (acells (lastI [])) 54 (w2.alloc (.cells #[.int .i64 0, .int .i64 0, .int .i64 0, .int .i64 0, .int .i64 0, .int .i64 0, .int .i64 0, .int .i64 0, .int .i64 0, .int .i64 0] 54)) w2.heap.size) := newBox (Nat.zero_le _)
  have hz2 := hb.size
  clear hb HL HF g0
  go_wp2_with fail
  generalize w2.alloc (.cells #[.int .i64 0, .int .i64 0, .int .i64 0, .int .i64 0, .int .i64 0, .int .i64 0, .int .i64 0, .int .i64 0, .int .i64 0, .int .i64 0] 54) = W1 at *
  generalize w2.heap.size = L at *
  go_loopw [17] (fun i wr => ∃ k : Nat, k ≤ ws.length ∧ i = .int .i64 k ∧ (∀ j (hj : j < ws.length), j < k → lastI ([] ++ ws.take j) (ws[j]).session < (ws[j]).seq) ∧ Box 0 (acells (lastI (ws.take k))) 54 wr L ∧ Below w.heap.size w wr) (fun i _ => ws.length - (intOf i).toNat)
  case atStart => exact ⟨0, Nat.zero_le _, rfl, fun j _ hj => by omega, unhide HX0, unhide HB0⟩
  case round =>
    obtain ⟨k, hk, rfl, hz, hX, hB⟩ := hrel
    clear HX0 HB0
    by_cases hlt : k < ws.length
    · obtain ⟨row, hc, hr⟩ := Lay.row_at (unhide H) hlt
      replace hr := hr.later hB
      obtain ⟨a2, d2, rfl, R2⟩ := open_Write hr
      have c0 : wr.cell? ⟨b, off + k * 5, none⟩ = some (.int .i64 (ws[k]).kind) := (hB.cell (p := ⟨b, off + k * 5, none⟩) hbl).trans (hc 0 (by decide))
      have c1 : wr.cell? ⟨b, off + k * 5 + 1, none⟩ = some (.int .i64 (ws[k]).id) := (hB.cell (p := ⟨b, off + k * 5 + 1, none⟩) hbl).trans (hc 1 (by decide))
      have c2 : wr.cell? ⟨b, off + k * 5 + 2, none⟩ = some (.slice a2 (ws[k]).vec.length d2) := (hB.cell (p := ⟨b, off + k * 5 + 2, none⟩) hbl).trans (hc 2 (by decide))
      have c3 : wr.cell? ⟨b, off + k * 5 + 3, none⟩ = some (.int .i64 (ws[k]).session) := (hB.cell (p := ⟨b, off + k * 5 + 3, none⟩) hbl).trans (hc 3 (by decide))
      have c4 : wr.cell? ⟨b, off + k * 5 + 4, none⟩ = some (.int .i64 (ws[k]).seq) := (hB.cell (p := ⟨b, off + k * 5 + 4, none⟩) hbl).trans (hc 4 (by decide))
      have hsq := wF_seq (unhide HA ws[k] (List.getElem_mem hlt))
      have HAT : Hid ((ws[k]).seq ≤ lastI (ws.take k) (ws[k]).session → onceB [] ws = false) := fun he => onceB_at ws [] k hlt (by simpa using he)
      have HZ2 : Hid (lastI (ws.take k) (ws[k]).session < (ws[k]).seq → ∀ j (hj : j < ws.length), j < k + 1 → lastI ([] ++ ws.take j) (ws[j]).session < (ws[j]).seq) := by
        intro h0 j hj hjk
        by_cases hjk2 : j < k
        · exact hz j hj hjk2
        · obtain rfl : j = k := by omega
          simpa using h0
      have HLT : Hid (lastI (ws.take k) (ws[k]).session < (ws[k]).seq → ∀ j : Int, (if j = ((ws[k]).session.toNat : Int) then (ws[k]).seq else lastI (ws.take k) j) = lastI (ws.take (k + 1)) j) := by
        intro h0 j
        have h9 := wF_seq (unhide HA ws[k] (List.getElem_mem hlt))
        rw [lastI_take ws k hlt, show ((ws[k]).session.toNat : Int) = (ws[k]).session by omega]
        by_cases e : j = (ws[k]).session
        · rw [if_pos e, if_pos e.symm, e]; omega
        · rw [if_neg e, if_neg (fun h => e h.symm)]
      clear hc hr hz R2
      generalize hx : ws[k] = x at *
      clear hx
      have hbr : b < wr.heap.size := Nat.lt_of_lt_of_le hbl hB.size
      have nb : Below wr.heap.size wr (wr.alloc (.cells #[.int .i64 x.kind, .int .i64 x.id, .slice a2 x.vec.length d2, .int .i64 x.session, .int .i64 x.seq] 47)) := (Below.refl _ _).alloc (Nat.le_refl _) _
      have bI : Box 0 #[.int .i64 x.kind, .int .i64 x.id, .slice a2 x.vec.length d2, .int .i64 x.session, .int .i64 x.seq] 47 (wr.alloc (.cells #[.int .i64 x.kind, .int .i64 x.id, .slice a2 x.vec.length d2, .int .i64 x.session, .int .i64 x.seq] 47)) wr.heap.size := newBox (Nat.zero_le _)
      have hLq := hX.lt
      have HX1 := hide (hX.keep nb)
      have HB1 := hide (hB.trans (nb.mono hB.size))
      have HBI := hide bI
      have hLw : w.heap.size ≤ L := hz2
      clear nb bI hX hB
      go_wp2_with fail
      clear c0 c1 c2 c3 c4
      generalize wr.alloc (.cells #[.int .i64 x.kind, .int .i64 x.id, .slice a2 x.vec.length d2, .int .i64 x.session, .int .i64 x.seq] 47) = W0 at *
      obtain ⟨b1, b9, q1, q9⟩ := hsq
      have hs9 : x.session.toNat < 10 := by omega
      have hsi : (x.session.toNat : Int) = x.session := by omega
      have i1 : (0 : Int) ≤ x.session := by omega
      have i2 : x.session < 10 := by omega
      have hXD := unhide HX1
      have hID := unhide HBI
      refine wp_region_noPanic ?_
      refine wp_region_held_drew (S := fun w' => w' = W0.drew) (by kernel_rfl) rfl (fun hHeld => ?_)
      refine wpAnyH_take (i := 0) (oi := { dst := some 21, op := Go.Op.fieldAddr 47 (Go.Operand.tmp 7) 4, type := 0, pos := "l05_session.go:155", after := #[], guard := none }) (v := ?vo0) rfl (by kernel_rfl) (by kernel_rfl) (by kernel_rfl) (fun _ _ _ h => h) (Or.inl ⟨by rfl, ?ho0⟩) hHeld ?ro0
      case ho0 =>
        intro wS hSw
        (try dsimp only at hSw)
        go_simp
        try with_reducible rfl
      case ro0 =>
      simp only [Act.put, List.setIfInBounds_toArray, List.set_cons_zero, List.set_cons_succ]
      refine wpAnyH_take (i := 1) (oi := { dst := some 22, op := Go.Op.load 2 (Go.Operand.tmp 21), type := 2, pos := "l05_session.go:155", after := #[{ on := 0, ground := Go.Ground.data }], guard := none }) (v := ?vo1) rfl (by kernel_rfl) (by kernel_rfl) (by kernel_rfl) (fun _ _ _ h => h) (Or.inl ⟨by rfl, ?ho1⟩) hHeld ?ro1
      case ho1 =>
        intro wS hSw
        have y3 : wS.cell? ⟨wr.heap.size, 3, none⟩ = some (.int .i64 x.session) := by rw [hSw]; exact hID.at 3 _ rfl
        have y4 : wS.cell? ⟨wr.heap.size, 4, none⟩ = some (.int .i64 x.seq) := by rw [hSw]; exact hID.at 4 _ rfl
        have yl : wS.cell? ⟨L, x.session.toNat, none⟩ = some (.int .i64 (lastI (ws.take k) x.session)) := by
          have := hXD.at _ _ (acells_at (lastI (ws.take k)) x.session.toNat hs9)
          rw [hsi] at this
          rw [hSw]; exact this
        clear hSw
        (try dsimp only at hSw)
        go_simp
        try with_reducible rfl
      case ro1 =>
      simp only [Act.put, List.setIfInBounds_toArray, List.set_cons_zero, List.set_cons_succ]
      refine wpAnyH_take (i := 2) (oi := { dst := some 23, op := Go.Op.fieldAddr 47 (Go.Operand.tmp 7) 3, type := 0, pos := "l05_session.go:155", after := #[], guard := none }) (v := ?vo2) rfl (by kernel_rfl) (by kernel_rfl) (by kernel_rfl) (fun _ _ _ h => h) (Or.inl ⟨by rfl, ?ho2⟩) hHeld ?ro2
      case ho2 =>
        intro wS hSw
        (try dsimp only at hSw)
        go_simp
        try with_reducible rfl
      case ro2 =>
      simp only [Act.put, List.setIfInBounds_toArray, List.set_cons_zero, List.set_cons_succ]
      refine wpAnyH_take (i := 3) (oi := { dst := some 24, op := Go.Op.load 2 (Go.Operand.tmp 23), type := 2, pos := "l05_session.go:155", after := #[{ on := 2, ground := Go.Ground.data }], guard := none }) (v := ?vo3) rfl (by kernel_rfl) (by kernel_rfl) (by kernel_rfl) (fun _ _ _ h => h) (Or.inl ⟨by rfl, ?ho3⟩) hHeld ?ro3
      case ho3 =>
        intro wS hSw
        have y3 : wS.cell? ⟨wr.heap.size, 3, none⟩ = some (.int .i64 x.session) := by rw [hSw]; exact hID.at 3 _ rfl
        have y4 : wS.cell? ⟨wr.heap.size, 4, none⟩ = some (.int .i64 x.seq) := by rw [hSw]; exact hID.at 4 _ rfl
        have yl : wS.cell? ⟨L, x.session.toNat, none⟩ = some (.int .i64 (lastI (ws.take k) x.session)) := by
          have := hXD.at _ _ (acells_at (lastI (ws.take k)) x.session.toNat hs9)
          rw [hsi] at this
          rw [hSw]; exact this
        clear hSw
        (try dsimp only at hSw)
        go_simp
        try with_reducible rfl
      case ro3 =>
      simp only [Act.put, List.setIfInBounds_toArray, List.set_cons_zero, List.set_cons_succ]
      refine wpAnyH_take (i := 4) (oi := { dst := some 25, op := Go.Op.indexAddr 54 (Go.Operand.tmp 5) (Go.Operand.tmp 24), type := 0, pos := "l05_session.go:155", after := #[{ on := 3, ground := Go.Ground.data }], guard := none }) (v := ?vo4) rfl (by kernel_rfl) (by kernel_rfl) (by kernel_rfl) (fun _ _ _ h => h) (Or.inl ⟨by rfl, ?ho4⟩) hHeld ?ro4
      case ho4 =>
        intro wS hSw
        (try dsimp only at hSw)
        go_simp
        try with_reducible rfl
      case ro4 =>
      simp only [Act.put, List.setIfInBounds_toArray, List.set_cons_zero, List.set_cons_succ]
      refine wpAnyH_take (i := 5) (oi := { dst := some 26, op := Go.Op.load 2 (Go.Operand.tmp 25), type := 2, pos := "l05_session.go:155", after := #[{ on := 4, ground := Go.Ground.data }], guard := none }) (v := ?vo5) rfl (by kernel_rfl) (by kernel_rfl) (by kernel_rfl) (fun _ _ _ h => h) (Or.inl ⟨by rfl, ?ho5⟩) hHeld ?ro5
      case ho5 =>
        intro wS hSw
        have y3 : wS.cell? ⟨wr.heap.size, 3, none⟩ = some (.int .i64 x.session) := by rw [hSw]; exact hID.at 3 _ rfl
        have y4 : wS.cell? ⟨wr.heap.size, 4, none⟩ = some (.int .i64 x.seq) := by rw [hSw]; exact hID.at 4 _ rfl
        have yl : wS.cell? ⟨L, x.session.toNat, none⟩ = some (.int .i64 (lastI (ws.take k) x.session)) := by
          have := hXD.at _ _ (acells_at (lastI (ws.take k)) x.session.toNat hs9)
          rw [hsi] at this
          rw [hSw]; exact this
        clear hSw
        (try dsimp only at hSw)
        go_simp
        try with_reducible rfl
      case ro5 =>
      simp only [Act.put, List.setIfInBounds_toArray, List.set_cons_zero, List.set_cons_succ]
      refine wpAnyH_take (i := 6) (oi := { dst := some 27, op := Go.Op.binOp Go.BinOp.leq 2 (Go.Operand.tmp 22) (Go.Operand.tmp 26) 2, type := 4, pos := "l05_session.go:155", after := #[{ on := 1, ground := Go.Ground.data }, { on := 5, ground := Go.Ground.data }], guard := none }) (v := ?vo6) rfl (by kernel_rfl) (by kernel_rfl) (by kernel_rfl) (fun _ _ _ h => h) (Or.inl ⟨by rfl, ?ho6⟩) hHeld ?ro6
      case ho6 =>
        intro wS hSw
        (try dsimp only at hSw)
        go_simp
        try with_reducible rfl
      case ro6 =>
      simp only [Act.put, List.setIfInBounds_toArray, List.set_cons_zero, List.set_cons_succ]
      refine wpAnyH_done (by kernel_rfl) ?_ _
      refine NoPanic.normal ?_
      clear hHeld
      have HBD := hide (unhide HB1).drew
      have hX2 : Box 0 (acells (lastI (ws.take k))) 54 W0.drew L := unhide HX1
      have hI2 : Box 0 #[.int .i64 x.kind, .int .i64 x.id, .slice a2 x.vec.length d2, .int .i64 x.session, .int .i64 x.seq] 47 W0.drew wr.heap.size := unhide HBI
      generalize W0.drew = W2 at *
      clear HX1 HBI HB1 hXD hID
      by_cases hq : x.seq ≤ lastI (ws.take k) x.session
      · have hd : decide (x.seq ≤ lastI (ws.take k) x.session) = true := by simpa using hq
        have HG := hide (unhide HAT hq)
        clear hq HAT HZ2 HLT hsi
        rw [hd]
        go_wp2_with fail
        go_ret
        exact ⟨by rw [unhide HG]; first | done | rfl, unhide HBD⟩
      · have hd : decide (x.seq ≤ lastI (ws.take k) x.session) = false := by simpa using hq
        have HZ := hide (unhide HZ2 (by omega))
        have HX3 : Hid (Box 0 (acells (lastI (ws.take (k + 1)))) 54 (W2.setCell ⟨L, x.session.toNat, none⟩ (.int .i64 x.seq)) L) := by
          have e := hX2.set x.session.toNat (.int .i64 x.seq)
          rw [acells_set _ _ hs9, funext (unhide HLT (by omega))] at e
          exact e
        have HB3 : Hid (Below w.heap.size w (W2.setCell ⟨L, x.session.toNat, none⟩ (.int .i64 x.seq))) := (unhide HBD).setCell (by simp; omega) _
        have y3 : W2.cell? ⟨wr.heap.size, 3, none⟩ = some (.int .i64 x.session) := hI2.at 3 _ rfl
        have y4 : W2.cell? ⟨wr.heap.size, 4, none⟩ = some (.int .i64 x.seq) := hI2.at 4 _ rfl
        have yl : W2.cell? ⟨L, x.session.toNat, none⟩ = some (.int .i64 (lastI (ws.take k) x.session)) := by
          have := hX2.at _ _ (acells_at (lastI (ws.take k)) x.session.toNat hs9)
          rwa [hsi] at this
        have fl := hX2.soft x.session.toNat
        have ll := hX2.lt
        clear hq HAT HZ2 HLT hsi hX2 hI2 HBD
        rw [hd]
        go_wp2_with fail
        go_roundw
        case rel => exact ⟨k + 1, by omega, by go_num, unhide HZ, unhide HX3, unhide HB3⟩
        case measure => simp [intOf]; omega
    · obtain rfl : k = ws.length := by omega
      have HG : Hid (onceB [] ws = true) := onceB_all ws [] fun j hj => hz j hj hj
      have HB := hide hB
      clear H hz hB hX
      go_wp2_with fail
      go_ret
      exact ⟨by rw [unhide HG]; first | done | rfl, unhide HB⟩

set_option maxRecDepth 10000 in
set_option maxHeartbeats 1000000 in
/-- OnceRight of the program. -/
theorem implOnce (v : Value) (ws : List DWrite) (w : World) (h : (Lay.sl Lay.tWrite).Reads w [v] ws) :
    Calls Try.prog 16 #[v] w fun e w' => e = .returned (.bool (onceR ws)) ∧ Below w.heap.size w w' := by
  obtain ⟨ao, cap, rfl⟩ := open_sl h
  by_cases hf : writesF ws = 0
  · have e1 : onceR ws = onceB [] ws := by simp [onceR, hf]
    rw [e1]
    by_cases hp : 0 < ws.length
    · obtain ⟨b, off, rfl, hbl⟩ := Lay.sl_addr h hp
      exact onceRight_pos b off cap ws w h hbl hf
    · obtain rfl : ws = [] := List.eq_nil_of_length_eq_zero (by omega)
      have HL := hide (storyC _ [] w h)
      clear h hp e1 hf
      go_enter Try.func16, Try.ntmps16
      go_wp2_with fail
      refine (unhide HL).mono ?_
      rintro e w2 ⟨r, rfl, g0, -, hb⟩
      obtain ⟨rfl, -⟩ := g0 rfl
      rw [show writesF [] = 0 from rfl]
      have HB0 := hide (hb.alloc hb.size (.cells #[.int .i64 0, .int .i64 0, .int .i64 0, .int .i64 0, .int .i64 0, .int .i64 0, .int .i64 0, .int .i64 0, .int .i64 0, .int .i64 0] 54))
      clear hb HL g0
      go_wp2_with fail
      refine wp_loop_rounds 1 ?_
      rw [rounds_succ]
      go_wp2_with fail
      go_ret
      exact ⟨rfl, unhide HB0⟩
  · have HL := hide (storyC _ ws w h)
    have HG : Hid (onceR ws = false) := by show onceR ws = _; simp [onceR, hf]
    have hd : (writesF ws != 0) = true := by simpa using hf
    clear h
    go_enter Try.func16, Try.ntmps16
    go_wp2_with fail
    refine (unhide HL).mono ?_
    rintro e w2 ⟨r, rfl, -, -, hb⟩
    have HB0 := hide hb
    clear hb HL hf
    go_wp2_with fail
    go_ret
    exact ⟨by rw [unhide HG]; first | done | rfl, unhide HB0⟩

end Go.Proofs.Ytkodenmpadehjaa
