/-
  Texts of this proof in one: ImplWText, MsgTextP, MsgWordsP, LayMore, StrConcat, ImplMWords.
  Their conditions stand in their theorems.
-/
import Derived.Test.YtkmfkaljdngigaaDoorMt05
import Derived.Deep.RegionHeld3
import Derived.Test.YtkmfkaljdngigaaDoorMt04
import Derived.Test.YtkmfkaljdngigaaDoorMt02
import Derived.Test.YtkmfkaljdngigaaDoorMt01
import Derived.Maps.AppendAt
import Derived.Test.YtkmfkaljdngigaaDoorChecked
import Derived.Lib.AppendZerosOnto
import Derived.BigQuiet
import Derived.Deep.QuietTactic
import Derived.WalkSmall

namespace Go.Proofs.YtkmfkaljdngigaaDoor
open Go.RowKit

set_option maxRecDepth 100000 in
set_option maxHeartbeats 4000000 in
theorem implWT_put (a2 : Option Addr) (d2 : Nat) (x : DWrite) (w : World) (h : IsInts w (.slice a2 x.vec.length d2) x.vec) (hf : writeFault x.kind x.id x.vec x.session x.seq = 0) (hk : x.kind = 1) (ht : Tab w) :
    Calls Tryd.prog 31 #[.agg #[.int .i64 x.kind, .int .i64 x.id, .slice a2 x.vec.length d2, .int .i64 x.session, .int .i64 x.seq]] w fun e w' => ToldT w w' e (wtextR x) := by
  obtain ⟨hi, hs, hq, hkk⟩ := writeFault_zero hf
  have LS : Hid (∀ W, Tab W → Calls Tryd.prog 29 #[.int .i64 x.session] W fun e w' => e = .returned (str (dec x.session)) ∧ Below W.heap.size W w') := fun W h => decimalC _ W (by omega) (by omega) h
  have LQ : Hid (∀ W, Tab W → Calls Tryd.prog 29 #[.int .i64 x.seq] W fun e w' => e = .returned (str (dec x.seq)) ∧ Below W.heap.size W w') := fun W h => decimalC _ W (by omega) (by omega) h
  have LW : Hid (∀ W, Tab W → Calls Tryd.prog 48 #[deedV x.kind x.vec, .int .i64 x.id] W fun e w' => ToldWords W w' e [[112, 117, 116], dec x.id, vecText x.vec]) := fun W h => by
    have hv : vecFault x.vec = 0 := by rcases hkk with ⟨-, h⟩ | ⟨h, -⟩; exact h; omega
    rw [deedV, if_pos hk]
    have hl := (vecFault_zero hv).1
    obtain ⟨p, q, r, e⟩ : ∃ p q r, x.vec = [p, q, r] := by
      match hx : x.vec, hl with
      | [p, q, r], _ => exact ⟨p, q, r, rfl⟩
    rw [e] at hv ⊢
    exact words_put x.id p q r W hi hv h
  have l0 := dec_len x.id
  have l1 := dec_len x.session
  have l2 := dec_len x.seq
  have l3 := vecText_len x.vec
  have HE : Hid (wtextR x = ⟨0, ⟨(writeTail x.session x.seq (writeHead x.kind x.id x.vec)).toArray⟩⟩) := by
    show wtextR x = _
    rw [wtextR, writeText, if_pos hf, hf]
  have HH : Hid (writeTail x.session x.seq (writeHead x.kind x.id x.vec) = [112, 117, 116, 32] ++ dec x.id ++ [32] ++ vecText x.vec ++ [32, 98, 121, 32] ++ dec x.session ++ [32] ++ dec x.seq) := by
    show writeTail x.session x.seq (writeHead x.kind x.id x.vec) = _
    rw [writeTail, writeHead, if_pos hk]
  rw [unhide HH] at HE
  clear HH
  have B0 : Below w.heap.size w ((w.alloc (.cells #[.int .i64 x.kind, .int .i64 x.id, .slice a2 x.vec.length d2, .int .i64 x.session, .int .i64 x.seq] 31)).alloc (.cells #[.int .i64 0, .string ⟨#[]⟩] 29)) := ((Below.refl _ _).alloc (Nat.le_refl _) _).alloc (by simp) _
  have bA : Box w.heap.size #[.int .i64 x.kind, .int .i64 x.id, .slice a2 x.vec.length d2, .int .i64 x.session, .int .i64 x.seq] 31 ((w.alloc (.cells #[.int .i64 x.kind, .int .i64 x.id, .slice a2 x.vec.length d2, .int .i64 x.session, .int .i64 x.seq] 31)).alloc (.cells #[.int .i64 0, .string ⟨#[]⟩] 29)) w.heap.size := (newBox (Nat.le_refl _)).grow _
  have bR : Box w.heap.size #[.int .i64 0, .string ⟨#[]⟩] 29 ((w.alloc (.cells #[.int .i64 x.kind, .int .i64 x.id, .slice a2 x.vec.length d2, .int .i64 x.session, .int .i64 x.seq] 31)).alloc (.cells #[.int .i64 0, .string ⟨#[]⟩] 29)) (w.heap.size + 1) := newBoxAt (by omega) (by simp)
  have LD := hide (implDeed x.kind x.id _ x.session x.seq x.vec _ (h.later B0))
  have hd : deedRes x.kind x.id x.vec x.session x.seq = deedV x.kind x.vec := by rw [deedRes, if_pos hf]
  simp only [ToldDeed, hd, hf] at LD
  have HT := hide ht
  clear h ht hd hf hk hkk hi hs hq
  generalize deedV x.kind x.vec = dv at *
  simp only [str] at LS LQ
  generalize dec x.id = di at *
  generalize dec x.session = ds at *
  generalize dec x.seq = dq at *
  generalize vecText x.vec = vt at *
  go_enter Tryd.func31, Tryd.ntmps31
  go_wp2_with fail
  generalize (w.alloc (.cells #[.int .i64 x.kind, .int .i64 x.id, .slice a2 x.vec.length d2, .int .i64 x.session, .int .i64 x.seq] 31)).alloc (.cells #[.int .i64 0, .string ⟨#[]⟩] 29) = W0 at *
  refine (unhide LD).mono ?_
  rintro e W1 ⟨rfl, hb⟩
  replace bA := bA.keep hb
  replace bR := bR.keep hb
  have HB1 := hide (B0.trans (hb.mono B0.size))
  have hA := bA.lt
  have hR := bR.lt
  have c0 := bA.at 0 _ rfl
  have c1 := bA.at 1 _ rfl
  have c3 := bA.at 3 _ rfl
  have c4 := bA.at 4 _ rfl
  have HR := hide bR
  clear hb B0 LD bA bR
  simp only [List.getElem_toArray, List.getElem_cons_zero, List.getElem_cons_succ] at c0 c1 c3 c4
  go_wp2_with fail
  refine wp_region_noPanic ?_
  refine wp_region_held_drew (S := fun w' => Below W1.heap.size W1 w') (by kernel_rfl) (Below.refl _ _).drew (fun hHeld => ?_)
  have hDz0 : W1.heap.size ≤ W1.drew.heap.size := Nat.le_refl _
  generalize W1.drew = wD at hHeld hDz0 ⊢
  have hDz : W1.heap.size ≤ wD.heap.size := hDz0
  refine wpAnyH_take (i := 0) (oi := { dst := some 15, op := Go.Op.move (Go.Operand.tmp 3), type := 84, pos := "l03_write.go:156", after := #[], guard := none }) (v := ?v0) rfl (by kernel_rfl) (by kernel_rfl) (by kernel_rfl) (fun _ _ _ h => h) (Or.inl ⟨by rfl, ?h0⟩) hHeld ?r0
  case h0 =>
    intro wS hSw
    (try dsimp only at hSw)
    go_simp
    try with_reducible rfl
  case r0 =>
  simp only [Act.put, List.setIfInBounds_toArray, List.set_cons_zero, List.set_cons_succ]
  refine wpAnyH_take (i := 1) (oi := { dst := some 16, op := Go.Op.fieldAddr 31 (Go.Operand.tmp 1) 1, type := 0, pos := "l03_write.go:156", after := #[], guard := none }) (v := ?v1) rfl (by kernel_rfl) (by kernel_rfl) (by kernel_rfl) (fun _ _ _ h => h) (Or.inl ⟨by rfl, ?h1⟩) hHeld ?r1
  case h1 =>
    intro wS hSw
    (try dsimp only at hSw)
    go_simp
    try with_reducible rfl
  case r1 =>
  simp only [Act.put, List.setIfInBounds_toArray, List.set_cons_zero, List.set_cons_succ]
  refine wpAnyH_take (i := 2) (oi := { dst := some 17, op := Go.Op.load 2 (Go.Operand.tmp 16), type := 2, pos := "l03_write.go:156", after := #[{ on := 1, ground := Go.Ground.data }], guard := none }) (v := ?v2) rfl (by kernel_rfl) (by kernel_rfl) (by kernel_rfl) (fun _ _ _ h => h) (Or.inl ⟨by rfl, ?h2⟩) hHeld ?r2
  case h2 =>
    intro wS hSw
    have y0 := (hSw.cell (p := ⟨w.heap.size, 0, none⟩) hA).trans c0
    have y1 := (hSw.cell (p := ⟨w.heap.size, 1, none⟩) hA).trans c1
    have y3 := (hSw.cell (p := ⟨w.heap.size, 3, none⟩) hA).trans c3
    have y4 := (hSw.cell (p := ⟨w.heap.size, 4, none⟩) hA).trans c4
    clear hSw
    (try dsimp only at hSw)
    go_simp
    try with_reducible rfl
  case r2 =>
  simp only [Act.put, List.setIfInBounds_toArray, List.set_cons_zero, List.set_cons_succ]
  refine wpAnyH_take (i := 4) (oi := { dst := some 19, op := Go.Op.fieldAddr 31 (Go.Operand.tmp 1) 3, type := 0, pos := "l03_write.go:156", after := #[], guard := none }) (v := ?v4) rfl (by kernel_rfl) (by kernel_rfl) (by kernel_rfl) (fun _ _ _ h => h) (Or.inl ⟨by rfl, ?h4⟩) hHeld ?r4
  case h4 =>
    intro wS hSw
    (try dsimp only at hSw)
    go_simp
    try with_reducible rfl
  case r4 =>
  simp only [Act.put, List.setIfInBounds_toArray, List.set_cons_zero, List.set_cons_succ]
  refine wpAnyH_take (i := 5) (oi := { dst := some 20, op := Go.Op.load 2 (Go.Operand.tmp 19), type := 2, pos := "l03_write.go:156", after := #[{ on := 4, ground := Go.Ground.data }], guard := none }) (v := ?v5) rfl (by kernel_rfl) (by kernel_rfl) (by kernel_rfl) (fun _ _ _ h => h) (Or.inl ⟨by rfl, ?h5⟩) hHeld ?r5
  case h5 =>
    intro wS hSw
    have y0 := (hSw.cell (p := ⟨w.heap.size, 0, none⟩) hA).trans c0
    have y1 := (hSw.cell (p := ⟨w.heap.size, 1, none⟩) hA).trans c1
    have y3 := (hSw.cell (p := ⟨w.heap.size, 3, none⟩) hA).trans c3
    have y4 := (hSw.cell (p := ⟨w.heap.size, 4, none⟩) hA).trans c4
    clear hSw
    (try dsimp only at hSw)
    go_simp
    try with_reducible rfl
  case r5 =>
  simp only [Act.put, List.setIfInBounds_toArray, List.set_cons_zero, List.set_cons_succ]
  refine wpAnyH_take (i := 7) (oi := { dst := some 22, op := Go.Op.fieldAddr 31 (Go.Operand.tmp 1) 4, type := 0, pos := "l03_write.go:156", after := #[], guard := none }) (v := ?v7) rfl (by kernel_rfl) (by kernel_rfl) (by kernel_rfl) (fun _ _ _ h => h) (Or.inl ⟨by rfl, ?h7⟩) hHeld ?r7
  case h7 =>
    intro wS hSw
    (try dsimp only at hSw)
    go_simp
    try with_reducible rfl
  case r7 =>
  simp only [Act.put, List.setIfInBounds_toArray, List.set_cons_zero, List.set_cons_succ]
  refine wpAnyH_take (i := 8) (oi := { dst := some 23, op := Go.Op.load 2 (Go.Operand.tmp 22), type := 2, pos := "l03_write.go:156", after := #[{ on := 7, ground := Go.Ground.data }], guard := none }) (v := ?v8) rfl (by kernel_rfl) (by kernel_rfl) (by kernel_rfl) (fun _ _ _ h => h) (Or.inl ⟨by rfl, ?h8⟩) hHeld ?r8
  case h8 =>
    intro wS hSw
    have y0 := (hSw.cell (p := ⟨w.heap.size, 0, none⟩) hA).trans c0
    have y1 := (hSw.cell (p := ⟨w.heap.size, 1, none⟩) hA).trans c1
    have y3 := (hSw.cell (p := ⟨w.heap.size, 3, none⟩) hA).trans c3
    have y4 := (hSw.cell (p := ⟨w.heap.size, 4, none⟩) hA).trans c4
    clear hSw
    (try dsimp only at hSw)
    go_simp
    try with_reducible rfl
  case r8 =>
  simp only [Act.put, List.setIfInBounds_toArray, List.set_cons_zero, List.set_cons_succ]
  refine wpAnyH_ready (rs := [3]) (by kernel_rfl) (by simp) ?_
  refine AllReadyH.cons (o := { dst := some 18, op := Go.Op.call { callee := Go.Callee.value (Go.Operand.func 48), args := #[Go.Operand.tmp 15, Go.Operand.tmp 17], argTypes := #[84, 2] }, type := 45, pos := "l03_write.go:156", after := #[{ on := 0, ground := Go.Ground.data }, { on := 2, ground := Go.Ground.data }], guard := none }) rfl (fun K hK => ?_) AllReadyH.nil
  go_simp
  go_at_call 48
  refine (unhide LW _ ((unhide HT).later ((unhide HB1).trans (hHeld.mono (unhide HB1).size)))).mono ?_
  rintro e w3 ⟨g3, d3, rfl, O, hbw⟩
  have hz3 := hbw.size
  simp only [List.map_cons, List.map_nil, str, List.length_cons, List.length_nil, Nat.zero_add, Nat.reduceAdd] at O ⊢
  try go_wp2_with fail
  refine hK.out _ _ (hHeld.trans (hbw.mono hHeld.size)) (fun hHeld => ?_)
  clear hK K
  try simp only [Act.put, List.setIfInBounds_toArray, List.set_cons_zero, List.set_cons_succ]
  refine wpAnyH_ready (rs := [6]) (by kernel_rfl) (by simp) ?_
  refine AllReadyH.cons (o := { dst := some 21, op := Go.Op.call { callee := Go.Callee.value (Go.Operand.func 29), args := #[Go.Operand.tmp 20], argTypes := #[2] }, type := 9, pos := "l03_write.go:156", after := #[{ on := 5, ground := Go.Ground.data }, { on := 3, ground := Go.Ground.chain }], guard := none }) rfl (fun K hK => ?_) AllReadyH.nil
  go_simp
  go_at_call 29
  refine (unhide LS _ ((unhide HT).later ((unhide HB1).trans (hHeld.mono (unhide HB1).size)))).mono ?_
  rintro e w4 ⟨rfl, hbw⟩
  replace O := own_below O hbw
  have hz4 := hbw.size
  try go_wp2_with fail
  refine hK.out _ _ (hHeld.trans (hbw.mono hHeld.size)) (fun hHeld => ?_)
  clear hK K
  try simp only [Act.put, List.setIfInBounds_toArray, List.set_cons_zero, List.set_cons_succ]
  refine wpAnyH_ready (rs := [9]) (by kernel_rfl) (by simp) ?_
  refine AllReadyH.cons (o := { dst := some 24, op := Go.Op.call { callee := Go.Callee.value (Go.Operand.func 29), args := #[Go.Operand.tmp 23], argTypes := #[2] }, type := 9, pos := "l03_write.go:156", after := #[{ on := 8, ground := Go.Ground.data }, { on := 6, ground := Go.Ground.chain }], guard := none }) rfl (fun K hK => ?_) AllReadyH.nil
  go_simp
  go_at_call 29
  refine (unhide LQ _ ((unhide HT).later ((unhide HB1).trans (hHeld.mono (unhide HB1).size)))).mono ?_
  rintro e w5 ⟨rfl, hbw⟩
  replace O := own_below O hbw
  have hz5 := hbw.size
  try go_wp2_with fail
  refine hK.out _ _ (hHeld.trans (hbw.mono hHeld.size)) (fun hHeld => ?_)
  clear hK K
  try simp only [Act.put, List.setIfInBounds_toArray, List.set_cons_zero, List.set_cons_succ]
  refine wpAnyH_ready (rs := [10]) (by kernel_rfl) (by simp) ?_
  refine AllReadyH.cons (o := { dst := some 25, op := Go.Op.buildSlice 45 3 #[(0, Go.Operand.const (Go.Value.string { data := #[98, 121] })), (1, Go.Operand.tmp 21), (2, Go.Operand.tmp 24)], type := 45, pos := "l03_write.go:156", after := #[{ on := 6, ground := Go.Ground.data }, { on := 9, ground := Go.Ground.data }], guard := none }) rfl (fun K hK => ?_) AllReadyH.nil
  go_simp
  refine hK.out _ _ (hHeld.alloc hHeld.size _) (fun hHeld => ?_)
  clear hK K
  try simp only [Act.put, List.setIfInBounds_toArray, List.set_cons_zero, List.set_cons_succ]
  refine wpAnyH_ready (rs := [11]) (by kernel_rfl) (by simp) ?_
  refine AllReadyH.cons (o := { dst := some 26, op := Go.Op.call { callee := Go.Callee.builtin Go.Builtin.append, args := #[Go.Operand.tmp 18, Go.Operand.tmp 25], argTypes := #[45, 45] }, type := 45, pos := "l03_write.go:156", after := #[{ on := 3, ground := Go.Ground.data }, { on := 10, ground := Go.Ground.data }, { on := 9, ground := Go.Ground.chain }], guard := none }) rfl (fun K hK => ?_) AllReadyH.nil
  have O6 := own_below O ((Below.refl w5.heap.size w5).alloc (Nat.le_refl _) (.cells #[.string ⟨#[98, 121]⟩, .string ⟨ds.toArray⟩, .string ⟨dq.toArray⟩] 9))
  refine step_append_strs O6 [⟨#[98, 121]⟩, ⟨ds.toArray⟩, ⟨dq.toArray⟩] rfl _ _ rfl rfl 3 w5.heap.size rfl (heap_alloc_new w5 _) rfl (by omega) (by omega) (by simp; omega) ?_
  rintro g7 d7 w7 O7 hb7 hl7 hz7
  refine hK.out _ _ (hHeld.trans (hb7.mono (by have := hDz; omega))) (fun hHeld => ?_)
  clear hK K
  try simp only [Act.put, List.setIfInBounds_toArray, List.set_cons_zero, List.set_cons_succ]
  refine wpAnyH_take (i := 12) (oi := { dst := some 5, op := Go.Op.assign (Go.Operand.tmp 26), type := 45, pos := "l03_write.go:156", after := #[{ on := 11, ground := Go.Ground.data }, { on := 11, ground := Go.Ground.chain }, { on := 0, ground := Go.Ground.phase }, { on := 1, ground := Go.Ground.phase }, { on := 2, ground := Go.Ground.phase }, { on := 3, ground := Go.Ground.phase }, { on := 4, ground := Go.Ground.phase }, { on := 5, ground := Go.Ground.phase }, { on := 6, ground := Go.Ground.phase }, { on := 7, ground := Go.Ground.phase }, { on := 8, ground := Go.Ground.phase }, { on := 9, ground := Go.Ground.phase }, { on := 10, ground := Go.Ground.phase }, { on := 11, ground := Go.Ground.phase }], guard := none }) (v := ?v12) rfl (by kernel_rfl) (by kernel_rfl) (by kernel_rfl) (fun _ _ _ h => h) (Or.inl ⟨by rfl, ?h12⟩) hHeld ?r12
  case h12 =>
    intro wS hSw
    (try dsimp only at hSw)
    go_simp
    try with_reducible rfl
  case r12 =>
  simp only [Act.put, List.setIfInBounds_toArray, List.set_cons_zero, List.set_cons_succ]
  refine wpAnyH_done (by kernel_rfl) ?_ _
  refine NoPanic.normal ?_
  have HB7 := hide ((unhide HB1).trans (hHeld.mono (unhide HB1).size))
  have bR := (unhide HR).keep hHeld
  clear hHeld hb7 O O6 HR HB1 c0 c1 c3 c4
  have hcells : ∀ (j : Nat) s, ([⟨([112, 117, 116] : Bytes).toArray⟩, ⟨di.toArray⟩, ⟨vt.toArray⟩, ⟨([98, 121] : Bytes).toArray⟩, ⟨ds.toArray⟩, ⟨dq.toArray⟩] : List ByteArray)[j]? = some s → w7.cell? ⟨g7, 0 + j, none⟩ = some (.string s) := by
    intro j s hj
    have hj2 : j < 6 := by
      rcases Nat.lt_or_ge j 6 with h | h
      · exact h
      · rw [List.getElem?_eq_none (by simpa using h)] at hj; cases hj
    rw [Nat.zero_add, O7.cellAt j (by omega)]
    rcases j with _ | _ | _ | _ | _ | _ | j
    · simp at hj; subst hj; rfl
    · simp at hj; subst hj; rfl
    · simp at hj; subst hj; rfl
    · simp at hj; subst hj; rfl
    · simp at hj; subst hj; rfl
    · simp at hj; subst hj; rfl
    · omega
  have e : Lib.join (([⟨([112, 117, 116] : Bytes).toArray⟩, ⟨di.toArray⟩, ⟨vt.toArray⟩, ⟨([98, 121] : Bytes).toArray⟩, ⟨ds.toArray⟩, ⟨dq.toArray⟩] : List ByteArray).map fun x : ByteArray => x.data.toList) (⟨#[32]⟩ : ByteArray).data.toList = [112, 117, 116, 32] ++ di ++ [32] ++ vt ++ [32, 98, 121, 32] ++ ds ++ [32] ++ dq := by
    simp [Lib.join, List.intercalate]
  have hcap : 6 ≤ d7 := by
    rcases O7.2 with ⟨e, -⟩ | ⟨g9, c9, cur, e, -, -, hc, -⟩
    · simp at e
    · simp only [Value.slice.injEq] at e
      obtain ⟨-, -, rfl⟩ := e
      exact hc
  have LJ := hide (Tryd.strings_Join g7 0 d7 [⟨([112, 117, 116] : Bytes).toArray⟩, ⟨di.toArray⟩, ⟨vt.toArray⟩, ⟨([98, 121] : Bytes).toArray⟩, ⟨ds.toArray⟩, ⟨dq.toArray⟩] ⟨#[32]⟩ w7 hcells hl7 (by simp) hcap (by rw [e]; simp; omega))
  rw [e] at LJ
  clear hcells O7 e hcap
  generalize [112, 117, 116, 32] ++ di ++ [32] ++ vt ++ [32, 98, 121, 32] ++ ds ++ [32] ++ dq = t at *
  go_wp2_with fail
  refine (unhide LJ).mono ?_
  rintro e w8 ⟨rfl, hb⟩
  replace bR := bR.keep hb
  have r0 := bR.at 0 _ rfl
  have r1 := bR.at 1 _ rfl
  have rf := bR.soft
  have rl := bR.lt
  replace HB7 := hide ((unhide HB7).trans (hb.mono (unhide HB7).size))
  clear hb bR LJ
  simp only [List.getElem_toArray, List.getElem_cons_zero, List.getElem_cons_succ] at r0 r1
  go_wp2_with fail
  refine bodyPost_ret (v := .agg #[.int .i64 0, .string ⟨t.toArray⟩]) (by simp [results, Tryd.results31, go_sem, r0, r1]) rfl ?_
  rw [unhide HE]
  exact ⟨[.int .i64 0, .string ⟨t.toArray⟩], rfl, own_text rfl, below_setAll (unhide HB7) (w.heap.size + 1) 0 [.int .i64 0, .string ⟨t.toArray⟩] (by omega)⟩

set_option maxRecDepth 100000 in
set_option maxHeartbeats 4000000 in
theorem implWT_drop (a2 : Option Addr) (d2 : Nat) (x : DWrite) (w : World) (h : IsInts w (.slice a2 x.vec.length d2) x.vec) (hf : writeFault x.kind x.id x.vec x.session x.seq = 0) (hk : x.kind = 2) (ht : Tab w) :
    Calls Tryd.prog 31 #[.agg #[.int .i64 x.kind, .int .i64 x.id, .slice a2 x.vec.length d2, .int .i64 x.session, .int .i64 x.seq]] w fun e w' => ToldT w w' e (wtextR x) := by
  obtain ⟨hi, hs, hq, hkk⟩ := writeFault_zero hf
  have LS : Hid (∀ W, Tab W → Calls Tryd.prog 29 #[.int .i64 x.session] W fun e w' => e = .returned (str (dec x.session)) ∧ Below W.heap.size W w') := fun W h => decimalC _ W (by omega) (by omega) h
  have LQ : Hid (∀ W, Tab W → Calls Tryd.prog 29 #[.int .i64 x.seq] W fun e w' => e = .returned (str (dec x.seq)) ∧ Below W.heap.size W w') := fun W h => decimalC _ W (by omega) (by omega) h
  have LW : Hid (∀ W, Tab W → Calls Tryd.prog 48 #[deedV x.kind x.vec, .int .i64 x.id] W fun e w' => ToldWords W w' e [[100, 114, 111, 112], dec x.id]) := fun W h => by
    rw [deedV, if_neg (by omega)]
    exact words_drop x.id W hi h
  have l0 := dec_len x.id
  have l1 := dec_len x.session
  have l2 := dec_len x.seq
  have l3 := vecText_len x.vec
  have HE : Hid (wtextR x = ⟨0, ⟨(writeTail x.session x.seq (writeHead x.kind x.id x.vec)).toArray⟩⟩) := by
    show wtextR x = _
    rw [wtextR, writeText, if_pos hf, hf]
  have HH : Hid (writeTail x.session x.seq (writeHead x.kind x.id x.vec) = [100, 114, 111, 112, 32] ++ dec x.id ++ [32, 98, 121, 32] ++ dec x.session ++ [32] ++ dec x.seq) := by
    show writeTail x.session x.seq (writeHead x.kind x.id x.vec) = _
    rw [writeTail, writeHead, if_neg (by omega)]
  rw [unhide HH] at HE
  clear HH
  have B0 : Below w.heap.size w ((w.alloc (.cells #[.int .i64 x.kind, .int .i64 x.id, .slice a2 x.vec.length d2, .int .i64 x.session, .int .i64 x.seq] 31)).alloc (.cells #[.int .i64 0, .string ⟨#[]⟩] 29)) := ((Below.refl _ _).alloc (Nat.le_refl _) _).alloc (by simp) _
  have bA : Box w.heap.size #[.int .i64 x.kind, .int .i64 x.id, .slice a2 x.vec.length d2, .int .i64 x.session, .int .i64 x.seq] 31 ((w.alloc (.cells #[.int .i64 x.kind, .int .i64 x.id, .slice a2 x.vec.length d2, .int .i64 x.session, .int .i64 x.seq] 31)).alloc (.cells #[.int .i64 0, .string ⟨#[]⟩] 29)) w.heap.size := (newBox (Nat.le_refl _)).grow _
  have bR : Box w.heap.size #[.int .i64 0, .string ⟨#[]⟩] 29 ((w.alloc (.cells #[.int .i64 x.kind, .int .i64 x.id, .slice a2 x.vec.length d2, .int .i64 x.session, .int .i64 x.seq] 31)).alloc (.cells #[.int .i64 0, .string ⟨#[]⟩] 29)) (w.heap.size + 1) := newBoxAt (by omega) (by simp)
  have LD := hide (implDeed x.kind x.id _ x.session x.seq x.vec _ (h.later B0))
  have hd : deedRes x.kind x.id x.vec x.session x.seq = deedV x.kind x.vec := by rw [deedRes, if_pos hf]
  simp only [ToldDeed, hd, hf] at LD
  have HT := hide ht
  clear h ht hd hf hk hkk hi hs hq
  generalize deedV x.kind x.vec = dv at *
  simp only [str] at LS LQ
  generalize dec x.id = di at *
  generalize dec x.session = ds at *
  generalize dec x.seq = dq at *
  generalize vecText x.vec = vt at *
  go_enter Tryd.func31, Tryd.ntmps31
  go_wp2_with fail
  generalize (w.alloc (.cells #[.int .i64 x.kind, .int .i64 x.id, .slice a2 x.vec.length d2, .int .i64 x.session, .int .i64 x.seq] 31)).alloc (.cells #[.int .i64 0, .string ⟨#[]⟩] 29) = W0 at *
  refine (unhide LD).mono ?_
  rintro e W1 ⟨rfl, hb⟩
  replace bA := bA.keep hb
  replace bR := bR.keep hb
  have HB1 := hide (B0.trans (hb.mono B0.size))
  have hA := bA.lt
  have hR := bR.lt
  have c0 := bA.at 0 _ rfl
  have c1 := bA.at 1 _ rfl
  have c3 := bA.at 3 _ rfl
  have c4 := bA.at 4 _ rfl
  have HR := hide bR
  clear hb B0 LD bA bR
  simp only [List.getElem_toArray, List.getElem_cons_zero, List.getElem_cons_succ] at c0 c1 c3 c4
  go_wp2_with fail
  refine wp_region_noPanic ?_
  refine wp_region_held_drew (S := fun w' => Below W1.heap.size W1 w') (by kernel_rfl) (Below.refl _ _).drew (fun hHeld => ?_)
  have hDz0 : W1.heap.size ≤ W1.drew.heap.size := Nat.le_refl _
  generalize W1.drew = wD at hHeld hDz0 ⊢
  have hDz : W1.heap.size ≤ wD.heap.size := hDz0
  refine wpAnyH_take (i := 0) (oi := { dst := some 15, op := Go.Op.move (Go.Operand.tmp 3), type := 84, pos := "l03_write.go:156", after := #[], guard := none }) (v := ?v0) rfl (by kernel_rfl) (by kernel_rfl) (by kernel_rfl) (fun _ _ _ h => h) (Or.inl ⟨by rfl, ?h0⟩) hHeld ?r0
  case h0 =>
    intro wS hSw
    (try dsimp only at hSw)
    go_simp
    try with_reducible rfl
  case r0 =>
  simp only [Act.put, List.setIfInBounds_toArray, List.set_cons_zero, List.set_cons_succ]
  refine wpAnyH_take (i := 1) (oi := { dst := some 16, op := Go.Op.fieldAddr 31 (Go.Operand.tmp 1) 1, type := 0, pos := "l03_write.go:156", after := #[], guard := none }) (v := ?v1) rfl (by kernel_rfl) (by kernel_rfl) (by kernel_rfl) (fun _ _ _ h => h) (Or.inl ⟨by rfl, ?h1⟩) hHeld ?r1
  case h1 =>
    intro wS hSw
    (try dsimp only at hSw)
    go_simp
    try with_reducible rfl
  case r1 =>
  simp only [Act.put, List.setIfInBounds_toArray, List.set_cons_zero, List.set_cons_succ]
  refine wpAnyH_take (i := 2) (oi := { dst := some 17, op := Go.Op.load 2 (Go.Operand.tmp 16), type := 2, pos := "l03_write.go:156", after := #[{ on := 1, ground := Go.Ground.data }], guard := none }) (v := ?v2) rfl (by kernel_rfl) (by kernel_rfl) (by kernel_rfl) (fun _ _ _ h => h) (Or.inl ⟨by rfl, ?h2⟩) hHeld ?r2
  case h2 =>
    intro wS hSw
    have y0 := (hSw.cell (p := ⟨w.heap.size, 0, none⟩) hA).trans c0
    have y1 := (hSw.cell (p := ⟨w.heap.size, 1, none⟩) hA).trans c1
    have y3 := (hSw.cell (p := ⟨w.heap.size, 3, none⟩) hA).trans c3
    have y4 := (hSw.cell (p := ⟨w.heap.size, 4, none⟩) hA).trans c4
    clear hSw
    (try dsimp only at hSw)
    go_simp
    try with_reducible rfl
  case r2 =>
  simp only [Act.put, List.setIfInBounds_toArray, List.set_cons_zero, List.set_cons_succ]
  refine wpAnyH_take (i := 4) (oi := { dst := some 19, op := Go.Op.fieldAddr 31 (Go.Operand.tmp 1) 3, type := 0, pos := "l03_write.go:156", after := #[], guard := none }) (v := ?v4) rfl (by kernel_rfl) (by kernel_rfl) (by kernel_rfl) (fun _ _ _ h => h) (Or.inl ⟨by rfl, ?h4⟩) hHeld ?r4
  case h4 =>
    intro wS hSw
    (try dsimp only at hSw)
    go_simp
    try with_reducible rfl
  case r4 =>
  simp only [Act.put, List.setIfInBounds_toArray, List.set_cons_zero, List.set_cons_succ]
  refine wpAnyH_take (i := 5) (oi := { dst := some 20, op := Go.Op.load 2 (Go.Operand.tmp 19), type := 2, pos := "l03_write.go:156", after := #[{ on := 4, ground := Go.Ground.data }], guard := none }) (v := ?v5) rfl (by kernel_rfl) (by kernel_rfl) (by kernel_rfl) (fun _ _ _ h => h) (Or.inl ⟨by rfl, ?h5⟩) hHeld ?r5
  case h5 =>
    intro wS hSw
    have y0 := (hSw.cell (p := ⟨w.heap.size, 0, none⟩) hA).trans c0
    have y1 := (hSw.cell (p := ⟨w.heap.size, 1, none⟩) hA).trans c1
    have y3 := (hSw.cell (p := ⟨w.heap.size, 3, none⟩) hA).trans c3
    have y4 := (hSw.cell (p := ⟨w.heap.size, 4, none⟩) hA).trans c4
    clear hSw
    (try dsimp only at hSw)
    go_simp
    try with_reducible rfl
  case r5 =>
  simp only [Act.put, List.setIfInBounds_toArray, List.set_cons_zero, List.set_cons_succ]
  refine wpAnyH_take (i := 7) (oi := { dst := some 22, op := Go.Op.fieldAddr 31 (Go.Operand.tmp 1) 4, type := 0, pos := "l03_write.go:156", after := #[], guard := none }) (v := ?v7) rfl (by kernel_rfl) (by kernel_rfl) (by kernel_rfl) (fun _ _ _ h => h) (Or.inl ⟨by rfl, ?h7⟩) hHeld ?r7
  case h7 =>
    intro wS hSw
    (try dsimp only at hSw)
    go_simp
    try with_reducible rfl
  case r7 =>
  simp only [Act.put, List.setIfInBounds_toArray, List.set_cons_zero, List.set_cons_succ]
  refine wpAnyH_take (i := 8) (oi := { dst := some 23, op := Go.Op.load 2 (Go.Operand.tmp 22), type := 2, pos := "l03_write.go:156", after := #[{ on := 7, ground := Go.Ground.data }], guard := none }) (v := ?v8) rfl (by kernel_rfl) (by kernel_rfl) (by kernel_rfl) (fun _ _ _ h => h) (Or.inl ⟨by rfl, ?h8⟩) hHeld ?r8
  case h8 =>
    intro wS hSw
    have y0 := (hSw.cell (p := ⟨w.heap.size, 0, none⟩) hA).trans c0
    have y1 := (hSw.cell (p := ⟨w.heap.size, 1, none⟩) hA).trans c1
    have y3 := (hSw.cell (p := ⟨w.heap.size, 3, none⟩) hA).trans c3
    have y4 := (hSw.cell (p := ⟨w.heap.size, 4, none⟩) hA).trans c4
    clear hSw
    (try dsimp only at hSw)
    go_simp
    try with_reducible rfl
  case r8 =>
  simp only [Act.put, List.setIfInBounds_toArray, List.set_cons_zero, List.set_cons_succ]
  refine wpAnyH_ready (rs := [3]) (by kernel_rfl) (by simp) ?_
  refine AllReadyH.cons (o := { dst := some 18, op := Go.Op.call { callee := Go.Callee.value (Go.Operand.func 48), args := #[Go.Operand.tmp 15, Go.Operand.tmp 17], argTypes := #[84, 2] }, type := 45, pos := "l03_write.go:156", after := #[{ on := 0, ground := Go.Ground.data }, { on := 2, ground := Go.Ground.data }], guard := none }) rfl (fun K hK => ?_) AllReadyH.nil
  go_simp
  go_at_call 48
  refine (unhide LW _ ((unhide HT).later ((unhide HB1).trans (hHeld.mono (unhide HB1).size)))).mono ?_
  rintro e w3 ⟨g3, d3, rfl, O, hbw⟩
  have hz3 := hbw.size
  simp only [List.map_cons, List.map_nil, str, List.length_cons, List.length_nil, Nat.zero_add, Nat.reduceAdd] at O ⊢
  try go_wp2_with fail
  refine hK.out _ _ (hHeld.trans (hbw.mono hHeld.size)) (fun hHeld => ?_)
  clear hK K
  try simp only [Act.put, List.setIfInBounds_toArray, List.set_cons_zero, List.set_cons_succ]
  refine wpAnyH_ready (rs := [6]) (by kernel_rfl) (by simp) ?_
  refine AllReadyH.cons (o := { dst := some 21, op := Go.Op.call { callee := Go.Callee.value (Go.Operand.func 29), args := #[Go.Operand.tmp 20], argTypes := #[2] }, type := 9, pos := "l03_write.go:156", after := #[{ on := 5, ground := Go.Ground.data }, { on := 3, ground := Go.Ground.chain }], guard := none }) rfl (fun K hK => ?_) AllReadyH.nil
  go_simp
  go_at_call 29
  refine (unhide LS _ ((unhide HT).later ((unhide HB1).trans (hHeld.mono (unhide HB1).size)))).mono ?_
  rintro e w4 ⟨rfl, hbw⟩
  replace O := own_below O hbw
  have hz4 := hbw.size
  try go_wp2_with fail
  refine hK.out _ _ (hHeld.trans (hbw.mono hHeld.size)) (fun hHeld => ?_)
  clear hK K
  try simp only [Act.put, List.setIfInBounds_toArray, List.set_cons_zero, List.set_cons_succ]
  refine wpAnyH_ready (rs := [9]) (by kernel_rfl) (by simp) ?_
  refine AllReadyH.cons (o := { dst := some 24, op := Go.Op.call { callee := Go.Callee.value (Go.Operand.func 29), args := #[Go.Operand.tmp 23], argTypes := #[2] }, type := 9, pos := "l03_write.go:156", after := #[{ on := 8, ground := Go.Ground.data }, { on := 6, ground := Go.Ground.chain }], guard := none }) rfl (fun K hK => ?_) AllReadyH.nil
  go_simp
  go_at_call 29
  refine (unhide LQ _ ((unhide HT).later ((unhide HB1).trans (hHeld.mono (unhide HB1).size)))).mono ?_
  rintro e w5 ⟨rfl, hbw⟩
  replace O := own_below O hbw
  have hz5 := hbw.size
  try go_wp2_with fail
  refine hK.out _ _ (hHeld.trans (hbw.mono hHeld.size)) (fun hHeld => ?_)
  clear hK K
  try simp only [Act.put, List.setIfInBounds_toArray, List.set_cons_zero, List.set_cons_succ]
  refine wpAnyH_ready (rs := [10]) (by kernel_rfl) (by simp) ?_
  refine AllReadyH.cons (o := { dst := some 25, op := Go.Op.buildSlice 45 3 #[(0, Go.Operand.const (Go.Value.string { data := #[98, 121] })), (1, Go.Operand.tmp 21), (2, Go.Operand.tmp 24)], type := 45, pos := "l03_write.go:156", after := #[{ on := 6, ground := Go.Ground.data }, { on := 9, ground := Go.Ground.data }], guard := none }) rfl (fun K hK => ?_) AllReadyH.nil
  go_simp
  refine hK.out _ _ (hHeld.alloc hHeld.size _) (fun hHeld => ?_)
  clear hK K
  try simp only [Act.put, List.setIfInBounds_toArray, List.set_cons_zero, List.set_cons_succ]
  refine wpAnyH_ready (rs := [11]) (by kernel_rfl) (by simp) ?_
  refine AllReadyH.cons (o := { dst := some 26, op := Go.Op.call { callee := Go.Callee.builtin Go.Builtin.append, args := #[Go.Operand.tmp 18, Go.Operand.tmp 25], argTypes := #[45, 45] }, type := 45, pos := "l03_write.go:156", after := #[{ on := 3, ground := Go.Ground.data }, { on := 10, ground := Go.Ground.data }, { on := 9, ground := Go.Ground.chain }], guard := none }) rfl (fun K hK => ?_) AllReadyH.nil
  have O6 := own_below O ((Below.refl w5.heap.size w5).alloc (Nat.le_refl _) (.cells #[.string ⟨#[98, 121]⟩, .string ⟨ds.toArray⟩, .string ⟨dq.toArray⟩] 9))
  refine step_append_strs O6 [⟨#[98, 121]⟩, ⟨ds.toArray⟩, ⟨dq.toArray⟩] rfl _ _ rfl rfl 3 w5.heap.size rfl (heap_alloc_new w5 _) rfl (by omega) (by omega) (by simp; omega) ?_
  rintro g7 d7 w7 O7 hb7 hl7 hz7
  refine hK.out _ _ (hHeld.trans (hb7.mono (by have := hDz; omega))) (fun hHeld => ?_)
  clear hK K
  try simp only [Act.put, List.setIfInBounds_toArray, List.set_cons_zero, List.set_cons_succ]
  refine wpAnyH_take (i := 12) (oi := { dst := some 5, op := Go.Op.assign (Go.Operand.tmp 26), type := 45, pos := "l03_write.go:156", after := #[{ on := 11, ground := Go.Ground.data }, { on := 11, ground := Go.Ground.chain }, { on := 0, ground := Go.Ground.phase }, { on := 1, ground := Go.Ground.phase }, { on := 2, ground := Go.Ground.phase }, { on := 3, ground := Go.Ground.phase }, { on := 4, ground := Go.Ground.phase }, { on := 5, ground := Go.Ground.phase }, { on := 6, ground := Go.Ground.phase }, { on := 7, ground := Go.Ground.phase }, { on := 8, ground := Go.Ground.phase }, { on := 9, ground := Go.Ground.phase }, { on := 10, ground := Go.Ground.phase }, { on := 11, ground := Go.Ground.phase }], guard := none }) (v := ?v12) rfl (by kernel_rfl) (by kernel_rfl) (by kernel_rfl) (fun _ _ _ h => h) (Or.inl ⟨by rfl, ?h12⟩) hHeld ?r12
  case h12 =>
    intro wS hSw
    (try dsimp only at hSw)
    go_simp
    try with_reducible rfl
  case r12 =>
  simp only [Act.put, List.setIfInBounds_toArray, List.set_cons_zero, List.set_cons_succ]
  refine wpAnyH_done (by kernel_rfl) ?_ _
  refine NoPanic.normal ?_
  have HB7 := hide ((unhide HB1).trans (hHeld.mono (unhide HB1).size))
  have bR := (unhide HR).keep hHeld
  clear hHeld hb7 O O6 HR HB1 c0 c1 c3 c4
  have hcells : ∀ (j : Nat) s, ([⟨([100, 114, 111, 112] : Bytes).toArray⟩, ⟨di.toArray⟩, ⟨([98, 121] : Bytes).toArray⟩, ⟨ds.toArray⟩, ⟨dq.toArray⟩] : List ByteArray)[j]? = some s → w7.cell? ⟨g7, 0 + j, none⟩ = some (.string s) := by
    intro j s hj
    have hj2 : j < 5 := by
      rcases Nat.lt_or_ge j 5 with h | h
      · exact h
      · rw [List.getElem?_eq_none (by simpa using h)] at hj; cases hj
    rw [Nat.zero_add, O7.cellAt j (by omega)]
    rcases j with _ | _ | _ | _ | _ | j
    · simp at hj; subst hj; rfl
    · simp at hj; subst hj; rfl
    · simp at hj; subst hj; rfl
    · simp at hj; subst hj; rfl
    · simp at hj; subst hj; rfl
    · omega
  have e : Lib.join (([⟨([100, 114, 111, 112] : Bytes).toArray⟩, ⟨di.toArray⟩, ⟨([98, 121] : Bytes).toArray⟩, ⟨ds.toArray⟩, ⟨dq.toArray⟩] : List ByteArray).map fun x : ByteArray => x.data.toList) (⟨#[32]⟩ : ByteArray).data.toList = [100, 114, 111, 112, 32] ++ di ++ [32, 98, 121, 32] ++ ds ++ [32] ++ dq := by
    simp [Lib.join, List.intercalate]
  have hcap : 5 ≤ d7 := by
    rcases O7.2 with ⟨e, -⟩ | ⟨g9, c9, cur, e, -, -, hc, -⟩
    · simp at e
    · simp only [Value.slice.injEq] at e
      obtain ⟨-, -, rfl⟩ := e
      exact hc
  have LJ := hide (Tryd.strings_Join g7 0 d7 [⟨([100, 114, 111, 112] : Bytes).toArray⟩, ⟨di.toArray⟩, ⟨([98, 121] : Bytes).toArray⟩, ⟨ds.toArray⟩, ⟨dq.toArray⟩] ⟨#[32]⟩ w7 hcells hl7 (by simp) hcap (by rw [e]; simp; omega))
  rw [e] at LJ
  clear hcells O7 e hcap
  generalize [100, 114, 111, 112, 32] ++ di ++ [32, 98, 121, 32] ++ ds ++ [32] ++ dq = t at *
  go_wp2_with fail
  refine (unhide LJ).mono ?_
  rintro e w8 ⟨rfl, hb⟩
  replace bR := bR.keep hb
  have r0 := bR.at 0 _ rfl
  have r1 := bR.at 1 _ rfl
  have rf := bR.soft
  have rl := bR.lt
  replace HB7 := hide ((unhide HB7).trans (hb.mono (unhide HB7).size))
  clear hb bR LJ
  simp only [List.getElem_toArray, List.getElem_cons_zero, List.getElem_cons_succ] at r0 r1
  go_wp2_with fail
  refine bodyPost_ret (v := .agg #[.int .i64 0, .string ⟨t.toArray⟩]) (by simp [results, Tryd.results31, go_sem, r0, r1]) rfl ?_
  rw [unhide HE]
  exact ⟨[.int .i64 0, .string ⟨t.toArray⟩], rfl, own_text rfl, below_setAll (unhide HB7) (w.heap.size + 1) 0 [.int .i64 0, .string ⟨t.toArray⟩] (by omega)⟩

set_option maxRecDepth 10000 in
set_option maxHeartbeats 1000000 in
theorem implWT_bad (a2 : Option Addr) (d2 : Nat) (x : DWrite) (w : World) (h : IsInts w (.slice a2 x.vec.length d2) x.vec) (hf : writeFault x.kind x.id x.vec x.session x.seq ≠ 0) :
    Calls Tryd.prog 31 #[.agg #[.int .i64 x.kind, .int .i64 x.id, .slice a2 x.vec.length d2, .int .i64 x.session, .int .i64 x.seq]] w fun e w' => ToldT w w' e (wtextR x) := by
  have B0 : Below w.heap.size w ((w.alloc (.cells #[.int .i64 x.kind, .int .i64 x.id, .slice a2 x.vec.length d2, .int .i64 x.session, .int .i64 x.seq] 31)).alloc (.cells #[.int .i64 0, .string ⟨#[]⟩] 29)) := ((Below.refl _ _).alloc (Nat.le_refl _) _).alloc (by simp) _
  have bR : Box w.heap.size #[.int .i64 0, .string ⟨#[]⟩] 29 ((w.alloc (.cells #[.int .i64 x.kind, .int .i64 x.id, .slice a2 x.vec.length d2, .int .i64 x.session, .int .i64 x.seq] 31)).alloc (.cells #[.int .i64 0, .string ⟨#[]⟩] 29)) (w.heap.size + 1) := newBoxAt (by omega) (by simp)
  have LD := hide (implDeed x.kind x.id _ x.session x.seq x.vec _ (h.later B0))
  have hd : deedRes x.kind x.id x.vec x.session x.seq = .nilIface := by rw [deedRes, if_neg hf]
  simp only [ToldDeed, hd] at LD
  have HC := hide (fault_codes x.kind x.id x.vec x.session x.seq)
  have HE : Hid (wtextR x = ⟨writeFault x.kind x.id x.vec x.session x.seq, ⟨#[]⟩⟩) := by
    show wtextR x = _
    rw [wtextR, writeText, if_neg hf]
  have hne : (writeFault x.kind x.id x.vec x.session x.seq != 0) = true := by rw [bne_iff_ne]; exact hf
  clear h hd hf
  generalize writeFault x.kind x.id x.vec x.session x.seq = F at *
  go_enter Tryd.func31, Tryd.ntmps31
  go_wp2_with fail
  generalize (w.alloc (.cells #[.int .i64 x.kind, .int .i64 x.id, .slice a2 x.vec.length d2, .int .i64 x.session, .int .i64 x.seq] 31)).alloc (.cells #[.int .i64 0, .string ⟨#[]⟩] 29) = W0 at *
  refine (unhide LD).mono ?_
  rintro e w1 ⟨rfl, hb⟩
  replace bR := bR.keep hb
  have HB := hide (B0.trans (hb.mono B0.size))
  have r0 := bR.at 0 _ rfl
  have r1 := bR.at 1 _ rfl
  have rf := bR.soft
  have rl := bR.lt
  clear hb B0 LD bR
  simp only [List.getElem_toArray, List.getElem_cons_zero, List.getElem_cons_succ] at r0 r1
  go_wp2_with fail
  refine bodyPost_ret (v := .agg #[.int .i64 F, .string ⟨#[]⟩]) (by simp [results, Tryd.results31, go_sem, r0, r1]) rfl ?_
  rw [unhide HE]
  exact ⟨[.int .i64 F, .string ⟨#[]⟩], rfl, own_text (unhide HC), below_setAll (unhide HB) (w.heap.size + 1) 0 [.int .i64 F, .string ⟨#[]⟩] (by omega)⟩

/-- WriteText of the program. -/
theorem implWText (u : List Value) (x : DWrite) (w : World) (h : Lay.tWrite.Reads w u x) (ht : Tab w) :
    Calls Tryd.prog 31 #[.agg u.toArray] w fun e w' => ToldT w w' e (wtextR x) := by
  obtain ⟨a2, d2, rfl, R2⟩ := open_Write h
  have hI := Lay.ints_reads R2
  by_cases hf : writeFault x.kind x.id x.vec x.session x.seq = 0
  · obtain ⟨-, -, -, hk⟩ := writeFault_zero hf
    rcases hk with ⟨hk, -⟩ | ⟨hk, -⟩
    · exact implWT_put a2 d2 x w hI hf hk ht
    · exact implWT_drop a2 d2 x w hI hf hk ht
  · exact implWT_bad a2 d2 x w hI hf

end Go.Proofs.YtkmfkaljdngigaaDoor

namespace Go.Proofs.YtkmfkaljdngigaaDoor
open Go.RowKit

def restM (x : DMsg) : Bytes := [32] ++ dec x.epoch ++ [32] ++ dec x.src ++ [32] ++ dec x.dst ++ [32] ++ dec x.index
def wtext (y : DWrite) : Bytes := writeText y.kind y.id y.vec y.session y.seq
def textM (x : DMsg) : Bytes := if x.kind = 2 then [97, 99, 107] ++ restM x else [102, 111, 114, 119, 97, 114, 100] ++ restM x ++ [32] ++ wtext x.write
def textMR (x : DMsg) : DTextResult := if msgFault x = 0 then ⟨0, ⟨(textM x).toArray⟩⟩ else ⟨msgFault x, ⟨#[]⟩⟩
/-- A message without a fault. -/
structure MsgOK (x : DMsg) : Prop where
  epoch : 1 ≤ x.epoch ∧ x.epoch ≤ 999
  src : 1 ≤ x.src ∧ x.src ≤ 5
  dst : 1 ≤ x.dst ∧ x.dst ≤ 5
  index : 0 ≤ x.index ∧ x.index ≤ 40
  kind : x.kind = 2 ∨ x.kind = 1 ∧ wF x.write = 0
theorem msgFault_ok {x : DMsg} (h : msgFault x = 0) : MsgOK x := by
  unfold msgFault at h
  split at h
  · simp at h
  · rename_i h1
    split at h
    · simp at h
    · rename_i h2
      have hk : 1 ≤ x.kind ∧ x.kind ≤ 2 := Decidable.byContradiction fun q => h1 (Or.inl q)
      refine ⟨Decidable.byContradiction fun q => h2 (Or.inl q), Decidable.byContradiction fun q => h2 (Or.inr (Or.inl q)), Decidable.byContradiction fun q => h2 (Or.inr (Or.inr (Or.inl q))), Decidable.byContradiction fun q => h2 (Or.inr (Or.inr (Or.inr (Or.inl q)))), ?_⟩
      split at h
      · exact Or.inl ‹_›
      · exact Or.inr ⟨by omega, h⟩
theorem restM_len (x : DMsg) : (restM x).length ≤ 24 := by
  have := dec_len x.epoch
  have := dec_len x.src
  have := dec_len x.dst
  have := dec_len x.index
  simp [restM]
  omega
theorem wtext_len (y : DWrite) : (wtext y).length ≤ 60 := by
  have h := writeText_len y.kind y.id y.vec y.session y.seq
  exact Nat.le_trans h (by omega)
theorem lies_textRM {w : World} {c : Int} {s : ByteArray} {lo hi : Nat} (hc : (Lit.int .i64 c).wf = true) : Lay.tTextResult.OwnIn w [.int .i64 c, .string s] ⟨c, s⟩ lo hi :=
  ⟨[], ⟨lies_TextResult.2 ⟨rfl, rfl, hc⟩, by simp, by simp⟩, by simp⟩
end Go.Proofs.YtkmfkaljdngigaaDoor

namespace Go.Proofs.YtkmfkaljdngigaaDoor
open Go.RowKit

theorem join_consM (s a : Bytes) (l : List Bytes) : Lib.join (a :: l) s = a ++ l.flatMap fun z => s ++ z := by
  induction l generalizing a with
  | nil => simp [Lib.join, List.intercalate]
  | cons b l ih =>
    have e : Lib.join (a :: b :: l) s = a ++ (s ++ Lib.join (b :: l) s) := by simp [Lib.join, List.intercalate]
    rw [e, ih b, List.flatMap_cons]
    simp only [List.append_assoc]
def numsM (x : DMsg) : List Bytes := [dec x.epoch, dec x.src, dec x.dst, dec x.index]
def wordsM (x : DMsg) : List Bytes := if x.kind = 2 then [97, 99, 107] :: numsM x else [102, 111, 114, 119, 97, 114, 100] :: (numsM x ++ [wtext x.write])
def asTexts (l : List Bytes) : List ByteArray := l.map fun z => ⟨z.toArray⟩
theorem asTexts_len (l : List Bytes) : (asTexts l).length = l.length := by simp [asTexts]
theorem asTexts_data (l : List Bytes) : (asTexts l).map (·.data.toList) = l := by
  rw [asTexts, List.map_map]
  conv => rhs; rw [← List.map_id l]
  exact List.map_congr_left fun z _ => by simp
theorem wordsM_len (x : DMsg) : (wordsM x).length ≤ 6 ∧ 5 ≤ (wordsM x).length := by
  unfold wordsM numsM
  split <;> simp
theorem wordsM_join (x : DMsg) : Lib.join (wordsM x) [32] = textM x := by
  unfold wordsM textM
  split
  · rw [join_consM]; simp [numsM, restM]
  · rw [join_consM]; simp [numsM, restM]
theorem textM_few (x : DMsg) : (textM x).length ≤ 1000 := by
  have h1 := restM_len x
  have h2 := wtext_len x.write
  unfold textM
  split
  · simp; omega
  · simp; omega
end Go.Proofs.YtkmfkaljdngigaaDoor

namespace Go.Proofs.YtkmfkaljdngigaaDoor
open Go.RowKit

theorem append_noneL {P : Program} (t ty e : TypeId) (i : TypeInfo) (ht : P.underlying t = some (.slice e)) (hi : P.info? e = some i) (bo : Option Addr) (n cap c : Nat) (hn : n ≤ cap) (w : World) :
    (Builtin.append_ #[t, t] ty #[.slice bo n cap, .slice none 0 c]).run P w = (Builtin.append_ #[t, t] ty #[.slice bo n cap, .slice (some ⟨0, 0, none⟩) 0 c]).run P w := by
  simp [Builtin.append_, run_underlying ht, sizeOf, typeInfo, hi, Builtin.lenOf, hn, Builtin.firstCells, loadCells, loadCellsFrom]
theorem flat_lenL {n : Nat} : ∀ {rows : List (List Value)}, (∀ r ∈ rows, r.length = n) → rows.flatten.length = rows.length * n
  | [], _ => by simp
  | r :: rows, h => by
    rw [List.flatten_cons, List.length_append, h r (by simp), flat_lenL (fun q hq => h q (List.mem_cons_of_mem _ hq)), List.length_cons, Nat.add_mul]
    omega
theorem addr_add (b off j : Nat) : (⟨b, off, none⟩ : Addr).add j = ⟨b, off + j, none⟩ := by unfold Addr.add; split <;> simp_all
/-- What a slice of data holds, cell by cell. -/
theorem news_rows {α : Type} {A : Lay α} {w : World} {b off : Nat} {ys : List α} {rows : List (List Value)} {bls : List (List Nat)} (hn : 0 < A.n) (h : A.Rows w b off ys rows bls) :
    rows.flatten.length = ys.length * A.n ∧ ∀ j u, rows.flatten[j]? = some u → w.cell? ((⟨b, off, none⟩ : Addr).add j) = some u := by
  obtain ⟨h1, h2, h3⟩ := h
  have hl : ∀ r ∈ rows, r.length = A.n := fun r hr => by
    obtain ⟨j, hj, rfl⟩ := List.getElem_of_mem hr
    exact A.len (h3 j (by omega) hj (by omega)).2
  have hf := flat_lenL hl
  refine ⟨by rw [hf, h1], fun j u hu => ?_⟩
  have hj : j < rows.flatten.length := by
    rcases Nat.lt_or_ge j rows.flatten.length with hq | hq
    · exact hq
    · rw [List.getElem?_eq_none hq] at hu; simp at hu
  have hm : j % A.n < A.n := Nat.mod_lt _ hn
  have hd : j / A.n < rows.length := by
    rw [hf] at hj
    exact Nat.div_lt_of_lt_mul (by rw [Nat.mul_comm]; exact hj)
  have hjm : j / A.n * A.n + j % A.n = j := by rw [Nat.mul_comm]; exact Nat.div_add_mod j A.n
  have e1 := Lay.flat_at hl (j / A.n) (j % A.n) hd hm
  rw [hjm, hu] at e1
  have e2 := (h3 (j / A.n) (by omega) hd (by omega)).1 (j % A.n) hm
  rw [addr_add, ← hjm, ← Nat.add_assoc, e2, ← e1]

theorem Grow.more {α : Type} {A : Lay α} {P : Program} {w : World} {base e : Nat} {v : Value} {rows : List (List Value)} {xs : List α} {bls : List (List Nat)} (hG : Grow A w base e v rows xs bls)
    (hone : ∀ {w : World} {row : List Value} {x : α} {bl : List Nat}, A.lies w row x bl → ∀ u ∈ row, u.oneCell' = true) (hn0 : 0 < A.n)
    (t ty : TypeId) (i : TypeInfo) (z : Value) (bytes : Nat) (ht : P.underlying t = some (.slice e)) (hi : P.info? e = some i) (hz : i.zero = some z) (hsize : i.size = A.n) (hby : i.bytes = bytes) (hzs : z.cells.size = A.n)
    {X : Value} {ys : List α} (hX : (Lay.sl A).LiesIn w [X] ys 0 base) (hn : xs.length + ys.length ≤ 100000000) (hbytes : bytes ≤ 1000) (hbase : base ≤ w.heap.size) :
    ∃ v' w' rows' bls', (Builtin.append_ #[t, t] ty #[v, X]).run P w = .ok v' w' ∧ Grow A w' base e v' rows' (xs ++ ys) bls' ∧ w.grownBy w' v.ownBlock ∧ (v'.ownBlock = v.ownBlock ∨ v'.ownBlock = some w.heap.size) := by
  have hml : xs.length + ys.length ≤ maxLen := by unfold maxLen; omega
  have hbb : (xs.length + ys.length) * bytes ≤ 140737488355328 := by have := Nat.mul_le_mul hn hbytes; omega
  have hown := hG.own
  obtain ⟨bl, ⟨ao, cap, hv, hcap, hcase⟩, hlt⟩ := hX
  obtain rfl : X = .slice ao ys.length cap := by simpa using hv
  rcases hcase with ⟨rfl, rfl⟩ | ⟨b, off, rowsY, blsY, rfl, hb, rfl, hR⟩
  · have key : ∃ v' w', (Builtin.append_ #[t, t] ty #[v, .slice ao 0 cap]).run P w = .ok v' w' ∧ w'.ownsRow base e A.n v' (xs.length + 0) (rows.flatten ++ []) ∧ w.grownBy w' v.ownBlock ∧ (v'.ownBlock = v.ownBlock ∨ v'.ownBlock = some w.heap.size) := by
      cases ao with
      | none =>
        obtain ⟨v', w', r1, r2, r3, -, r5⟩ := run_append_own_at (P := P) w base t ty e i z A.n bytes ht hi hz hsize hby hzs hn0 v xs.length rows.flatten hown ⟨0, 0, none⟩ 0 cap [] (by simp) (by simp) (by simp) hml hbb hbase
        refine ⟨v', w', ?_, r2, r3, r5⟩
        rcases hown.2 with ⟨rfl, h0⟩ | ⟨g, cp, cur, rfl, _, _, hle, _⟩
        · exact (append_noneL _ _ _ i ht hi none 0 0 cap (Nat.le_refl _) w).trans r1
        · exact (append_noneL _ _ _ i ht hi _ _ cp cap hle w).trans r1
      | some ad =>
        obtain ⟨v', w', r1, r2, r3, -, r5⟩ := run_append_own_at (P := P) w base t ty e i z A.n bytes ht hi hz hsize hby hzs hn0 v xs.length rows.flatten hown ad 0 cap [] (by simp) (by simp) (by simp) hml hbb hbase
        exact ⟨v', w', r1, r2, r3, r5⟩
    obtain ⟨v', w', r1, r2, r3, r5⟩ := key
    refine ⟨v', w', rows, bls, r1, ?_, r3, r5⟩
    rw [List.append_nil] at r2 ⊢
    have hk : ∀ b ∈ bls.flatten, w'.heap[b]? = w.heap[b]? := fun b hm => r3.block b (hG.sub_lt b hm) (fun e => hG.off b hm e.symm)
    refine ⟨r2, hG.nrows, hG.nbls, fun j h1 h2 h3 => A.keep (hG.lies j h1 h2 h3) fun b hb => hk b (List.mem_flatten.2 ⟨_, List.getElem_mem _, hb⟩), fun b hm e => ?_⟩
    rcases r5 with r5 | r5
    · exact hG.off b hm (r5.symm.trans e)
    · rw [r5] at e
      have := hG.sub_lt b hm
      have := Option.some.inj e
      omega
  · obtain ⟨hfl, hnews⟩ := news_rows hn0 hR
    have hR2 := hR
    obtain ⟨q1, q2, q3⟩ := hR2
    obtain ⟨v', w', r1, r2, r3, -, r5⟩ := run_append_own_at (P := P) w base t ty e i z A.n bytes ht hi hz hsize hby hzs hn0 v xs.length rows.flatten hown ⟨b, off, none⟩ ys.length cap rowsY.flatten hfl hnews (fun u hu => by
      obtain ⟨r, hr, hur⟩ := List.mem_flatten.1 hu
      obtain ⟨j, hj, rfl⟩ := List.getElem_of_mem hr
      exact hone (q3 j (by omega) hj (by omega)).2 u hur) hml hbb hbase
    have hkX : ∀ c ∈ blsY.flatten, c < base := fun c hc => (hlt c (List.mem_cons_of_mem _ hc)).2
    have hk : ∀ b ∈ bls.flatten, w'.heap[b]? = w.heap[b]? := fun b hm => r3.block b (hG.sub_lt b hm) (fun e => hG.off b hm e.symm)
    have hk2 : ∀ c ∈ blsY.flatten, w'.heap[c]? = w.heap[c]? := fun c hm => r3.block c (by have := hkX c hm; omega) (fun e => by
      have := (hown.lt c e.symm).1
      have := hkX c hm
      omega)
    refine ⟨v', w', rows ++ rowsY, bls ++ blsY, r1, ⟨?_, by simp [hG.nrows, q1], by simp [hG.nbls, q2], fun j h1 h2 h3 => ?_, ?_⟩, r3, r5⟩
    · rw [List.flatten_append, List.length_append]
      exact r2
    · by_cases hj : j < xs.length
      · have ee := hG.lies j hj (by have := hG.nrows; omega) (by have := hG.nbls; omega)
        rw [List.getElem_append_left (by have := hG.nrows; omega), List.getElem_append_left hj, List.getElem_append_left (by have := hG.nbls; omega)]
        exact A.keep ee fun b hm => hk b (List.mem_flatten.2 ⟨_, List.getElem_mem _, hm⟩)
      · have n1 := hG.nrows
        have n2 := hG.nbls
        have n3 : j - xs.length < ys.length := by simp at h1; omega
        rw [List.getElem_append_right (by omega), List.getElem_append_right (by omega), List.getElem_append_right (by omega)]
        have ee := (q3 (j - xs.length) n3 (by omega) (by omega)).2
        simp only [n1, n2]
        exact A.keep ee fun b hm => hk2 b (List.mem_flatten.2 ⟨_, List.getElem_mem _, hm⟩)
    · intro c hm ee
      rw [List.flatten_append] at hm
      rcases r5 with r5 | r5
      · rcases List.mem_append.1 hm with hm | hm
        · exact hG.off c hm (r5.symm.trans ee)
        · have := (hown.lt c (r5.symm.trans ee)).1
          have := hkX c hm
          omega
      · rw [r5] at ee
        have := Option.some.inj ee
        rcases List.mem_append.1 hm with hm | hm
        · have := hG.sub_lt c hm
          omega
        · have := hkX c hm
          omega
end Go.Proofs.YtkmfkaljdngigaaDoor

namespace Go.Proofs.YtkmfkaljdngigaaDoor
open Go.RowKit

theorem run_append_strsL {w : World} {base : Nat} {v : Value} {rows : List (List Value)} {xs : List ByteArray} {bls : List (List Nat)} (hG : Grow Lay.str w base 9 v rows xs bls) {X : Value} {ys : List ByteArray} (hX : (Lay.sl Lay.str).LiesIn w [X] ys 0 base) (hn : xs.length + ys.length ≤ 100000000) (hbase : base ≤ w.heap.size) (ty : TypeId) :
    ∃ v' w' rows' bls', (Builtin.append_ #[45, 45] ty #[v, X]).run Tryd.prog w = .ok v' w' ∧ Grow Lay.str w' base 9 v' rows' (xs ++ ys) bls' ∧ w.grownBy w' v.ownBlock ∧ (v'.ownBlock = v.ownBlock ∨ v'.ownBlock = some w.heap.size) := by
  obtain ⟨i0, hi0, hz0, hz1, hz2⟩ := info_parts infoS
  exact hG.more (fun {w row x bl} h u hu => by obtain ⟨rfl, -⟩ := h; rw [List.mem_singleton.1 hu]; rfl) (by decide) 45 ty i0 _ 16 Tryd.underlying45 hi0 hz0 hz1 hz2 rfl hX hn (by omega) hbase
/-- At an operation of a plain region. -/
theorem wpList_append_strsL {w : World} {base : Nat} {v : Value} {rows : List (List Value)} {xs : List ByteArray} {bls : List (List Nat)} (hG : Grow Lay.str w base 9 v rows xs bls) {X : Value} {ys : List ByteArray} (hX : (Lay.sl Lay.str).LiesIn w [X] ys 0 base) {ops : Array Oper} {rest : List Oper} {o : Oper} {a : Act} {Q : Exit → Act → World → Prop} (hgd : o.guard = none) (s y : Operand)
    (ho : o.op = .call { callee := .builtin .append, args := #[s, y], argTypes := #[45, 45] }) (hs : a.eval s = v) (hy : a.eval y = X) (hn : xs.length + ys.length ≤ 100000000) (hbase : base ≤ w.heap.size)
    (h : ∀ a' m' cap' w' rows' bls', Grow Lay.str w' base 9 (.slice a' m' cap') rows' (xs ++ ys) bls' → Below base w w' → m' = xs.length + ys.length → w.heap.size ≤ w'.heap.size → wpList Tryd.prog ops Q rest (a.put o.dst (.slice a' m' cap')) w') :
    wpList Tryd.prog ops Q (o :: rest) a w := by
  refine wpList_plain hgd fun K hK => ?_
  obtain ⟨v', w', rows', bls', hr, h2, h3, h4⟩ := run_append_strsL hG hX hn hbase o.type
  unfold Oper.wp execOp
  simp only [ho, resolve, invoke, builtin, Sem.run_bind, Sem.run_pure, Result.andThen_ok, List.map_toArray, List.map_cons, List.map_nil, hs, hy, hr]
  have hbw : Below base w w' := (Below.refl _ _).grown h3 hbase (fun j hj => (hG.own.lt j hj).1)
  rcases h2.form with ⟨rfl, h0⟩ | ⟨g, cap, rfl, hg, hgl, hcap⟩
  · refine hK _ _ (h _ _ _ w' rows' bls' h2 hbw ?_ hbw.size)
    have : (xs ++ ys).length = 0 := by rw [h0]; rfl
    rw [List.length_append] at this
    omega
  · exact hK _ _ (h _ _ _ w' rows' bls' h2 hbw (by rw [List.length_append]) hbw.size)
/-- A row of texts, cell by cell. -/
theorem strs_cells {w : World} {base : Nat} {v : Value} {rows : List (List Value)} {xs : List ByteArray} {bls : List (List Nat)} (hG : Grow Lay.str w base 9 v rows xs bls) : rows.flatten = xs.map Value.string := by
  have h1 := hG.nrows
  have h2 := hG.nbls
  have e : rows = xs.map fun x => [Value.string x] := by
    apply List.ext_getElem (by simp [h1])
    intro j q1 q2
    have := hG.lies j (by omega) q1 (by omega)
    rw [this.1]
    simp
  have key : ∀ l : List ByteArray, (l.map fun x => [Value.string x]).flatten = l.map Value.string := by
    intro l
    induction l with
    | nil => rfl
    | cons x l ih => rw [List.map_cons, List.flatten_cons, ih]; rfl
  rw [e, key]

theorem run_append_zeros_nilS (w : World) (k : Nat) (h0 : 0 < k) (hbig : k ≤ 100000000) (ty : TypeId) :
    ∃ G w1, (Builtin.append_ #[45, 3] ty #[.slice none 0 0, .int .i64 k]).run Tryd.prog w = .ok (.slice (some ⟨w.heap.size, 0, none⟩) k G) w1 ∧ k ≤ G ∧
      w1.ownsRow w.heap.size 9 1 (.slice (some ⟨w.heap.size, 0, none⟩) 0 G) 0 [] ∧ Below w.heap.size w w1 := by
  obtain ⟨i0, hi, hz0, hz1, hz2⟩ := info_parts infoS
  have hr := Lib.run_append_nil_zeros w 45 3 ty 9 i0 _ .i64 .i64 Tryd.underlying45 Tryd.underlying3 hi hz0 k h0 (by omega) (by omega) (by rw [hz2]; omega)
  have hge := grownCap_ge w k 0 9
  have hle := grownCap_le_maxLen w k 0 9 (by unfold maxLen; omega)
  generalize grownCap w k 0 9 = G at *
  have hzl : ∀ q, (Builtin.zeroCells (Value.string ⟨#[]⟩).cells q).size = q * 1 := fun q => by rw [size_zeroCells]; rfl
  refine ⟨G, _, hr, hge, ⟨rfl, .inr ⟨w.heap.size, G, _, rfl, Nat.le_refl _, heap_alloc_new w.drew _, Nat.zero_le _, hle, ?_, by simp⟩⟩, ?_⟩
  · rw [Array.size_append, hzl, hzl]
    omega
  · exact ((Below.refl _ _).drew).alloc (Nat.le_refl _) _

set_option maxRecDepth 100000 in
set_option maxHeartbeats 400000 in
theorem implGrowS (n : Nat) (w : World) (hn : n ≤ 100000000) :
    Calls Tryd.prog 46 #[.slice none 0 0, .int .i64 n] w fun e w' => ∃ r, e = .returned r ∧ w'.ownsRow w.heap.size 9 1 r 0 [] ∧ Below w.heap.size w w' := by
  have hneg : ¬ ((n : Int) < 0) := by omega
  by_cases h0 : n = 0
  · subst h0
    go_enter Tryd.func46, Tryd.ntmps46
    go_wp2_with fail
    go_ret
    exact ⟨_, rfl, World.ownsRow_nil _ _ _ _, Below.refl _ _⟩
  · obtain ⟨G, w1, hr, hG, O1, B1⟩ := run_append_zeros_nilS w n (by omega) hn 45
    have HO := hide O1
    have HB := hide B1
    have hpos : decide ((0 : Int) < (n : Int)) = true := by simp; omega
    clear O1 B1
    go_enter Tryd.func46, Tryd.ntmps46
    go_wp2_with (at_builtin; refine Lib.wpList_append_run _ rfl _ _ _ _ rfl _ _ rfl rfl _ _ hr ?_)
    go_ret
    exact ⟨_, rfl, unhide HO, unhide HB⟩

set_option maxRecDepth 100000 in
set_option maxHeartbeats 1000000 in
theorem implConcatS2 (vb : Nat) (u0 u1 : Value) (a b : List ByteArray) (w : World) (k0 : w.cell? ⟨vb, 0, none⟩ = some u0) (k1 : w.cell? ⟨vb, 1, none⟩ = some u1) (ha : (Lay.sl Lay.str).Reads w [u0] a) (hb : (Lay.sl Lay.str).Reads w [u1] b) (hna : a.length ≤ 1000) (hnb : b.length ≤ 1000) :
    Calls Tryd.prog 30 #[.slice (some ⟨vb, 0, none⟩) 2 2] w fun e w' => ∃ r, e = .returned r ∧ (∃ rows bls, Grow Lay.str w' w.heap.size 9 r rows (a ++ b) bls) ∧ Below w.heap.size w w' := by
  have HA0 := hide ha.liesIn
  have HA1 := hide hb.liesIn
  obtain ⟨a0, c0, rfl⟩ := open_sl ha
  obtain ⟨a1, c1, rfl⟩ := open_sl hb
  have HVB := hide (World.block_lt_of_cell? _ _ k0)
  have HK1 := hide k1
  have hn0 : ¬ ((a.length : Int) < 0) := by omega
  have hn1 : ¬ ((a.length : Int) + (b.length : Int) < 0) := by omega
  clear ha hb
  go_enter Tryd.func30, Tryd.ntmps30
  go_wp2_with fail
  refine wp_loop_rounds 3 ?_
  rw [rounds_succ]
  go_wp2_with fail
  rw [rounds_succ]
  go_wp2_with fail
  rw [rounds_succ]
  go_wp2_with fail
  have e1 : (a.length : Int) + (b.length : Int) = ((a.length + b.length : Nat) : Int) := by omega
  rw [e1]
  refine (implGrowS (a.length + b.length) _ (by omega)).mono ?_
  rintro e w1 ⟨r, rfl, O1, B1⟩
  obtain ⟨ag, cg, rfl⟩ := own_shape O1
  have hvb := unhide HVB
  replace k0 : w1.cell? ⟨vb, 0, none⟩ = some _ := (B1.cell (p := ⟨vb, 0, none⟩) hvb).trans k0
  replace k1 : w1.cell? ⟨vb, 1, none⟩ = some _ := (B1.cell (p := ⟨vb, 1, none⟩) hvb).trans k1
  have I1 := (unhide HA0).later B1
  have G1 : Grow Lay.str w1 w.heap.size 9 (.slice ag 0 cg) [] [] [] := Grow.nil O1
  have HB1 := hide B1
  have hs1 := B1.size
  have hm1 : ([] : List ByteArray).length + a.length ≤ 100000000 := by simp; omega
  clear B1 e1 O1 k1
  go_wp2_with fail
  refine wp_loop_rounds 3 ?_
  rw [rounds_succ]
  go_wp2_with (at_builtin; refine wpList_append_strsL G1 I1 rfl _ _ rfl rfl rfl hm1 hs1 ?_)
  intro x2 m2 y2 w2 rows2 bls2 G2 B2 q2 _
  have HB2 := hide ((unhide HB1).trans B2)
  have k1 : w2.cell? ⟨vb, 1, none⟩ = some (.slice a1 b.length c1) := ((unhide HB2).cell (p := ⟨vb, 1, none⟩) hvb).trans (unhide HK1)
  have I2 := (unhide HA1).later (unhide HB2)
  have hs2 := (unhide HB2).size
  have hm2 : (([] : List ByteArray) ++ a).length + b.length ≤ 100000000 := by simp; omega
  clear G1 I1 B2 k0 hs1 HB1 q2 hm1
  go_wp2_with fail
  rw [rounds_succ]
  go_wp2_with (at_builtin; refine wpList_append_strsL G2 I2 rfl _ _ rfl rfl rfl hm2 hs2 ?_)
  intro x9 m9 y9 w9 rows9 bls9 G9 B9 q9 _
  have HG9 := hide G9
  have HB9 := hide ((unhide HB2).trans B9)
  clear G2 I2 k1 B9 G9 HB2 q9
  go_wp2_with fail
  rw [rounds_succ]
  go_wp2_with fail
  go_ret
  exact ⟨_, rfl, ⟨rows9, bls9, unhide HG9⟩, unhide HB9⟩
set_option maxRecDepth 100000 in
set_option maxHeartbeats 1000000 in
theorem implConcatS3 (vb : Nat) (u0 u1 u2 : Value) (a b c : List ByteArray) (w : World) (k0 : w.cell? ⟨vb, 0, none⟩ = some u0) (k1 : w.cell? ⟨vb, 1, none⟩ = some u1) (k2 : w.cell? ⟨vb, 2, none⟩ = some u2) (ha : (Lay.sl Lay.str).Reads w [u0] a) (hb : (Lay.sl Lay.str).Reads w [u1] b) (hc : (Lay.sl Lay.str).Reads w [u2] c) (hna : a.length ≤ 1000) (hnb : b.length ≤ 1000) (hnc : c.length ≤ 1000) :
    Calls Tryd.prog 30 #[.slice (some ⟨vb, 0, none⟩) 3 3] w fun e w' => ∃ r, e = .returned r ∧ (∃ rows bls, Grow Lay.str w' w.heap.size 9 r rows (a ++ (b ++ c)) bls) ∧ Below w.heap.size w w' := by
  have HA0 := hide ha.liesIn
  have HA1 := hide hb.liesIn
  have HA2 := hide hc.liesIn
  obtain ⟨a0, c0, rfl⟩ := open_sl ha
  obtain ⟨a1, c1, rfl⟩ := open_sl hb
  obtain ⟨a2, c2, rfl⟩ := open_sl hc
  have HVB := hide (World.block_lt_of_cell? _ _ k0)
  have HK1 := hide k1
  have HK2 := hide k2
  have hn0 : ¬ ((a.length : Int) < 0) := by omega
  have hn1 : ¬ ((a.length : Int) + (b.length : Int) < 0) := by omega
  have hn2 : ¬ ((a.length : Int) + (b.length : Int) + (c.length : Int) < 0) := by omega
  clear ha hb hc
  go_enter Tryd.func30, Tryd.ntmps30
  go_wp2_with fail
  refine wp_loop_rounds 4 ?_
  rw [rounds_succ]
  go_wp2_with fail
  rw [rounds_succ]
  go_wp2_with fail
  rw [rounds_succ]
  go_wp2_with fail
  rw [rounds_succ]
  go_wp2_with fail
  have e1 : (a.length : Int) + (b.length : Int) + (c.length : Int) = ((a.length + b.length + c.length : Nat) : Int) := by omega
  rw [e1]
  refine (implGrowS (a.length + b.length + c.length) _ (by omega)).mono ?_
  rintro e w1 ⟨r, rfl, O1, B1⟩
  obtain ⟨ag, cg, rfl⟩ := own_shape O1
  have hvb := unhide HVB
  replace k0 : w1.cell? ⟨vb, 0, none⟩ = some _ := (B1.cell (p := ⟨vb, 0, none⟩) hvb).trans k0
  replace k1 : w1.cell? ⟨vb, 1, none⟩ = some _ := (B1.cell (p := ⟨vb, 1, none⟩) hvb).trans k1
  replace k2 : w1.cell? ⟨vb, 2, none⟩ = some _ := (B1.cell (p := ⟨vb, 2, none⟩) hvb).trans k2
  have I1 := (unhide HA0).later B1
  have G1 : Grow Lay.str w1 w.heap.size 9 (.slice ag 0 cg) [] [] [] := Grow.nil O1
  have HB1 := hide B1
  have hs1 := B1.size
  have hm1 : ([] : List ByteArray).length + a.length ≤ 100000000 := by simp; omega
  clear B1 e1 O1 k1 k2
  go_wp2_with fail
  refine wp_loop_rounds 4 ?_
  rw [rounds_succ]
  go_wp2_with (at_builtin; refine wpList_append_strsL G1 I1 rfl _ _ rfl rfl rfl hm1 hs1 ?_)
  intro x2 m2 y2 w2 rows2 bls2 G2 B2 q2 _
  have HB2 := hide ((unhide HB1).trans B2)
  have k1 : w2.cell? ⟨vb, 1, none⟩ = some (.slice a1 b.length c1) := ((unhide HB2).cell (p := ⟨vb, 1, none⟩) hvb).trans (unhide HK1)
  have I2 := (unhide HA1).later (unhide HB2)
  have hs2 := (unhide HB2).size
  have hm2 : (([] : List ByteArray) ++ a).length + b.length ≤ 100000000 := by simp; omega
  clear G1 I1 B2 k0 hs1 HB1 q2 hm1
  go_wp2_with fail
  rw [rounds_succ]
  go_wp2_with (at_builtin; refine wpList_append_strsL G2 I2 rfl _ _ rfl rfl rfl hm2 hs2 ?_)
  intro x3 m3 y3 w3 rows3 bls3 G3 B3 q3 _
  have HB3 := hide ((unhide HB2).trans B3)
  have k2 : w3.cell? ⟨vb, 2, none⟩ = some (.slice a2 c.length c2) := ((unhide HB3).cell (p := ⟨vb, 2, none⟩) hvb).trans (unhide HK2)
  have I3 := (unhide HA2).later (unhide HB3)
  have hs3 := (unhide HB3).size
  have hm3 : (([] : List ByteArray) ++ a ++ b).length + c.length ≤ 100000000 := by simp; omega
  clear G2 I2 B3 k1 hs2 HB2 q3 hm2
  go_wp2_with fail
  rw [rounds_succ]
  go_wp2_with (at_builtin; refine wpList_append_strsL G3 I3 rfl _ _ rfl rfl rfl hm3 hs3 ?_)
  intro x9 m9 y9 w9 rows9 bls9 G9 B9 q9 _
  have HG9 := hide G9
  have HB9 := hide ((unhide HB3).trans B9)
  clear G3 I3 k2 B9 G9 HB3 q9
  go_wp2_with fail
  rw [rounds_succ]
  go_wp2_with fail
  go_ret
  exact ⟨_, rfl, ⟨rows9, bls9, unhide HG9⟩, unhide HB9⟩
end Go.Proofs.YtkmfkaljdngigaaDoor

namespace Go.Proofs.YtkmfkaljdngigaaDoor
open Go.RowKit

/-- Words in new memory. -/
def WordsAt (ws : List ByteArray) (w w' : World) (e : Ending) : Prop := ∃ g cap, e = .returned (.slice (some ⟨g, 0, none⟩) ws.length cap) ∧ ws.length ≤ cap ∧ g < w'.heap.size ∧ w.heap.size < g ∧ ∀ (j : Nat) (y : ByteArray), ws[j]? = some y → w'.cell? ⟨g, 0 + j, none⟩ = some (.string y)
def WordsE (c : Int) (ws : List ByteArray) (w w' : World) (e : Ending) : Prop := (c = 0 → WordsAt ws w w' e) ∧ (c ≠ 0 → e = .panicked (wrongP c))
def WordsV (ws : List ByteArray) (w w' : World) (v : Value) : Prop := ∃ g cap, v = .slice (some ⟨g, 0, none⟩) ws.length cap ∧ ws.length ≤ cap ∧ g < w'.heap.size ∧ w.heap.size < g ∧ ∀ (j : Nat) (y : ByteArray), ws[j]? = some y → w'.cell? ⟨g, 0 + j, none⟩ = some (.string y)
theorem wordsE_of {w W w' : World} {r : Value} {rows : List (List Value)} {ws : List ByteArray} {bls : List (List Nat)} (hG : Grow Lay.str w' W.heap.size 9 r rows ws bls) (hp : 0 < ws.length) (hw : w.heap.size < W.heap.size) : WordsV ws w w' r := by
  have hc := strs_cells hG
  have hown := hG.own
  rw [hc] at hown
  rcases hG.form with ⟨-, h0⟩ | ⟨g, cap, rfl, hg, hgl, hcap⟩
  · rw [h0] at hp; simp at hp
  · refine ⟨g, cap, rfl, hcap, hgl, by omega, fun j y hy => ?_⟩
    have hj : j < ws.length := by
      rw [List.getElem?_eq_some_iff] at hy
      exact hy.1
    rw [Nat.zero_add, hown.cellAt j (by show j < ws.length * 1; omega), List.getElem?_map, hy]
    rfl
theorem strs_box {w : World} {g : Nat} {l : List ByteArray} (h : Box 0 (l.map Value.string).toArray 9 w g) (hn : l.length ≤ 1000) (n : Nat) (he : l.length = n) : (Lay.sl Lay.str).Reads w [.slice (some ⟨g, 0, none⟩) n n] l := by
  subst he
  refine ⟨g :: (List.replicate l.length ([] : List Nat)).flatten, ⟨_, l.length, rfl, ⟨Nat.le_refl _, by omega⟩, Or.inr ⟨g, 0, l.map fun z => [.string z], List.replicate l.length [], rfl, h.lt, rfl, by simp, by simp, fun j h1 h2 h3 => ⟨fun m hm => ?_, by simp [Lay.str]⟩⟩⟩⟩
  obtain rfl : m = 0 := by simp only [Lay.str] at hm; omega
  have := cell_of_row w g j _ _ _ h.2
  simp only [Lay.str, Nat.mul_one, Nat.zero_add, Nat.add_zero]
  rw [this]
  simp [h1]
set_option maxRecDepth 100000 in
set_option maxHeartbeats 4000000 in
theorem msgWordsC (cs : List Value) (x : DMsg) (w : World) (h : Lay.tMsg.Reads w cs x) (ht : Tab w) :
    Calls Tryd.prog 17 #[.agg cs.toArray] w fun e w' => ((msgFault x = 0 → ∃ v, e = .returned v ∧ WordsV (asTexts (wordsM x)) w w' v) ∧ (msgFault x ≠ 0 → e = .panicked (wrongP (msgFault x)))) ∧ Below w.heap.size w w' := by
  obtain ⟨a, d, rfl, R⟩ := open_Msg h
  have nb : Below w.heap.size w (w.alloc (.cells #[.int .i64 x.kind, .int .i64 x.epoch, .int .i64 x.src, .int .i64 x.dst, .int .i64 x.index, .int .i64 x.write.kind, .int .i64 x.write.id, .slice a x.write.vec.length d, .int .i64 x.write.session, .int .i64 x.write.seq] 33)) := (Below.refl _ _).alloc (Nat.le_refl _) _
  have hz1 : (w.alloc (.cells #[.int .i64 x.kind, .int .i64 x.epoch, .int .i64 x.src, .int .i64 x.dst, .int .i64 x.index, .int .i64 x.write.kind, .int .i64 x.write.id, .slice a x.write.vec.length d, .int .i64 x.write.session, .int .i64 x.write.seq] 33)).heap.size = w.heap.size + 1 := by simp
  have HR := hide (h.later nb)
  have HRW := hide (R.later nb)
  have HB := hide nb
  have HX : Hid (Box 0 #[.int .i64 x.kind, .int .i64 x.epoch, .int .i64 x.src, .int .i64 x.dst, .int .i64 x.index, .int .i64 x.write.kind, .int .i64 x.write.id, .slice a x.write.vec.length d, .int .i64 x.write.session, .int .i64 x.write.seq] 33 (w.alloc (.cells #[.int .i64 x.kind, .int .i64 x.epoch, .int .i64 x.src, .int .i64 x.dst, .int .i64 x.index, .int .i64 x.write.kind, .int .i64 x.write.id, .slice a x.write.vec.length d, .int .i64 x.write.session, .int .i64 x.write.seq] 33)) w.heap.size) := newBox (Nat.zero_le _)
  have HT := hide (ht.later nb)
  clear h R nb hz1 ht
  go_enter Tryd.func17, Tryd.ntmps17
  go_upto_region 1 with fail
  generalize w.alloc (.cells #[.int .i64 x.kind, .int .i64 x.epoch, .int .i64 x.src, .int .i64 x.dst, .int .i64 x.index, .int .i64 x.write.kind, .int .i64 x.write.id, .slice a x.write.vec.length d, .int .i64 x.write.session, .int .i64 x.write.seq] 33) = W0 at *
  have c0 : W0.cell? ⟨w.heap.size, 0, none⟩ = some (.int .i64 x.kind) := (unhide HX).at 0 _ rfl
  have c1 : W0.cell? ⟨w.heap.size, 1, none⟩ = some (.int .i64 x.epoch) := (unhide HX).at 1 _ rfl
  have c2 : W0.cell? ⟨w.heap.size, 2, none⟩ = some (.int .i64 x.src) := (unhide HX).at 2 _ rfl
  have c3 : W0.cell? ⟨w.heap.size, 3, none⟩ = some (.int .i64 x.dst) := (unhide HX).at 3 _ rfl
  have c4 : W0.cell? ⟨w.heap.size, 4, none⟩ = some (.int .i64 x.index) := (unhide HX).at 4 _ rfl
  have c5 : W0.cell? ⟨w.heap.size, 5, none⟩ = some (.int .i64 x.write.kind) := (unhide HX).at 5 _ rfl
  have c6 : W0.cell? ⟨w.heap.size, 6, none⟩ = some (.int .i64 x.write.id) := (unhide HX).at 6 _ rfl
  have c7 : W0.cell? ⟨w.heap.size, 7, none⟩ = some (.slice a x.write.vec.length d) := (unhide HX).at 7 _ rfl
  have c8 : W0.cell? ⟨w.heap.size, 8, none⟩ = some (.int .i64 x.write.session) := (unhide HX).at 8 _ rfl
  have c9 : W0.cell? ⟨w.heap.size, 9, none⟩ = some (.int .i64 x.write.seq) := (unhide HX).at 9 _ rfl
  have HL := hide (mustBeMsgC _ x W0 (unhide HR))
  go_wp2_with fail
  clear c0 c1 c2 c3 c4 c5 c6 c7 c8 c9
  refine (unhide HL).mono ?_
  rintro e W1 ⟨he, hb⟩
  replace HB := hide ((unhide HB).trans (hb.mono (unhide HB).size))
  replace HRW := hide ((unhide HRW).later hb)
  replace HX := hide ((unhide HX).keep hb)
  replace HT := hide ((unhide HT).later hb)
  clear hb HL HR
  by_cases hf : msgFault x = 0
  case neg =>
    rw [wrongE_bad hf] at he
    subst he
    have HF := hide hf
    clear hf
    go_wp2_with fail
    exact ⟨rfl, ⟨fun q => absurd q (unhide HF), fun _ => rfl⟩, unhide HB⟩
  case pos =>
  rw [wrongE_ok hf] at he
  subst he
  have ok := msgFault_ok hf
  have o1 := ok.epoch
  have o2 := ok.src
  have o3 := ok.dst
  have o4 := ok.index
  have HF := hide hf
  have HOK := hide ok
  clear ok hf
  have L1 : Hid (∀ W, Tab W → Calls Tryd.prog 29 #[.int .i64 x.epoch] W fun e w' => e = .returned (.string ⟨(dec x.epoch).toArray⟩) ∧ Below W.heap.size W w') := fun W h => decimalC _ W (by omega) (by omega) h
  have L2 : Hid (∀ W, Tab W → Calls Tryd.prog 29 #[.int .i64 x.src] W fun e w' => e = .returned (.string ⟨(dec x.src).toArray⟩) ∧ Below W.heap.size W w') := fun W h => decimalC _ W (by omega) (by omega) h
  have L3 : Hid (∀ W, Tab W → Calls Tryd.prog 29 #[.int .i64 x.dst] W fun e w' => e = .returned (.string ⟨(dec x.dst).toArray⟩) ∧ Below W.heap.size W w') := fun W h => decimalC _ W (by omega) (by omega) h
  have L4 : Hid (∀ W, Tab W → Calls Tryd.prog 29 #[.int .i64 x.index] W fun e w' => e = .returned (.string ⟨(dec x.index).toArray⟩) ∧ Below W.heap.size W w') := fun W h => decimalC _ W (by omega) (by omega) h
  have c0 : W1.cell? ⟨w.heap.size, 0, none⟩ = some (.int .i64 x.kind) := (unhide HX).at 0 _ rfl
  have c1 : W1.cell? ⟨w.heap.size, 1, none⟩ = some (.int .i64 x.epoch) := (unhide HX).at 1 _ rfl
  have c2 : W1.cell? ⟨w.heap.size, 2, none⟩ = some (.int .i64 x.src) := (unhide HX).at 2 _ rfl
  have c3 : W1.cell? ⟨w.heap.size, 3, none⟩ = some (.int .i64 x.dst) := (unhide HX).at 3 _ rfl
  have c4 : W1.cell? ⟨w.heap.size, 4, none⟩ = some (.int .i64 x.index) := (unhide HX).at 4 _ rfl
  have c5 : W1.cell? ⟨w.heap.size, 5, none⟩ = some (.int .i64 x.write.kind) := (unhide HX).at 5 _ rfl
  have c6 : W1.cell? ⟨w.heap.size, 6, none⟩ = some (.int .i64 x.write.id) := (unhide HX).at 6 _ rfl
  have c7 : W1.cell? ⟨w.heap.size, 7, none⟩ = some (.slice a x.write.vec.length d) := (unhide HX).at 7 _ rfl
  have c8 : W1.cell? ⟨w.heap.size, 8, none⟩ = some (.int .i64 x.write.session) := (unhide HX).at 8 _ rfl
  have c9 : W1.cell? ⟨w.heap.size, 9, none⟩ = some (.int .i64 x.write.seq) := (unhide HX).at 9 _ rfl
  have xl := (unhide HX).lt
  go_upto_region 2 with fail
  refine wp_region_noPanic ?_
  refine wp_region_held_drew (S := fun w' => Below W1.heap.size W1 w') (by kernel_rfl) (Below.refl _ _).drew (fun hHeld => ?_)
  generalize W1.drew = wD at hHeld ⊢
  refine wpAnyH_take (i := 0) (oi := { dst := some 6, op := Go.Op.fieldAddr 33 (Go.Operand.tmp 1) 1, type := 0, pos := "l11_net.go:134", after := #[], guard := none }) (v := ?vm0) rfl (by kernel_rfl) (by kernel_rfl) (by kernel_rfl) (fun _ _ _ h => h) (Or.inl ⟨by rfl, ?hm0⟩) hHeld ?rm0
  case hm0 =>
    intro wS hSw
    (try dsimp only at hSw)
    go_simp
    try with_reducible rfl
  case rm0 =>
  simp only [Act.put, List.setIfInBounds_toArray, List.set_cons_zero, List.set_cons_succ]
  refine wpAnyH_take (i := 1) (oi := { dst := some 7, op := Go.Op.load 2 (Go.Operand.tmp 6), type := 2, pos := "l11_net.go:134", after := #[{ on := 0, ground := Go.Ground.data }], guard := none }) (v := ?vm1) rfl (by kernel_rfl) (by kernel_rfl) (by kernel_rfl) (fun _ _ _ h => h) (Or.inl ⟨by rfl, ?hm1⟩) hHeld ?rm1
  case hm1 =>
    intro wS hSw
    have e1 : wS.cell? ⟨w.heap.size, 1, none⟩ = some (.int .i64 x.epoch) := (hSw.cell (p := ⟨w.heap.size, 1, none⟩) xl).trans c1
    clear hSw
    (try dsimp only at hSw)
    go_simp
    try with_reducible rfl
  case rm1 =>
  simp only [Act.put, List.setIfInBounds_toArray, List.set_cons_zero, List.set_cons_succ]
  refine wpAnyH_take (i := 3) (oi := { dst := some 9, op := Go.Op.fieldAddr 33 (Go.Operand.tmp 1) 2, type := 0, pos := "l11_net.go:134", after := #[], guard := none }) (v := ?vm3) rfl (by kernel_rfl) (by kernel_rfl) (by kernel_rfl) (fun _ _ _ h => h) (Or.inl ⟨by rfl, ?hm3⟩) hHeld ?rm3
  case hm3 =>
    intro wS hSw
    (try dsimp only at hSw)
    go_simp
    try with_reducible rfl
  case rm3 =>
  simp only [Act.put, List.setIfInBounds_toArray, List.set_cons_zero, List.set_cons_succ]
  refine wpAnyH_take (i := 4) (oi := { dst := some 10, op := Go.Op.load 2 (Go.Operand.tmp 9), type := 2, pos := "l11_net.go:134", after := #[{ on := 3, ground := Go.Ground.data }], guard := none }) (v := ?vm4) rfl (by kernel_rfl) (by kernel_rfl) (by kernel_rfl) (fun _ _ _ h => h) (Or.inl ⟨by rfl, ?hm4⟩) hHeld ?rm4
  case hm4 =>
    intro wS hSw
    have e2 : wS.cell? ⟨w.heap.size, 2, none⟩ = some (.int .i64 x.src) := (hSw.cell (p := ⟨w.heap.size, 2, none⟩) xl).trans c2
    clear hSw
    (try dsimp only at hSw)
    go_simp
    try with_reducible rfl
  case rm4 =>
  simp only [Act.put, List.setIfInBounds_toArray, List.set_cons_zero, List.set_cons_succ]
  refine wpAnyH_take (i := 6) (oi := { dst := some 12, op := Go.Op.fieldAddr 33 (Go.Operand.tmp 1) 3, type := 0, pos := "l11_net.go:134", after := #[], guard := none }) (v := ?vm6) rfl (by kernel_rfl) (by kernel_rfl) (by kernel_rfl) (fun _ _ _ h => h) (Or.inl ⟨by rfl, ?hm6⟩) hHeld ?rm6
  case hm6 =>
    intro wS hSw
    (try dsimp only at hSw)
    go_simp
    try with_reducible rfl
  case rm6 =>
  simp only [Act.put, List.setIfInBounds_toArray, List.set_cons_zero, List.set_cons_succ]
  refine wpAnyH_take (i := 7) (oi := { dst := some 13, op := Go.Op.load 2 (Go.Operand.tmp 12), type := 2, pos := "l11_net.go:134", after := #[{ on := 6, ground := Go.Ground.data }], guard := none }) (v := ?vm7) rfl (by kernel_rfl) (by kernel_rfl) (by kernel_rfl) (fun _ _ _ h => h) (Or.inl ⟨by rfl, ?hm7⟩) hHeld ?rm7
  case hm7 =>
    intro wS hSw
    have e3 : wS.cell? ⟨w.heap.size, 3, none⟩ = some (.int .i64 x.dst) := (hSw.cell (p := ⟨w.heap.size, 3, none⟩) xl).trans c3
    clear hSw
    (try dsimp only at hSw)
    go_simp
    try with_reducible rfl
  case rm7 =>
  simp only [Act.put, List.setIfInBounds_toArray, List.set_cons_zero, List.set_cons_succ]
  refine wpAnyH_take (i := 9) (oi := { dst := some 15, op := Go.Op.fieldAddr 33 (Go.Operand.tmp 1) 4, type := 0, pos := "l11_net.go:134", after := #[], guard := none }) (v := ?vm9) rfl (by kernel_rfl) (by kernel_rfl) (by kernel_rfl) (fun _ _ _ h => h) (Or.inl ⟨by rfl, ?hm9⟩) hHeld ?rm9
  case hm9 =>
    intro wS hSw
    (try dsimp only at hSw)
    go_simp
    try with_reducible rfl
  case rm9 =>
  simp only [Act.put, List.setIfInBounds_toArray, List.set_cons_zero, List.set_cons_succ]
  refine wpAnyH_take (i := 10) (oi := { dst := some 16, op := Go.Op.load 2 (Go.Operand.tmp 15), type := 2, pos := "l11_net.go:134", after := #[{ on := 9, ground := Go.Ground.data }], guard := none }) (v := ?vm10) rfl (by kernel_rfl) (by kernel_rfl) (by kernel_rfl) (fun _ _ _ h => h) (Or.inl ⟨by rfl, ?hm10⟩) hHeld ?rm10
  case hm10 =>
    intro wS hSw
    have e4 : wS.cell? ⟨w.heap.size, 4, none⟩ = some (.int .i64 x.index) := (hSw.cell (p := ⟨w.heap.size, 4, none⟩) xl).trans c4
    clear hSw
    (try dsimp only at hSw)
    go_simp
    try with_reducible rfl
  case rm10 =>
  simp only [Act.put, List.setIfInBounds_toArray, List.set_cons_zero, List.set_cons_succ]
  refine wpAnyH_ready (rs := [2]) (by kernel_rfl) (by simp) ?_
  refine AllReadyH.cons (o := { dst := some 8, op := Go.Op.call { callee := Go.Callee.value (Go.Operand.func 29), args := #[Go.Operand.tmp 7], argTypes := #[2] }, type := 9, pos := "l11_net.go:134", after := #[{ on := 1, ground := Go.Ground.data }], guard := none }) rfl (fun K hK => ?_) AllReadyH.nil
  go_simp
  go_at_call 29
  refine (unhide L1 _ ((unhide HT).later hHeld)).mono ?_
  rintro e w1 ⟨rfl, hb⟩
  have hS1 := hHeld.trans (hb.mono hHeld.size)
  clear hb
  try go_wp2_with fail
  refine hK.out _ _ hS1 (fun hHeld => ?_)
  clear hK K
  try simp only [Act.put, List.setIfInBounds_toArray, List.set_cons_zero, List.set_cons_succ]
  refine wpAnyH_ready (rs := [5]) (by kernel_rfl) (by simp) ?_
  refine AllReadyH.cons (o := { dst := some 11, op := Go.Op.call { callee := Go.Callee.value (Go.Operand.func 29), args := #[Go.Operand.tmp 10], argTypes := #[2] }, type := 9, pos := "l11_net.go:134", after := #[{ on := 4, ground := Go.Ground.data }, { on := 2, ground := Go.Ground.chain }], guard := none }) rfl (fun K hK => ?_) AllReadyH.nil
  go_simp
  go_at_call 29
  refine (unhide L2 _ ((unhide HT).later hHeld)).mono ?_
  rintro e w2 ⟨rfl, hb⟩
  have hS2 := hHeld.trans (hb.mono hHeld.size)
  clear hb
  try go_wp2_with fail
  refine hK.out _ _ hS2 (fun hHeld => ?_)
  clear hK K
  try simp only [Act.put, List.setIfInBounds_toArray, List.set_cons_zero, List.set_cons_succ]
  refine wpAnyH_ready (rs := [8]) (by kernel_rfl) (by simp) ?_
  refine AllReadyH.cons (o := { dst := some 14, op := Go.Op.call { callee := Go.Callee.value (Go.Operand.func 29), args := #[Go.Operand.tmp 13], argTypes := #[2] }, type := 9, pos := "l11_net.go:134", after := #[{ on := 7, ground := Go.Ground.data }, { on := 5, ground := Go.Ground.chain }], guard := none }) rfl (fun K hK => ?_) AllReadyH.nil
  go_simp
  go_at_call 29
  refine (unhide L3 _ ((unhide HT).later hHeld)).mono ?_
  rintro e w3 ⟨rfl, hb⟩
  have hS3 := hHeld.trans (hb.mono hHeld.size)
  clear hb
  try go_wp2_with fail
  refine hK.out _ _ hS3 (fun hHeld => ?_)
  clear hK K
  try simp only [Act.put, List.setIfInBounds_toArray, List.set_cons_zero, List.set_cons_succ]
  refine wpAnyH_ready (rs := [11]) (by kernel_rfl) (by simp) ?_
  refine AllReadyH.cons (o := { dst := some 17, op := Go.Op.call { callee := Go.Callee.value (Go.Operand.func 29), args := #[Go.Operand.tmp 16], argTypes := #[2] }, type := 9, pos := "l11_net.go:134", after := #[{ on := 10, ground := Go.Ground.data }, { on := 8, ground := Go.Ground.chain }], guard := none }) rfl (fun K hK => ?_) AllReadyH.nil
  go_simp
  go_at_call 29
  refine (unhide L4 _ ((unhide HT).later hHeld)).mono ?_
  rintro e w4 ⟨rfl, hb⟩
  have hS4 := hHeld.trans (hb.mono hHeld.size)
  clear hb
  try go_wp2_with fail
  refine hK.out _ _ hS4 (fun hHeld => ?_)
  clear hK K
  try simp only [Act.put, List.setIfInBounds_toArray, List.set_cons_zero, List.set_cons_succ]
  refine wpAnyH_ready (rs := [12]) (by kernel_rfl) (by simp) ?_
  refine AllReadyH.cons (o := { dst := some 18, op := Go.Op.buildSlice 45 4 #[(0, Go.Operand.tmp 8), (1, Go.Operand.tmp 11), (2, Go.Operand.tmp 14), (3, Go.Operand.tmp 17)], type := 45, pos := "l11_net.go:134", after := #[{ on := 2, ground := Go.Ground.data }, { on := 5, ground := Go.Ground.data }, { on := 8, ground := Go.Ground.data }, { on := 11, ground := Go.Ground.data }], guard := none }) rfl (fun K hK => ?_) AllReadyH.nil
  have b5 : Box 0 #[.string ⟨(dec x.epoch).toArray⟩, .string ⟨(dec x.src).toArray⟩, .string ⟨(dec x.dst).toArray⟩, .string ⟨(dec x.index).toArray⟩] 9 (w4.alloc (.cells #[.string ⟨(dec x.epoch).toArray⟩, .string ⟨(dec x.src).toArray⟩, .string ⟨(dec x.dst).toArray⟩, .string ⟨(dec x.index).toArray⟩] 9)) w4.heap.size := newBox (Nat.zero_le _)
  have nb5 : Below w4.heap.size w4 (w4.alloc (.cells #[.string ⟨(dec x.epoch).toArray⟩, .string ⟨(dec x.src).toArray⟩, .string ⟨(dec x.dst).toArray⟩, .string ⟨(dec x.index).toArray⟩] 9)) := (Below.refl _ _).alloc (Nat.le_refl _) _
  have hS5 := hHeld.trans (nb5.mono hHeld.size)
  go_simp
  try go_wp2_with fail
  refine hK.out _ _ hS5 (fun hHeld => ?_)
  clear hK K
  try simp only [Act.put, List.setIfInBounds_toArray, List.set_cons_zero, List.set_cons_succ]
  refine wpAnyH_take (i := 13) (oi := { dst := some 3, op := Go.Op.assign (Go.Operand.tmp 18), type := 45, pos := "l11_net.go:134", after := #[{ on := 12, ground := Go.Ground.data }, { on := 11, ground := Go.Ground.chain }, { on := 0, ground := Go.Ground.phase }, { on := 1, ground := Go.Ground.phase }, { on := 2, ground := Go.Ground.phase }, { on := 3, ground := Go.Ground.phase }, { on := 4, ground := Go.Ground.phase }, { on := 5, ground := Go.Ground.phase }, { on := 6, ground := Go.Ground.phase }, { on := 7, ground := Go.Ground.phase }, { on := 8, ground := Go.Ground.phase }, { on := 9, ground := Go.Ground.phase }, { on := 10, ground := Go.Ground.phase }, { on := 11, ground := Go.Ground.phase }, { on := 12, ground := Go.Ground.phase }], guard := none }) (v := ?vm13) rfl (by kernel_rfl) (by kernel_rfl) (by kernel_rfl) (fun _ _ _ h => h) (Or.inl ⟨by rfl, ?hm13⟩) hHeld ?rm13
  case hm13 =>
    intro wS hSw
    (try dsimp only at hSw)
    go_simp
    try with_reducible rfl
  case rm13 =>
  simp only [Act.put, List.setIfInBounds_toArray, List.set_cons_zero, List.set_cons_succ]
  refine wpAnyH_done (by kernel_rfl) ?_ _
  refine NoPanic.normal ?_
  have b5' : Box 0 (List.map Value.string (asTexts (numsM x))).toArray 9 (w4.alloc (.cells #[.string ⟨(dec x.epoch).toArray⟩, .string ⟨(dec x.src).toArray⟩, .string ⟨(dec x.dst).toArray⟩, .string ⟨(dec x.index).toArray⟩] 9)) w4.heap.size := b5
  have HB5 := hide b5'
  have hS := hS5
  have HS := hide hS
  replace HX := hide ((unhide HX).keep hS)
  replace HB := hide ((unhide HB).trans (hS.mono (unhide HB).size))
  replace HRW := hide ((unhide HRW).later hS)
  replace HT := hide ((unhide HT).later hS)
  have hwn : w.heap.size < w4.heap.size := Nat.lt_of_lt_of_le xl hS4.size
  clear hHeld hS1 hS2 hS3 hS4 hS5 b5 nb5 b5' hS L1 L2 L3 L4 HS c0 c1 c2 c3 c4 c5 c6 c7 c8 c9 xl
  generalize w4.alloc (.cells #[.string ⟨(dec x.epoch).toArray⟩, .string ⟨(dec x.src).toArray⟩, .string ⟨(dec x.dst).toArray⟩, .string ⟨(dec x.index).toArray⟩] 9) = W5 at *
  have hl5 := (unhide HB5).lt
  have HWN5 : Hid (w.heap.size < W5.heap.size) := Nat.lt_trans hwn hl5
  clear hl5
  have c0 : W5.cell? ⟨w.heap.size, 0, none⟩ = some (.int .i64 x.kind) := (unhide HX).at 0 _ rfl
  have c1 : W5.cell? ⟨w.heap.size, 1, none⟩ = some (.int .i64 x.epoch) := (unhide HX).at 1 _ rfl
  have c2 : W5.cell? ⟨w.heap.size, 2, none⟩ = some (.int .i64 x.src) := (unhide HX).at 2 _ rfl
  have c3 : W5.cell? ⟨w.heap.size, 3, none⟩ = some (.int .i64 x.dst) := (unhide HX).at 3 _ rfl
  have c4 : W5.cell? ⟨w.heap.size, 4, none⟩ = some (.int .i64 x.index) := (unhide HX).at 4 _ rfl
  have c5 : W5.cell? ⟨w.heap.size, 5, none⟩ = some (.int .i64 x.write.kind) := (unhide HX).at 5 _ rfl
  have c6 : W5.cell? ⟨w.heap.size, 6, none⟩ = some (.int .i64 x.write.id) := (unhide HX).at 6 _ rfl
  have c7 : W5.cell? ⟨w.heap.size, 7, none⟩ = some (.slice a x.write.vec.length d) := (unhide HX).at 7 _ rfl
  have c8 : W5.cell? ⟨w.heap.size, 8, none⟩ = some (.int .i64 x.write.session) := (unhide HX).at 8 _ rfl
  have c9 : W5.cell? ⟨w.heap.size, 9, none⟩ = some (.int .i64 x.write.seq) := (unhide HX).at 9 _ rfl
  have xl := (unhide HX).lt
  cases hk : (x.kind == 2)
  · have hkk : ¬ x.kind = 2 := by simpa using hk
    have HWM : Hid (asTexts (wordsM x) = [⟨#[102, 111, 114, 119, 97, 114, 100]⟩] ++ (asTexts (numsM x) ++ [⟨(wtext x.write).toArray⟩])) := by show asTexts (wordsM x) = _; rw [wordsM, if_neg hkk]; simp [asTexts]
    have hw : wF x.write = 0 := by
      rcases (unhide HOK).kind with q | q
      · exact absurd q hkk
      · exact q.2
    have nb1 : Below W5.heap.size W5 (W5.alloc (.cells #[.string ⟨#[102, 111, 114, 119, 97, 114, 100]⟩] 9)) := (Below.refl _ _).alloc (Nat.le_refl _) _
    have x1 : Box 0 (List.map Value.string [⟨#[102, 111, 114, 119, 97, 114, 100]⟩]).toArray 9 (W5.alloc (.cells #[.string ⟨#[102, 111, 114, 119, 97, 114, 100]⟩] 9)) W5.heap.size := newBox (Nat.zero_le _)
    have HX1 := hide x1
    have LW := hide (implWText _ x.write _ ((unhide HRW).later nb1) ((unhide HT).later nb1))
    have HFT := fieldText
    replace HB := hide ((unhide HB).trans (nb1.mono (unhide HB).size))
    replace HB5 := hide ((unhide HB5).keep nb1)
    replace HWN5 := hide (Nat.lt_of_lt_of_le (unhide HWN5) nb1.size)
    clear hkk nb1 x1 HX HT HRW HOK
    go_wp2_with fail
    generalize W5.alloc (.cells #[.string ⟨#[102, 111, 114, 119, 97, 114, 100]⟩] 9) = W6 at *
    refine (unhide LW).mono ?_
    rintro e W7 ⟨cs7, rfl, O7, hb7⟩
    obtain ⟨bl7, ⟨hl7, -, -⟩, -⟩ := O7
    obtain ⟨rfl, -, -⟩ := lies_TextResult.1 hl7
    replace HB := hide ((unhide HB).trans (hb7.mono (unhide HB).size))
    replace HB5 := hide ((unhide HB5).keep hb7)
    replace HX1 := hide ((unhide HX1).keep hb7)
    replace HWN5 := hide (Nat.lt_of_lt_of_le (unhide HWN5) hb7.size)
    have HWT : Hid ((wtextR x.write).text = ⟨(wtext x.write).toArray⟩) := rfl
    rw [unhide HWT]
    clear hb7 LW hl7 HWT hw c0 c1 c2 c3 c4 c5 c6 c7 c8 c9
    have nb2 : Below W7.heap.size W7 (W7.alloc (.cells #[.string ⟨(wtext x.write).toArray⟩] 9)) := (Below.refl _ _).alloc (Nat.le_refl _) _
    have x2 : Box 0 (List.map Value.string [⟨(wtext x.write).toArray⟩]).toArray 9 (W7.alloc (.cells #[.string ⟨(wtext x.write).toArray⟩] 9)) W7.heap.size := newBox (Nat.zero_le _)
    have HX2 := hide x2
    replace HB := hide ((unhide HB).trans (nb2.mono (unhide HB).size))
    replace HB5 := hide ((unhide HB5).keep nb2)
    replace HX1 := hide ((unhide HX1).keep nb2)
    replace HWN5 := hide (Nat.lt_of_lt_of_le (unhide HWN5) nb2.size)
    have hz7 : (W7.alloc (.cells #[.string ⟨(wtext x.write).toArray⟩] 9)).heap.size = W7.heap.size + 1 := by simp
    clear nb2 x2
    generalize hW8 : W7.alloc (.cells #[.string ⟨(wtext x.write).toArray⟩] 9) = W8 at *
    have nb3 : Below W8.heap.size W8 (W8.alloc (.cells #[.slice (some ⟨W5.heap.size, 0, none⟩) 1 1, .slice (some ⟨w4.heap.size, 0, none⟩) 4 4, .slice (some ⟨W7.heap.size, 0, none⟩) 1 1] 45)) := (Below.refl _ _).alloc (Nat.le_refl _) _
    have x3 : Box 0 #[.slice (some ⟨W5.heap.size, 0, none⟩) 1 1, .slice (some ⟨w4.heap.size, 0, none⟩) 4 4, .slice (some ⟨W7.heap.size, 0, none⟩) 1 1] 45 (W8.alloc (.cells #[.slice (some ⟨W5.heap.size, 0, none⟩) 1 1, .slice (some ⟨w4.heap.size, 0, none⟩) 4 4, .slice (some ⟨W7.heap.size, 0, none⟩) 1 1] 45)) W8.heap.size := newBox (Nat.zero_le _)
    have HL := hide (implConcatS3 W8.heap.size _ _ _ [⟨#[102, 111, 114, 119, 97, 114, 100]⟩] (asTexts (numsM x)) [⟨(wtext x.write).toArray⟩] _ (x3.at 0 _ rfl) (x3.at 1 _ rfl) (x3.at 2 _ rfl) (strs_box ((unhide HX1).keep nb3) (by simp) 1 rfl) (strs_box ((unhide HB5).keep nb3) (by simp [asTexts, numsM]) 4 rfl) (strs_box ((unhide HX2).keep nb3) (by simp) 1 rfl) (by simp) (by simp [asTexts, numsM]) (by simp))
    replace HB := hide ((unhide HB).trans (nb3.mono (unhide HB).size))
    have HWN : Hid (w.heap.size < (W8.alloc (.cells #[.slice (some ⟨W5.heap.size, 0, none⟩) 1 1, .slice (some ⟨w4.heap.size, 0, none⟩) 4 4, .slice (some ⟨W7.heap.size, 0, none⟩) 1 1] 45)).heap.size) := Nat.lt_of_lt_of_le (unhide HWN5) nb3.size
    have HZ7 := hide hz7
    subst hW8
    clear nb3 x3 HX1 HX2 HB5 HWN5 hz7
    go_wp2_with fail
    rw [unhide HZ7] at HL
    refine (unhide HL).mono ?_
    rintro e W9 ⟨r, rfl, ⟨rows, bls, hG⟩, hb⟩
    have HWE := hide (wordsE_of (w := w) hG (by simp) (unhide HWN))
    replace HB := hide ((unhide HB).trans (hb.mono (unhide HB).size))
    obtain ⟨a9, m9, c9, rfl⟩ : ∃ a9 m9 c9, r = .slice a9 m9 c9 := by
      obtain ⟨g, cap, rfl, -⟩ := unhide HWE
      exact ⟨_, _, _, rfl⟩
    clear hG hb HL
    go_wp2_with fail
    go_ret
    refine ⟨⟨fun _ => ⟨_, rfl, ?_⟩, fun q => absurd (unhide HF) q⟩, unhide HB⟩
    rw [unhide HWM]
    exact unhide HWE
  · have hkk : x.kind = 2 := by simpa using hk
    have HWM : Hid (asTexts (wordsM x) = [⟨#[97, 99, 107]⟩] ++ asTexts (numsM x)) := by show asTexts (wordsM x) = _; rw [wordsM, if_pos hkk]; simp [asTexts]
    have nb1 : Below W5.heap.size W5 (W5.alloc (.cells #[.string ⟨#[97, 99, 107]⟩] 9)) := (Below.refl _ _).alloc (Nat.le_refl _) _
    have x1 : Box 0 (List.map Value.string [⟨#[97, 99, 107]⟩]).toArray 9 (W5.alloc (.cells #[.string ⟨#[97, 99, 107]⟩] 9)) W5.heap.size := newBox (Nat.zero_le _)
    have HX1 := hide x1
    have hz6 : (W5.alloc (.cells #[.string ⟨#[97, 99, 107]⟩] 9)).heap.size = W5.heap.size + 1 := by simp
    replace HB := hide ((unhide HB).trans (nb1.mono (unhide HB).size))
    replace HB5 := hide ((unhide HB5).keep nb1)
    replace HWN5 := hide (Nat.lt_of_lt_of_le (unhide HWN5) nb1.size)
    clear hkk nb1 x1 HX HT HRW HOK
    generalize hW6 : W5.alloc (.cells #[.string ⟨#[97, 99, 107]⟩] 9) = W6 at *
    have nb3 : Below W6.heap.size W6 (W6.alloc (.cells #[.slice (some ⟨W5.heap.size, 0, none⟩) 1 1, .slice (some ⟨w4.heap.size, 0, none⟩) 4 4] 45)) := (Below.refl _ _).alloc (Nat.le_refl _) _
    have x3 : Box 0 #[.slice (some ⟨W5.heap.size, 0, none⟩) 1 1, .slice (some ⟨w4.heap.size, 0, none⟩) 4 4] 45 (W6.alloc (.cells #[.slice (some ⟨W5.heap.size, 0, none⟩) 1 1, .slice (some ⟨w4.heap.size, 0, none⟩) 4 4] 45)) W6.heap.size := newBox (Nat.zero_le _)
    have HL := hide (implConcatS2 W6.heap.size _ _ [⟨#[97, 99, 107]⟩] (asTexts (numsM x)) _ (x3.at 0 _ rfl) (x3.at 1 _ rfl) (strs_box ((unhide HX1).keep nb3) (by simp) 1 rfl) (strs_box ((unhide HB5).keep nb3) (by simp [asTexts, numsM]) 4 rfl) (by simp) (by simp [asTexts, numsM]))
    replace HB := hide ((unhide HB).trans (nb3.mono (unhide HB).size))
    have HWN : Hid (w.heap.size < (W6.alloc (.cells #[.slice (some ⟨W5.heap.size, 0, none⟩) 1 1, .slice (some ⟨w4.heap.size, 0, none⟩) 4 4] 45)).heap.size) := Nat.lt_of_lt_of_le (unhide HWN5) nb3.size
    have HZ6 := hide hz6
    subst hW6
    clear nb3 x3 HX1 HB5 HWN5 hz6
    go_wp2_with fail
    rw [unhide HZ6] at HL
    refine (unhide HL).mono ?_
    rintro e W9 ⟨r, rfl, ⟨rows, bls, hG⟩, hb⟩
    have HWE := hide (wordsE_of (w := w) hG (by simp) (unhide HWN))
    replace HB := hide ((unhide HB).trans (hb.mono (unhide HB).size))
    obtain ⟨a9, m9, c9, rfl⟩ : ∃ a9 m9 c9, r = .slice a9 m9 c9 := by
      obtain ⟨g, cap, rfl, -⟩ := unhide HWE
      exact ⟨_, _, _, rfl⟩
    clear hG hb HL
    go_wp2_with fail
    go_ret
    refine ⟨⟨fun _ => ⟨_, rfl, ?_⟩, fun q => absurd (unhide HF) q⟩, unhide HB⟩
    rw [unhide HWM]
    exact unhide HWE
end Go.Proofs.YtkmfkaljdngigaaDoor
