/-
  WriteText of the program: the fault, or the text; nothing old is written.
  Condition: the table of powers of ten holds what the program's text lays there.
-/
import Derived.Test.YtgjjmbliahhhjaaDoorImplWords
import Derived.Test.YtgjjmbliahhhjaaDoorSpecWT
import Derived.Deep.RegionHeld3
namespace Go.Proofs.YtgjjmbliahhhjaaDoor
open Go.RowKit

set_option maxRecDepth 100000 in
set_option maxHeartbeats 4000000 in
theorem implWT_put (a2 : Option Addr) (d2 : Nat) (x : DWrite) (w : World) (h : IsInts w (.slice a2 x.vec.length d2) x.vec) (hf : writeFault x.kind x.id x.vec x.session x.seq = 0) (hk : x.kind = 1) (ht : Tab w) :
    Calls Tryd.prog 8 #[.agg #[.int .i64 x.kind, .int .i64 x.id, .slice a2 x.vec.length d2, .int .i64 x.session, .int .i64 x.seq]] w fun e w' => ToldT w w' e (wtextR x) := by
  obtain ⟨hi, hs, hq, hkk⟩ := writeFault_zero hf
  have LS : Hid (∀ W, Tab W → Calls Tryd.prog 22 #[.int .i64 x.session] W fun e w' => e = .returned (str (dec x.session)) ∧ Below W.heap.size W w') := fun W h => decimalC _ W (by omega) (by omega) h
  have LQ : Hid (∀ W, Tab W → Calls Tryd.prog 22 #[.int .i64 x.seq] W fun e w' => e = .returned (str (dec x.seq)) ∧ Below W.heap.size W w') := fun W h => decimalC _ W (by omega) (by omega) h
  have LW : Hid (∀ W, Tab W → Calls Tryd.prog 21 #[deedV x.kind x.vec, .int .i64 x.id] W fun e w' => ToldWords W w' e [[112, 117, 116], dec x.id, vecText x.vec]) := fun W h => by
    have hv : vecFault x.vec = 0 := by rcases hkk with ⟨-, h⟩ | ⟨h, -⟩; exact h; omega
    rw [deedV, if_pos hk]
    have hl := (vecFault_zero hv).1
    obtain ⟨p, q, r, e⟩ : ∃ p q r, x.vec = [p, q, r] := by
      match hx : x.vec, hl with
      | [p, q, r], _ => exact ⟨p, q, r, rfl⟩
    rw [e] at hv ⊢
    exact words_put x.id p q r W hi hv h
  have l0 := dec_len x.id
  have l1 := dec_len x.session
  have l2 := dec_len x.seq
  have l3 := vecText_len x.vec
  have HE : Hid (wtextR x = ⟨0, ⟨(writeTail x.session x.seq (writeHead x.kind x.id x.vec)).toArray⟩⟩) := by
    show wtextR x = _
    rw [wtextR, writeText, if_pos hf, hf]
  have HH : Hid (writeTail x.session x.seq (writeHead x.kind x.id x.vec) = [112, 117, 116, 32] ++ dec x.id ++ [32] ++ vecText x.vec ++ [32, 98, 121, 32] ++ dec x.session ++ [32] ++ dec x.seq) := by
    show writeTail x.session x.seq (writeHead x.kind x.id x.vec) = _
    rw [writeTail, writeHead, if_pos hk]
  rw [unhide HH] at HE
  clear HH
  have B0 : Below w.heap.size w ((w.alloc (.cells #[.int .i64 x.kind, .int .i64 x.id, .slice a2 x.vec.length d2, .int .i64 x.session, .int .i64 x.seq] 29)).alloc (.cells #[.int .i64 0, .string ⟨#[]⟩] 27)) := ((Below.refl _ _).alloc (Nat.le_refl _) _).alloc (by simp) _
  have bA : Box w.heap.size #[.int .i64 x.kind, .int .i64 x.id, .slice a2 x.vec.length d2, .int .i64 x.session, .int .i64 x.seq] 29 ((w.alloc (.cells #[.int .i64 x.kind, .int .i64 x.id, .slice a2 x.vec.length d2, .int .i64 x.session, .int .i64 x.seq] 29)).alloc (.cells #[.int .i64 0, .string ⟨#[]⟩] 27)) w.heap.size := (newBox (Nat.le_refl _)).grow _
  have bR : Box w.heap.size #[.int .i64 0, .string ⟨#[]⟩] 27 ((w.alloc (.cells #[.int .i64 x.kind, .int .i64 x.id, .slice a2 x.vec.length d2, .int .i64 x.session, .int .i64 x.seq] 29)).alloc (.cells #[.int .i64 0, .string ⟨#[]⟩] 27)) (w.heap.size + 1) := newBoxAt (by omega) (by simp)
  have LD := hide (implDeed x.kind x.id _ x.session x.seq x.vec _ (h.later B0))
  have hd : deedRes x.kind x.id x.vec x.session x.seq = deedV x.kind x.vec := by rw [deedRes, if_pos hf]
  simp only [ToldDeed, hd, hf] at LD
  have HT := hide ht
  clear h ht hd hf hk hkk hi hs hq
  generalize deedV x.kind x.vec = dv at *
  simp only [str] at LS LQ
  generalize dec x.id = di at *
  generalize dec x.session = ds at *
  generalize dec x.seq = dq at *
  generalize vecText x.vec = vt at *
  go_enter Tryd.func8, Tryd.ntmps8
  go_wp2_with fail
  generalize (w.alloc (.cells #[.int .i64 x.kind, .int .i64 x.id, .slice a2 x.vec.length d2, .int .i64 x.session, .int .i64 x.seq] 29)).alloc (.cells #[.int .i64 0, .string ⟨#[]⟩] 27) = W0 at *
  refine (unhide LD).mono ?_
  rintro e W1 ⟨rfl, hb⟩
  replace bA := bA.keep hb
  replace bR := bR.keep hb
  have HB1 := hide (B0.trans (hb.mono B0.size))
  have hA := bA.lt
  have hR := bR.lt
  have c0 := bA.at 0 _ rfl
  have c1 := bA.at 1 _ rfl
  have c3 := bA.at 3 _ rfl
  have c4 := bA.at 4 _ rfl
  have HR := hide bR
  clear hb B0 LD bA bR
  simp only [List.getElem_toArray, List.getElem_cons_zero, List.getElem_cons_succ] at c0 c1 c3 c4
  go_wp2_with fail
  refine wp_region_noPanic ?_
  refine wp_region_held_drew (S := fun w' => Below W1.heap.size W1 w') (by kernel_rfl) (Below.refl _ _).drew (fun hHeld => ?_)
  have hDz0 : W1.heap.size ≤ W1.drew.heap.size := Nat.le_refl _
  generalize W1.drew = wD at hHeld hDz0 ⊢
  have hDz : W1.heap.size ≤ wD.heap.size := hDz0
  refine wpAnyH_take (i := 0) (oi := { dst := some 15, op := Go.Op.move (Go.Operand.tmp 3), type := 46, pos := "l03_write.go:156", after := #[], guard := none }) (v := ?v0) rfl (by kernel_rfl) (by kernel_rfl) (by kernel_rfl) (fun _ _ _ h => h) (Or.inl ⟨by rfl, ?h0⟩) hHeld ?r0
  case h0 =>
    intro wS hSw
    (try dsimp only at hSw)
    go_simp
    try with_reducible rfl
  case r0 =>
  simp only [Act.put, List.setIfInBounds_toArray, List.set_cons_zero, List.set_cons_succ]
  refine wpAnyH_take (i := 1) (oi := { dst := some 16, op := Go.Op.fieldAddr 29 (Go.Operand.tmp 1) 1, type := 0, pos := "l03_write.go:156", after := #[], guard := none }) (v := ?v1) rfl (by kernel_rfl) (by kernel_rfl) (by kernel_rfl) (fun _ _ _ h => h) (Or.inl ⟨by rfl, ?h1⟩) hHeld ?r1
  case h1 =>
    intro wS hSw
    (try dsimp only at hSw)
    go_simp
    try with_reducible rfl
  case r1 =>
  simp only [Act.put, List.setIfInBounds_toArray, List.set_cons_zero, List.set_cons_succ]
  refine wpAnyH_take (i := 2) (oi := { dst := some 17, op := Go.Op.load 2 (Go.Operand.tmp 16), type := 2, pos := "l03_write.go:156", after := #[{ on := 1, ground := Go.Ground.data }], guard := none }) (v := ?v2) rfl (by kernel_rfl) (by kernel_rfl) (by kernel_rfl) (fun _ _ _ h => h) (Or.inl ⟨by rfl, ?h2⟩) hHeld ?r2
  case h2 =>
    intro wS hSw
    have y0 := (hSw.cell (p := ⟨w.heap.size, 0, none⟩) hA).trans c0
    have y1 := (hSw.cell (p := ⟨w.heap.size, 1, none⟩) hA).trans c1
    have y3 := (hSw.cell (p := ⟨w.heap.size, 3, none⟩) hA).trans c3
    have y4 := (hSw.cell (p := ⟨w.heap.size, 4, none⟩) hA).trans c4
    clear hSw
    (try dsimp only at hSw)
    go_simp
    try with_reducible rfl
  case r2 =>
  simp only [Act.put, List.setIfInBounds_toArray, List.set_cons_zero, List.set_cons_succ]
  refine wpAnyH_take (i := 4) (oi := { dst := some 19, op := Go.Op.fieldAddr 29 (Go.Operand.tmp 1) 3, type := 0, pos := "l03_write.go:156", after := #[], guard := none }) (v := ?v4) rfl (by kernel_rfl) (by kernel_rfl) (by kernel_rfl) (fun _ _ _ h => h) (Or.inl ⟨by rfl, ?h4⟩) hHeld ?r4
  case h4 =>
    intro wS hSw
    (try dsimp only at hSw)
    go_simp
    try with_reducible rfl
  case r4 =>
  simp only [Act.put, List.setIfInBounds_toArray, List.set_cons_zero, List.set_cons_succ]
  refine wpAnyH_take (i := 5) (oi := { dst := some 20, op := Go.Op.load 2 (Go.Operand.tmp 19), type := 2, pos := "l03_write.go:156", after := #[{ on := 4, ground := Go.Ground.data }], guard := none }) (v := ?v5) rfl (by kernel_rfl) (by kernel_rfl) (by kernel_rfl) (fun _ _ _ h => h) (Or.inl ⟨by rfl, ?h5⟩) hHeld ?r5
  case h5 =>
    intro wS hSw
    have y0 := (hSw.cell (p := ⟨w.heap.size, 0, none⟩) hA).trans c0
    have y1 := (hSw.cell (p := ⟨w.heap.size, 1, none⟩) hA).trans c1
    have y3 := (hSw.cell (p := ⟨w.heap.size, 3, none⟩) hA).trans c3
    have y4 := (hSw.cell (p := ⟨w.heap.size, 4, none⟩) hA).trans c4
    clear hSw
    (try dsimp only at hSw)
    go_simp
    try with_reducible rfl
  case r5 =>
  simp only [Act.put, List.setIfInBounds_toArray, List.set_cons_zero, List.set_cons_succ]
  refine wpAnyH_take (i := 7) (oi := { dst := some 22, op := Go.Op.fieldAddr 29 (Go.Operand.tmp 1) 4, type := 0, pos := "l03_write.go:156", after := #[], guard := none }) (v := ?v7) rfl (by kernel_rfl) (by kernel_rfl) (by kernel_rfl) (fun _ _ _ h => h) (Or.inl ⟨by rfl, ?h7⟩) hHeld ?r7
  case h7 =>
    intro wS hSw
    (try dsimp only at hSw)
    go_simp
    try with_reducible rfl
  case r7 =>
  simp only [Act.put, List.setIfInBounds_toArray, List.set_cons_zero, List.set_cons_succ]
  refine wpAnyH_take (i := 8) (oi := { dst := some 23, op := Go.Op.load 2 (Go.Operand.tmp 22), type := 2, pos := "l03_write.go:156", after := #[{ on := 7, ground := Go.Ground.data }], guard := none }) (v := ?v8) rfl (by kernel_rfl) (by kernel_rfl) (by kernel_rfl) (fun _ _ _ h => h) (Or.inl ⟨by rfl, ?h8⟩) hHeld ?r8
  case h8 =>
    intro wS hSw
    have y0 := (hSw.cell (p := ⟨w.heap.size, 0, none⟩) hA).trans c0
    have y1 := (hSw.cell (p := ⟨w.heap.size, 1, none⟩) hA).trans c1
    have y3 := (hSw.cell (p := ⟨w.heap.size, 3, none⟩) hA).trans c3
    have y4 := (hSw.cell (p := ⟨w.heap.size, 4, none⟩) hA).trans c4
    clear hSw
    (try dsimp only at hSw)
    go_simp
    try with_reducible rfl
  case r8 =>
  simp only [Act.put, List.setIfInBounds_toArray, List.set_cons_zero, List.set_cons_succ]
  refine wpAnyH_ready (rs := [3]) (by kernel_rfl) (by simp) ?_
  refine AllReadyH.cons (o := { dst := some 18, op := Go.Op.call { callee := Go.Callee.value (Go.Operand.func 21), args := #[Go.Operand.tmp 15, Go.Operand.tmp 17], argTypes := #[46, 2] }, type := 49, pos := "l03_write.go:156", after := #[{ on := 0, ground := Go.Ground.data }, { on := 2, ground := Go.Ground.data }], guard := none }) rfl (fun K hK => ?_) AllReadyH.nil
  go_simp
  go_at_call 21
  refine (unhide LW _ ((unhide HT).later ((unhide HB1).trans (hHeld.mono (unhide HB1).size)))).mono ?_
  rintro e w3 ⟨g3, d3, rfl, O, hbw⟩
  have hz3 := hbw.size
  simp only [List.map_cons, List.map_nil, str, List.length_cons, List.length_nil, Nat.zero_add, Nat.reduceAdd] at O ⊢
  try go_wp2_with fail
  refine hK.out _ _ (hHeld.trans (hbw.mono hHeld.size)) (fun hHeld => ?_)
  clear hK K
  try simp only [Act.put, List.setIfInBounds_toArray, List.set_cons_zero, List.set_cons_succ]
  refine wpAnyH_ready (rs := [6]) (by kernel_rfl) (by simp) ?_
  refine AllReadyH.cons (o := { dst := some 21, op := Go.Op.call { callee := Go.Callee.value (Go.Operand.func 22), args := #[Go.Operand.tmp 20], argTypes := #[2] }, type := 9, pos := "l03_write.go:156", after := #[{ on := 5, ground := Go.Ground.data }, { on := 3, ground := Go.Ground.chain }], guard := none }) rfl (fun K hK => ?_) AllReadyH.nil
  go_simp
  go_at_call 22
  refine (unhide LS _ ((unhide HT).later ((unhide HB1).trans (hHeld.mono (unhide HB1).size)))).mono ?_
  rintro e w4 ⟨rfl, hbw⟩
  replace O := own_below O hbw
  have hz4 := hbw.size
  try go_wp2_with fail
  refine hK.out _ _ (hHeld.trans (hbw.mono hHeld.size)) (fun hHeld => ?_)
  clear hK K
  try simp only [Act.put, List.setIfInBounds_toArray, List.set_cons_zero, List.set_cons_succ]
  refine wpAnyH_ready (rs := [9]) (by kernel_rfl) (by simp) ?_
  refine AllReadyH.cons (o := { dst := some 24, op := Go.Op.call { callee := Go.Callee.value (Go.Operand.func 22), args := #[Go.Operand.tmp 23], argTypes := #[2] }, type := 9, pos := "l03_write.go:156", after := #[{ on := 8, ground := Go.Ground.data }, { on := 6, ground := Go.Ground.chain }], guard := none }) rfl (fun K hK => ?_) AllReadyH.nil
  go_simp
  go_at_call 22
  refine (unhide LQ _ ((unhide HT).later ((unhide HB1).trans (hHeld.mono (unhide HB1).size)))).mono ?_
  rintro e w5 ⟨rfl, hbw⟩
  replace O := own_below O hbw
  have hz5 := hbw.size
  try go_wp2_with fail
  refine hK.out _ _ (hHeld.trans (hbw.mono hHeld.size)) (fun hHeld => ?_)
  clear hK K
  try simp only [Act.put, List.setIfInBounds_toArray, List.set_cons_zero, List.set_cons_succ]
  refine wpAnyH_ready (rs := [10]) (by kernel_rfl) (by simp) ?_
  refine AllReadyH.cons (o := { dst := some 25, op := Go.Op.buildSlice 49 3 #[(0, Go.Operand.const (Go.Value.string { data := #[98, 121] })), (1, Go.Operand.tmp 21), (2, Go.Operand.tmp 24)], type := 49, pos := "l03_write.go:156", after := #[{ on := 6, ground := Go.Ground.data }, { on := 9, ground := Go.Ground.data }], guard := none }) rfl (fun K hK => ?_) AllReadyH.nil
  go_simp
  refine hK.out _ _ (hHeld.alloc hHeld.size _) (fun hHeld => ?_)
  clear hK K
  try simp only [Act.put, List.setIfInBounds_toArray, List.set_cons_zero, List.set_cons_succ]
  refine wpAnyH_ready (rs := [11]) (by kernel_rfl) (by simp) ?_
  refine AllReadyH.cons (o := { dst := some 26, op := Go.Op.call { callee := Go.Callee.builtin Go.Builtin.append, args := #[Go.Operand.tmp 18, Go.Operand.tmp 25], argTypes := #[49, 49] }, type := 49, pos := "l03_write.go:156", after := #[{ on := 3, ground := Go.Ground.data }, { on := 10, ground := Go.Ground.data }, { on := 9, ground := Go.Ground.chain }], guard := none }) rfl (fun K hK => ?_) AllReadyH.nil
  have O6 := own_below O ((Below.refl w5.heap.size w5).alloc (Nat.le_refl _) (.cells #[.string ⟨#[98, 121]⟩, .string ⟨ds.toArray⟩, .string ⟨dq.toArray⟩] 9))
  refine step_append_strs O6 [⟨#[98, 121]⟩, ⟨ds.toArray⟩, ⟨dq.toArray⟩] rfl _ _ rfl rfl 3 w5.heap.size rfl (heap_alloc_new w5 _) rfl (by omega) (by omega) (by simp; omega) ?_
  rintro g7 d7 w7 O7 hb7 hl7 hz7
  refine hK.out _ _ (hHeld.trans (hb7.mono (by have := hDz; omega))) (fun hHeld => ?_)
  clear hK K
  try simp only [Act.put, List.setIfInBounds_toArray, List.set_cons_zero, List.set_cons_succ]
  refine wpAnyH_take (i := 12) (oi := { dst := some 5, op := Go.Op.assign (Go.Operand.tmp 26), type := 49, pos := "l03_write.go:156", after := #[{ on := 11, ground := Go.Ground.data }, { on := 11, ground := Go.Ground.chain }, { on := 0, ground := Go.Ground.phase }, { on := 1, ground := Go.Ground.phase }, { on := 2, ground := Go.Ground.phase }, { on := 3, ground := Go.Ground.phase }, { on := 4, ground := Go.Ground.phase }, { on := 5, ground := Go.Ground.phase }, { on := 6, ground := Go.Ground.phase }, { on := 7, ground := Go.Ground.phase }, { on := 8, ground := Go.Ground.phase }, { on := 9, ground := Go.Ground.phase }, { on := 10, ground := Go.Ground.phase }, { on := 11, ground := Go.Ground.phase }], guard := none }) (v := ?v12) rfl (by kernel_rfl) (by kernel_rfl) (by kernel_rfl) (fun _ _ _ h => h) (Or.inl ⟨by rfl, ?h12⟩) hHeld ?r12
  case h12 =>
    intro wS hSw
    (try dsimp only at hSw)
    go_simp
    try with_reducible rfl
  case r12 =>
  simp only [Act.put, List.setIfInBounds_toArray, List.set_cons_zero, List.set_cons_succ]
  refine wpAnyH_done (by kernel_rfl) ?_ _
  refine NoPanic.normal ?_
  have HB7 := hide ((unhide HB1).trans (hHeld.mono (unhide HB1).size))
  have bR := (unhide HR).keep hHeld
  clear hHeld hb7 O O6 HR HB1 c0 c1 c3 c4
  have hcells : ∀ (j : Nat) s, ([⟨([112, 117, 116] : Bytes).toArray⟩, ⟨di.toArray⟩, ⟨vt.toArray⟩, ⟨([98, 121] : Bytes).toArray⟩, ⟨ds.toArray⟩, ⟨dq.toArray⟩] : List ByteArray)[j]? = some s → w7.cell? ⟨g7, 0 + j, none⟩ = some (.string s) := by
    intro j s hj
    have hj2 : j < 6 := by
      rcases Nat.lt_or_ge j 6 with h | h
      · exact h
      · rw [List.getElem?_eq_none (by simpa using h)] at hj; cases hj
    rw [Nat.zero_add, O7.cellAt j (by omega)]
    rcases j with _ | _ | _ | _ | _ | _ | j
    · simp at hj; subst hj; rfl
    · simp at hj; subst hj; rfl
    · simp at hj; subst hj; rfl
    · simp at hj; subst hj; rfl
    · simp at hj; subst hj; rfl
    · simp at hj; subst hj; rfl
    · omega
  have e : Lib.join (([⟨([112, 117, 116] : Bytes).toArray⟩, ⟨di.toArray⟩, ⟨vt.toArray⟩, ⟨([98, 121] : Bytes).toArray⟩, ⟨ds.toArray⟩, ⟨dq.toArray⟩] : List ByteArray).map fun x : ByteArray => x.data.toList) (⟨#[32]⟩ : ByteArray).data.toList = [112, 117, 116, 32] ++ di ++ [32] ++ vt ++ [32, 98, 121, 32] ++ ds ++ [32] ++ dq := by
    simp [Lib.join, List.intercalate]
  have hcap : 6 ≤ d7 := by
    rcases O7.2 with ⟨e, -⟩ | ⟨g9, c9, cur, e, -, -, hc, -⟩
    · simp at e
    · simp only [Value.slice.injEq] at e
      obtain ⟨-, -, rfl⟩ := e
      exact hc
  have LJ := hide (Tryd.strings_Join g7 0 d7 [⟨([112, 117, 116] : Bytes).toArray⟩, ⟨di.toArray⟩, ⟨vt.toArray⟩, ⟨([98, 121] : Bytes).toArray⟩, ⟨ds.toArray⟩, ⟨dq.toArray⟩] ⟨#[32]⟩ w7 hcells hl7 (by simp) hcap (by rw [e]; simp; omega))
  rw [e] at LJ
  clear hcells O7 e hcap
  generalize [112, 117, 116, 32] ++ di ++ [32] ++ vt ++ [32, 98, 121, 32] ++ ds ++ [32] ++ dq = t at *
  go_wp2_with fail
  refine (unhide LJ).mono ?_
  rintro e w8 ⟨rfl, hb⟩
  replace bR := bR.keep hb
  have r0 := bR.at 0 _ rfl
  have r1 := bR.at 1 _ rfl
  have rf := bR.soft
  have rl := bR.lt
  replace HB7 := hide ((unhide HB7).trans (hb.mono (unhide HB7).size))
  clear hb bR LJ
  simp only [List.getElem_toArray, List.getElem_cons_zero, List.getElem_cons_succ] at r0 r1
  go_wp2_with fail
  refine bodyPost_ret (v := .agg #[.int .i64 0, .string ⟨t.toArray⟩]) (by simp [results, Tryd.results8, go_sem, r0, r1]) rfl ?_
  rw [unhide HE]
  exact ⟨[.int .i64 0, .string ⟨t.toArray⟩], rfl, own_text rfl, below_setAll (unhide HB7) (w.heap.size + 1) 0 [.int .i64 0, .string ⟨t.toArray⟩] (by omega)⟩

set_option maxRecDepth 100000 in
set_option maxHeartbeats 4000000 in
theorem implWT_drop (a2 : Option Addr) (d2 : Nat) (x : DWrite) (w : World) (h : IsInts w (.slice a2 x.vec.length d2) x.vec) (hf : writeFault x.kind x.id x.vec x.session x.seq = 0) (hk : x.kind = 2) (ht : Tab w) :
    Calls Tryd.prog 8 #[.agg #[.int .i64 x.kind, .int .i64 x.id, .slice a2 x.vec.length d2, .int .i64 x.session, .int .i64 x.seq]] w fun e w' => ToldT w w' e (wtextR x) := by
  obtain ⟨hi, hs, hq, hkk⟩ := writeFault_zero hf
  have LS : Hid (∀ W, Tab W → Calls Tryd.prog 22 #[.int .i64 x.session] W fun e w' => e = .returned (str (dec x.session)) ∧ Below W.heap.size W w') := fun W h => decimalC _ W (by omega) (by omega) h
  have LQ : Hid (∀ W, Tab W → Calls Tryd.prog 22 #[.int .i64 x.seq] W fun e w' => e = .returned (str (dec x.seq)) ∧ Below W.heap.size W w') := fun W h => decimalC _ W (by omega) (by omega) h
  have LW : Hid (∀ W, Tab W → Calls Tryd.prog 21 #[deedV x.kind x.vec, .int .i64 x.id] W fun e w' => ToldWords W w' e [[100, 114, 111, 112], dec x.id]) := fun W h => by
    rw [deedV, if_neg (by omega)]
    exact words_drop x.id W hi h
  have l0 := dec_len x.id
  have l1 := dec_len x.session
  have l2 := dec_len x.seq
  have l3 := vecText_len x.vec
  have HE : Hid (wtextR x = ⟨0, ⟨(writeTail x.session x.seq (writeHead x.kind x.id x.vec)).toArray⟩⟩) := by
    show wtextR x = _
    rw [wtextR, writeText, if_pos hf, hf]
  have HH : Hid (writeTail x.session x.seq (writeHead x.kind x.id x.vec) = [100, 114, 111, 112, 32] ++ dec x.id ++ [32, 98, 121, 32] ++ dec x.session ++ [32] ++ dec x.seq) := by
    show writeTail x.session x.seq (writeHead x.kind x.id x.vec) = _
    rw [writeTail, writeHead, if_neg (by omega)]
  rw [unhide HH] at HE
  clear HH
  have B0 : Below w.heap.size w ((w.alloc (.cells #[.int .i64 x.kind, .int .i64 x.id, .slice a2 x.vec.length d2, .int .i64 x.session, .int .i64 x.seq] 29)).alloc (.cells #[.int .i64 0, .string ⟨#[]⟩] 27)) := ((Below.refl _ _).alloc (Nat.le_refl _) _).alloc (by simp) _
  have bA : Box w.heap.size #[.int .i64 x.kind, .int .i64 x.id, .slice a2 x.vec.length d2, .int .i64 x.session, .int .i64 x.seq] 29 ((w.alloc (.cells #[.int .i64 x.kind, .int .i64 x.id, .slice a2 x.vec.length d2, .int .i64 x.session, .int .i64 x.seq] 29)).alloc (.cells #[.int .i64 0, .string ⟨#[]⟩] 27)) w.heap.size := (newBox (Nat.le_refl _)).grow _
  have bR : Box w.heap.size #[.int .i64 0, .string ⟨#[]⟩] 27 ((w.alloc (.cells #[.int .i64 x.kind, .int .i64 x.id, .slice a2 x.vec.length d2, .int .i64 x.session, .int .i64 x.seq] 29)).alloc (.cells #[.int .i64 0, .string ⟨#[]⟩] 27)) (w.heap.size + 1) := newBoxAt (by omega) (by simp)
  have LD := hide (implDeed x.kind x.id _ x.session x.seq x.vec _ (h.later B0))
  have hd : deedRes x.kind x.id x.vec x.session x.seq = deedV x.kind x.vec := by rw [deedRes, if_pos hf]
  simp only [ToldDeed, hd, hf] at LD
  have HT := hide ht
  clear h ht hd hf hk hkk hi hs hq
  generalize deedV x.kind x.vec = dv at *
  simp only [str] at LS LQ
  generalize dec x.id = di at *
  generalize dec x.session = ds at *
  generalize dec x.seq = dq at *
  generalize vecText x.vec = vt at *
  go_enter Tryd.func8, Tryd.ntmps8
  go_wp2_with fail
  generalize (w.alloc (.cells #[.int .i64 x.kind, .int .i64 x.id, .slice a2 x.vec.length d2, .int .i64 x.session, .int .i64 x.seq] 29)).alloc (.cells #[.int .i64 0, .string ⟨#[]⟩] 27) = W0 at *
  refine (unhide LD).mono ?_
  rintro e W1 ⟨rfl, hb⟩
  replace bA := bA.keep hb
  replace bR := bR.keep hb
  have HB1 := hide (B0.trans (hb.mono B0.size))
  have hA := bA.lt
  have hR := bR.lt
  have c0 := bA.at 0 _ rfl
  have c1 := bA.at 1 _ rfl
  have c3 := bA.at 3 _ rfl
  have c4 := bA.at 4 _ rfl
  have HR := hide bR
  clear hb B0 LD bA bR
  simp only [List.getElem_toArray, List.getElem_cons_zero, List.getElem_cons_succ] at c0 c1 c3 c4
  go_wp2_with fail
  refine wp_region_noPanic ?_
  refine wp_region_held_drew (S := fun w' => Below W1.heap.size W1 w') (by kernel_rfl) (Below.refl _ _).drew (fun hHeld => ?_)
  have hDz0 : W1.heap.size ≤ W1.drew.heap.size := Nat.le_refl _
  generalize W1.drew = wD at hHeld hDz0 ⊢
  have hDz : W1.heap.size ≤ wD.heap.size := hDz0
  refine wpAnyH_take (i := 0) (oi := { dst := some 15, op := Go.Op.move (Go.Operand.tmp 3), type := 46, pos := "l03_write.go:156", after := #[], guard := none }) (v := ?v0) rfl (by kernel_rfl) (by kernel_rfl) (by kernel_rfl) (fun _ _ _ h => h) (Or.inl ⟨by rfl, ?h0⟩) hHeld ?r0
  case h0 =>
    intro wS hSw
    (try dsimp only at hSw)
    go_simp
    try with_reducible rfl
  case r0 =>
  simp only [Act.put, List.setIfInBounds_toArray, List.set_cons_zero, List.set_cons_succ]
  refine wpAnyH_take (i := 1) (oi := { dst := some 16, op := Go.Op.fieldAddr 29 (Go.Operand.tmp 1) 1, type := 0, pos := "l03_write.go:156", after := #[], guard := none }) (v := ?v1) rfl (by kernel_rfl) (by kernel_rfl) (by kernel_rfl) (fun _ _ _ h => h) (Or.inl ⟨by rfl, ?h1⟩) hHeld ?r1
  case h1 =>
    intro wS hSw
    (try dsimp only at hSw)
    go_simp
    try with_reducible rfl
  case r1 =>
  simp only [Act.put, List.setIfInBounds_toArray, List.set_cons_zero, List.set_cons_succ]
  refine wpAnyH_take (i := 2) (oi := { dst := some 17, op := Go.Op.load 2 (Go.Operand.tmp 16), type := 2, pos := "l03_write.go:156", after := #[{ on := 1, ground := Go.Ground.data }], guard := none }) (v := ?v2) rfl (by kernel_rfl) (by kernel_rfl) (by kernel_rfl) (fun _ _ _ h => h) (Or.inl ⟨by rfl, ?h2⟩) hHeld ?r2
  case h2 =>
    intro wS hSw
    have y0 := (hSw.cell (p := ⟨w.heap.size, 0, none⟩) hA).trans c0
    have y1 := (hSw.cell (p := ⟨w.heap.size, 1, none⟩) hA).trans c1
    have y3 := (hSw.cell (p := ⟨w.heap.size, 3, none⟩) hA).trans c3
    have y4 := (hSw.cell (p := ⟨w.heap.size, 4, none⟩) hA).trans c4
    clear hSw
    (try dsimp only at hSw)
    go_simp
    try with_reducible rfl
  case r2 =>
  simp only [Act.put, List.setIfInBounds_toArray, List.set_cons_zero, List.set_cons_succ]
  refine wpAnyH_take (i := 4) (oi := { dst := some 19, op := Go.Op.fieldAddr 29 (Go.Operand.tmp 1) 3, type := 0, pos := "l03_write.go:156", after := #[], guard := none }) (v := ?v4) rfl (by kernel_rfl) (by kernel_rfl) (by kernel_rfl) (fun _ _ _ h => h) (Or.inl ⟨by rfl, ?h4⟩) hHeld ?r4
  case h4 =>
    intro wS hSw
    (try dsimp only at hSw)
    go_simp
    try with_reducible rfl
  case r4 =>
  simp only [Act.put, List.setIfInBounds_toArray, List.set_cons_zero, List.set_cons_succ]
  refine wpAnyH_take (i := 5) (oi := { dst := some 20, op := Go.Op.load 2 (Go.Operand.tmp 19), type := 2, pos := "l03_write.go:156", after := #[{ on := 4, ground := Go.Ground.data }], guard := none }) (v := ?v5) rfl (by kernel_rfl) (by kernel_rfl) (by kernel_rfl) (fun _ _ _ h => h) (Or.inl ⟨by rfl, ?h5⟩) hHeld ?r5
  case h5 =>
    intro wS hSw
    have y0 := (hSw.cell (p := ⟨w.heap.size, 0, none⟩) hA).trans c0
    have y1 := (hSw.cell (p := ⟨w.heap.size, 1, none⟩) hA).trans c1
    have y3 := (hSw.cell (p := ⟨w.heap.size, 3, none⟩) hA).trans c3
    have y4 := (hSw.cell (p := ⟨w.heap.size, 4, none⟩) hA).trans c4
    clear hSw
    (try dsimp only at hSw)
    go_simp
    try with_reducible rfl
  case r5 =>
  simp only [Act.put, List.setIfInBounds_toArray, List.set_cons_zero, List.set_cons_succ]
  refine wpAnyH_take (i := 7) (oi := { dst := some 22, op := Go.Op.fieldAddr 29 (Go.Operand.tmp 1) 4, type := 0, pos := "l03_write.go:156", after := #[], guard := none }) (v := ?v7) rfl (by kernel_rfl) (by kernel_rfl) (by kernel_rfl) (fun _ _ _ h => h) (Or.inl ⟨by rfl, ?h7⟩) hHeld ?r7
  case h7 =>
    intro wS hSw
    (try dsimp only at hSw)
    go_simp
    try with_reducible rfl
  case r7 =>
  simp only [Act.put, List.setIfInBounds_toArray, List.set_cons_zero, List.set_cons_succ]
  refine wpAnyH_take (i := 8) (oi := { dst := some 23, op := Go.Op.load 2 (Go.Operand.tmp 22), type := 2, pos := "l03_write.go:156", after := #[{ on := 7, ground := Go.Ground.data }], guard := none }) (v := ?v8) rfl (by kernel_rfl) (by kernel_rfl) (by kernel_rfl) (fun _ _ _ h => h) (Or.inl ⟨by rfl, ?h8⟩) hHeld ?r8
  case h8 =>
    intro wS hSw
    have y0 := (hSw.cell (p := ⟨w.heap.size, 0, none⟩) hA).trans c0
    have y1 := (hSw.cell (p := ⟨w.heap.size, 1, none⟩) hA).trans c1
    have y3 := (hSw.cell (p := ⟨w.heap.size, 3, none⟩) hA).trans c3
    have y4 := (hSw.cell (p := ⟨w.heap.size, 4, none⟩) hA).trans c4
    clear hSw
    (try dsimp only at hSw)
    go_simp
    try with_reducible rfl
  case r8 =>
  simp only [Act.put, List.setIfInBounds_toArray, List.set_cons_zero, List.set_cons_succ]
  refine wpAnyH_ready (rs := [3]) (by kernel_rfl) (by simp) ?_
  refine AllReadyH.cons (o := { dst := some 18, op := Go.Op.call { callee := Go.Callee.value (Go.Operand.func 21), args := #[Go.Operand.tmp 15, Go.Operand.tmp 17], argTypes := #[46, 2] }, type := 49, pos := "l03_write.go:156", after := #[{ on := 0, ground := Go.Ground.data }, { on := 2, ground := Go.Ground.data }], guard := none }) rfl (fun K hK => ?_) AllReadyH.nil
  go_simp
  go_at_call 21
  refine (unhide LW _ ((unhide HT).later ((unhide HB1).trans (hHeld.mono (unhide HB1).size)))).mono ?_
  rintro e w3 ⟨g3, d3, rfl, O, hbw⟩
  have hz3 := hbw.size
  simp only [List.map_cons, List.map_nil, str, List.length_cons, List.length_nil, Nat.zero_add, Nat.reduceAdd] at O ⊢
  try go_wp2_with fail
  refine hK.out _ _ (hHeld.trans (hbw.mono hHeld.size)) (fun hHeld => ?_)
  clear hK K
  try simp only [Act.put, List.setIfInBounds_toArray, List.set_cons_zero, List.set_cons_succ]
  refine wpAnyH_ready (rs := [6]) (by kernel_rfl) (by simp) ?_
  refine AllReadyH.cons (o := { dst := some 21, op := Go.Op.call { callee := Go.Callee.value (Go.Operand.func 22), args := #[Go.Operand.tmp 20], argTypes := #[2] }, type := 9, pos := "l03_write.go:156", after := #[{ on := 5, ground := Go.Ground.data }, { on := 3, ground := Go.Ground.chain }], guard := none }) rfl (fun K hK => ?_) AllReadyH.nil
  go_simp
  go_at_call 22
  refine (unhide LS _ ((unhide HT).later ((unhide HB1).trans (hHeld.mono (unhide HB1).size)))).mono ?_
  rintro e w4 ⟨rfl, hbw⟩
  replace O := own_below O hbw
  have hz4 := hbw.size
  try go_wp2_with fail
  refine hK.out _ _ (hHeld.trans (hbw.mono hHeld.size)) (fun hHeld => ?_)
  clear hK K
  try simp only [Act.put, List.setIfInBounds_toArray, List.set_cons_zero, List.set_cons_succ]
  refine wpAnyH_ready (rs := [9]) (by kernel_rfl) (by simp) ?_
  refine AllReadyH.cons (o := { dst := some 24, op := Go.Op.call { callee := Go.Callee.value (Go.Operand.func 22), args := #[Go.Operand.tmp 23], argTypes := #[2] }, type := 9, pos := "l03_write.go:156", after := #[{ on := 8, ground := Go.Ground.data }, { on := 6, ground := Go.Ground.chain }], guard := none }) rfl (fun K hK => ?_) AllReadyH.nil
  go_simp
  go_at_call 22
  refine (unhide LQ _ ((unhide HT).later ((unhide HB1).trans (hHeld.mono (unhide HB1).size)))).mono ?_
  rintro e w5 ⟨rfl, hbw⟩
  replace O := own_below O hbw
  have hz5 := hbw.size
  try go_wp2_with fail
  refine hK.out _ _ (hHeld.trans (hbw.mono hHeld.size)) (fun hHeld => ?_)
  clear hK K
  try simp only [Act.put, List.setIfInBounds_toArray, List.set_cons_zero, List.set_cons_succ]
  refine wpAnyH_ready (rs := [10]) (by kernel_rfl) (by simp) ?_
  refine AllReadyH.cons (o := { dst := some 25, op := Go.Op.buildSlice 49 3 #[(0, Go.Operand.const (Go.Value.string { data := #[98, 121] })), (1, Go.Operand.tmp 21), (2, Go.Operand.tmp 24)], type := 49, pos := "l03_write.go:156", after := #[{ on := 6, ground := Go.Ground.data }, { on := 9, ground := Go.Ground.data }], guard := none }) rfl (fun K hK => ?_) AllReadyH.nil
  go_simp
  refine hK.out _ _ (hHeld.alloc hHeld.size _) (fun hHeld => ?_)
  clear hK K
  try simp only [Act.put, List.setIfInBounds_toArray, List.set_cons_zero, List.set_cons_succ]
  refine wpAnyH_ready (rs := [11]) (by kernel_rfl) (by simp) ?_
  refine AllReadyH.cons (o := { dst := some 26, op := Go.Op.call { callee := Go.Callee.builtin Go.Builtin.append, args := #[Go.Operand.tmp 18, Go.Operand.tmp 25], argTypes := #[49, 49] }, type := 49, pos := "l03_write.go:156", after := #[{ on := 3, ground := Go.Ground.data }, { on := 10, ground := Go.Ground.data }, { on := 9, ground := Go.Ground.chain }], guard := none }) rfl (fun K hK => ?_) AllReadyH.nil
  have O6 := own_below O ((Below.refl w5.heap.size w5).alloc (Nat.le_refl _) (.cells #[.string ⟨#[98, 121]⟩, .string ⟨ds.toArray⟩, .string ⟨dq.toArray⟩] 9))
  refine step_append_strs O6 [⟨#[98, 121]⟩, ⟨ds.toArray⟩, ⟨dq.toArray⟩] rfl _ _ rfl rfl 3 w5.heap.size rfl (heap_alloc_new w5 _) rfl (by omega) (by omega) (by simp; omega) ?_
  rintro g7 d7 w7 O7 hb7 hl7 hz7
  refine hK.out _ _ (hHeld.trans (hb7.mono (by have := hDz; omega))) (fun hHeld => ?_)
  clear hK K
  try simp only [Act.put, List.setIfInBounds_toArray, List.set_cons_zero, List.set_cons_succ]
  refine wpAnyH_take (i := 12) (oi := { dst := some 5, op := Go.Op.assign (Go.Operand.tmp 26), type := 49, pos := "l03_write.go:156", after := #[{ on := 11, ground := Go.Ground.data }, { on := 11, ground := Go.Ground.chain }, { on := 0, ground := Go.Ground.phase }, { on := 1, ground := Go.Ground.phase }, { on := 2, ground := Go.Ground.phase }, { on := 3, ground := Go.Ground.phase }, { on := 4, ground := Go.Ground.phase }, { on := 5, ground := Go.Ground.phase }, { on := 6, ground := Go.Ground.phase }, { on := 7, ground := Go.Ground.phase }, { on := 8, ground := Go.Ground.phase }, { on := 9, ground := Go.Ground.phase }, { on := 10, ground := Go.Ground.phase }, { on := 11, ground := Go.Ground.phase }], guard := none }) (v := ?v12) rfl (by kernel_rfl) (by kernel_rfl) (by kernel_rfl) (fun _ _ _ h => h) (Or.inl ⟨by rfl, ?h12⟩) hHeld ?r12
  case h12 =>
    intro wS hSw
    (try dsimp only at hSw)
    go_simp
    try with_reducible rfl
  case r12 =>
  simp only [Act.put, List.setIfInBounds_toArray, List.set_cons_zero, List.set_cons_succ]
  refine wpAnyH_done (by kernel_rfl) ?_ _
  refine NoPanic.normal ?_
  have HB7 := hide ((unhide HB1).trans (hHeld.mono (unhide HB1).size))
  have bR := (unhide HR).keep hHeld
  clear hHeld hb7 O O6 HR HB1 c0 c1 c3 c4
  have hcells : ∀ (j : Nat) s, ([⟨([100, 114, 111, 112] : Bytes).toArray⟩, ⟨di.toArray⟩, ⟨([98, 121] : Bytes).toArray⟩, ⟨ds.toArray⟩, ⟨dq.toArray⟩] : List ByteArray)[j]? = some s → w7.cell? ⟨g7, 0 + j, none⟩ = some (.string s) := by
    intro j s hj
    have hj2 : j < 5 := by
      rcases Nat.lt_or_ge j 5 with h | h
      · exact h
      · rw [List.getElem?_eq_none (by simpa using h)] at hj; cases hj
    rw [Nat.zero_add, O7.cellAt j (by omega)]
    rcases j with _ | _ | _ | _ | _ | j
    · simp at hj; subst hj; rfl
    · simp at hj; subst hj; rfl
    · simp at hj; subst hj; rfl
    · simp at hj; subst hj; rfl
    · simp at hj; subst hj; rfl
    · omega
  have e : Lib.join (([⟨([100, 114, 111, 112] : Bytes).toArray⟩, ⟨di.toArray⟩, ⟨([98, 121] : Bytes).toArray⟩, ⟨ds.toArray⟩, ⟨dq.toArray⟩] : List ByteArray).map fun x : ByteArray => x.data.toList) (⟨#[32]⟩ : ByteArray).data.toList = [100, 114, 111, 112, 32] ++ di ++ [32, 98, 121, 32] ++ ds ++ [32] ++ dq := by
    simp [Lib.join, List.intercalate]
  have hcap : 5 ≤ d7 := by
    rcases O7.2 with ⟨e, -⟩ | ⟨g9, c9, cur, e, -, -, hc, -⟩
    · simp at e
    · simp only [Value.slice.injEq] at e
      obtain ⟨-, -, rfl⟩ := e
      exact hc
  have LJ := hide (Tryd.strings_Join g7 0 d7 [⟨([100, 114, 111, 112] : Bytes).toArray⟩, ⟨di.toArray⟩, ⟨([98, 121] : Bytes).toArray⟩, ⟨ds.toArray⟩, ⟨dq.toArray⟩] ⟨#[32]⟩ w7 hcells hl7 (by simp) hcap (by rw [e]; simp; omega))
  rw [e] at LJ
  clear hcells O7 e hcap
  generalize [100, 114, 111, 112, 32] ++ di ++ [32, 98, 121, 32] ++ ds ++ [32] ++ dq = t at *
  go_wp2_with fail
  refine (unhide LJ).mono ?_
  rintro e w8 ⟨rfl, hb⟩
  replace bR := bR.keep hb
  have r0 := bR.at 0 _ rfl
  have r1 := bR.at 1 _ rfl
  have rf := bR.soft
  have rl := bR.lt
  replace HB7 := hide ((unhide HB7).trans (hb.mono (unhide HB7).size))
  clear hb bR LJ
  simp only [List.getElem_toArray, List.getElem_cons_zero, List.getElem_cons_succ] at r0 r1
  go_wp2_with fail
  refine bodyPost_ret (v := .agg #[.int .i64 0, .string ⟨t.toArray⟩]) (by simp [results, Tryd.results8, go_sem, r0, r1]) rfl ?_
  rw [unhide HE]
  exact ⟨[.int .i64 0, .string ⟨t.toArray⟩], rfl, own_text rfl, below_setAll (unhide HB7) (w.heap.size + 1) 0 [.int .i64 0, .string ⟨t.toArray⟩] (by omega)⟩

set_option maxRecDepth 10000 in
set_option maxHeartbeats 1000000 in
theorem implWT_bad (a2 : Option Addr) (d2 : Nat) (x : DWrite) (w : World) (h : IsInts w (.slice a2 x.vec.length d2) x.vec) (hf : writeFault x.kind x.id x.vec x.session x.seq ≠ 0) :
    Calls Tryd.prog 8 #[.agg #[.int .i64 x.kind, .int .i64 x.id, .slice a2 x.vec.length d2, .int .i64 x.session, .int .i64 x.seq]] w fun e w' => ToldT w w' e (wtextR x) := by
  have B0 : Below w.heap.size w ((w.alloc (.cells #[.int .i64 x.kind, .int .i64 x.id, .slice a2 x.vec.length d2, .int .i64 x.session, .int .i64 x.seq] 29)).alloc (.cells #[.int .i64 0, .string ⟨#[]⟩] 27)) := ((Below.refl _ _).alloc (Nat.le_refl _) _).alloc (by simp) _
  have bR : Box w.heap.size #[.int .i64 0, .string ⟨#[]⟩] 27 ((w.alloc (.cells #[.int .i64 x.kind, .int .i64 x.id, .slice a2 x.vec.length d2, .int .i64 x.session, .int .i64 x.seq] 29)).alloc (.cells #[.int .i64 0, .string ⟨#[]⟩] 27)) (w.heap.size + 1) := newBoxAt (by omega) (by simp)
  have LD := hide (implDeed x.kind x.id _ x.session x.seq x.vec _ (h.later B0))
  have hd : deedRes x.kind x.id x.vec x.session x.seq = .nilIface := by rw [deedRes, if_neg hf]
  simp only [ToldDeed, hd] at LD
  have HC := hide (fault_codes x.kind x.id x.vec x.session x.seq)
  have HE : Hid (wtextR x = ⟨writeFault x.kind x.id x.vec x.session x.seq, ⟨#[]⟩⟩) := by
    show wtextR x = _
    rw [wtextR, writeText, if_neg hf]
  have hne : (writeFault x.kind x.id x.vec x.session x.seq != 0) = true := by rw [bne_iff_ne]; exact hf
  clear h hd hf
  generalize writeFault x.kind x.id x.vec x.session x.seq = F at *
  go_enter Tryd.func8, Tryd.ntmps8
  go_wp2_with fail
  generalize (w.alloc (.cells #[.int .i64 x.kind, .int .i64 x.id, .slice a2 x.vec.length d2, .int .i64 x.session, .int .i64 x.seq] 29)).alloc (.cells #[.int .i64 0, .string ⟨#[]⟩] 27) = W0 at *
  refine (unhide LD).mono ?_
  rintro e w1 ⟨rfl, hb⟩
  replace bR := bR.keep hb
  have HB := hide (B0.trans (hb.mono B0.size))
  have r0 := bR.at 0 _ rfl
  have r1 := bR.at 1 _ rfl
  have rf := bR.soft
  have rl := bR.lt
  clear hb B0 LD bR
  simp only [List.getElem_toArray, List.getElem_cons_zero, List.getElem_cons_succ] at r0 r1
  go_wp2_with fail
  refine bodyPost_ret (v := .agg #[.int .i64 F, .string ⟨#[]⟩]) (by simp [results, Tryd.results8, go_sem, r0, r1]) rfl ?_
  rw [unhide HE]
  exact ⟨[.int .i64 F, .string ⟨#[]⟩], rfl, own_text (unhide HC), below_setAll (unhide HB) (w.heap.size + 1) 0 [.int .i64 F, .string ⟨#[]⟩] (by omega)⟩

/-- WriteText of the program. -/
theorem implWText (u : List Value) (x : DWrite) (w : World) (h : Lay.tWrite.Reads w u x) (ht : Tab w) :
    Calls Tryd.prog 8 #[.agg u.toArray] w fun e w' => ToldT w w' e (wtextR x) := by
  obtain ⟨a2, d2, rfl, R2⟩ := open_Write h
  have hI := Lay.ints_reads R2
  by_cases hf : writeFault x.kind x.id x.vec x.session x.seq = 0
  · obtain ⟨-, -, -, hk⟩ := writeFault_zero hf
    rcases hk with ⟨hk, -⟩ | ⟨hk, -⟩
    · exact implWT_put a2 d2 x w hI hf hk ht
    · exact implWT_drop a2 d2 x w hI hf hk ht
  · exact implWT_bad a2 d2 x w hI hf

end Go.Proofs.YtgjjmbliahhhjaaDoor
