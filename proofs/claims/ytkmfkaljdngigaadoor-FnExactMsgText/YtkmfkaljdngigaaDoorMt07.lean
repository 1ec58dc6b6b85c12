/-
  Texts of this proof in one: ImplFaced, ImplMText, SpecNode9.
  Their conditions stand in their theorems.
-/
import Derived.Test.YtkmfkaljdngigaaDoorMt03
import Derived.Defers
import Derived.Recover
import Derived.Laws.Pointers
import Derived.Test.YtkmfkaljdngigaaDoorMt06
import Derived.Test.YtkmfkaljdngigaaDoorChecked

namespace Go.Proofs.YtkmfkaljdngigaaDoor
open Go.RowKit

theorem asWrong (v : Value) (w : World) : (Instr.typeAssert (.iface 75 v) 20 75 true).run Tryd.prog w = .ok (.tuple #[v, .bool true]) w := by kernel_rfl
set_option maxRecDepth 10000 in
theorem wrongCodeC (c : Int) (w : World) :
    Calls Tryd.prog 27 #[.iface 75 (.agg #[.int .i64 c])] w fun e w' => e = .returned (.int .i64 c) ∧ Below w.heap.size w w' := by
  have HB : Hid (Below w.heap.size w (w.alloc (.cells #[.int .i64 c] 75))) := hide ((Below.refl _ _).alloc (Nat.le_refl _) _)
  have q := asWrong
  go_enter Tryd.func27, Tryd.ntmps27
  go_wp2_with fail
  go_ret
  exact ⟨rfl, unhide HB⟩
theorem cell_new (w : World) (v : Value) (T : TypeId) : (w.alloc (.cells #[v] T)).cell? ⟨w.heap.size, 0, none⟩ = some v := (newBox (lo := 0) (Nat.zero_le _) : Box 0 #[v] T (w.alloc (.cells #[v] T)) w.heap.size).at 0 _ rfl
set_option maxRecDepth 10000 in
theorem catch_bad_strs (p : Addr) (x c : Int) (w : World) (hc : w.cell? p = some (.int .i64 x)) (hz : w.frozen? p = false) (hp : p.block < w.heap.size) :
    CallsD Tryd.prog 26 #[.pointer (some p)] (.panicking (wrongP c)) w fun e u' w' =>
      e = .returned (.tuple #[]) ∧ u' = .panicking [{ v := .iface 75 (.agg #[.int .i64 c]), recovered := true }] ∧ ∃ w1, w' = w1.setCell p (.int .i64 c) ∧ Below w.heap.size w w1 := by
  refine callsD_of_wpS Tryd.func26 rfl fun c₀ cs hu => ?_
  apply wpS_seq
  apply wpS_region
  simp [wpOpsS, go_sem, recoverD, hu, Tryd.ntmps26, Exit.thenS, wrongP]
  refine wpS_of_wp ?_
  have HL := hide (wrongCodeC c w)
  go_wp2_with fail
  refine (unhide HL).mono ?_
  rintro e w1 ⟨rfl, hb⟩
  have hc1 : w1.cell? p = some (.int .i64 x) := (hb.cell (p := p) hp).trans hc
  have hz1 : w1.frozen? p = false := (World.frozen?_of_block (hb.block _ hp)).trans hz
  have hp1 : p.block < w1.heap.size := Nat.lt_of_lt_of_le hp hb.size
  have HB := hide hb
  clear hb HL hc hz
  go_wp2_with fail
  refine ⟨rfl, _, rfl, .tuple #[], ?_, rfl, rfl, w1, rfl, unhide HB⟩
  simp [results, Tryd.results26, go_sem]
set_option maxRecDepth 10000 in
theorem catch_ok_strs (p : Addr) (w : World) :
    CallsD Tryd.prog 26 #[.pointer (some p)] .returning w fun e u' w' => e = .returned (.tuple #[]) ∧ u' = .returning ∧ w' = w := by
  refine callsD_of_wpS Tryd.func26 rfl fun c₀ cs hu => ?_
  apply wpS_seq
  apply wpS_region
  simp [wpOpsS, go_sem, recoverD, hu, Tryd.ntmps26, Exit.thenS]
  refine wpS_of_wp ?_
  go_wp2_with fail
  cases c₀
  simp_all [bodyPostS, results, Tryd.results26, go_sem]
set_option maxRecDepth 10000 in
theorem faced_bad_strs (N : Nat) (cap : Array Value) (c : Int) (w : World) (hf : ∀ W : World, (callFunc N cap).run Tryd.prog W = .ok (.enter N cap) W)
    (h : Calls Tryd.prog N cap (w.alloc (.cells #[.int .i64 0] 2)) fun e w' => e = .panicked (wrongP c) ∧ Below (w.heap.size + 1) (w.alloc (.cells #[.int .i64 0] 2)) w') :
    Calls Tryd.prog 15 #[.func (.func N) #[] cap] w fun e w' => e = .returned (.tuple #[.slice none 0 0, .int .i64 c]) ∧ Below w.heap.size w w' := by
  have hmf : ∀ (fn : Fn) (first cap : Array Value) (w : World), (Instr.makeFunc fn first cap).run Tryd.prog w = .ok (.func fn first cap) w := fun _ _ _ _ => rfl
  have HL := hide h
  have nb : Below w.heap.size w (w.alloc (.cells #[.int .i64 0] 2)) := (Below.refl _ _).alloc (Nat.le_refl _) _
  have HX : Hid (Box 0 #[.int .i64 0] 2 (w.alloc (.cells #[.int .i64 0] 2)) w.heap.size) := newBox (Nat.zero_le _)
  have HN := hide nb
  clear h nb
  go_enter_defers Tryd.func15, Tryd.ntmps15
  go_wp2_with fail
  refine (unhide HL).mono ?_
  rintro e w1 ⟨rfl, hb⟩
  replace HN := hide ((unhide HN).trans (hb.mono (by omega)))
  have hX := (unhide HX).keep (hb.mono (by simp))
  have z0 : w1.cell? ⟨w.heap.size, 0, none⟩ = some (.int .i64 0) := hX.at 0 _ rfl
  have zf : w1.frozen? ⟨w.heap.size, 0, none⟩ = false := hX.soft 0
  have zl := hX.lt
  clear HL HX hX hb
  go_wp2_with fail
  refine leaves_cons (f := 26) (args := #[.pointer (some ⟨w.heap.size, 0, none⟩)]) (by simp) (by simp [go_sem]) ?_
  refine (catch_bad_strs ⟨w.heap.size, 0, none⟩ 0 c w1 z0 zf zl).mono ?_
  rintro e u' w2 ⟨rfl, rfl, w3, rfl, hb⟩
  have hN : Below w.heap.size w (w3.setCell ⟨w.heap.size, 0, none⟩ (.int .i64 c)) := ((unhide HN).trans (hb.mono (unhide HN).size)).setCell (by simp) _
  have z1 : (w3.setCell ⟨w.heap.size, 0, none⟩ (.int .i64 c)).cell? ⟨w.heap.size, 0, none⟩ = some (.int .i64 c) := World.cell?_setCell_same _ _ _ ((hb.cell (p := ⟨w.heap.size, 0, none⟩) zl).trans z0)
  simp [Leaves, settle, results, Tryd.results15, go_sem, z1]
  exact hN
set_option maxRecDepth 10000 in
theorem faced_ok_strs (N : Nat) (cap : Array Value) (w : World) (Q : Value → World → Prop) (hf : ∀ W : World, (callFunc N cap).run Tryd.prog W = .ok (.enter N cap) W)
    (h : Calls Tryd.prog N cap (w.alloc (.cells #[.int .i64 0] 2)) fun e w' => ∃ v, e = .returned v ∧ Q v w' ∧ Below (w.heap.size + 1) (w.alloc (.cells #[.int .i64 0] 2)) w') :
    Calls Tryd.prog 15 #[.func (.func N) #[] cap] w fun e w' => ∃ v w1, e = .returned (.tuple #[v, .int .i64 0]) ∧ Q v w1 ∧ w' = w1.setCell ⟨w.heap.size, 0, none⟩ (.int .i64 0) ∧ Below w.heap.size w w' ∧ w.heap.size < w1.heap.size := by
  have hmf : ∀ (fn : Fn) (first cap : Array Value) (w : World), (Instr.makeFunc fn first cap).run Tryd.prog w = .ok (.func fn first cap) w := fun _ _ _ _ => rfl
  have HL := hide h
  have nb : Below w.heap.size w (w.alloc (.cells #[.int .i64 0] 2)) := (Below.refl _ _).alloc (Nat.le_refl _) _
  have HX : Hid (Box 0 #[.int .i64 0] 2 (w.alloc (.cells #[.int .i64 0] 2)) w.heap.size) := newBox (Nat.zero_le _)
  have HN := hide nb
  clear h nb
  go_enter_defers Tryd.func15, Tryd.ntmps15
  go_wp2_with fail
  refine (unhide HL).mono ?_
  rintro e w1 ⟨v, rfl, hq, hb⟩
  have HQ := hide hq
  replace HN := hide ((unhide HN).trans (hb.mono (by omega)))
  have hX := (unhide HX).keep (hb.mono (by simp))
  have z0 : w1.cell? ⟨w.heap.size, 0, none⟩ = some (.int .i64 0) := hX.at 0 _ rfl
  have zf : w1.frozen? ⟨w.heap.size, 0, none⟩ = false := hX.soft 0
  have zl := hX.lt
  clear HL HX hX hb hq
  go_wp2_with fail
  refine leaves_cons (f := 26) (args := #[.pointer (some ⟨w.heap.size, 0, none⟩)]) (by simp) (by simp [go_sem]) ?_
  refine (catch_ok_strs ⟨w.heap.size, 0, none⟩ _).mono ?_
  rintro e u' w2 ⟨rfl, rfl, rfl⟩
  have hN : Below w.heap.size w (w1.setCell ⟨w.heap.size, 0, none⟩ (.int .i64 0)) := (unhide HN).setCell (by simp) _
  have z1 : (w1.setCell ⟨w.heap.size, 0, none⟩ (.int .i64 0)).cell? ⟨w.heap.size, 0, none⟩ = some (.int .i64 0) := World.cell?_setCell_same _ _ _ z0
  refine ⟨.tuple #[v, .int .i64 0], by simp [results, Tryd.results15, go_sem, z1], v, w1, rfl, unhide HQ, rfl, hN, zl⟩
end Go.Proofs.YtkmfkaljdngigaaDoor

namespace Go.Proofs.YtkmfkaljdngigaaDoor
open Go.RowKit

theorem join_nilC (w : World) : Calls Tryd.prog 18 #[.slice none 0 0, .string ⟨#[32]⟩] w fun e w' => e = .returned (.string ⟨#[]⟩) ∧ w' = w := by
  go_enter Tryd.func18, Tryd.ntmps18
  go_wp2_with fail
  go_ret
  exact ⟨rfl, rfl⟩
set_option maxRecDepth 10000 in
theorem msgTextWork (a : Option Addr) (d : Nat) (x : DMsg) (g : Nat) (w : World) (h : Lay.tMsg.Reads w [.int .i64 x.kind, .int .i64 x.epoch, .int .i64 x.src, .int .i64 x.dst, .int .i64 x.index, .int .i64 x.write.kind, .int .i64 x.write.id, .slice a x.write.vec.length d, .int .i64 x.write.session, .int .i64 x.write.seq] x) (hx : Box 0 #[.int .i64 x.kind, .int .i64 x.epoch, .int .i64 x.src, .int .i64 x.dst, .int .i64 x.index, .int .i64 x.write.kind, .int .i64 x.write.id, .slice a x.write.vec.length d, .int .i64 x.write.session, .int .i64 x.write.seq] 33 w g) (ht : Tab w) :
    Calls Tryd.prog 16 #[.pointer (some ⟨g, 0, none⟩)] w fun e w' => ((msgFault x = 0 → ∃ v, e = .returned v ∧ WordsV (asTexts (wordsM x)) w w' v) ∧ (msgFault x ≠ 0 → e = .panicked (wrongP (msgFault x)))) ∧ Below w.heap.size w w' := by
  have HX := hide hx
  have HL := hide (msgWordsC _ x w h ht)
  clear hx h ht
  have c0 : w.cell? ⟨g, 0, none⟩ = some (.int .i64 x.kind) := (unhide HX).at 0 _ rfl
  have c1 : w.cell? ⟨g, 1, none⟩ = some (.int .i64 x.epoch) := (unhide HX).at 1 _ rfl
  have c2 : w.cell? ⟨g, 2, none⟩ = some (.int .i64 x.src) := (unhide HX).at 2 _ rfl
  have c3 : w.cell? ⟨g, 3, none⟩ = some (.int .i64 x.dst) := (unhide HX).at 3 _ rfl
  have c4 : w.cell? ⟨g, 4, none⟩ = some (.int .i64 x.index) := (unhide HX).at 4 _ rfl
  have c5 : w.cell? ⟨g, 5, none⟩ = some (.int .i64 x.write.kind) := (unhide HX).at 5 _ rfl
  have c6 : w.cell? ⟨g, 6, none⟩ = some (.int .i64 x.write.id) := (unhide HX).at 6 _ rfl
  have c7 : w.cell? ⟨g, 7, none⟩ = some (.slice a x.write.vec.length d) := (unhide HX).at 7 _ rfl
  have c8 : w.cell? ⟨g, 8, none⟩ = some (.int .i64 x.write.session) := (unhide HX).at 8 _ rfl
  have c9 : w.cell? ⟨g, 9, none⟩ = some (.int .i64 x.write.seq) := (unhide HX).at 9 _ rfl
  go_enter Tryd.func16, Tryd.ntmps16
  go_wp2_with fail
  refine (unhide HL).mono ?_
  rintro e W2 ⟨he, hb⟩
  have HB := hide hb
  have HE := hide he
  clear hb HL c0 c1 c2 c3 c4 c5 c6 c7 c8 c9 he
  by_cases hf : msgFault x = 0
  · obtain ⟨v, rfl, hv⟩ := (unhide HE).1 hf
    have HF := hide hf
    have HV := hide hv
    obtain ⟨g9, c9, rfl, -⟩ := hv
    clear hf HE
    go_wp2_with fail
    go_ret
    exact ⟨⟨fun _ => ⟨_, rfl, unhide HV⟩, fun q => absurd (unhide HF) q⟩, unhide HB⟩
  · obtain rfl := (unhide HE).2 hf
    have HF := hide hf
    clear hf HE
    go_wp2_with fail
    exact ⟨rfl, ⟨fun q => absurd q (unhide HF), fun _ => rfl⟩, unhide HB⟩
set_option maxRecDepth 100000 in
set_option maxHeartbeats 2000000 in
theorem implMsgText (cs : List Value) (x : DMsg) (w : World) (ht : Tab w) (h : Lay.tMsg.Reads w cs x) :
    Calls Tryd.prog 7 #[.agg cs.toArray] w fun e w' => ∃ cs, e = .returned (.agg cs.toArray) ∧ Lay.tTextResult.OwnIn w' cs (textMR x) w.heap.size w'.heap.size ∧ Below w.heap.size w w' := by
  have hmf : ∀ (fn : Fn) (first cap : Array Value) (w : World), (Instr.makeFunc fn first cap).run Tryd.prog w = .ok (.func fn first cap) w := fun _ _ _ _ => rfl
  obtain ⟨a, d, rfl, -⟩ := open_Msg h
  have nb1 : Below w.heap.size w (w.alloc (.cells #[.int .i64 x.kind, .int .i64 x.epoch, .int .i64 x.src, .int .i64 x.dst, .int .i64 x.index, .int .i64 x.write.kind, .int .i64 x.write.id, .slice a x.write.vec.length d, .int .i64 x.write.session, .int .i64 x.write.seq] 33)) := (Below.refl _ _).alloc (Nat.le_refl _) _
  have x1 : Box 0 #[.int .i64 x.kind, .int .i64 x.epoch, .int .i64 x.src, .int .i64 x.dst, .int .i64 x.index, .int .i64 x.write.kind, .int .i64 x.write.id, .slice a x.write.vec.length d, .int .i64 x.write.session, .int .i64 x.write.seq] 33 (w.alloc (.cells #[.int .i64 x.kind, .int .i64 x.epoch, .int .i64 x.src, .int .i64 x.dst, .int .i64 x.index, .int .i64 x.write.kind, .int .i64 x.write.id, .slice a x.write.vec.length d, .int .i64 x.write.session, .int .i64 x.write.seq] 33)) w.heap.size := newBox (Nat.zero_le _)
  have s1 : (w.alloc (.cells #[.int .i64 x.kind, .int .i64 x.epoch, .int .i64 x.src, .int .i64 x.dst, .int .i64 x.index, .int .i64 x.write.kind, .int .i64 x.write.id, .slice a x.write.vec.length d, .int .i64 x.write.session, .int .i64 x.write.seq] 33)).heap.size = w.heap.size + 1 := by simp
  have R1 := h.later nb1
  generalize hA1 : w.alloc (.cells #[.int .i64 x.kind, .int .i64 x.epoch, .int .i64 x.src, .int .i64 x.dst, .int .i64 x.index, .int .i64 x.write.kind, .int .i64 x.write.id, .slice a x.write.vec.length d, .int .i64 x.write.session, .int .i64 x.write.seq] 33) = A1 at *
  have nb3 : Below A1.heap.size A1 (A1.alloc (.cells #[.int .i64 0, .string ⟨#[]⟩] 29)) := (Below.refl _ _).alloc (Nat.le_refl _) _
  have x3 : Box 0 #[.int .i64 0, .string ⟨#[]⟩] 29 (A1.alloc (.cells #[.int .i64 0, .string ⟨#[]⟩] 29)) A1.heap.size := newBox (Nat.zero_le _)
  have s3 : (A1.alloc (.cells #[.int .i64 0, .string ⟨#[]⟩] 29)).heap.size = A1.heap.size + 1 := by simp
  replace x1 := x1.keep nb3
  have R3 := R1.later nb3
  have B3 : Below w.heap.size w (A1.alloc (.cells #[.int .i64 0, .string ⟨#[]⟩] 29)) := nb1.trans (nb3.mono (by omega))
  have HB := hide B3
  rw [s1] at s3 x3
  have HX1 := hide x1
  have HX3 := hide x3
  have HR := hide R3
  have HT := hide (ht.later B3)
  subst hA1
  clear nb1 nb3 x1 x3 R1 R3 B3 s1 h ht
  go_enter Tryd.func7, Tryd.ntmps7
  go_upto_region 1 with fail
  generalize (w.alloc (.cells #[.int .i64 x.kind, .int .i64 x.epoch, .int .i64 x.src, .int .i64 x.dst, .int .i64 x.index, .int .i64 x.write.kind, .int .i64 x.write.id, .slice a x.write.vec.length d, .int .i64 x.write.session, .int .i64 x.write.seq] 33)).alloc (.cells #[.int .i64 0, .string ⟨#[]⟩] 29) = W1 at *
  have nb : Below W1.heap.size W1 (W1.alloc (.cells #[.int .i64 0] 2)) := (Below.refl _ _).alloc (Nat.le_refl _) _
  have HW := hide (msgTextWork a d x w.heap.size _ ((unhide HR).later nb) ((unhide HX1).keep nb) ((unhide HT).later nb))
  have hz : (W1.alloc (.cells #[.int .i64 0] 2)).heap.size = W1.heap.size + 1 := by simp
  have HZ := hide hz
  have HS := hide s3
  clear nb hz s3
  by_cases hf : msgFault x = 0
  · have HL := hide (faced_ok_strs 16 #[.pointer (some ⟨w.heap.size, 0, none⟩)] W1 (fun v w' => WordsV (asTexts (wordsM x)) (W1.alloc (.cells #[.int .i64 0] 2)) w' v) (fun _ => by rfl) ((unhide HW).mono (by
      rintro e w' ⟨he, hb⟩
      obtain ⟨v2, he2, O⟩ := he.1 hf
      rw [unhide HZ] at hb
      exact ⟨v2, he2, O, hb⟩)))
    have HF : Hid (textMR x = ⟨0, ⟨(textM x).toArray⟩⟩) := by show textMR x = _; rw [textMR, if_pos hf]
    clear hf HW
    go_wp2_with fail
    refine (unhide HL).mono ?_
    rintro e W2 ⟨v, W3, rfl, ⟨g, cap, rfl, hcp, hgl, hgw, hcells⟩, hW, hb, -⟩
    have hE : Ext (fun q => q = W1.heap.size) W3 W2 := by rw [hW]; exact (Ext.refl (fun q => q = W1.heap.size) _).setCell ⟨W1.heap.size, 0, none⟩ _ rfl
    have hz9 := unhide HZ
    rw [hz9] at hgw
    have hcells2 : ∀ (j : Nat) (y : ByteArray), (asTexts (wordsM x))[j]? = some y → W2.cell? ⟨g, 0 + j, none⟩ = some (.string y) := fun j y hy => (cell_of_heap (hE.block g hgl (by omega)) _).trans (hcells j y hy)
    have hgl2 : g < W2.heap.size := Nat.lt_of_lt_of_le hgl hE.size
    have hwl := wordsM_len x
    have LJ := Tryd.strings_Join g 0 cap (asTexts (wordsM x)) ⟨#[32]⟩ W2 hcells2 hgl2 (by rw [asTexts_len]; omega) hcp (by rw [asTexts_data]; show (Lib.join (wordsM x) [32]).length ≤ _; rw [wordsM_join]; have := textM_few x; omega)
    rw [asTexts_data] at LJ
    replace LJ : Calls Tryd.prog 18 #[.slice (some ⟨g, 0, none⟩) (asTexts (wordsM x)).length cap, .string ⟨#[32]⟩] W2 fun e w' => e = .returned (.string ⟨(Lib.join (wordsM x) [32]).toArray⟩) ∧ Below W2.heap.size W2 w' := LJ
    rw [wordsM_join] at LJ
    have HLJ := hide LJ
    replace HX3 := hide ((unhide HX3).keep hb)
    replace HB := hide ((unhide HB).trans (hb.mono (unhide HB).size))
    clear LJ hcells hcells2 hgl hgl2 hcp hgw hE hW hb hwl hz9 HL HX1 HR HT HZ HS
    generalize (asTexts (wordsM x)).length = nw at *
    generalize textM x = tx at *
    go_wp2_with fail
    refine (unhide HLJ).mono ?_
    rintro e w4 ⟨rfl, hb⟩
    have bR := (unhide HX3).keep hb
    have z0 : w4.cell? ⟨w.heap.size + 1, 0, none⟩ = some (.int .i64 0) := bR.at 0 _ rfl
    have z1 : w4.cell? ⟨w.heap.size + 1, 1, none⟩ = some (.string ⟨#[]⟩) := bR.at 1 _ rfl
    have ff := bR.soft
    have l0 := bR.lt
    have HB2 := hide (below_setAll ((unhide HB).trans (hb.mono (unhide HB).size)) (w.heap.size + 1) 0 [.int .i64 0, .string ⟨tx.toArray⟩] (by omega))
    clear hb bR HLJ HX3 HB
    go_wp2_with fail
    refine bodyPost_ret (v := .agg #[.int .i64 0, .string ⟨tx.toArray⟩]) (by simp [results, Tryd.results7, go_sem, z0, z1]) rfl ?_
    rw [unhide HF]
    exact ⟨[_, _], rfl, lies_textRM (by decide), unhide HB2⟩
  · have HL := hide (faced_bad_strs 16 #[.pointer (some ⟨w.heap.size, 0, none⟩)] (msgFault x) W1 (fun _ => by rfl) ((unhide HW).mono (by
      rintro e w' ⟨he, hb⟩
      rw [unhide HZ] at hb
      exact ⟨he.2 hf, hb⟩)))
    have HF : Hid (textMR x = ⟨msgFault x, ⟨#[]⟩⟩) := by show textMR x = _; rw [textMR, if_neg hf]
    have hv := msgFault_vals x
    clear hf HW HZ HS
    go_wp2_with fail
    refine (unhide HL).mono ?_
    rintro e W2 ⟨rfl, hb⟩
    replace HX3 := hide ((unhide HX3).keep hb)
    replace HB := hide ((unhide HB).trans (hb.mono (unhide HB).size))
    have HJ := hide (join_nilC W2)
    generalize msgFault x = f at *
    clear hb HL HX1 HR HT
    go_wp2_with fail
    refine (unhide HJ).mono ?_
    rintro e w9 ⟨rfl, h9⟩
    subst w9
    have z0 : W2.cell? ⟨w.heap.size + 1, 0, none⟩ = some (.int .i64 0) := (unhide HX3).at 0 _ rfl
    have z1 : W2.cell? ⟨w.heap.size + 1, 1, none⟩ = some (.string ⟨#[]⟩) := (unhide HX3).at 1 _ rfl
    have ff := (unhide HX3).soft
    have l0 := (unhide HX3).lt
    have HB2 := hide (below_setAll (unhide HB) (w.heap.size + 1) 0 [.int .i64 f, .string ⟨#[]⟩] (by omega))
    clear HX3 HB HJ
    go_wp2_with fail
    refine bodyPost_ret (v := .agg #[.int .i64 f, .string ⟨#[]⟩]) (by simp [results, Tryd.results7, go_sem, z0, z1]) rfl ?_
    rw [unhide HF]
    exact ⟨[_, _], rfl, lies_textRM (wf_of_bd (by omega)), unhide HB2⟩
end Go.Proofs.YtkmfkaljdngigaaDoor

namespace Go.Proofs.YtkmfkaljdngigaaDoor
open Go.RowKit

theorem node10C (x : Int) (w : World) : Calls Tryd.prog 22 #[.int .i64 x] w fun e w' => e = .returned (.bool (decide (1 ≤ x) && decide (x ≤ 5))) ∧ w' = w := by
  go_enter Tryd.func22, Tryd.ntmps22
  go_wp2_with fail
  refine (inC x 1 5 _).mono ?_
  rintro e w1 ⟨rfl, rfl⟩
  go_wp2_with fail
  go_ret
  exact ⟨rfl, rfl⟩

end Go.Proofs.YtkmfkaljdngigaaDoor
