/-
  Texts of this proof in one: ImplNewW, LawNewW.
  Their conditions stand in their theorems.
-/
import Derived.Test.YthpbdafhjakekaaNw10
import Derived.Deep.CutRange
import Derived.Test.YthpbdafhjakekaaNw08

namespace Go.Proofs.Ythpbdafhjakekaa
open Go.RowKit

set_option maxRecDepth 100000 in
set_option maxHeartbeats 4000000 in
theorem implNewWorld (i : Int) (w : World) :
    Calls Try.prog 5 #[.int .i64 i] w fun e w' => ∃ cs, e = .returned (.agg cs.toArray) ∧ Lay.tWorldResult.OwnIn w' cs (newWorldR i) w.heap.size w'.heap.size ∧ Below w.heap.size w w' := by
  have nb : Below w.heap.size w (w.alloc (.cells #[.int .i64 0, .bool false, .int .i64 0, .int .i64 0, .int .i64 0, .slice none 0 0, .slice none 0 0, .slice none 0 0, .slice none 0 0] 31)) := (Below.refl _ _).alloc (Nat.le_refl _) _
  have HY : Hid (Box 0 #[.int .i64 0, .bool false, .int .i64 0, .int .i64 0, .int .i64 0, .slice none 0 0, .slice none 0 0, .slice none 0 0, .slice none 0 0] 31 (w.alloc (.cells #[.int .i64 0, .bool false, .int .i64 0, .int .i64 0, .int .i64 0, .slice none 0 0, .slice none 0 0, .slice none 0 0, .slice none 0 0] 31)) w.heap.size) := newBox (Nat.zero_le _)
  have hz0 : w.heap.size < (w.alloc (.cells #[.int .i64 0, .bool false, .int .i64 0, .int .i64 0, .int .i64 0, .slice none 0 0, .slice none 0 0, .slice none 0 0, .slice none 0 0] 31)).heap.size := by simp
  have HB := hide nb
  have HLC := hide (implNewChain i (w.alloc (.cells #[.int .i64 0, .bool false, .int .i64 0, .int .i64 0, .int .i64 0, .slice none 0 0, .slice none 0 0, .slice none 0 0, .slice none 0 0] 31)))
  clear nb
  by_cases hi : 1 ≤ i ∧ i ≤ 5
  · obtain ⟨n, rfl⟩ : ∃ n : Nat, i = (n : Int) := ⟨i.toNat, by omega⟩
    rw [newWorldR_ok (by omega) (by omega)]
    have hn : n ≤ 5 := by omega
    have hy : newChainR (n : Int) = ⟨0, ⟨1, upToC n⟩⟩ := by rw [newChainR, if_pos hi]; rfl
    rw [hy] at HLC
    have HL2 : Hid (Calls Try.prog 12 #[.int .i64 (n : Int)] (w.alloc (.cells #[.int .i64 0, .bool false, .int .i64 0, .int .i64 0, .int .i64 0, .slice none 0 0, .slice none 0 0, .slice none 0 0, .slice none 0 0] 31)) fun e w' => ∃ ai di, e = .returned (.agg #[.int .i64 0, .int .i64 1, .slice ai n di]) ∧ (Lay.sl Lay.int).OwnIn w' [.slice ai n di] (upToC n) (w.alloc (.cells #[.int .i64 0, .bool false, .int .i64 0, .int .i64 0, .int .i64 0, .slice none 0 0, .slice none 0 0, .slice none 0 0, .slice none 0 0] 31)).heap.size w'.heap.size ∧ Below (w.alloc (.cells #[.int .i64 0, .bool false, .int .i64 0, .int .i64 0, .int .i64 0, .slice none 0 0, .slice none 0 0, .slice none 0 0, .slice none 0 0] 31)).heap.size (w.alloc (.cells #[.int .i64 0, .bool false, .int .i64 0, .int .i64 0, .int .i64 0, .slice none 0 0, .slice none 0 0, .slice none 0 0, .slice none 0 0] 31)) w') := by
      refine (unhide HLC).mono ?_
      rintro e W1 ⟨cs, rfl, ⟨blc, hOc, hbc⟩, hb⟩
      obtain ⟨ai, di, g2, rfl, rfl, hOI, -⟩ := own_ChainResult hOc
      obtain ⟨ai', di', gi, hq, rfl, hOi, -⟩ := own_Chain hOI
      simp only [List.cons.injEq, Value.slice.injEq, and_true, true_and] at hq
      obtain ⟨rfl, rfl⟩ := hq
      dsimp only at hOi ⊢
      rw [upToC_len] at hOi ⊢
      exact ⟨ai, di, rfl, ⟨_, hOi, hbc⟩, hb⟩
    clear hy hi HLC
    go_enter Try.func5, Try.ntmps5
    go_upto_region 1 with fail
    generalize (w.alloc (.cells #[.int .i64 0, .bool false, .int .i64 0, .int .i64 0, .int .i64 0, .slice none 0 0, .slice none 0 0, .slice none 0 0, .slice none 0 0] 31)) = W0 at *
    go_wp2_with fail
    refine (unhide HL2).mono ?_
    rintro e W1 ⟨ai, di, rfl, hI, hb⟩
    have hz1 : W0.heap.size ≤ W1.heap.size := hb.size
    have nb : Below W1.heap.size W1 (W1.alloc (.cells #[.int .i64 0, .int .i64 1, .slice ai n di] 38)) := (Below.refl _ _).alloc (Nat.le_refl _) _
    have HCR : Hid (Box 0 #[.int .i64 0, .int .i64 1, .slice ai n di] 38 (W1.alloc (.cells #[.int .i64 0, .int .i64 1, .slice ai n di] 38)) W1.heap.size) := newBox (Nat.zero_le _)
    replace HY := hide (((unhide HY).keep hb).keep nb)
    replace HB := hide ((unhide HB).trans ((hb.trans (nb.mono hb.size)).mono (unhide HB).size))
    have HI := hide (hI.later nb)
    have hz2 : W1.heap.size < (W1.alloc (.cells #[.int .i64 0, .int .i64 1, .slice ai n di] 38)).heap.size := by simp
    clear nb hb hI HL2
    go_upto_region 2 with fail
    generalize W1.alloc (.cells #[.int .i64 0, .int .i64 1, .slice ai n di] 38) = W2 at *
    have k0 := Box.at (unhide HCR) 0 _ rfl
    have k1 := Box.at (unhide HCR) 1 _ rfl
    have k2 := Box.at (unhide HCR) 2 _ rfl
    simp only [List.getElem_toArray, List.getElem_cons_zero, List.getElem_cons_succ] at k0 k1 k2
    have kl := (unhide HCR).lt
    have nb : Below W2.heap.size W2 (W2.alloc (.cells #[.int .i64 0, .int .i64 0, .int .i64 1, .slice ai n di, .slice none 0 0, .slice none 0 0, .slice none 0 0] 29)) := (Below.refl _ _).alloc (Nat.le_refl _) _
    have HC : Hid (Box 0 #[.int .i64 0, .int .i64 0, .int .i64 1, .slice ai n di, .slice none 0 0, .slice none 0 0, .slice none 0 0] 29 (W2.alloc (.cells #[.int .i64 0, .int .i64 0, .int .i64 1, .slice ai n di, .slice none 0 0, .slice none 0 0, .slice none 0 0] 29)) W2.heap.size) := newBox (Nat.zero_le _)
    replace HY := hide ((unhide HY).keep nb)
    replace HB := hide ((unhide HB).trans (nb.mono (unhide HB).size))
    replace HI := hide ((unhide HI).later nb)
    replace HCR := hide ((unhide HCR).keep nb)
    have hz3 : W2.heap.size + 1 ≤ (W2.alloc (.cells #[.int .i64 0, .int .i64 0, .int .i64 1, .slice ai n di, .slice none 0 0, .slice none 0 0, .slice none 0 0] 29)).heap.size := by simp
    clear nb
    go_upto_region 5 with fail
    generalize W2.alloc (.cells #[.int .i64 0, .int .i64 0, .int .i64 1, .slice ai n di, .slice none 0 0, .slice none 0 0, .slice none 0 0] 29) = W3 at *
    clear k0 k1 k2 kl
    have k2 := Box.at (unhide HCR) 2 _ rfl
    simp only [List.getElem_toArray, List.getElem_cons_zero, List.getElem_cons_succ] at k2
    have kl := (unhide HCR).lt
    go_wp2_with fail
    clear k2 kl HCR
    go_loopw [23] (fun i wr => ∃ (k : Nat) (v : Value) (rows : List (List Value)) (bls : List (List Nat)), k ≤ n ∧ i = .int .i64 (k : Int) ∧ Box 0 #[.int .i64 0, .int .i64 0, .int .i64 1, .slice ai n di, v, .slice none 0 0, .slice none 0 0] 29 wr W2.heap.size ∧ Box 0 #[.int .i64 0, .bool false, .int .i64 0, .int .i64 0, .int .i64 0, .slice none 0 0, .slice none 0 0, .slice none 0 0, .slice none 0 0] 31 wr w.heap.size ∧ Grow Lay.tNode wr (W2.heap.size + 1) 42 v rows (freshNs k) bls ∧ bls.flatten = [] ∧ (Lay.sl Lay.int).OwnIn wr [.slice ai n di] (upToC n) W0.heap.size W1.heap.size ∧ W2.heap.size + 1 ≤ wr.heap.size ∧ Below w.heap.size w wr) (fun i _ => n - (intOf i).toNat)
    case atStart => exact ⟨0, .slice none 0 0, [], [], Nat.zero_le _, rfl, unhide HC, unhide HY, Grow.nil (World.ownsRow_nil _ _ _ _), rfl, unhide HI, hz3, unhide HB⟩
    case round =>
      obtain ⟨k, v, rows, bls, hk, rfl, hC, hR, hG, hS, hI, hz, hB⟩ := hrel
      clear HC HY HI HB
      by_cases hlt : k < n
      · have hdl : decide ((k : Int) < (n : Int)) = true := by simp; omega
        have hlt2 : k < (upToC n).length := by rw [upToC_len]; exact hlt
        obtain ⟨b, off, rfl, hbl⟩ := Lay.sl_addr hI.reads (by omega)
        have x1 := int_cell (zs := upToC n) (by rw [upToC_len]; exact hI.reads) hlt2
        have hid : (upToC n)[k] = (k : Int) + 1 := by
          have := upToC_at n k hlt
          simpa [List.getD, hlt2] using this
        rw [hid] at x1
        have HLN : Hid (∀ W, Calls Try.prog 13 #[.int .i64 ((k : Int) + 1)] W fun e w' => ∃ cs, e = .returned (.agg cs.toArray) ∧ Lay.tNodeResult.OwnIn w' cs ⟨0, 0, ⟨(k : Int) + 1, true, 0, 0, [], 0, 0⟩⟩ W.heap.size w'.heap.size ∧ Below W.heap.size W w') := fun W => by
          have := implNewNode ((k : Int) + 1) W
          rw [newNodeR, if_pos (by omega)] at this
          exact this
        have HCr := hide hC
        have HRr := hide hR
        have HBr := hide hB
        have HIr := hide hI
        have HGr := hide hG
        clear hC hR hB hI hG hid
        go_wp2_with fail
        refine (unhide HLN wr).mono ?_
        rintro e w4 ⟨cs, rfl, O, hb⟩
        obtain ⟨an, dn, hq, -⟩ := open_NodeResult O.reads
        dsimp only at hq
        subst hq
        clear O HLN x1 hdl
        have hfl : ∀ w : World, (Instr.field 44 (.agg #[.int .i64 0, .int .i64 0, .int .i64 ((k : Int) + 1), .bool true, .int .i64 0, .int .i64 0, .slice an 0 dn, .int .i64 0, .int .i64 0]) 2).run Try.prog w = .ok (.agg #[.int .i64 ((k : Int) + 1), .bool true, .int .i64 0, .int .i64 0, .slice an 0 dn, .int .i64 0, .int .i64 0]) w := fun _ => by kernel_rfl
        have hfl2 : ∀ w : World, (Instr.field 44 (.agg (([.int .i64 0, .int .i64 0, .int .i64 ((k : Int) + 1), .bool true, .int .i64 0, .int .i64 0, .slice an ([] : List DWrite).length dn, .int .i64 0, .int .i64 0] : List Value).toArray)) 2).run Try.prog w = .ok (.agg #[.int .i64 ((k : Int) + 1), .bool true, .int .i64 0, .int .i64 0, .slice an 0 dn, .int .i64 0, .int .i64 0]) w := fun _ => by kernel_rfl
        simp only [List.length_nil]
        have nb : Below w4.heap.size w4 (w4.alloc (.cells #[.int .i64 ((k : Int) + 1), .bool true, .int .i64 0, .int .i64 0, .slice an 0 dn, .int .i64 0, .int .i64 0] 42)) := (Below.refl _ _).alloc (Nat.le_refl _) _
        have hn5 : Box 0 #[.int .i64 ((k : Int) + 1), .bool true, .int .i64 0, .int .i64 0, .slice an 0 dn, .int .i64 0, .int .i64 0] 42 (w4.alloc (.cells #[.int .i64 ((k : Int) + 1), .bool true, .int .i64 0, .int .i64 0, .slice an 0 dn, .int .i64 0, .int .i64 0] 42)) w4.heap.size := newBox (Nat.zero_le _)
        have hzs := hb.size
        have hb5 := hb.trans (nb.mono hb.size)
        have hz5 : w4.heap.size < (w4.alloc (.cells #[.int .i64 ((k : Int) + 1), .bool true, .int .i64 0, .int .i64 0, .slice an 0 dn, .int .i64 0, .int .i64 0] 42)).heap.size := by simp
        have HN5 := hide hn5
        have HB5 := hide hb5
        clear nb hb hb5 hn5
        go_upto_region 9 with fail
        generalize w4.alloc (.cells #[.int .i64 ((k : Int) + 1), .bool true, .int .i64 0, .int .i64 0, .slice an 0 dn, .int .i64 0, .int .i64 0] 42) = w5 at *
        clear hfl hfl2
        have hn5 := unhide HN5
        have y2 := Box.at hn5 2 _ rfl
        simp only [List.getElem_toArray, List.getElem_cons_zero, List.getElem_cons_succ] at y2
        have yf := Box.soft hn5
        have yl := hn5.lt
        have hn6 := Box.set hn5 2 (.int .i64 1)
        simp only [List.setIfInBounds_toArray, List.set_cons_zero, List.set_cons_succ] at hn6
        have hb6 : Below wr.heap.size wr (w5.setCell ⟨w4.heap.size, 2, none⟩ (.int .i64 1)) := (unhide HB5).setCell (by simpa using hzs) _
        have HN6 := hide hn6
        replace HCr := hide ((unhide HCr).keep hb6)
        replace HRr := hide ((unhide HRr).keep hb6)
        replace HIr := hide ((unhide HIr).later hb6)
        have hG6 := (unhide HGr).later hb6
        replace HBr := hide ((unhide HBr).trans (hb6.mono (unhide HBr).size))
        have hz6 : w5.heap.size ≤ (w5.setCell ⟨w4.heap.size, 2, none⟩ (.int .i64 1)).heap.size := by simp
        clear hn5 hn6 hb6 HB5 HN5 HGr
        go_upto_region 10 with fail
        generalize hWW : w5.setCell ⟨w4.heap.size, 2, none⟩ (.int .i64 1) = w6 at *
        clear hWW y2 yf yl
        have n0 := Box.at (unhide HN6) 0 _ rfl
        have n1 := Box.at (unhide HN6) 1 _ rfl
        have n2 := Box.at (unhide HN6) 2 _ rfl
        have n3 := Box.at (unhide HN6) 3 _ rfl
        have n4 := Box.at (unhide HN6) 4 _ rfl
        have n5 := Box.at (unhide HN6) 5 _ rfl
        have n6 := Box.at (unhide HN6) 6 _ rfl
        simp only [List.getElem_toArray, List.getElem_cons_zero, List.getElem_cons_succ] at n0 n1 n2 n3 n4 n5 n6
        have nl := (unhide HN6).lt
        have c4 := Box.at (unhide HCr) 4 _ rfl
        simp only [List.getElem_toArray, List.getElem_cons_zero, List.getElem_cons_succ] at c4
        have cl := (unhide HCr).lt
        have hsh := own_shape hG6.own
        obtain ⟨a9, c9, rfl⟩ := hsh
        have hlie : Lay.tNode.lies w6 [.int .i64 ((k : Int) + 1), .bool true, .int .i64 1, .int .i64 0, .slice an 0 dn, .int .i64 0, .int .i64 0] (freshNode k) [] := by
          refine lies_Node.2 ⟨an, dn, [], rfl, rfl, ?_, (show (Lit.int .i64 1).wf = true by decide), (show (Lit.int .i64 0).wf = true by decide), ⟨an, dn, rfl, by simp [freshNode], Or.inl ⟨rfl, rfl⟩⟩, (show (Lit.int .i64 0).wf = true by decide), (show (Lit.int .i64 0).wf = true by decide)⟩
          exact wf_of_bd (by show -1000000000 ≤ (k : Int) + 1 ∧ (k : Int) + 1 ≤ 1000000000; omega)
        clear HN6
        go_wp2_with (at_builtin; refine wpList_append_Node hG6 hlie ?hq2 rfl _ _ rfl rfl rfl ?hq3 ?hq4 ?_)
        case hq2 => simp
        case hq3 => rw [freshNs_len]; omega
        case hq4 => omega
        intro g cap w7 hG7 hb7 he7 hgl hz7 hor
        have hC5 := box_lowC (unhide HCr) hb7 (by omega)
        have hR5 := box_lowC (unhide HRr) hb7 (by have := (unhide HRr).lt; have := (unhide HBr).size; omega)
        have hI5 := (unhide HIr).below hb7 (by omega)
        have y4 := Box.at hC5 4 _ rfl
        simp only [List.getElem_toArray, List.getElem_cons_zero, List.getElem_cons_succ] at y4
        have yf := Box.soft hC5
        have yl := Box.lt hC5
        rw [freshNs_len] at hG7 ⊢
        rw [← freshNs_succ] at hG7
        have hC6 := Box.set hC5 4 (.slice (some ⟨g, 0, none⟩) (k + 1) cap)
        simp only [List.setIfInBounds_toArray, List.set_cons_zero, List.set_cons_succ] at hC6
        have HC6 := hide hC6
        have HR6 := hide (hR5.other ⟨W2.heap.size, 4, none⟩ (.slice (some ⟨g, 0, none⟩) (k + 1) cap) (by simp; omega))
        have HG6 := hide (grow_setC (a := ⟨W2.heap.size, 4, none⟩) hG7 (by simp) (flat_snoc_nil hS) (.slice (some ⟨g, 0, none⟩) (k + 1) cap))
        have HI6 := hide (hI5.ext (S := fun q => q = W2.heap.size) ((Ext.refl _ _).setCell ⟨W2.heap.size, 4, none⟩ (.slice (some ⟨g, 0, none⟩) (k + 1) cap) rfl) (fun q h1 h2 h3 => by omega))
        have HB6 := hide (((unhide HBr).trans (hb7.mono (by omega))).setCell (p := ⟨W2.heap.size, 4, none⟩) (by simp; omega) (.slice (some ⟨g, 0, none⟩) (k + 1) cap))
        have HS6 := hide (flat_snoc_nil hS)
        clear c4 cl HCr HRr HBr HIr hG6 hG7 hb7 hC5 hR5 hC6 hI5 he7 hor hS n0 n1 n2 n3 n4 n5 n6 nl
        go_wp2_with fail
        go_roundw
        case rel => exact ⟨k + 1, _, _, _, by omega, by go_num, unhide HC6, unhide HR6, unhide HG6, unhide HS6, unhide HI6, by simp; omega, unhide HB6⟩
        case measure => simp [intOf]; omega
      · obtain rfl : k = n := by omega
        have hdl : decide ((k : Int) < (k : Int)) = false := by simp
        obtain ⟨a9, c9, rfl⟩ := own_shape hG.own
        have hN := nodes_own hG hS (by omega)
        rw [freshNs_len] at hN hC
        have hy := hR
        have z0 := Box.at hy 0 _ rfl
        have z1 := Box.at hy 1 _ rfl
        have z2 := Box.at hy 2 _ rfl
        have z3 := Box.at hy 3 _ rfl
        have z4 := Box.at hy 4 _ rfl
        have z5 := Box.at hy 5 _ rfl
        have z6 := Box.at hy 6 _ rfl
        have z7 := Box.at hy 7 _ rfl
        have z8 := Box.at hy 8 _ rfl
        simp only [List.getElem_toArray, List.getElem_cons_zero, List.getElem_cons_succ] at z0 z1 z2 z3 z4 z5 z6 z7 z8
        have zf := Box.soft hy
        have zl := Box.lt hy
        have cl := Box.lt hC
        have m0 := Box.at hC 0 _ rfl
        have m1 := Box.at hC 1 _ rfl
        have m2 := Box.at hC 2 _ rfl
        have m3 := Box.at hC 3 _ rfl
        have m4 := Box.at hC 4 _ rfl
        have m5 := Box.at hC 5 _ rfl
        have m6 := Box.at hC 6 _ rfl
        simp only [List.getElem_toArray, List.getElem_cons_zero, List.getElem_cons_succ] at m0 m1 m2 m3 m4 m5 m6
        have hW := own_newW hI hN (by omega) (by omega) (by omega)
        have e9 : Ext (fun q => q = w.heap.size) wr (setAll wr w.heap.size 0 [.int .i64 0, .bool false, .int .i64 0, .int .i64 0, .int .i64 1, .slice ai k di, .slice a9 k c9, .slice none 0 0, .slice none 0 0]) := ext_setAll _ (Ext.refl _ _) _ _ _ rfl
        have HO := hide (own_newR (hW.ext e9 (fun q h1 h2 h3 => by omega)))
        have HB9 := hide (below_setAll hB w.heap.size 0 [.int .i64 0, .bool false, .int .i64 0, .int .i64 0, .int .i64 1, .slice ai k di, .slice a9 k c9, .slice none 0 0, .slice none 0 0] (Nat.le_refl _))
        have hsz : Hid ((setAll wr w.heap.size 0 [.int .i64 0, .bool false, .int .i64 0, .int .i64 0, .int .i64 1, .slice ai k di, .slice a9 k c9, .slice none 0 0, .slice none 0 0]).heap.size = wr.heap.size) := size_setAll _ _ _ _
        clear hC hR hy hB hG hI hN e9 hW
        go_wp2_with fail
        refine bodyPost_ret (v := .agg #[.int .i64 0, .bool false, .int .i64 0, .int .i64 0, .int .i64 1, .slice ai k di, .slice a9 k c9, .slice none 0 0, .slice none 0 0]) (by simp [results, Try.results5, go_sem, z0, z1, z2, z3, z4, z5, z6, z7, z8]) rfl ?_
        exact ⟨[.int .i64 0, .bool false, .int .i64 0, .int .i64 0, .int .i64 1, .slice ai k di, .slice a9 k c9, .slice none 0 0, .slice none 0 0], rfl, (unhide HO).mono (by omega) (Nat.le_of_eq (unhide hsz).symm), unhide HB9⟩
  · have hy : newWorldR i = badWorld 3 := if_neg hi
    rw [hy]
    have hy2 : newChainR i = ⟨3, ⟨0, []⟩⟩ := by rw [newChainR, if_neg hi]; rfl
    rw [hy2] at HLC
    clear hy hy2 hi
    go_enter Try.func5, Try.ntmps5
    go_upto_region 1 with fail
    generalize (w.alloc (.cells #[.int .i64 0, .bool false, .int .i64 0, .int .i64 0, .int .i64 0, .slice none 0 0, .slice none 0 0, .slice none 0 0, .slice none 0 0] 31)) = W0 at *
    go_wp2_with fail
    refine (unhide HLC).mono ?_
    rintro e W1 ⟨cs, rfl, O, hb⟩
    obtain ⟨ai, di, rfl, -⟩ := open_ChainResult O.reads
    have nb : Below W1.heap.size W1 (W1.alloc (.cells #[.int .i64 3, .int .i64 0, .slice ai 0 di] 38)) := (Below.refl _ _).alloc (Nat.le_refl _) _
    have HCR : Hid (Box 0 #[.int .i64 3, .int .i64 0, .slice ai 0 di] 38 (W1.alloc (.cells #[.int .i64 3, .int .i64 0, .slice ai 0 di] 38)) W1.heap.size) := newBox (Nat.zero_le _)
    replace HY := hide (((unhide HY).keep hb).keep nb)
    replace HB := hide ((unhide HB).trans ((hb.trans (nb.mono hb.size)).mono (unhide HB).size))
    clear nb hb O HLC
    go_upto_region 2 with fail
    generalize W1.alloc (.cells #[.int .i64 3, .int .i64 0, .slice ai 0 di] 38) = W2 at *
    have k0 := Box.at (unhide HCR) 0 _ rfl
    simp only [List.getElem_toArray, List.getElem_cons_zero] at k0
    have kl := (unhide HCR).lt
    have hy := unhide HY
    have z0 := Box.at hy 0 _ rfl
    have z1 := Box.at hy 1 _ rfl
    have z2 := Box.at hy 2 _ rfl
    have z3 := Box.at hy 3 _ rfl
    have z4 := Box.at hy 4 _ rfl
    have z5 := Box.at hy 5 _ rfl
    have z6 := Box.at hy 6 _ rfl
    have z7 := Box.at hy 7 _ rfl
    have z8 := Box.at hy 8 _ rfl
    simp only [List.getElem_toArray, List.getElem_cons_zero, List.getElem_cons_succ] at z0 z1 z2 z3 z4 z5 z6 z7 z8
    have zf := Box.soft hy
    have zl := Box.lt hy
    have HB9 := hide (below_setAll (unhide HB) w.heap.size 0 [.int .i64 3, .bool false, .int .i64 0, .int .i64 0, .int .i64 0, .slice none 0 0, .slice none 0 0, .slice none 0 0, .slice none 0 0] (Nat.le_refl _))
    clear hy HB HY HCR
    go_wp2_with fail
    refine bodyPost_ret (v := .agg #[.int .i64 3, .bool false, .int .i64 0, .int .i64 0, .int .i64 0, .slice none 0 0, .slice none 0 0, .slice none 0 0, .slice none 0 0]) (by simp [results, Try.results5, go_sem, z0, z1, z2, z3, z4, z5, z6, z7, z8]) rfl ?_
    exact ⟨[.int .i64 3, .bool false, .int .i64 0, .int .i64 0, .int .i64 0, .slice none 0 0, .slice none 0 0, .slice none 0 0, .slice none 0 0], rfl, own_badWN (by decide) (unhide HB9).size, unhide HB9⟩
end Go.Proofs.Ythpbdafhjakekaa

namespace Go.Proofs.Ythpbdafhjakekaa
open Go.RowKit

theorem newWorldR_few (i : Int) : Lay.tWorldResult.vcnt (newWorldR i) ≤ 100000000 := by
  by_cases hi : 1 ≤ i ∧ i ≤ 5
  · have h : i = 1 ∨ i = 2 ∨ i = 3 ∨ i = 4 ∨ i = 5 := by omega
    rcases h with rfl | rfl | rfl | rfl | rfl <;> exact Nat.le_of_ble_eq_true rfl
  · rw [newWorldR, if_neg hi]
    exact Nat.le_of_ble_eq_true rfl
theorem lawNewWorld (i : Int) (w : World) :
    Calls Try.prog 3 #[.int .i64 i] w fun e w' => e = .returned (.bool true) ∧ Below w.heap.size w w' := by
  refine lawx_NewWorld i (newWorldR i) w (fun W => (specNewWorld i W).mono fun e w' q => ?_) (fun W => implNewWorld i W) (newWorldR_few i)
  obtain ⟨cs, q1, q2, q3⟩ := q
  exact ⟨cs, q1, q2.reads, q3⟩

end Go.Proofs.Ythpbdafhjakekaa
