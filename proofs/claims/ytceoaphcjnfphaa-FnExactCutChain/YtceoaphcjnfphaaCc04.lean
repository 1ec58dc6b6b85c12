/-
  Texts of this proof in one: ChainKit, InB, SpecNode9, SpecChainF, AppInt, SpecNewC, AppInts, IntConcat, ImplNodeId, ImplEpoch, PartReads, ImplChainF, ImplChanged.
  Their conditions stand in their theorems.
-/
import Derived.Test.YtceoaphcjnfphaaCc03
import Derived.Test.YtceoaphcjnfphaaCc02
import Derived.Test.YtceoaphcjnfphaaCc01
import Derived.Test.YtceoaphcjnfphaaChecked
import Derived.Deep.AppendLies
import Derived.Maps.AppendAt
import Derived.Lib.AppendZerosOnto
import Derived.BigQuiet
import Derived.Deep.QuietTactic
import Derived.WalkSmall
import Derived.Deep.CutRange

namespace Go.Proofs.Ytceoaphcjnfphaa
open Go.RowKit

theorem int_cell {w : World} {b off cap k : Nat} {zs : List Int} (h : (Lay.sl Lay.int).Reads w [.slice (some ⟨b, off, none⟩) zs.length cap] zs) (hk : k < zs.length) : w.cell? ⟨b, off + k, none⟩ = some (.int .i64 zs[k]) := by
  obtain ⟨bl, h⟩ := h
  obtain ⟨ao, cp, e, -, -, h⟩ := Lay.lies_ints.1 h
  simp only [Value.slice.injEq] at e
  obtain ⟨rfl, -, rfl⟩ := e
  rcases h with ⟨rfl, -⟩ | ⟨b', off', e2, -, -, hj⟩
  · simp at hk
  · simp only [Option.some.injEq, Addr.mk.injEq, and_true] at e2
    obtain ⟨rfl, rfl⟩ := e2
    rw [hj k hk]
    simp [List.getD, hk]
theorem int_wf {w : World} {v : Value} {zs : List Int} (h : (Lay.sl Lay.int).Reads w [v] zs) : ∀ z ∈ zs, (Lit.int .i64 z).wf = true := (Lay.ints_reads h).wf
theorem own_chainR {w : World} {c : Int} {v : Value} {x : DChain} {lo hi : Nat} (hc : (Lit.int .i64 c).wf = true) (he : (Lit.int .i64 x.epoch).wf = true) (h : (Lay.sl Lay.int).OwnIn w [v] x.ids lo hi) : Lay.tChainResult.OwnIn w [.int .i64 c, .int .i64 x.epoch, v] ⟨c, x⟩ lo hi := by
  obtain ⟨bl, O, i⟩ := h
  exact ⟨bl, mkOwn_ChainResult (x := ⟨c, x⟩) (mkOwn_Chain O he O.2.1) hc O.2.1, i⟩
theorem lies_chainR {w : World} {c : Int} {a : Option Addr} {m d : Nat} {x : DChain} {lo hi : Nat} (hc : (Lit.int .i64 c).wf = true) (he : (Lit.int .i64 x.epoch).wf = true) (h : (Lay.sl Lay.int).LiesIn w [.slice a m d] x.ids lo hi) : Lay.tChainResult.LiesIn w [.int .i64 c, .int .i64 x.epoch, .slice a m d] ⟨c, x⟩ lo hi := by
  obtain ⟨bl, l, i⟩ := h
  have hm : m = x.ids.length := (Lay.Reads.cap ⟨bl, l⟩).1
  subst hm
  exact ⟨bl, lies_ChainResult.2 ⟨a, d, bl, rfl, rfl, hc, he, l⟩, i⟩
theorem own_badChain {w : World} {c : Int} {lo hi : Nat} (hc : -1000000000 ≤ c ∧ c ≤ 1000000000) : Lay.tChainResult.OwnIn w [.int .i64 c, .int .i64 0, .slice none 0 0] (badChain c) lo hi := own_chainR (x := noChain) (wf_of_bd hc) (by decide) nil_own
theorem own_intRC {w : World} {c n : Int} {lo hi : Nat} (hc : (Lit.int .i64 c).wf = true) (hn : (Lit.int .i64 n).wf = true) : Lay.tIntResult.OwnIn w [.int .i64 c, .int .i64 n] ⟨c, n⟩ lo hi :=
  ⟨[], ⟨lies_IntResult.2 ⟨rfl, rfl, hc, hn⟩, by simp, by simp⟩, by simp⟩
end Go.Proofs.Ytceoaphcjnfphaa

namespace Go.Proofs.Ytceoaphcjnfphaa
open Go.RowKit

theorem inC (v lo hi : Int) (w : World) :
    Calls Try.prog 51 #[.int .i64 v, .int .i64 lo, .int .i64 hi] w fun e w' => e = .returned (.bool (decide (lo ≤ v) && decide (v ≤ hi))) ∧ w' = w := by
  by_cases h1 : lo ≤ v
  · have d1 : decide (lo ≤ v) = true := by simpa using h1
    rw [d1]
    cases d2 : decide (v ≤ hi) <;>
    · go_enter Try.func51, Try.ntmps51
      go_wp2_with fail
      go_ret
      exact ⟨rfl, rfl⟩
  · have d1 : decide (lo ≤ v) = false := by simpa using h1
    rw [d1]
    go_enter Try.func51, Try.ntmps51
    go_wp2_with fail
    go_ret
    exact ⟨rfl, rfl⟩

end Go.Proofs.Ytceoaphcjnfphaa

namespace Go.Proofs.Ytceoaphcjnfphaa
open Go.RowKit

theorem node10C (x : Int) (w : World) : Calls Try.prog 35 #[.int .i64 x] w fun e w' => e = .returned (.bool (decide (1 ≤ x) && decide (x ≤ 5))) ∧ w' = w := by
  go_enter Try.func35, Try.ntmps35
  go_wp2_with fail
  refine (inC x 1 5 _).mono ?_
  rintro e w1 ⟨rfl, rfl⟩
  go_wp2_with fail
  go_ret
  exact ⟨rfl, rfl⟩

end Go.Proofs.Ytceoaphcjnfphaa

namespace Go.Proofs.Ytceoaphcjnfphaa
open Go.RowKit

/-- A chain in a block. -/
abbrev ChainAt (w : World) (b : Nat) (v : Value) (x : DChain) : Prop := Box 0 #[.int .i64 x.epoch, v] 27 w b
set_option maxRecDepth 10000 in
set_option maxHeartbeats 1000000 in
theorem l10AtC (b : Nat) (a : Option Addr) (d : Nat) (x : DChain) (id : Int) (w : World) (hX : ChainAt w b (.slice a x.ids.length d) x) (R : (Lay.sl Lay.int).Reads w [.slice a x.ids.length d] x.ids) :
    Calls Try.prog 41 #[.pointer (some ⟨b, 0, none⟩), .int .i64 id] w fun e w' => e = .returned (.int .i64 (placeC x.ids id)) ∧ w' = w := by
  have x1 := Box.at hX 1 _ rfl
  simp only [List.getElem_toArray, List.getElem_cons_zero, List.getElem_cons_succ] at x1
  have xl := Box.lt hX
  have hbig := R.big
  have H := hide R
  clear hX R
  generalize x.ids = ids at *
  go_enter Try.func41, Try.ntmps41
  go_wp2_with fail
  go_loop [5] (fun i => ∃ k : Nat, k ≤ ids.length ∧ i = .int .i64 k ∧ (∀ j (hj : j < ids.length), j < k → ids[j] ≠ id)) (fun i => ids.length - (intOf i).toNat)
  case atStart => exact ⟨0, Nat.zero_le _, rfl, fun j _ h => by omega⟩
  case round =>
    obtain ⟨k, hk, rfl, hz⟩ := hrel
    by_cases hlt : k < ids.length
    · obtain ⟨b2, off, rfl, -⟩ := Lay.sl_addr (unhide H) (by omega)
      have c1 := int_cell (unhide H) hlt
      cases hq : (ids[k] == id)
      · have HZ : Hid (∀ j (hj : j < ids.length), j < k + 1 → ids[j] ≠ id) := fun j hj hjk => by
          by_cases h2 : j < k
          · exact hz j hj h2
          · obtain rfl : j = k := by omega
            simpa using hq
        clear hz
        generalize ids[k] = z at *
        go_wp2_with fail
        go_round
        case rel => exact ⟨k + 1, by omega, by go_num, unhide HZ⟩
        case measure => simp [intOf]; omega
      · have HP := hide (placeC_at hlt (by simpa using hq) (fun j hj => hz j (by omega) hj))
        clear hz
        generalize ids[k] = z at *
        go_wp2_with fail
        go_ret
        exact ⟨by rw [unhide HP]; rfl, rfl⟩
    · obtain rfl : k = ids.length := by omega
      have HP := hide (placeC_none (id := id) (fun j hj => hz j hj hj))
      clear hz
      go_wp2_with fail
      go_ret
      exact ⟨by rw [unhide HP]; rfl, rfl⟩

theorem cf_epoch {x : DChain} (h : (decide (1 ≤ x.epoch) && decide (x.epoch ≤ 999)) = false) : chainFault x = 3 := by
  rw [chainFault, if_neg]
  simpa using h
theorem cf_len {x : DChain} (h : (decide (1 ≤ x.epoch) && decide (x.epoch ≤ 999)) = true) (hn : x.ids.length < 1 ∨ 5 < x.ids.length) : chainFault x = 2 := by
  rw [chainFault, if_pos (by simpa using h), if_neg (by omega)]
theorem cf_ids {x : DChain} (h : (decide (1 ≤ x.epoch) && decide (x.epoch ≤ 999)) = true) (hn : ¬ x.ids.length < 1) (hm : ¬ 5 < x.ids.length) : chainFault x = idsF (x.ids.take 0) (x.ids.drop 0) := by
  rw [chainFault, if_pos (by simpa using h), if_pos (by omega)]
  simp

set_option maxRecDepth 10000 in
set_option maxHeartbeats 1000000 in
theorem l10FaultC (b : Nat) (a : Option Addr) (d : Nat) (x : DChain) (w : World) (hX : ChainAt w b (.slice a x.ids.length d) x) (R : (Lay.sl Lay.int).Reads w [.slice a x.ids.length d] x.ids) :
    Calls Try.prog 30 #[.pointer (some ⟨b, 0, none⟩)] w fun e w' => e = .returned (.int .i64 (chainFault x)) ∧ w' = w := by
  have x0 := Box.at hX 0 _ rfl
  have x1 := Box.at hX 1 _ rfl
  simp only [List.getElem_toArray, List.getElem_cons_zero, List.getElem_cons_succ] at x0 x1
  have xl := Box.lt hX
  have hbig := R.big
  have HX := hide hX
  have H := hide R
  clear hX R
  go_enter Try.func30, Try.ntmps30
  go_wp2_with fail
  refine (inC x.epoch 1 999 w).mono ?_
  rintro e w1 ⟨rfl, h1⟩
  subst w1
  cases d1 : (decide (1 ≤ x.epoch) && decide (x.epoch ≤ 999))
  · have HF := hide (cf_epoch d1)
    clear d1
    go_wp2_with fail
    go_ret
    exact ⟨by rw [unhide HF]; rfl, rfl⟩
  · by_cases hn : x.ids.length < 1
    · have HF := hide (cf_len d1 (Or.inl hn))
      have hd : decide ((x.ids.length : Int) < 1) = true := by simp; omega
      clear d1
      go_wp2_with fail
      go_ret
      exact ⟨by rw [unhide HF]; rfl, rfl⟩
    · have hd : decide ((x.ids.length : Int) < 1) = false := by simp; omega
      by_cases hm : 5 < x.ids.length
      · have HF := hide (cf_len d1 (Or.inr hm))
        have hd2 : decide ((5 : Int) < (x.ids.length : Int)) = true := by simp; omega
        clear d1
        go_wp2_with fail
        go_ret
        exact ⟨by rw [unhide HF]; rfl, rfl⟩
      · have HF := hide (cf_ids d1 hn hm)
        have hd2 : decide ((5 : Int) < (x.ids.length : Int)) = false := by simp; omega
        clear d1
        go_wp2_with fail
        clear hd hd2
        go_loop [3] (fun i => ∃ k : Nat, k ≤ x.ids.length ∧ i = .int .i64 k ∧ chainFault x = idsF (x.ids.take k) (x.ids.drop k)) (fun i => x.ids.length - (intOf i).toNat)
        case atStart => exact ⟨0, Nat.zero_le _, rfl, unhide HF⟩
        case round =>
          obtain ⟨k, hk, rfl, hz⟩ := hrel
          clear HF
          by_cases hlt : k < x.ids.length
          · rw [idsF_step x.ids k hlt] at hz
            have hself := placeC_self hlt
            obtain ⟨b2, off, rfl, -⟩ := Lay.sl_addr (unhide H) (by omega)
            have c1 := int_cell (unhide H) hlt
            have HP := hide (l10AtC b (some ⟨b2, off, none⟩) d x x.ids[k] w (unhide HX) (unhide H))
            have hdl : decide ((k : Int) < (x.ids.length : Int)) = true := by simp; omega
            have HZ := hide hz
            have HS := hide hself
            clear hz hself
            generalize x.ids[k] = z at *
            go_wp2_with fail
            refine (node10C z w).mono ?_
            rintro e w1 ⟨rfl, h1⟩
            subst w1
            cases d2 : (decide (1 ≤ z) && decide (z ≤ 5))
            · have hz := unhide HZ
              rw [if_neg (by simpa using d2)] at hz
              have HF := hide hz
              clear d2 HZ HS hz
              go_wp2_with fail
              go_ret
              exact ⟨by rw [unhide HF]; rfl, rfl⟩
            · have hz := unhide HZ
              rw [if_pos (by simpa using d2)] at hz
              have HZ2 := hide hz
              clear d2 HZ hz
              go_wp2_with fail
              refine (unhide HP).mono ?_
              rintro e w1 ⟨rfl, h1⟩
              subst w1
              clear HP
              by_cases hq : placeC x.ids z = (k : Int)
              · have hz := unhide HZ2
                rw [if_neg ((unhide HS).1 hq)] at hz
                have HF := hide hz
                have hb : (placeC x.ids z != (k : Int)) = false := by rw [hq]; simp
                clear HZ2 HS hz hq
                generalize placeC x.ids z = p at *
                go_wp2_with fail
                go_round
                case rel => exact ⟨k + 1, by omega, by go_num, unhide HF⟩
                case measure => simp [intOf]; omega
              · have hz := unhide HZ2
                rw [if_pos (Classical.not_not.1 fun hc => hq ((unhide HS).2 hc))] at hz
                have HF := hide hz
                have hb : (placeC x.ids z != (k : Int)) = true := by rw [bne_iff_ne]; exact hq
                clear HZ2 HS hz hq
                generalize placeC x.ids z = p at *
                go_wp2_with fail
                go_ret
                exact ⟨by rw [unhide HF]; rfl, rfl⟩
          · obtain rfl : k = x.ids.length := by omega
            rw [idsF_end] at hz
            have hdl : decide ((x.ids.length : Int) < (x.ids.length : Int)) = false := by simp
            have HF := hide hz
            clear hz
            go_wp2_with fail
            go_ret
            exact ⟨by rw [unhide HF]; rfl, rfl⟩

theorem specChainFault (cs : List Value) (x : DChain) (w : World) (h : Lay.tChain.Reads w cs x) :
    Calls Try.prog 10 #[.agg cs.toArray] w fun e w' => e = .returned (.int .i64 (chainFault x)) ∧ Below w.heap.size w w' := by
  obtain ⟨a, d, rfl, R⟩ := open_Chain h
  have nb : Below w.heap.size w (w.alloc (.cells #[.int .i64 x.epoch, .slice a x.ids.length d] 27)) := (Below.refl _ _).alloc (Nat.le_refl _) _
  have HL := hide (l10FaultC w.heap.size a d x _ (newBox (Nat.zero_le _)) (R.later nb))
  have HB := hide nb
  clear h R nb
  go_enter Try.func10, Try.ntmps10
  go_wp2_with fail
  refine (unhide HL).mono ?_
  rintro e w1 ⟨rfl, h1⟩
  subst w1
  go_wp2_with fail
  go_ret
  exact ⟨rfl, unhide HB⟩
end Go.Proofs.Ytceoaphcjnfphaa

namespace Go.Proofs.Ytceoaphcjnfphaa
open Go.RowKit

theorem grown_alloc {w w' : World} {o : Obj} {r : Option Nat} (h : (w.alloc o).grownBy w' r) : w.grownBy w' r := grown_trans (World.grownBy_alloc w o r) h

/-- At an operation of a plain region: 'append(s, q)', q laid into a block of its own first. -/
theorem wpList_append_int {w1 : World} {base : Nat} {v : Value} {n : Nat} {xs : List Value} (hown : w1.ownsRow base 2 1 v n xs) (q : Int) {ops : Array Oper} {rest : List Oper} {o : Oper} {a : Act} {Q : Exit → Act → World → Prop} (hgd : o.guard = none) (s x : Operand)
    (ho : o.op = .call { callee := .builtin .append, args := #[s, x], argTypes := #[22, 22] }) (hs : a.eval s = v) (hx : a.eval x = .slice (some ⟨w1.heap.size, 0, none⟩) 1 1)
    (hn : n ≤ 100000000) (hbase : base ≤ w1.heap.size)
    (h : ∀ g cap w', w'.ownsRow base 2 1 (.slice (some ⟨g, 0, none⟩) (n + 1) cap) (n + 1) (xs ++ [.int .i64 q]) → w1.grownBy w' v.ownBlock → Below base w1 w' → g < w'.heap.size → w1.heap.size < w'.heap.size → wpList Try.prog ops Q rest (a.put o.dst (.slice (some ⟨g, 0, none⟩) (n + 1) cap)) w') :
    wpList Try.prog ops Q (o :: rest) a (w1.alloc (.cells #[.int .i64 q] 2)) := by
  obtain ⟨i0, hi0, hz0, hz1, hz2⟩ := info_parts info2
  refine wpList_append_lies _ hgd s x 22 ho base 2 i0 _ 1 8 Try.underlying22 hi0 hz0 hz1 hz2 rfl (by omega) v n xs hs (hown.alloc _) ⟨w1.heap.size, 0, none⟩ 1 1 [.int .i64 q] hx rfl (World.news_of_block (cs := #[.int .i64 q]) (t := 2) (fr := (0, 0)) (heap_alloc_new w1 _)) (by simp [Value.oneCell']) (by omega) (by unfold maxLen; omega) (by omega) (by simp; omega) (w1.heap.size + 1) (by simp) ?_
  intro g cap w' h2 h3 _ h5
  have hg := grown_alloc h3
  have hsz := h3.size
  simp only [World.size_alloc] at hsz
  exact h g cap w' h2 hg ((Below.refl _ _).grown hg hbase (fun j hj => (hown.lt j hj).1)) h5 (by omega)

end Go.Proofs.Ytceoaphcjnfphaa

namespace Go.Proofs.Ytceoaphcjnfphaa
open Go.RowKit

theorem box_lowC {lo : Nat} {cs : Array Value} {T : TypeId} {W w' : World} {s B : Nat} (h : Box lo cs T W s) (hb : Below B W w') (hs : s < B) : Box lo cs T w' s := ⟨h.1, (hb.block s hs).trans h.2⟩
theorem own_intsC {w : World} {v : Value} {zs : List Int} {base : Nat} (hw : ∀ z ∈ zs, (Lit.int .i64 z).wf = true) (hn : zs.length ≤ 100000000) (h : w.ownsRow base 2 1 v zs.length (zs.map (Value.int .i64))) : (Lay.sl Lay.int).OwnIn w [v] zs base w.heap.size :=
  Lay.ownInts hw (by omega) h
theorem upToC_wf (n : Nat) (hn : n ≤ 1000) : ∀ z ∈ upToC n, (Lit.int .i64 z).wf = true := fun z hz => wf_of_bd (by have := upToC_bd hz; omega)

set_option maxRecDepth 10000 in
set_option maxHeartbeats 1000000 in
theorem l10NewC (n : Nat) (w : World) (hn : n ≤ 1000) :
    Calls Try.prog 36 #[.int .i64 (n : Int)] w fun e w' => ∃ v, e = .returned (.agg #[.int .i64 1, v]) ∧ w'.ownsRow w.heap.size 2 1 v n ((upToC n).map (Value.int .i64)) ∧ Below w.heap.size w w' := by
  have nb : Below w.heap.size w ((w.alloc (.cells #[.int .i64 0, .slice none 0 0] 27)).alloc (.cells #[.int .i64 1, .slice none 0 0] 27)) := ((Below.refl _ _).alloc (Nat.le_refl _) _).alloc (by simp) _
  have bR : Box 0 #[.int .i64 0, .slice none 0 0] 27 ((w.alloc (.cells #[.int .i64 0, .slice none 0 0] 27)).alloc (.cells #[.int .i64 1, .slice none 0 0] 27)) w.heap.size := (newBox (Nat.zero_le _)).grow _
  have bC : Box 0 #[.int .i64 1, .slice none 0 0] 27 ((w.alloc (.cells #[.int .i64 0, .slice none 0 0] 27)).alloc (.cells #[.int .i64 1, .slice none 0 0] 27)) (w.heap.size + 1) := newBoxAt (Nat.zero_le _) (by simp)
  have HB := hide nb
  have HR := hide bR
  have HC := hide bC
  have HZ : Hid (w.heap.size + 2 ≤ ((w.alloc (.cells #[.int .i64 0, .slice none 0 0] 27)).alloc (.cells #[.int .i64 1, .slice none 0 0] 27)).heap.size) := by show w.heap.size + 2 ≤ ((w.alloc (.cells #[.int .i64 0, .slice none 0 0] 27)).alloc (.cells #[.int .i64 1, .slice none 0 0] 27)).heap.size; simp
  clear nb bR bC
  go_enter Try.func36, Try.ntmps36
  go_wp2_with fail
  generalize (w.alloc (.cells #[.int .i64 0, .slice none 0 0] 27)).alloc (.cells #[.int .i64 1, .slice none 0 0] 27) = W at *
  go_loopw [4] (fun i wr => ∃ (k : Nat) (v : Value), k ≤ n ∧ i = .int .i64 ((k : Int) + 1) ∧ Box 0 #[.int .i64 1, v] 27 wr (w.heap.size + 1) ∧ Box 0 #[.int .i64 0, .slice none 0 0] 27 wr w.heap.size ∧ wr.ownsRow (w.heap.size + 2) 2 1 v k ((upToC k).map (Value.int .i64)) ∧ w.heap.size + 2 ≤ wr.heap.size ∧ Below w.heap.size w wr) (fun i _ => n + 1 - (intOf i).toNat)
  case atStart => exact ⟨0, _, Nat.zero_le _, rfl, unhide HC, unhide HR, World.ownsRow_nil _ _ _ _, unhide HZ, unhide HB⟩
  case round =>
    obtain ⟨k, v, hk, rfl, hC, hR, hO, hz, hB⟩ := hrel
    clear HC HR HB HZ
    by_cases hlt : k < n
    · have hdl : decide ((k : Int) + 1 ≤ (n : Int)) = true := by simp; omega
      have c1 := Box.at hC 1 _ rfl
      simp only [List.getElem_toArray, List.getElem_cons_zero, List.getElem_cons_succ] at c1
      have cl := Box.lt hC
      have HCr := hide hC
      have HRr := hide hR
      have HBr := hide hB
      clear hC hR hB
      go_wp2_with (at_builtin; refine wpList_append_int hO ((k : Int) + 1) rfl _ _ rfl rfl rfl (by omega) hz ?_)
      intro g cap w5 hO5 hg5 hb5 hgl hz5
      have hC5 := box_lowC (unhide HCr) hb5 (by omega)
      have hR5 := box_lowC (unhide HRr) hb5 (by omega)
      have y1 := Box.at hC5 1 _ rfl
      simp only [List.getElem_toArray, List.getElem_cons_zero, List.getElem_cons_succ] at y1
      have yf := Box.soft hC5
      have yl := Box.lt hC5
      have HC6 := hide (Box.set hC5 1 (.slice (some ⟨g, 0, none⟩) (k + 1) cap))
      have HR6 := hide (hR5.other ⟨w.heap.size + 1, 1, none⟩ (.slice (some ⟨g, 0, none⟩) (k + 1) cap) (by simp))
      have HO6 : Hid (World.ownsRow (w5.setCell ⟨w.heap.size + 1, 1, none⟩ (.slice (some ⟨g, 0, none⟩) (k + 1) cap)) (w.heap.size + 2) 2 1 (.slice (some ⟨g, 0, none⟩) (k + 1) cap) (k + 1) ((upToC (k + 1)).map (Value.int .i64))) := by
        have := own_setC (a := ⟨w.heap.size + 1, 1, none⟩) hO5 (by simp) (.slice (some ⟨g, 0, none⟩) (k + 1) cap)
        rw [upToC_succ, List.map_append]
        exact this
      have HB6 := hide (((unhide HBr).trans (hb5.mono (by omega))).setCell (p := ⟨w.heap.size + 1, 1, none⟩) (by simp) (.slice (some ⟨g, 0, none⟩) (k + 1) cap))
      clear c1 cl HCr HRr HBr hO hO5 hg5 hb5 hC5 hR5
      go_wp2_with fail
      go_roundw
      case rel => exact ⟨k + 1, _, by omega, by go_num, unhide HC6, unhide HR6, unhide HO6, by simp; omega, unhide HB6⟩
      case measure => simp [intOf]; omega
    · obtain rfl : k = n := by omega
      have hdl : decide ((k : Int) + 1 ≤ (k : Int)) = false := by simp; omega
      obtain ⟨a9, c9, rfl⟩ := own_shape hO
      have c0 := Box.at hC 0 _ rfl
      have c1 := Box.at hC 1 _ rfl
      have z0 := Box.at hR 0 _ rfl
      have z1 := Box.at hR 1 _ rfl
      simp only [List.getElem_toArray, List.getElem_cons_zero, List.getElem_cons_succ] at c0 c1 z0 z1
      have cl := Box.lt hC
      have ff := Box.soft hR
      have l0 := Box.lt hR
      have HO6 : Hid (World.ownsRow ((wr.setCell ⟨w.heap.size, 0, none⟩ (.int .i64 1)).setCell ⟨w.heap.size, 1, none⟩ (.slice a9 k c9)) w.heap.size 2 1 (.slice a9 k c9) k ((upToC k).map (Value.int .i64))) := own_mono (by omega) (own_setC (a := ⟨w.heap.size, 1, none⟩) (own_setC (a := ⟨w.heap.size, 0, none⟩) hO (by simp) (.int .i64 1)) (by simp) _)
      have HB6 := hide ((hB.setCell (p := ⟨w.heap.size, 0, none⟩) (Nat.le_refl _) (.int .i64 1)).setCell (p := ⟨w.heap.size, 1, none⟩) (Nat.le_refl _) (.slice a9 k c9))
      clear hC hR hO hB
      go_wp2_with fail
      refine bodyPost_ret (v := .agg #[.int .i64 1, .slice a9 k c9]) (by simp [results, Try.results36, go_sem, z0, z1]) rfl ?_
      exact ⟨_, rfl, unhide HO6, unhide HB6⟩

set_option maxRecDepth 10000 in
set_option maxHeartbeats 1000000 in
theorem specNewChain (n : Int) (w : World) :
    Calls Try.prog 14 #[.int .i64 n] w fun e w' => ∃ cs, e = .returned (.agg cs.toArray) ∧ Lay.tChainResult.OwnIn w' cs (newChainR n) w.heap.size w'.heap.size ∧ Below w.heap.size w w' := by
  have nb : Below w.heap.size w (w.alloc (.cells #[.int .i64 0, .int .i64 0, .slice none 0 0] 32)) := (Below.refl _ _).alloc (Nat.le_refl _) _
  have HR : Hid (Box 0 #[.int .i64 0, .int .i64 0, .slice none 0 0] 32 (w.alloc (.cells #[.int .i64 0, .int .i64 0, .slice none 0 0] 32)) w.heap.size) := newBox (Nat.zero_le _)
  have HB := hide nb
  clear nb
  go_enter Try.func14, Try.ntmps14
  go_wp2_with fail
  refine (node10C n _).mono ?_
  rintro e w1 ⟨rfl, h1⟩
  subst w1
  generalize w.alloc (.cells #[.int .i64 0, .int .i64 0, .slice none 0 0] 32) = W at *
  cases d1 : (decide (1 ≤ n) && decide (n ≤ 5))
  · have HV : Hid (newChainR n = badChain 3) := by show newChainR n = _; rw [newChainR, if_neg (by simpa using d1)]
    have bR := unhide HR
    have z0 := Box.at bR 0 _ rfl
    have z1 := Box.at bR 1 _ rfl
    have z2 := Box.at bR 2 _ rfl
    simp only [List.getElem_toArray, List.getElem_cons_zero, List.getElem_cons_succ] at z0 z1 z2
    have ff := Box.soft bR
    have l0 := Box.lt bR
    have HB2 := hide (below_setAll (unhide HB) w.heap.size 0 [.int .i64 3, .int .i64 0, .slice none 0 0] (Nat.le_refl _))
    clear d1 bR HR HB
    go_wp2_with fail
    refine bodyPost_ret (v := .agg #[.int .i64 3, .int .i64 0, .slice none 0 0]) (by simp [results, Try.results14, go_sem, z0, z1, z2]) rfl ?_
    rw [unhide HV]
    exact ⟨_, rfl, own_badChain (by decide), unhide HB2⟩
  · have hd : 1 ≤ n ∧ n ≤ 5 := by simpa using d1
    obtain ⟨m, rfl⟩ : ∃ m : Nat, n = (m : Int) := ⟨n.toNat, by omega⟩
    have HV : Hid (newChainR (m : Int) = ⟨0, ⟨1, upToC m⟩⟩) := by show newChainR (m : Int) = _; rw [newChainR, if_pos hd]; rfl
    have HL := hide (l10NewC m W (by omega))
    clear d1
    go_wp2_with fail
    refine (unhide HL).mono ?_
    rintro e w1 ⟨v, rfl, hO, hb⟩
    obtain ⟨a9, c9, rfl⟩ := own_shape hO
    have bR := (unhide HR).keep hb
    have hlt := (unhide HR).lt
    have z0 := Box.at bR 0 _ rfl
    have z1 := Box.at bR 1 _ rfl
    have z2 := Box.at bR 2 _ rfl
    simp only [List.getElem_toArray, List.getElem_cons_zero, List.getElem_cons_succ] at z0 z1 z2
    have ff := Box.soft bR
    have l0 := Box.lt bR
    have hB1 := (unhide HB).trans (hb.mono (unhide HB).size)
    have HB2 := hide (below_setAll hB1 w.heap.size 0 [.int .i64 0, .int .i64 1, .slice a9 m c9] (Nat.le_refl _))
    have hO2 : (setAll w1 w.heap.size 0 [.int .i64 0, .int .i64 1, .slice a9 m c9]).ownsRow W.heap.size 2 1 (.slice a9 m c9) (upToC m).length ((upToC m).map (Value.int .i64)) := by
      rw [upToC_len]
      exact own_setC (a := ⟨w.heap.size, 2, none⟩) (own_setC (a := ⟨w.heap.size, 1, none⟩) (own_setC (a := ⟨w.heap.size, 0, none⟩) hO hlt (.int .i64 0)) hlt (.int .i64 1)) hlt _
    have HO3 := hide (own_chainR (c := 0) (x := ⟨1, upToC m⟩) (by decide) (by show (Lit.int .i64 1).wf = true; decide) (own_intsC (upToC_wf m (by omega)) (by rw [upToC_len]; omega) (own_mono (Nat.le_of_lt hlt) hO2)))
    clear bR hO hb hB1 hO2 HL HB HR
    go_wp2_with fail
    refine bodyPost_ret (v := .agg #[.int .i64 0, .int .i64 1, .slice a9 m c9]) (by simp [results, Try.results14, go_sem, z0, z1, z2]) rfl ?_
    rw [unhide HV]
    exact ⟨_, rfl, unhide HO3, unhide HB2⟩
end Go.Proofs.Ytceoaphcjnfphaa

namespace Go.Proofs.Ytceoaphcjnfphaa
open Go.RowKit

theorem append_noneI {P : Program} (t ty e : TypeId) (i : TypeInfo) (ht : P.underlying t = some (.slice e)) (hi : P.info? e = some i) (bo : Option Addr) (n cap c : Nat) (hn : n ≤ cap) (w : World) :
    (Builtin.append_ #[t, t] ty #[.slice bo n cap, .slice none 0 c]).run P w = (Builtin.append_ #[t, t] ty #[.slice bo n cap, .slice (some ⟨0, 0, none⟩) 0 c]).run P w := by
  simp [Builtin.append_, run_underlying ht, sizeOf, typeInfo, hi, Builtin.lenOf, hn, Builtin.firstCells, loadCells, loadCellsFrom]

theorem IsInts.news {w : World} {b off cap : Nat} {zs : List Int} (h : IsInts w (.slice (some ⟨b, off, none⟩) zs.length cap) zs) (hp : 0 < zs.length) : ∀ j u, (zs.map (Value.int .i64))[j]? = some u → w.cell? ((⟨b, off, none⟩ : Addr).add j) = some u := by
  intro j u hu
  obtain ⟨ao, cp, hv, hwf, hc⟩ := h
  obtain ⟨b', off', hao, hc1⟩ := hc hp
  simp only [Value.slice.injEq] at hv
  obtain ⟨rfl, -, -⟩ := hv
  simp only [Option.some.injEq, Addr.mk.injEq, and_true] at hao
  obtain ⟨rfl, rfl⟩ := hao
  have hj : j < zs.length := by
    have := (List.getElem?_eq_some_iff.1 hu).1
    simpa using this
  rw [Addr.add_lit, hc1 j hj]
  simp [hj] at hu
  simp [List.getD, hj, hu]

theorem run_append_ints {w : World} (base ty : Nat) (v : Value) (n : Nat) (xs : List Value) (hown : w.ownsRow base 2 1 v n xs) (x : Value) (ks : List Int) (hx : IsInts w x ks)
    (hn : n + ks.length ≤ 100000000) (hbase : base ≤ w.heap.size) :
    ∃ v' w', (Builtin.append_ #[22, 22] ty #[v, x]).run Try.prog w = .ok v' w' ∧ w'.ownsRow base 2 1 v' (n + ks.length) (xs ++ ks.map (Value.int .i64)) ∧ w.grownBy w' v.ownBlock := by
  obtain ⟨i0, hi, hz0, hz1, hz2⟩ := info_parts info2
  have hml : n + ks.length ≤ maxLen := by unfold maxLen; omega
  by_cases hp : 0 < ks.length
  · have hx' := hx
    obtain ⟨ao, cap, rfl, hwf, hc⟩ := hx'
    obtain ⟨b, off, rfl, hc1⟩ := hc hp
    obtain ⟨v', w', r1, r2, r3, -, -⟩ := run_append_own_at (P := Try.prog) w base 22 ty 2 i0 _ 1 8 Try.underlying22 hi hz0 hz1 hz2 rfl (by omega) v n xs hown ⟨b, off, none⟩ ks.length cap (ks.map (Value.int .i64)) (by simp) (hx.news hp) (by simp [Value.oneCell']) hml (by omega) hbase
    exact ⟨v', w', r1, r2, r3⟩
  · obtain rfl : ks = [] := List.eq_nil_of_length_eq_zero (by omega)
    obtain ⟨ao, cap, rfl, hwf, hc⟩ := hx
    cases ao with
    | none =>
      obtain ⟨v', w', r1, r2, r3, -, -⟩ := run_append_own_at (P := Try.prog) w base 22 ty 2 i0 _ 1 8 Try.underlying22 hi hz0 hz1 hz2 rfl (by omega) v n xs hown ⟨0, 0, none⟩ 0 cap [] rfl (by simp) (by simp) hml (by simp at hn; omega) hbase
      refine ⟨v', w', ?_, r2, r3⟩
      rcases hown.2 with ⟨rfl, h0⟩ | ⟨g, cp, cur, rfl, _, _, hle, _⟩
      · exact (append_noneI _ _ _ i0 Try.underlying22 hi none 0 0 cap (Nat.le_refl _) w).trans r1
      · exact (append_noneI _ _ _ i0 Try.underlying22 hi _ n cp cap hle w).trans r1
    | some ad =>
      obtain ⟨v', w', r1, r2, r3, -, -⟩ := run_append_own_at (P := Try.prog) w base 22 ty 2 i0 _ 1 8 Try.underlying22 hi hz0 hz1 hz2 rfl (by omega) v n xs hown ad 0 cap [] rfl (by simp) (by simp) hml (by simp at hn; omega) hbase
      exact ⟨v', w', r1, r2, r3⟩

/-- The same at an operation of a plain region. -/
theorem wpList_append_ints {w : World} {base : Nat} {v : Value} {n : Nat} {xs : List Value} (hown : w.ownsRow base 2 1 v n xs) {X : Value} {ks : List Int} (hx : IsInts w X ks)
    {ops : Array Oper} {rest : List Oper} {o : Oper} {a : Act} {Q : Exit → Act → World → Prop} (hgd : o.guard = none) (s x : Operand)
    (ho : o.op = .call { callee := .builtin .append, args := #[s, x], argTypes := #[22, 22] }) (hv : a.eval s = v) (hX : a.eval x = X)
    (hn : n + ks.length ≤ 100000000) (hbase : base ≤ w.heap.size)
    (h : ∀ v' w', w'.ownsRow base 2 1 v' (n + ks.length) (xs ++ ks.map (Value.int .i64)) → w.grownBy w' v.ownBlock → Below base w w' → wpList Try.prog ops Q rest (a.put o.dst v') w') :
    wpList Try.prog ops Q (o :: rest) a w := by
  refine wpList_plain hgd fun K hK => ?_
  obtain ⟨v', w', hr, h2, h3⟩ := run_append_ints base o.type v n xs hown X ks hx hn hbase
  unfold Oper.wp execOp
  simp only [ho, resolve, invoke, builtin, Sem.run_bind, Sem.run_pure, Result.andThen_ok, List.map_toArray, List.map_cons, List.map_nil, hv, hX, hr]
  exact hK _ _ (h v' w' h2 h3 ((Below.refl _ _).grown h3 hbase (fun j hj => (hown.lt j hj).1)))

end Go.Proofs.Ytceoaphcjnfphaa

namespace Go.Proofs.Ytceoaphcjnfphaa
open Go.RowKit

theorem run_append_zeros_nilI (w : World) (k : Nat) (h0 : 0 < k) (hbig : k ≤ 100000000) (ty : TypeId) :
    ∃ G w1, (Builtin.append_ #[22, 3] ty #[.slice none 0 0, .int .i64 k]).run Try.prog w = .ok (.slice (some ⟨w.heap.size, 0, none⟩) k G) w1 ∧ k ≤ G ∧
      w1.ownsRow w.heap.size 2 1 (.slice (some ⟨w.heap.size, 0, none⟩) 0 G) 0 [] ∧ Below w.heap.size w w1 := by
  obtain ⟨i0, hi, hz0, hz1, hz2⟩ := info_parts info2
  have hr := Lib.run_append_nil_zeros w 22 3 ty 2 i0 _ .i64 .i64 Try.underlying22 Try.underlying3 hi hz0 k h0 (by omega) (by omega) (by rw [hz2]; omega)
  have hge := grownCap_ge w k 0 2
  have hle := grownCap_le_maxLen w k 0 2 (by unfold maxLen; omega)
  generalize grownCap w k 0 2 = G at *
  have hzl : ∀ q, (Builtin.zeroCells (Value.int .i64 0).cells q).size = q * 1 := fun q => by rw [size_zeroCells]; rfl
  refine ⟨G, _, hr, hge, ⟨rfl, .inr ⟨w.heap.size, G, _, rfl, Nat.le_refl _, heap_alloc_new w.drew _, Nat.zero_le _, hle, ?_, by simp⟩⟩, ?_⟩
  · rw [Array.size_append, hzl, hzl]
    omega
  · exact ((Below.refl _ _).drew).alloc (Nat.le_refl _) _

set_option maxRecDepth 100000 in
set_option maxHeartbeats 400000 in
theorem implGrowI (n : Nat) (w : World) (hn : n ≤ 100000000) :
    Calls Try.prog 55 #[.slice none 0 0, .int .i64 n] w fun e w' => ∃ r, e = .returned r ∧ w'.ownsRow w.heap.size 2 1 r 0 [] ∧ Below w.heap.size w w' := by
  have hneg : ¬ ((n : Int) < 0) := by omega
  by_cases h0 : n = 0
  · subst h0
    go_enter Try.func55, Try.ntmps55
    go_wp2_with fail
    go_ret
    exact ⟨_, rfl, World.ownsRow_nil _ _ _ _, Below.refl _ _⟩
  · obtain ⟨G, w1, hr, hG, O1, B1⟩ := run_append_zeros_nilI w n (by omega) hn 22
    have HO := hide O1
    have HB := hide B1
    have hpos : decide ((0 : Int) < (n : Int)) = true := by simp; omega
    clear O1 B1
    go_enter Try.func55, Try.ntmps55
    go_wp2_with (at_builtin; refine Lib.wpList_append_run _ rfl _ _ _ _ rfl _ _ rfl rfl _ _ hr ?_)
    go_ret
    exact ⟨_, rfl, unhide HO, unhide HB⟩

set_option maxRecDepth 100000 in
set_option maxHeartbeats 1000000 in
theorem implConcatI (vb : Nat) (u v : Value) (a b : List Int) (w : World) (k0 : w.cell? ⟨vb, 0, none⟩ = some u) (k1 : w.cell? ⟨vb, 1, none⟩ = some v) (ha : IsInts w u a) (hb : IsInts w v b) (hna : a.length ≤ 1000) (hnb : b.length ≤ 1000) :
    Calls Try.prog 45 #[.slice (some ⟨vb, 0, none⟩) 2 2] w fun e w' => ∃ r, e = .returned r ∧ w'.ownsRow w.heap.size 2 1 r (a ++ b).length ((a ++ b).map (Value.int .i64)) ∧ Below w.heap.size w w' := by
  have HA := hide ha
  have HBv := hide hb
  obtain ⟨au, cu, rfl, -⟩ := ha
  obtain ⟨av, cv, rfl, -⟩ := hb
  have HVB := hide (World.block_lt_of_cell? _ _ k1)
  have HK1 := hide k1
  have hn1 : ¬ ((a.length : Int) < 0) := by omega
  have hn2 : ¬ ((a.length : Int) + (b.length : Int) < 0) := by omega
  go_enter Try.func45, Try.ntmps45
  go_wp2_with fail
  refine wp_loop_rounds 3 ?_
  rw [rounds_succ]
  go_wp2_with fail
  rw [rounds_succ]
  go_wp2_with fail
  rw [rounds_succ]
  go_wp2_with fail
  have e1 : (a.length : Int) + (b.length : Int) = ((a.length + b.length : Nat) : Int) := by omega
  rw [e1]
  refine (implGrowI (a.length + b.length) _ (by omega)).mono ?_
  rintro e w1 ⟨r, rfl, O1, B1⟩
  obtain ⟨a1, c1, rfl⟩ := own_shape O1
  have hvb := unhide HVB
  replace k0 : w1.cell? ⟨vb, 0, none⟩ = some _ := (B1.cell (p := ⟨vb, 0, none⟩) hvb).trans k0
  replace k1 : w1.cell? ⟨vb, 1, none⟩ = some _ := (B1.cell (p := ⟨vb, 1, none⟩) hvb).trans k1
  have I1 := (unhide HA).later B1
  have HB1 := hide B1
  have hs1 := B1.size
  clear B1 e1
  go_wp2_with fail
  refine wp_loop_rounds 3 ?_
  rw [rounds_succ]
  go_wp2_with (at_builtin; refine wpList_append_ints O1 I1 rfl _ _ rfl rfl rfl (by omega) hs1 ?_)
  intro v2 w2 O2 G2 _
  have hown1 := O1
  have B2 : Below w.heap.size w w2 := (unhide HB1).grown G2 hs1 (fun q hq => (hown1.lt q hq).1)
  obtain ⟨a2, c2, rfl⟩ := own_shape O2
  have k2 : w2.cell? ⟨vb, 1, none⟩ = some (.slice av b.length cv) := (B2.cell (p := ⟨vb, 1, none⟩) hvb).trans (unhide HK1)
  have I2 := (unhide HBv).later B2
  have hs2 := B2.size
  have HB2 := hide B2
  clear O1 I1 G2 k0 k1 B2 hs1 HB1 hown1
  go_wp2_with fail
  rw [rounds_succ]
  go_wp2_with (at_builtin; refine wpList_append_ints O2 I2 rfl _ _ rfl rfl rfl (by omega) hs2 ?_)
  intro v3 w3 O3 G3 _
  have B3 : Below w.heap.size w w3 := (unhide HB2).grown G3 hs2 (fun q hq => (O2.lt q hq).1)
  have HO3 := hide O3
  have HB3 := hide B3
  clear O2 I2 G3 k2 B3 O3 HB2
  go_wp2_with fail
  rw [rounds_succ]
  go_wp2_with fail
  go_ret
  refine ⟨_, rfl, ?_, unhide HB3⟩
  have h9 := unhide HO3
  simpa using h9

end Go.Proofs.Ytceoaphcjnfphaa

namespace Go.Proofs.Ytceoaphcjnfphaa
open Go.RowKit

theorem isNodeIdC (n : Int) (w : World) :
    Calls Try.prog 48 #[.int .i64 n] w fun e w' => e = .returned (.bool (decide (1 ≤ n) && decide (n ≤ 5))) ∧ w' = w := by
  by_cases h1 : 1 ≤ n
  · have d1 : decide (1 ≤ n) = true := by simpa using h1
    rw [d1]
    cases d2 : decide (n ≤ 5) <;>
    · go_enter Try.func48, Try.ntmps48
      go_wp2_with fail
      go_ret
      exact ⟨rfl, rfl⟩
  · have d1 : decide (1 ≤ n) = false := by simpa using h1
    rw [d1]
    go_enter Try.func48, Try.ntmps48
    go_wp2_with fail
    go_ret
    exact ⟨rfl, rfl⟩
end Go.Proofs.Ytceoaphcjnfphaa

namespace Go.Proofs.Ytceoaphcjnfphaa
open Go.RowKit

theorem isChainEpochC (n : Int) (w : World) :
    Calls Try.prog 32 #[.int .i64 n] w fun e w' => e = .returned (.bool (decide (1 ≤ n) && decide (n ≤ 999))) ∧ w' = w := by
  by_cases h1 : 1 ≤ n
  · have d1 : decide (1 ≤ n) = true := by simpa using h1
    rw [d1]
    cases d2 : decide (n ≤ 999) <;>
    · go_enter Try.func32, Try.ntmps32
      go_wp2_with fail
      go_ret
      exact ⟨rfl, rfl⟩
  · have d1 : decide (1 ≤ n) = false := by simpa using h1
    rw [d1]
    go_enter Try.func32, Try.ntmps32
    go_wp2_with fail
    go_ret
    exact ⟨rfl, rfl⟩
end Go.Proofs.Ytceoaphcjnfphaa

namespace Go.Proofs.Ytceoaphcjnfphaa
open Go.RowKit

/-- Any part of a list of numbers that stands in memory. -/
theorem part_reads {w : World} {b off cap : Nat} {zs : List Int} (h : (Lay.sl Lay.int).Reads w [.slice (some ⟨b, off, none⟩) zs.length cap] zs) (m n c : Nat) (hm : m + n ≤ zs.length) (hc : n ≤ c) :
    (Lay.sl Lay.int).Reads w [.slice (some ⟨b, off + m, none⟩) n c] ((zs.drop m).take n) := by
  have hi := Lay.ints_reads h
  have hbig := h.big
  obtain ⟨ao, cp, e, hwf, hcs⟩ := hi
  have hlen : ((zs.drop m).take n).length = n := by simp; omega
  refine Lay.reads_ints ?_ (fun ao' cap' e' => ?_) (by rw [hlen]; omega)
  · refine ⟨_, c, by rw [hlen], fun z hz => hwf z (List.mem_of_mem_drop (List.mem_of_mem_take hz)), fun hp => ⟨b, off + m, rfl, fun j hj => ?_⟩⟩
    rw [hlen] at hp hj
    obtain ⟨b', off', hao, hc1⟩ := hcs (by omega)
    simp only [Value.slice.injEq] at e
    obtain ⟨rfl, -, -⟩ := e
    simp only [Option.some.injEq, Addr.mk.injEq, and_true] at hao
    obtain ⟨rfl, rfl⟩ := hao
    rw [Nat.add_assoc, hc1 (m + j) (by omega)]
    simp only [List.getD]
    rw [List.getElem?_take, if_pos hj, List.getElem?_drop]
  · simp only [Value.slice.injEq] at e'
    rw [hlen]
    omega
/-- The first numbers of a list. -/
theorem take_reads {w : World} {ao : Option Addr} {n cap : Nat} {zs : List Int} (h : (Lay.sl Lay.int).Reads w [.slice ao n cap] zs) (k : Nat) (hk : k ≤ zs.length) :
    (Lay.sl Lay.int).Reads w [.slice ao k cap] (zs.take k) := by
  have hc := h.cap
  by_cases h0 : k = 0
  · subst h0
    rw [List.take_zero]
    exact Lay.reads_ints ⟨ao, cap, rfl, by simp, fun hp => by simp at hp⟩ (fun _ _ _ => by simp) (by simp)
  · have hi := Lay.ints_reads h
    obtain ⟨ao', cp, e, hwf, hcs⟩ := hi
    obtain ⟨b', off', hao, hc1⟩ := hcs (by omega)
    simp only [Value.slice.injEq] at e
    obtain ⟨rfl, rfl, rfl⟩ := e
    subst hao
    have := part_reads h 0 k cap (by omega) (by omega)
    simpa using this

end Go.Proofs.Ytceoaphcjnfphaa

namespace Go.Proofs.Ytceoaphcjnfphaa
open Go.RowKit

theorem isNodeCountC (n : Int) (w : World) :
    Calls Try.prog 37 #[.int .i64 n] w fun e w' => e = .returned (.bool (decide (1 ≤ n) && decide (n ≤ 5))) ∧ w' = w := by
  by_cases h1 : 1 ≤ n
  · have d1 : decide (1 ≤ n) = true := by simpa using h1
    rw [d1]
    cases d2 : decide (n ≤ 5) <;>
    · go_enter Try.func37, Try.ntmps37
      go_wp2_with fail
      go_ret
      exact ⟨rfl, rfl⟩
  · have d1 : decide (1 ≤ n) = false := by simpa using h1
    rw [d1]
    go_enter Try.func37, Try.ntmps37
    go_wp2_with fail
    go_ret
    exact ⟨rfl, rfl⟩

set_option maxRecDepth 10000 in
set_option maxHeartbeats 1000000 in
theorem indexI (v : Value) (ids : List Int) (id : Int) (w : World) (R : (Lay.sl Lay.int).Reads w [v] ids) :
    Calls Try.prog 43 #[v, .int .i64 id] w fun e w' => e = .returned (.int .i64 (placeC ids id)) ∧ w' = w := by
  obtain ⟨ao, cap, rfl⟩ := open_sl R
  have hbig := R.big
  have H := hide R
  clear R
  go_enter Try.func43, Try.ntmps43
  go_wp2_with fail
  go_loop [8] (fun i => ∃ k : Nat, k ≤ ids.length ∧ i = .int .i64 k ∧ (∀ j (hj : j < ids.length), j < k → ids[j] ≠ id)) (fun i => ids.length - (intOf i).toNat)
  case atStart => exact ⟨0, Nat.zero_le _, rfl, fun j _ h => by omega⟩
  case round =>
    obtain ⟨k, hk, rfl, hz⟩ := hrel
    by_cases hlt : k < ids.length
    · obtain ⟨b2, off, rfl, -⟩ := Lay.sl_addr (unhide H) (by omega)
      have c1 := int_cell (unhide H) hlt
      cases hq : (id == ids[k])
      · have HZ : Hid (∀ j (hj : j < ids.length), j < k + 1 → ids[j] ≠ id) := fun j hj hjk => by
          by_cases h2 : j < k
          · exact hz j hj h2
          · obtain rfl : j = k := by omega
            intro h3
            rw [h3] at hq
            simp at hq
        clear hz
        generalize ids[k] = z at *
        go_wp2_with fail
        go_round
        case rel => exact ⟨k + 1, by omega, by go_num, unhide HZ⟩
        case measure => simp [intOf]; omega
      · have HP := hide (placeC_at hlt (beq_iff_eq.1 hq).symm (fun j hj => hz j (by omega) hj))
        clear hz
        generalize ids[k] = z at *
        go_wp2_with fail
        go_ret
        exact ⟨by rw [unhide HP]; rfl, rfl⟩
    · obtain rfl : k = ids.length := by omega
      have HP := hide (placeC_none (id := id) (fun j hj => hz j hj hj))
      clear hz
      go_wp2_with fail
      go_ret
      exact ⟨by rw [unhide HP]; rfl, rfl⟩

theorem containsI (v : Value) (ids : List Int) (id : Int) (w : World) (R : (Lay.sl Lay.int).Reads w [v] ids) :
    Calls Try.prog 49 #[v, .int .i64 id] w fun e w' => e = .returned (.bool (decide (0 ≤ placeC ids id))) ∧ w' = w := by
  have HL := hide (indexI v ids id w R)
  obtain ⟨ao, cap, rfl⟩ := open_sl R
  generalize placeC ids id = n at *
  clear R
  go_enter Try.func49, Try.ntmps49
  go_wp2_with fail
  refine (unhide HL).mono ?_
  rintro e w1 ⟨rfl, h1⟩
  subst w1
  clear HL
  go_wp2_with fail
  go_ret
  exact ⟨rfl, rfl⟩

def idsFaultP (ids : List Int) : Int := if 1 ≤ ids.length ∧ ids.length ≤ 5 then idsF [] ids else 2
theorem idsFaultP_many {ids : List Int} (h : (decide (1 ≤ (ids.length : Int)) && decide ((ids.length : Int) ≤ 5)) = false) : idsFaultP ids = 2 := by
  rw [idsFaultP, if_neg]
  intro h2
  rw [decide_eq_true (by omega), decide_eq_true (by omega)] at h
  simp at h
theorem idsFaultP_few {ids : List Int} (h : (decide (1 ≤ (ids.length : Int)) && decide ((ids.length : Int) ≤ 5)) = true) : idsFaultP ids = idsF (ids.take 0) (ids.drop 0) := by
  rw [idsFaultP, if_pos]
  · simp
  · simp at h
    omega
theorem mem_place (ids : List Int) (z : Int) : decide (0 ≤ placeC ids z) = true ↔ z ∈ ids := by
  have h := placeC_neg ids z
  rw [decide_eq_true_iff]
  constructor
  · intro h1
    refine Decidable.byContradiction fun h2 => ?_
    have := h.2 h2
    omega
  · intro h1
    refine Decidable.byContradiction fun h2 => ?_
    exact h.1 (by omega) h1

set_option maxRecDepth 10000 in
set_option maxHeartbeats 1000000 in
theorem idsFaultC (v : Value) (ids : List Int) (w : World) (R : (Lay.sl Lay.int).Reads w [v] ids) :
    Calls Try.prog 33 #[v] w fun e w' => e = .returned (.int .i64 (idsFaultP ids)) ∧ w' = w := by
  obtain ⟨ao, cap, rfl⟩ := open_sl R
  have hbig := R.big
  have hcap := R.cap
  have H := hide R
  clear R
  go_enter Try.func33, Try.ntmps33
  go_wp2_with fail
  refine (isNodeCountC (ids.length : Int) w).mono ?_
  rintro e w1 ⟨rfl, h1⟩
  subst w1
  cases d1 : (decide (1 ≤ (ids.length : Int)) && decide ((ids.length : Int) ≤ 5))
  · have HF := hide (idsFaultP_many d1)
    clear d1
    go_wp2_with fail
    go_ret
    exact ⟨by rw [unhide HF]; rfl, rfl⟩
  · have HF := hide (idsFaultP_few d1)
    clear d1
    go_wp2_with fail
    go_loop [11] (fun i => ∃ k : Nat, k ≤ ids.length ∧ i = .int .i64 k ∧ idsFaultP ids = idsF (ids.take k) (ids.drop k)) (fun i => ids.length - (intOf i).toNat)
    case atStart => exact ⟨0, Nat.zero_le _, rfl, unhide HF⟩
    case round =>
      obtain ⟨k, hk, rfl, hz⟩ := hrel
      clear HF
      by_cases hlt : k < ids.length
      · rw [idsF_step ids k hlt] at hz
        obtain ⟨b2, off, rfl, -⟩ := Lay.sl_addr (unhide H) (by omega)
        have c1 := int_cell (unhide H) hlt
        have HC := hide (containsI (.slice (some ⟨b2, off, none⟩) k cap) (ids.take k) ids[k] w (take_reads (unhide H) k (by omega)))
        have HM := hide (mem_place (ids.take k) ids[k])
        have hdl : decide ((k : Int) < (ids.length : Int)) = true := by simp; omega
        have HZ := hide hz
        have hkc : k ≤ cap := by omega
        clear hz
        generalize ids[k] = z at *
        generalize ids.take k = zk at *
        go_wp2_with fail
        refine (isNodeIdC z w).mono ?_
        rintro e w1 ⟨rfl, h1⟩
        subst w1
        cases d2 : (decide (1 ≤ z) && decide (z ≤ 5))
        · have hz := unhide HZ
          rw [if_neg (by intro h; simp at d2; omega)] at hz
          have HF := hide hz
          clear hz HZ d2
          go_wp2_with fail
          go_ret
          exact ⟨by rw [unhide HF]; rfl, rfl⟩
        · have hz := unhide HZ
          rw [if_pos (by simpa using d2)] at hz
          clear HZ d2
          have HZ := hide hz
          clear hz
          go_wp2_with fail
          refine (unhide HC).mono ?_
          rintro e w1 ⟨rfl, h1⟩
          subst w1
          cases d3 : decide (0 ≤ placeC zk z)
          · have hz := unhide HZ
            rw [if_neg (fun hm => by rw [(unhide HM).2 hm] at d3; simp at d3)] at hz
            have HF := hide hz
            clear hz HZ d3 HM HC
            go_wp2_with fail
            go_round
            case rel => exact ⟨k + 1, by omega, by go_num, unhide HF⟩
            case measure => simp [intOf]; omega
          · have hz := unhide HZ
            rw [if_pos ((unhide HM).1 d3)] at hz
            have HF := hide hz
            clear hz HZ d3 HM HC
            go_wp2_with fail
            go_ret
            exact ⟨by rw [unhide HF]; rfl, rfl⟩
      · obtain rfl : k = ids.length := by omega
        rw [idsF_end] at hz
        have HF := hide hz
        clear hz
        go_wp2_with fail
        go_ret
        exact ⟨by rw [unhide HF]; rfl, rfl⟩

theorem cfi_out {x : DChain} (h : (decide (1 ≤ x.epoch) && decide (x.epoch ≤ 999)) = false) : chainFault x = 3 := by rw [chainFault, if_neg (by simp at h; omega)]
theorem cfi_ids {x : DChain} (h : (decide (1 ≤ x.epoch) && decide (x.epoch ≤ 999)) = true) : chainFault x = idsFaultP x.ids := by rw [chainFault, if_pos (by simp at h; omega), idsFaultP]

set_option maxRecDepth 10000 in
set_option maxHeartbeats 1000000 in
theorem implChainFault (cs : List Value) (x : DChain) (w : World) (h : Lay.tChain.Reads w cs x) :
    Calls Try.prog 12 #[.agg cs.toArray] w fun e w' => e = .returned (.int .i64 (chainFault x)) ∧ Below w.heap.size w w' := by
  obtain ⟨a, d, rfl, R⟩ := open_Chain h
  have nb : Below w.heap.size w (w.alloc (.cells #[.int .i64 x.epoch, .slice a x.ids.length d] 27)) := (Below.refl _ _).alloc (Nat.le_refl _) _
  have HR := hide (R.later nb)
  have HB := hide nb
  have HX : Hid (Box 0 #[.int .i64 x.epoch, .slice a x.ids.length d] 27 (w.alloc (.cells #[.int .i64 x.epoch, .slice a x.ids.length d] 27)) w.heap.size) := newBox (Nat.zero_le _)
  clear R h nb
  go_enter Try.func12, Try.ntmps12
  go_upto_region 1 with fail
  generalize w.alloc (.cells #[.int .i64 x.epoch, .slice a x.ids.length d] 27) = W at *
  have z0 : W.cell? ⟨w.heap.size, 0, none⟩ = some (.int .i64 x.epoch) := (unhide HX).at 0 _ rfl
  have z1 : W.cell? ⟨w.heap.size, 1, none⟩ = some (.slice a x.ids.length d) := (unhide HX).at 1 _ rfl
  clear HX
  cases d1 : (decide (1 ≤ x.epoch) && decide (x.epoch ≤ 999))
  · have HF := hide (cfi_out d1)
    have L := hide (isChainEpochC x.epoch W)
    rw [d1] at L
    clear d1
    go_wp2_with fail
    refine (unhide L).mono ?_
    rintro e w1 ⟨rfl, h1⟩
    subst w1
    clear L
    go_wp2_with fail
    go_ret
    exact ⟨by rw [unhide HF]; rfl, unhide HB⟩
  · have HF := hide (cfi_ids d1)
    have L := hide (isChainEpochC x.epoch W)
    rw [d1] at L
    clear d1
    go_wp2_with fail
    refine (unhide L).mono ?_
    rintro e w1 ⟨rfl, h1⟩
    subst w1
    clear L
    have L := hide (idsFaultC _ x.ids _ (unhide HR))
    go_wp2_with fail
    refine (unhide L).mono ?_
    rintro e w1 ⟨rfl, h1⟩
    subst w1
    clear L
    go_wp2_with fail
    go_ret
    exact ⟨by rw [unhide HF]; rfl, unhide HB⟩
end Go.Proofs.Ytceoaphcjnfphaa

namespace Go.Proofs.Ytceoaphcjnfphaa
open Go.RowKit

set_option maxRecDepth 10000 in
set_option maxHeartbeats 1000000 in
theorem changedC (ep : Int) (a : Option Addr) (n d : Nat) (a2 : Option Addr) (n2 d2 : Nat) (w : World) (hep : 1 ≤ ep ∧ ep ≤ 999) :
    Calls Try.prog 44 #[.agg #[.int .i64 ep, .slice a n d], .slice a2 n2 d2] w fun e w' => ∃ c e2 a3 n3 d3, e = .returned (.agg #[.int .i64 c, .int .i64 e2, .slice a3 n3 d3]) ∧ (ep = 999 ∧ c = 2 ∧ e2 = 0 ∧ (a3 = none ∧ n3 = 0 ∧ d3 = 0) ∨ ep < 999 ∧ c = 0 ∧ e2 = ep + 1 ∧ (a3 = a2 ∧ n3 = n2 ∧ d3 = d2)) ∧ Below w.heap.size w w' := by
  have HB : Hid (∀ o1 o2, Below w.heap.size w ((w.alloc o1).alloc o2)) := fun o1 o2 => ((Below.refl _ _).alloc (Nat.le_refl _) o1).alloc (by simp) o2
  by_cases h : ep = 999
  · have hd : (ep == 999) = true := by simpa using h
    have HE := hide h
    clear h
    go_enter Try.func44, Try.ntmps44
    go_wp2_with fail
    refine bodyPost_ret (v := .agg #[.int .i64 2, .int .i64 0, .slice none 0 0]) (by simp [results, Try.results44, go_sem]) rfl ?_
    exact ⟨_, _, _, _, _, rfl, Or.inl ⟨unhide HE, rfl, rfl, rfl, rfl, rfl⟩, unhide HB _ _⟩
  · have hd : (ep == 999) = false := by simpa using h
    have HE : Hid (ep < 999) := by show ep < 999; omega
    clear h
    go_enter Try.func44, Try.ntmps44
    go_wp2_with fail
    refine bodyPost_ret (v := .agg #[.int .i64 0, .int .i64 (ep + 1), .slice a2 n2 d2]) (by simp [results, Try.results44, go_sem]) rfl ?_
    exact ⟨_, _, _, _, _, rfl, Or.inr ⟨unhide HE, rfl, rfl, rfl, rfl, rfl⟩, unhide HB _ _⟩
end Go.Proofs.Ytceoaphcjnfphaa
