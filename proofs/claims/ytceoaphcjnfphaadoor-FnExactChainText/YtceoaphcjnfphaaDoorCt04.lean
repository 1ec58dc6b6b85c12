/-
  Texts of this proof in one: AppInt, SpecNewC, ChainText, Decimal, AppStr, ImplCText, SpecCText, LawCText, LayOpen, OpenChain.
  Their conditions stand in their theorems.
-/
import Derived.Test.YtceoaphcjnfphaaDoorCt01
import Derived.Test.YtceoaphcjnfphaaDoorCt02
import Derived.Deep.AppendLies
import Derived.Test.YtceoaphcjnfphaaDoorCt03
import Derived.Test.YtceoaphcjnfphaaDoorChecked
import Derived.ProofKit
import Derived.OpenShut
import Derived.Deep.Slices

namespace Go.Proofs.YtceoaphcjnfphaaDoor
open Go.RowKit

theorem grown_alloc {w w' : World} {o : Obj} {r : Option Nat} (h : (w.alloc o).grownBy w' r) : w.grownBy w' r := grown_trans (World.grownBy_alloc w o r) h

/-- At an operation of a plain region: 'append(s, q)', q laid into a block of its own first. -/
theorem wpList_append_int {w1 : World} {base : Nat} {v : Value} {n : Nat} {xs : List Value} (hown : w1.ownsRow base 2 1 v n xs) (q : Int) {ops : Array Oper} {rest : List Oper} {o : Oper} {a : Act} {Q : Exit → Act → World → Prop} (hgd : o.guard = none) (s x : Operand)
    (ho : o.op = .call { callee := .builtin .append, args := #[s, x], argTypes := #[24, 24] }) (hs : a.eval s = v) (hx : a.eval x = .slice (some ⟨w1.heap.size, 0, none⟩) 1 1)
    (hn : n ≤ 100000000) (hbase : base ≤ w1.heap.size)
    (h : ∀ g cap w', w'.ownsRow base 2 1 (.slice (some ⟨g, 0, none⟩) (n + 1) cap) (n + 1) (xs ++ [.int .i64 q]) → w1.grownBy w' v.ownBlock → Below base w1 w' → g < w'.heap.size → w1.heap.size < w'.heap.size → wpList Tryd.prog ops Q rest (a.put o.dst (.slice (some ⟨g, 0, none⟩) (n + 1) cap)) w') :
    wpList Tryd.prog ops Q (o :: rest) a (w1.alloc (.cells #[.int .i64 q] 2)) := by
  obtain ⟨i0, hi0, hz0, hz1, hz2⟩ := info_parts info2
  refine wpList_append_lies _ hgd s x 24 ho base 2 i0 _ 1 8 Tryd.underlying24 hi0 hz0 hz1 hz2 rfl (by omega) v n xs hs (hown.alloc _) ⟨w1.heap.size, 0, none⟩ 1 1 [.int .i64 q] hx rfl (World.news_of_block (cs := #[.int .i64 q]) (t := 2) (fr := (0, 0)) (heap_alloc_new w1 _)) (by simp [Value.oneCell']) (by omega) (by unfold maxLen; omega) (by omega) (by simp; omega) (w1.heap.size + 1) (by simp) ?_
  intro g cap w' h2 h3 _ h5
  have hg := grown_alloc h3
  have hsz := h3.size
  simp only [World.size_alloc] at hsz
  exact h g cap w' h2 hg ((Below.refl _ _).grown hg hbase (fun j hj => (hown.lt j hj).1)) h5 (by omega)

end Go.Proofs.YtceoaphcjnfphaaDoor

namespace Go.Proofs.YtceoaphcjnfphaaDoor
open Go.RowKit

theorem box_lowC {lo : Nat} {cs : Array Value} {T : TypeId} {W w' : World} {s B : Nat} (h : Box lo cs T W s) (hb : Below B W w') (hs : s < B) : Box lo cs T w' s := ⟨h.1, (hb.block s hs).trans h.2⟩
theorem own_intsC {w : World} {v : Value} {zs : List Int} {base : Nat} (hw : ∀ z ∈ zs, (Lit.int .i64 z).wf = true) (hn : zs.length ≤ 100000000) (h : w.ownsRow base 2 1 v zs.length (zs.map (Value.int .i64))) : (Lay.sl Lay.int).OwnIn w [v] zs base w.heap.size :=
  Lay.ownInts hw (by omega) h
theorem upToC_wf (n : Nat) (hn : n ≤ 1000) : ∀ z ∈ upToC n, (Lit.int .i64 z).wf = true := fun z hz => wf_of_bd (by have := upToC_bd hz; omega)

set_option maxRecDepth 10000 in
set_option maxHeartbeats 1000000 in
theorem l10NewC (n : Nat) (w : World) (hn : n ≤ 1000) :
    Calls Tryd.prog 52 #[.int .i64 (n : Int)] w fun e w' => ∃ v, e = .returned (.agg #[.int .i64 1, v]) ∧ w'.ownsRow w.heap.size 2 1 v n ((upToC n).map (Value.int .i64)) ∧ Below w.heap.size w w' := by
  have nb : Below w.heap.size w ((w.alloc (.cells #[.int .i64 0, .slice none 0 0] 26)).alloc (.cells #[.int .i64 1, .slice none 0 0] 26)) := ((Below.refl _ _).alloc (Nat.le_refl _) _).alloc (by simp) _
  have bR : Box 0 #[.int .i64 0, .slice none 0 0] 26 ((w.alloc (.cells #[.int .i64 0, .slice none 0 0] 26)).alloc (.cells #[.int .i64 1, .slice none 0 0] 26)) w.heap.size := (newBox (Nat.zero_le _)).grow _
  have bC : Box 0 #[.int .i64 1, .slice none 0 0] 26 ((w.alloc (.cells #[.int .i64 0, .slice none 0 0] 26)).alloc (.cells #[.int .i64 1, .slice none 0 0] 26)) (w.heap.size + 1) := newBoxAt (Nat.zero_le _) (by simp)
  have HB := hide nb
  have HR := hide bR
  have HC := hide bC
  have HZ : Hid (w.heap.size + 2 ≤ ((w.alloc (.cells #[.int .i64 0, .slice none 0 0] 26)).alloc (.cells #[.int .i64 1, .slice none 0 0] 26)).heap.size) := by show w.heap.size + 2 ≤ ((w.alloc (.cells #[.int .i64 0, .slice none 0 0] 26)).alloc (.cells #[.int .i64 1, .slice none 0 0] 26)).heap.size; simp
  clear nb bR bC
  go_enter Tryd.func52, Tryd.ntmps52
  go_wp2_with fail
  generalize (w.alloc (.cells #[.int .i64 0, .slice none 0 0] 26)).alloc (.cells #[.int .i64 1, .slice none 0 0] 26) = W at *
  go_loopw [4] (fun i wr => ∃ (k : Nat) (v : Value), k ≤ n ∧ i = .int .i64 ((k : Int) + 1) ∧ Box 0 #[.int .i64 1, v] 26 wr (w.heap.size + 1) ∧ Box 0 #[.int .i64 0, .slice none 0 0] 26 wr w.heap.size ∧ wr.ownsRow (w.heap.size + 2) 2 1 v k ((upToC k).map (Value.int .i64)) ∧ w.heap.size + 2 ≤ wr.heap.size ∧ Below w.heap.size w wr) (fun i _ => n + 1 - (intOf i).toNat)
  case atStart => exact ⟨0, _, Nat.zero_le _, rfl, unhide HC, unhide HR, World.ownsRow_nil _ _ _ _, unhide HZ, unhide HB⟩
  case round =>
    obtain ⟨k, v, hk, rfl, hC, hR, hO, hz, hB⟩ := hrel
    clear HC HR HB HZ
    by_cases hlt : k < n
    · have hdl : decide ((k : Int) + 1 ≤ (n : Int)) = true := by simp; omega
      have c1 := Box.at hC 1 _ rfl
      simp only [List.getElem_toArray, List.getElem_cons_zero, List.getElem_cons_succ] at c1
      have cl := Box.lt hC
      have HCr := hide hC
      have HRr := hide hR
      have HBr := hide hB
      clear hC hR hB
      go_wp2_with (at_builtin; refine wpList_append_int hO ((k : Int) + 1) rfl _ _ rfl rfl rfl (by omega) hz ?_)
      intro g cap w5 hO5 hg5 hb5 hgl hz5
      have hC5 := box_lowC (unhide HCr) hb5 (by omega)
      have hR5 := box_lowC (unhide HRr) hb5 (by omega)
      have y1 := Box.at hC5 1 _ rfl
      simp only [List.getElem_toArray, List.getElem_cons_zero, List.getElem_cons_succ] at y1
      have yf := Box.soft hC5
      have yl := Box.lt hC5
      have HC6 := hide (Box.set hC5 1 (.slice (some ⟨g, 0, none⟩) (k + 1) cap))
      have HR6 := hide (hR5.other ⟨w.heap.size + 1, 1, none⟩ (.slice (some ⟨g, 0, none⟩) (k + 1) cap) (by simp))
      have HO6 : Hid (World.ownsRow (w5.setCell ⟨w.heap.size + 1, 1, none⟩ (.slice (some ⟨g, 0, none⟩) (k + 1) cap)) (w.heap.size + 2) 2 1 (.slice (some ⟨g, 0, none⟩) (k + 1) cap) (k + 1) ((upToC (k + 1)).map (Value.int .i64))) := by
        have := own_setC (a := ⟨w.heap.size + 1, 1, none⟩) hO5 (by simp) (.slice (some ⟨g, 0, none⟩) (k + 1) cap)
        rw [upToC_succ, List.map_append]
        exact this
      have HB6 := hide (((unhide HBr).trans (hb5.mono (by omega))).setCell (p := ⟨w.heap.size + 1, 1, none⟩) (by simp) (.slice (some ⟨g, 0, none⟩) (k + 1) cap))
      clear c1 cl HCr HRr HBr hO hO5 hg5 hb5 hC5 hR5
      go_wp2_with fail
      go_roundw
      case rel => exact ⟨k + 1, _, by omega, by go_num, unhide HC6, unhide HR6, unhide HO6, by simp; omega, unhide HB6⟩
      case measure => simp [intOf]; omega
    · obtain rfl : k = n := by omega
      have hdl : decide ((k : Int) + 1 ≤ (k : Int)) = false := by simp; omega
      obtain ⟨a9, c9, rfl⟩ := own_shape hO
      have c0 := Box.at hC 0 _ rfl
      have c1 := Box.at hC 1 _ rfl
      have z0 := Box.at hR 0 _ rfl
      have z1 := Box.at hR 1 _ rfl
      simp only [List.getElem_toArray, List.getElem_cons_zero, List.getElem_cons_succ] at c0 c1 z0 z1
      have cl := Box.lt hC
      have ff := Box.soft hR
      have l0 := Box.lt hR
      have HO6 : Hid (World.ownsRow ((wr.setCell ⟨w.heap.size, 0, none⟩ (.int .i64 1)).setCell ⟨w.heap.size, 1, none⟩ (.slice a9 k c9)) w.heap.size 2 1 (.slice a9 k c9) k ((upToC k).map (Value.int .i64))) := own_mono (by omega) (own_setC (a := ⟨w.heap.size, 1, none⟩) (own_setC (a := ⟨w.heap.size, 0, none⟩) hO (by simp) (.int .i64 1)) (by simp) _)
      have HB6 := hide ((hB.setCell (p := ⟨w.heap.size, 0, none⟩) (Nat.le_refl _) (.int .i64 1)).setCell (p := ⟨w.heap.size, 1, none⟩) (Nat.le_refl _) (.slice a9 k c9))
      clear hC hR hO hB
      go_wp2_with fail
      refine bodyPost_ret (v := .agg #[.int .i64 1, .slice a9 k c9]) (by simp [results, Tryd.results52, go_sem, z0, z1]) rfl ?_
      exact ⟨_, rfl, unhide HO6, unhide HB6⟩

end Go.Proofs.YtceoaphcjnfphaaDoor

namespace Go.Proofs.YtceoaphcjnfphaaDoor
open Go.RowKit

def textC (e : Int) (ids : List Int) : Bytes := [101, 112, 111, 99, 104, 32] ++ dec e ++ [32, 58] ++ ids.flatMap fun z => [32] ++ dec z
def textR (x : DChain) : DTextResult := if chainFault x = 0 then ⟨0, ⟨(textC x.epoch x.ids).toArray⟩⟩ else ⟨chainFault x, ⟨#[]⟩⟩
theorem dec_few (n : Int) : (dec n).length ≤ 5 := by
  unfold dec
  split
  · have := decF_len 4 n.natAbs
    simp
    omega
  · have := decF_len 4 n.toNat
    omega
theorem flat_few : ∀ ids : List Int, (ids.flatMap fun z => [32] ++ dec z).length ≤ 6 * ids.length
  | [] => by simp
  | z :: zs => by
    have h1 := flat_few zs
    have h2 := dec_few z
    rw [List.flatMap_cons, List.length_append, List.length_append, List.length_cons, List.length_cons, List.length_nil]
    omega
theorem textC_few (e : Int) (ids : List Int) : (textC e ids).length ≤ 13 + 6 * ids.length := by
  have h1 := flat_few ids
  have h2 := dec_few e
  unfold textC
  rw [List.length_append, List.length_append, List.length_append]
  simp only [List.length_cons, List.length_nil]
  omega
theorem textC_step (e : Int) (ids : List Int) (k : Nat) (hk : k < ids.length) : textC e (ids.take k) ++ [32] ++ dec ids[k] = textC e (ids.take (k + 1)) := by
  rw [List.take_succ_eq_append_getElem hk, textC, textC, List.flatMap_append, List.flatMap_singleton]
  simp only [List.append_assoc]
theorem textC_nil (e : Int) : [101, 112, 111, 99, 104, 32] ++ dec e ++ [32, 58] = textC e [] := by simp [textC]
/-- Two texts, one behind the other. -/
theorem addC {a b c : Bytes} (h : a ++ b = c) (hl : c.length ≤ 1000) : ∀ W : World, (Op.stringOp .add ⟨a.toArray⟩ ⟨b.toArray⟩).run Tryd.prog W = .ok (.string ⟨c.toArray⟩) W := by
  intro W
  subst h
  simp at hl
  exact (run_string_add_sum W _ _ (by simp [ByteArray.size]; omega)).trans (by rw [str_app])
theorem lies_textR {w : World} {c : Int} {s : ByteArray} {lo hi : Nat} (hc : (Lit.int .i64 c).wf = true) : Lay.tTextResult.OwnIn w [.int .i64 c, .string s] ⟨c, s⟩ lo hi :=
  ⟨[], ⟨lies_TextResult.2 ⟨rfl, rfl, hc⟩, by simp, by simp⟩, by simp⟩
end Go.Proofs.YtceoaphcjnfphaaDoor

namespace Go.Proofs.YtceoaphcjnfphaaDoor
open Go.RowKit

theorem decimalC (n : Int) (w : World) (h1 : -9999 ≤ n) (h2 : n ≤ 9999) (ht : Tab w) :
    Calls Tryd.prog 33 #[.int .i64 n] w fun e w' => e = .returned (str (dec n)) ∧ Below w.heap.size w w' := by
  have L := hide (formatC n w h1 h2 ht)
  clear ht
  go_enter Tryd.func33, Tryd.ntmps33
  go_wp2_with fail
  refine (unhide L).mono ?_
  rintro e w1 ⟨rfl, hb⟩
  have HB := hide hb
  clear hb L
  simp only [str]
  go_wp2_with fail
  go_ret
  exact ⟨rfl, unhide HB⟩

end Go.Proofs.YtceoaphcjnfphaaDoor

namespace Go.Proofs.YtceoaphcjnfphaaDoor
open Go.RowKit

theorem infoS : (Tryd.prog.info? 9).map (fun i => (i.zero, i.size, i.bytes)) = some (some (.string ⟨#[]⟩), 1, 16) := by kernel_rfl

/-- At an operation of a plain region: the new texts lie in a block of their own. -/
theorem wpList_append_strs {w1 : World} {base : Nat} {v : Value} {n : Nat} {xs : List Value} (hown : w1.ownsRow base 9 1 v n xs) (cs : List ByteArray) {ops : Array Oper} {rest : List Oper} {o : Oper} {a : Act} {Q : Exit → Act → World → Prop} (hgd : o.guard = none) (s x : Operand)
    (ho : o.op = .call { callee := .builtin .append, args := #[s, x], argTypes := #[59, 59] }) (hs : a.eval s = v) (m : Nat) (hx : a.eval x = .slice (some ⟨w1.heap.size, 0, none⟩) m m) (hm : cs.length = m) (hm0 : 0 < m)
    (hn : n + m ≤ 100000000) (hbase : base ≤ w1.heap.size)
    (h : ∀ g cap w', w'.ownsRow base 9 1 (.slice (some ⟨g, 0, none⟩) (n + m) cap) (n + m) (xs ++ cs.map Value.string) → w1.grownBy w' v.ownBlock → Below base w1 w' → g < w'.heap.size → w1.heap.size < w'.heap.size → wpList Tryd.prog ops Q rest (a.put o.dst (.slice (some ⟨g, 0, none⟩) (n + m) cap)) w') :
    wpList Tryd.prog ops Q (o :: rest) a (w1.alloc (.cells (cs.map Value.string).toArray 9)) := by
  obtain ⟨i0, hi0, hz0, hz1, hz2⟩ := info_parts infoS
  refine wpList_append_lies _ hgd s x 59 ho base 9 i0 _ 1 16 Tryd.underlying59 hi0 hz0 hz1 hz2 rfl (by omega) v n xs hs (hown.alloc _) ⟨w1.heap.size, 0, none⟩ m m (cs.map Value.string) hx (by simp [hm]) (World.news_of_block (cs := (cs.map Value.string).toArray) (t := 9) (fr := (0, 0)) (heap_alloc_new w1 _)) (by simp [Value.oneCell']) hm0 (by unfold maxLen; omega) (by omega) (by simp; omega) (w1.heap.size + 1) (by simp) ?_
  intro g cap w' h2 h3 _ h5
  have hg := grown_alloc h3
  have hsz := h3.size
  simp only [World.size_alloc] at hsz
  exact h g cap w' h2 hg ((Below.refl _ _).grown hg hbase (fun j hj => (hown.lt j hj).1)) h5 (by omega)

/-- At a step of a region that draws its order. -/
theorem step_append_strs {w1 : World} {base : Nat} {v : Value} {n : Nat} {xs : List Value} (hown : w1.ownsRow base 9 1 v n xs) (cs : List ByteArray) {ops : Array Oper} {o : Oper} {a : Act} {K : Act → World → Prop} {Q : Exit → Act → World → Prop} {E : Prop} (hgd : o.guard = none) (s x : Operand)
    (ho : o.op = .call { callee := .builtin .append, args := #[s, x], argTypes := #[59, 59] }) (hs : a.eval s = v) (m B : Nat) (hx : a.eval x = .slice (some ⟨B, 0, none⟩) m m) (hB : w1.heap[B]? = some (.cells (cs.map Value.string).toArray 9 (0, 0))) (hm : cs.length = m) (hm0 : 0 < m)
    (hn : n + m ≤ 100000000) (hbase : base ≤ w1.heap.size)
    (h : ∀ g cap w', w'.ownsRow base 9 1 (.slice (some ⟨g, 0, none⟩) (n + m) cap) (n + m) (xs ++ cs.map Value.string) → Below base w1 w' → g < w'.heap.size → w1.heap.size ≤ w'.heap.size → K (a.put o.dst (.slice (some ⟨g, 0, none⟩) (n + m) cap)) w') :
    if Region.wanted o (yielded ops a.tmps) = true then Oper.wp Tryd.prog o a w1 K Q else E := by
  obtain ⟨i0, hi0, hz0, hz1, hz2⟩ := info_parts infoS
  refine step_append_lies _ hgd s x 59 ho base 9 i0 _ 1 16 Tryd.underlying59 hi0 hz0 hz1 hz2 rfl (by omega) v n xs hs hown ⟨B, 0, none⟩ m m (cs.map Value.string) hx (by simp [hm]) (World.news_of_block (cs := (cs.map Value.string).toArray) (t := 9) (fr := (0, 0)) hB) (by simp [Value.oneCell']) hm0 (by unfold maxLen; omega) (by omega) hbase w1.heap.size rfl ?_
  intro g cap w' h2 h3 _ h5
  exact h g cap w' h2 ((Below.refl _ _).grown h3 hbase (fun j hj => (hown.lt j hj).1)) h5 h3.size

end Go.Proofs.YtceoaphcjnfphaaDoor

namespace Go.Proofs.YtceoaphcjnfphaaDoor
open Go.RowKit

theorem join_cons (s a : Bytes) (l : List Bytes) : Lib.join (a :: l) s = a ++ l.flatMap fun z => s ++ z := by
  induction l generalizing a with
  | nil => simp [Lib.join, List.intercalate]
  | cons b l ih =>
    have e : Lib.join (a :: b :: l) s = a ++ (s ++ Lib.join (b :: l) s) := by simp [Lib.join, List.intercalate]
    rw [e, ih b, List.flatMap_cons]
    simp only [List.append_assoc]
/-- The words of a chain's text. -/
def wordsC (e : Int) (ids : List Int) : List Bytes := [101, 112, 111, 99, 104] :: dec e :: [58] :: ids.map dec
theorem wordsC_len (e : Int) (ids : List Int) : (wordsC e ids).length = 3 + ids.length := by simp [wordsC]; omega
theorem wordsC_join (e : Int) (ids : List Int) : Lib.join (wordsC e ids) [32] = textC e ids := by
  rw [wordsC, join_cons, textC]
  simp only [List.flatMap_cons, List.flatMap_map, List.append_assoc]
  simp
theorem wordsC_step (e : Int) (ids : List Int) (k : Nat) (hk : k < ids.length) : (wordsC e (ids.take (k + 1))).map str = (wordsC e (ids.take k)).map str ++ [str (dec ids[k])] := by
  rw [List.take_succ_eq_append_getElem hk]
  simp only [wordsC, List.map_cons, List.map_append, List.map_nil, List.cons_append]

set_option maxRecDepth 100000 in
set_option maxHeartbeats 4000000 in
theorem implCText_ok (a : Option Addr) (d : Nat) (x : DChain) (w : World) (h : Lay.tChain.Reads w [.int .i64 x.epoch, .slice a x.ids.length d] x) (R : (Lay.sl Lay.int).Reads w [.slice a x.ids.length d] x.ids) (hf : chainFault x = 0) (ht : Tab w) :
    Calls Tryd.prog 14 #[.agg #[.int .i64 x.epoch, .slice a x.ids.length d]] w fun e w' => e = .returned (.agg #[.int .i64 0, .string ⟨(textC x.epoch x.ids).toArray⟩]) ∧ Below w.heap.size w w' := by
  have nb : Below w.heap.size w ((w.alloc (.cells #[.int .i64 x.epoch, .slice a x.ids.length d] 26)).alloc (.cells #[.int .i64 0, .string ⟨#[]⟩] 37)) := ((Below.refl _ _).alloc (Nat.le_refl _) _).alloc (by simp) _
  have hX : ChainAt ((w.alloc (.cells #[.int .i64 x.epoch, .slice a x.ids.length d] 26)).alloc (.cells #[.int .i64 0, .string ⟨#[]⟩] 37)) w.heap.size (.slice a x.ids.length d) x := (newBox (Nat.zero_le _)).grow _
  have bR : Box 0 #[.int .i64 0, .string ⟨#[]⟩] 37 ((w.alloc (.cells #[.int .i64 x.epoch, .slice a x.ids.length d] 26)).alloc (.cells #[.int .i64 0, .string ⟨#[]⟩] 37)) (w.heap.size + 1) := newBoxAt (Nat.zero_le _) (by simp)
  have HF := hide (implChainFault _ x _ (h.later nb))
  have HR1 := hide R
  have HB := hide nb
  have HX := hide hX
  have HR := hide bR
  have HT := hide ht
  have ok := chainFault_zero hf
  have hlen := ok.len
  have hep := ok.epoch
  have HID := hide ok.ids
  have x0 : ((w.alloc (.cells #[.int .i64 x.epoch, .slice a x.ids.length d] 26)).alloc (.cells #[.int .i64 0, .string ⟨#[]⟩] 37)).cell? ⟨w.heap.size, 0, none⟩ = some (.int .i64 x.epoch) := hX.at 0 _ rfl
  have x1 : ((w.alloc (.cells #[.int .i64 x.epoch, .slice a x.ids.length d] 26)).alloc (.cells #[.int .i64 0, .string ⟨#[]⟩] 37)).cell? ⟨w.heap.size, 1, none⟩ = some (.slice a x.ids.length d) := hX.at 1 _ rfl
  rw [hf] at HF
  clear h R nb hX bR ht ok hf
  go_enter Tryd.func14, Tryd.ntmps14
  go_wp2_with fail
  generalize (w.alloc (.cells #[.int .i64 x.epoch, .slice a x.ids.length d] 26)).alloc (.cells #[.int .i64 0, .string ⟨#[]⟩] 37) = W0 at *
  refine (unhide HF).mono ?_
  rintro e W ⟨rfl, hb⟩
  replace HX := hide ((unhide HX).keep hb)
  replace HR := hide ((unhide HR).keep hb)
  replace HB := hide ((unhide HB).trans (hb.mono (unhide HB).size))
  clear HF hb x0 x1
  have x0 : W.cell? ⟨w.heap.size, 0, none⟩ = some (.int .i64 x.epoch) := (unhide HX).at 0 _ rfl
  have xl := (unhide HX).lt
  have HL0 := hide (unhide HR).lt
  have L := hide (decimalC x.epoch W (by omega) (by omega) ((unhide HT).later (unhide HB)))
  simp only [str] at L
  go_wp2_with fail
  refine (unhide L).mono ?_
  rintro e W1 ⟨rfl, hb⟩
  have nb1 : Below W1.heap.size W1 (W1.alloc (.cells #[.string ⟨#[101, 112, 111, 99, 104]⟩, .string ⟨(dec x.epoch).toArray⟩, .string ⟨#[58]⟩] 9)) := (Below.refl _ _).alloc (Nat.le_refl _) _
  have HO : Hid (World.ownsRow (W1.alloc (.cells #[.string ⟨#[101, 112, 111, 99, 104]⟩, .string ⟨(dec x.epoch).toArray⟩, .string ⟨#[58]⟩] 9)) W1.heap.size 9 1 (.slice (some ⟨W1.heap.size, 0, none⟩) 3 3) 3 [.string ⟨#[101, 112, 111, 99, 104]⟩, .string ⟨(dec x.epoch).toArray⟩, .string ⟨#[58]⟩]) := World.ownsRow_lit W1 _ 3 (Nat.le_refl _) (by unfold maxLen; omega) rfl
  have HLT : Hid (W1.heap.size < (W1.alloc (.cells #[.string ⟨#[101, 112, 111, 99, 104]⟩, .string ⟨(dec x.epoch).toArray⟩, .string ⟨#[58]⟩] 9)).heap.size) := by show W1.heap.size < (W1.alloc (.cells #[.string ⟨#[101, 112, 111, 99, 104]⟩, .string ⟨(dec x.epoch).toArray⟩, .string ⟨#[58]⟩] 9)).heap.size; simp
  replace HX := hide (((unhide HX).keep hb).keep nb1)
  replace HR := hide (((unhide HR).keep hb).keep nb1)
  replace HL0 : Hid (w.heap.size + 1 < W1.heap.size) := Nat.lt_of_lt_of_le (unhide HL0) hb.size
  replace HB := hide (((unhide HB).trans (hb.mono (unhide HB).size)).trans (nb1.mono (Nat.le_trans (unhide HB).size hb.size)))
  clear L hb nb1 x0 xl
  have x1 : (W1.alloc (.cells #[.string ⟨#[101, 112, 111, 99, 104]⟩, .string ⟨(dec x.epoch).toArray⟩, .string ⟨#[58]⟩] 9)).cell? ⟨w.heap.size, 1, none⟩ = some (.slice a x.ids.length d) := (unhide HX).at 1 _ rfl
  have xl := (unhide HX).lt
  go_wp2_with fail
  generalize hW2 : W1.alloc (.cells #[.string ⟨#[101, 112, 111, 99, 104]⟩, .string ⟨(dec x.epoch).toArray⟩, .string ⟨#[58]⟩] 9) = W2 at *
  clear hW2 x1 xl HX
  go_loopw [4, 20] (fun v i wr => ∃ (k g cap : Nat), k ≤ x.ids.length ∧ i = .int .i64 k ∧ v = .slice (some ⟨g, 0, none⟩) (3 + k) cap ∧ wr.ownsRow W1.heap.size 9 1 (.slice (some ⟨g, 0, none⟩) (3 + k) cap) (3 + k) ((wordsC x.epoch (x.ids.take k)).map str) ∧ W1.heap.size < wr.heap.size ∧ Below W1.heap.size W2 wr) (fun _ i _ => x.ids.length - (intOf i).toNat)
  case atStart => exact ⟨0, W1.heap.size, 3, Nat.zero_le _, rfl, rfl, unhide HO, unhide HLT, Below.refl _ _⟩
  case round =>
    obtain ⟨k, g, cap, hk, rfl, rfl, hO, hz, hB⟩ := hrel
    clear HO HLT
    have hBw : Below w.heap.size w wr := (unhide HB).trans (hB.mono (by have := unhide HL0; omega))
    by_cases hlt : k < x.ids.length
    · obtain ⟨b2, off, rfl, hbl⟩ := Lay.sl_addr (unhide HR1) (by omega)
      have c1 := int_cell ((unhide HR1).later hBw) hlt
      have hzi := unhide HID x.ids[k] (List.getElem_mem hlt)
      have L := hide (decimalC x.ids[k] wr (by omega) (by omega) ((unhide HT).later hBw))
      have HST := hide (wordsC_step x.epoch x.ids k hlt)
      have hdl : decide ((k : Int) < (x.ids.length : Int)) = true := by simp; omega
      have hbr : b2 < wr.heap.size := Nat.lt_of_lt_of_le hbl hBw.size
      simp only [str] at L
      have HOr := hide hO
      have HBr := hide hB
      clear hO hB hBw
      generalize x.ids[k] = z at *
      go_wp2_with fail
      refine (unhide L).mono ?_
      rintro e w3 ⟨rfl, hb⟩
      have O3 := own_below (unhide HOr) hb
      have hz3 : W1.heap.size < w3.heap.size := Nat.lt_of_lt_of_le hz hb.size
      have HB3 := hide ((unhide HBr).trans (hb.mono (Nat.le_of_lt hz)))
      clear L hb HOr HBr c1
      go_wp2_with (at_builtin; refine wpList_append_strs O3 [⟨(dec z).toArray⟩] rfl _ _ rfl rfl 1 rfl rfl (by omega) (by omega) (by omega) ?_)
      intro g5 cap5 w5 O5 hg5 hb5 hgl hz5
      have HO5 : Hid (w5.ownsRow W1.heap.size 9 1 (.slice (some ⟨g5, 0, none⟩) (3 + (k + 1)) cap5) (3 + (k + 1)) ((wordsC x.epoch (x.ids.take (k + 1))).map str)) := by
        rw [unhide HST]
        exact O5
      have HB5 := hide ((unhide HB3).trans (hb5.mono (Nat.le_refl _)))
      have hz9 : W1.heap.size < w5.heap.size := by omega
      clear O3 O5 hg5 hb5 HB3 HST
      go_wp2_with fail
      go_roundw
      case rel => exact ⟨k + 1, g5, cap5, by omega, by go_num, rfl, unhide HO5, hz9, unhide HB5⟩
      case measure => simp [intOf]; omega
    · obtain rfl : k = x.ids.length := by omega
      rw [List.take_length] at hO
      have hcells : ∀ (j : Nat) (y : ByteArray), ((wordsC x.epoch x.ids).map fun l => (⟨l.toArray⟩ : ByteArray))[j]? = some y → wr.cell? ⟨g, 0 + j, none⟩ = some (.string y) := by
        intro j y hy
        rw [List.getElem?_map, Option.map_eq_some_iff] at hy
        obtain ⟨l, hl, rfl⟩ := hy
        have hj : j < (wordsC x.epoch x.ids).length := by
          rw [List.getElem?_eq_some_iff] at hl
          exact hl.1
        rw [wordsC_len] at hj
        rw [Nat.zero_add, hO.cellAt j (by omega), List.getElem?_map, hl]
        rfl
      have hgl := (hO.lt g rfl).2
      have hcp : 3 + x.ids.length ≤ cap := by
        obtain ⟨-, hor⟩ := hO
        rcases hor with h | ⟨b9, c9, cs9, e9, -, -, h9, -⟩
        · simp at h
        · simp only [Value.slice.injEq] at e9
          omega
      have hdat : ((wordsC x.epoch x.ids).map fun l => (⟨l.toArray⟩ : ByteArray)).map (·.data.toList) = wordsC x.epoch x.ids := by
        rw [List.map_map]
        conv => rhs; rw [← List.map_id (wordsC x.epoch x.ids)]
        exact List.map_congr_left fun l _ => by simp
      have hjn := wordsC_join x.epoch x.ids
      have htl := textC_few x.epoch x.ids
      have LJ := Tryd.strings_Join g 0 cap ((wordsC x.epoch x.ids).map fun l => (⟨l.toArray⟩ : ByteArray)) ⟨#[32]⟩ wr hcells hgl (by rw [List.length_map, wordsC_len]; omega) (by rw [List.length_map, wordsC_len]; exact hcp) (by rw [hdat]; show (Lib.join (wordsC x.epoch x.ids) [32]).length ≤ _; rw [hjn]; omega)
      rw [hdat, List.length_map, wordsC_len] at LJ
      replace LJ : Calls Tryd.prog 34 #[.slice (some ⟨g, 0, none⟩) (3 + x.ids.length) cap, .string ⟨#[32]⟩] wr fun e w' => e = .returned (.string ⟨(Lib.join (wordsC x.epoch x.ids) [32]).toArray⟩) ∧ Below wr.heap.size wr w' := LJ
      rw [hjn] at LJ
      have HLJ := hide LJ
      have hR := box_lowC (unhide HR) hB (unhide HL0)
      have HRr := hide hR
      have HBw := hide hBw
      have hdl : decide ((x.ids.length : Int) < (x.ids.length : Int)) = false := by simp
      clear LJ hcells hdat hjn htl hO hB hBw hR hcp hgl
      obtain ⟨t, htt⟩ : ∃ t, t = textC x.epoch x.ids := ⟨_, rfl⟩
      rw [← htt] at HLJ
      have HTT := hide htt
      clear htt
      go_wp2_with fail
      refine (unhide HLJ).mono ?_
      rintro e w4 ⟨rfl, hb⟩
      have bR := (unhide HRr).keep hb
      have z0 : w4.cell? ⟨w.heap.size + 1, 0, none⟩ = some (.int .i64 0) := bR.at 0 _ rfl
      have z1 : w4.cell? ⟨w.heap.size + 1, 1, none⟩ = some (.string ⟨#[]⟩) := bR.at 1 _ rfl
      have ff := bR.soft
      have l0 := bR.lt
      have HB2 := hide (below_setAll ((unhide HBw).trans (hb.mono (unhide HBw).size)) (w.heap.size + 1) 0 [.int .i64 0, .string ⟨t.toArray⟩] (by omega))
      clear hb bR HLJ HRr HBw
      go_wp2_with fail
      refine bodyPost_ret (v := .agg #[.int .i64 0, .string ⟨t.toArray⟩]) (by simp [results, Tryd.results14, go_sem, z0, z1]) rfl ?_
      exact ⟨by rw [unhide HTT], unhide HB2⟩

set_option maxRecDepth 10000 in
set_option maxHeartbeats 1000000 in
theorem implCText_bad (a : Option Addr) (d : Nat) (x : DChain) (w : World) (h : Lay.tChain.Reads w [.int .i64 x.epoch, .slice a x.ids.length d] x) (hf : chainFault x ≠ 0) :
    Calls Tryd.prog 14 #[.agg #[.int .i64 x.epoch, .slice a x.ids.length d]] w fun e w' => e = .returned (.agg #[.int .i64 (chainFault x), .string ⟨#[]⟩]) ∧ Below w.heap.size w w' := by
  have nb : Below w.heap.size w ((w.alloc (.cells #[.int .i64 x.epoch, .slice a x.ids.length d] 26)).alloc (.cells #[.int .i64 0, .string ⟨#[]⟩] 37)) := ((Below.refl _ _).alloc (Nat.le_refl _) _).alloc (by simp) _
  have hX : ChainAt ((w.alloc (.cells #[.int .i64 x.epoch, .slice a x.ids.length d] 26)).alloc (.cells #[.int .i64 0, .string ⟨#[]⟩] 37)) w.heap.size (.slice a x.ids.length d) x := (newBox (Nat.zero_le _)).grow _
  have bR : Box 0 #[.int .i64 0, .string ⟨#[]⟩] 37 ((w.alloc (.cells #[.int .i64 x.epoch, .slice a x.ids.length d] 26)).alloc (.cells #[.int .i64 0, .string ⟨#[]⟩] 37)) (w.heap.size + 1) := newBoxAt (Nat.zero_le _) (by simp)
  have HF := hide (implChainFault _ x _ (h.later nb))
  have HB := hide nb
  have HR := hide bR
  have hd : (chainFault x != 0) = true := by simpa using hf
  have x0 : ((w.alloc (.cells #[.int .i64 x.epoch, .slice a x.ids.length d] 26)).alloc (.cells #[.int .i64 0, .string ⟨#[]⟩] 37)).cell? ⟨w.heap.size, 0, none⟩ = some (.int .i64 x.epoch) := hX.at 0 _ rfl
  have x1 : ((w.alloc (.cells #[.int .i64 x.epoch, .slice a x.ids.length d] 26)).alloc (.cells #[.int .i64 0, .string ⟨#[]⟩] 37)).cell? ⟨w.heap.size, 1, none⟩ = some (.slice a x.ids.length d) := hX.at 1 _ rfl
  clear h nb hX bR hf
  go_enter Tryd.func14, Tryd.ntmps14
  go_wp2_with fail
  generalize (w.alloc (.cells #[.int .i64 x.epoch, .slice a x.ids.length d] 26)).alloc (.cells #[.int .i64 0, .string ⟨#[]⟩] 37) = W0 at *
  refine (unhide HF).mono ?_
  rintro e W ⟨rfl, hb⟩
  have bR := (unhide HR).keep hb
  have z0 : W.cell? ⟨w.heap.size + 1, 0, none⟩ = some (.int .i64 0) := bR.at 0 _ rfl
  have z1 : W.cell? ⟨w.heap.size + 1, 1, none⟩ = some (.string ⟨#[]⟩) := bR.at 1 _ rfl
  have ff := bR.soft
  have l0 := bR.lt
  obtain ⟨c, hcc⟩ : ∃ c, c = chainFault x := ⟨_, rfl⟩
  rw [← hcc] at hd ⊢
  have HCC := hide hcc
  clear hcc
  have HB2 := hide (below_setAll ((unhide HB).trans (hb.mono (unhide HB).size)) (w.heap.size + 1) 0 [.int .i64 c, .string ⟨#[]⟩] (by omega))
  clear hb bR HF HB HR x0 x1
  go_wp2_with fail
  refine bodyPost_ret (v := .agg #[.int .i64 c, .string ⟨#[]⟩]) (by simp [results, Tryd.results14, go_sem, z0, z1]) rfl ?_
  exact ⟨by rw [unhide HCC], unhide HB2⟩

theorem implChainText (cs : List Value) (x : DChain) (w : World) (ht : Tab w) (h : Lay.tChain.Reads w cs x) :
    Calls Tryd.prog 14 #[.agg cs.toArray] w fun e w' => ∃ cs, e = .returned (.agg cs.toArray) ∧ Lay.tTextResult.OwnIn w' cs (textR x) w.heap.size w'.heap.size ∧ Below w.heap.size w w' := by
  obtain ⟨a, d, rfl, R⟩ := open_Chain h
  by_cases hf : chainFault x = 0
  · refine (implCText_ok a d x w h R hf ht).mono ?_
    rintro e w' ⟨rfl, hb⟩
    rw [textR, if_pos hf]
    exact ⟨[_, _], rfl, lies_textR (by decide), hb⟩
  · refine (implCText_bad a d x w h hf).mono ?_
    rintro e w' ⟨rfl, hb⟩
    rw [textR, if_neg hf]
    exact ⟨[_, _], rfl, lies_textR (wf_of_bd (chainFault_bd x)), hb⟩
end Go.Proofs.YtceoaphcjnfphaaDoor

namespace Go.Proofs.YtceoaphcjnfphaaDoor
open Go.RowKit

set_option maxRecDepth 10000 in
set_option maxHeartbeats 1000000 in
theorem l10TextC (b : Nat) (a : Option Addr) (d : Nat) (x : DChain) (w : World) (hX : ChainAt w b (.slice a x.ids.length d) x) (R : (Lay.sl Lay.int).Reads w [.slice a x.ids.length d] x.ids) (ok : ChainOK x) :
    Calls Tryd.prog 35 #[.pointer (some ⟨b, 0, none⟩)] w fun e w' => e = .returned (.string ⟨(textC x.epoch x.ids).toArray⟩) ∧ Below w.heap.size w w' := by
  have x0 := Box.at hX 0 _ rfl
  have xl := Box.lt hX
  simp only [List.getElem_toArray, List.getElem_cons_zero] at x0
  have hlen := ok.len
  have hep := ok.epoch
  have HO := hide ok.ids
  have HX := hide hX
  have H := hide R
  have D0 := digits x.epoch w (by omega) (by omega)
  simp only [str] at D0
  have HD := hide D0
  have l1 := dec_few x.epoch
  have hT : [101, 112, 111, 99, 104, 32] ++ dec x.epoch ++ [32, 58] = textC x.epoch (x.ids.take 0) := by rw [textC_nil]; simp
  have HF : Hid (∀ k, (textC x.epoch (x.ids.take k)).length ≤ 200) := fun k => by
    have h1 := textC_few x.epoch (x.ids.take k)
    have h2 : (x.ids.take k).length ≤ x.ids.length := by rw [List.length_take]; omega
    omega
  have s1 : ∀ W : World, (Op.stringOp .add ⟨#[101, 112, 111, 99, 104, 32]⟩ ⟨(dec x.epoch).toArray⟩).run Tryd.prog W = .ok (.string ⟨([101, 112, 111, 99, 104, 32] ++ dec x.epoch).toArray⟩) W := addC (a := [101, 112, 111, 99, 104, 32]) rfl (by simp; omega)
  have s2 : ∀ W : World, (Op.stringOp .add ⟨([101, 112, 111, 99, 104, 32] ++ dec x.epoch).toArray⟩ ⟨#[32, 58]⟩).run Tryd.prog W = .ok (.string ⟨(textC x.epoch (x.ids.take 0)).toArray⟩) W := addC (b := [32, 58]) hT (by have := unhide HF 0; omega)
  clear hT hX R D0 l1
  generalize dec x.epoch = de at *
  generalize [101, 112, 111, 99, 104, 32] ++ de = p1 at *
  go_enter Tryd.func35, Tryd.ntmps35
  go_wp2_with fail
  refine (unhide HD).mono ?_
  rintro e w1 ⟨rfl, hb1⟩
  have HB1 := hide hb1
  clear HD hb1 x0
  go_wp2_with fail
  clear s1 s2
  go_loopw [3, 4] (fun s i wr => ∃ k : Nat, k ≤ x.ids.length ∧ i = .int .i64 k ∧ s = .string ⟨(textC x.epoch (x.ids.take k)).toArray⟩ ∧ Below w.heap.size w wr) (fun _ i _ => x.ids.length - (intOf i).toNat)
  case atStart => exact ⟨0, Nat.zero_le _, rfl, rfl, unhide HB1⟩
  case round =>
    obtain ⟨k, hk, rfl, rfl, hB⟩ := hrel
    clear HB1
    have x1 := Box.at ((unhide HX).keep hB) 1 _ rfl
    simp only [List.getElem_toArray, List.getElem_cons_zero, List.getElem_cons_succ] at x1
    have xlr := Box.lt ((unhide HX).keep hB)
    by_cases hlt : k < x.ids.length
    · have hdl : decide ((k : Int) < (x.ids.length : Int)) = true := by simp; omega
      obtain ⟨b2, off, rfl, hb2⟩ := Lay.sl_addr (unhide H) (by omega)
      have zc := int_cell ((unhide H).later hB) hlt
      have hid := unhide HO x.ids[k] (List.getElem_mem hlt)
      have HST := hide (textC_step x.epoch x.ids k hlt)
      have f1 := unhide HF k
      have f2 := unhide HF (k + 1)
      have D1 := digits x.ids[k] wr (by omega) (by omega)
      simp only [str] at D1
      have HD1 := hide D1
      have q1 : ∀ W : World, (Op.stringOp .add ⟨(textC x.epoch (x.ids.take k)).toArray⟩ ⟨#[32]⟩).run Tryd.prog W = .ok (.string ⟨(textC x.epoch (x.ids.take k) ++ [32]).toArray⟩) W := addC (b := [32]) rfl (by simp; omega)
      have q2 : ∀ W : World, (Op.stringOp .add ⟨(textC x.epoch (x.ids.take k) ++ [32]).toArray⟩ ⟨(dec x.ids[k]).toArray⟩).run Tryd.prog W = .ok (.string ⟨(textC x.epoch (x.ids.take (k + 1))).toArray⟩) W := addC (unhide HST) (by omega)
      have HBr := hide hB
      clear hB D1 HST f1 f2
      generalize textC x.epoch (x.ids.take k) = t0 at *
      generalize t0 ++ [32] = t1 at *
      generalize dec x.ids[k] = dz at *
      generalize x.ids[k] = z at *
      go_wp2_with fail
      refine (unhide HD1).mono ?_
      rintro e w2 ⟨rfl, hb2⟩
      have HB2 := hide ((unhide HBr).trans (hb2.mono (unhide HBr).size))
      clear HD1 HBr hb2 x1 zc q1
      go_wp2_with fail
      go_roundw
      case rel => exact ⟨k + 1, by omega, by go_num, rfl, unhide HB2⟩
      case measure => simp [intOf]; omega
    · obtain rfl : k = x.ids.length := by omega
      rw [List.take_length]
      have hdl : decide ((x.ids.length : Int) < (x.ids.length : Int)) = false := by simp
      have HBr := hide hB
      clear hB
      go_wp2_with fail
      go_ret
      exact ⟨rfl, unhide HBr⟩

set_option maxRecDepth 10000 in
set_option maxHeartbeats 1000000 in
theorem specChainText (cs : List Value) (x : DChain) (w : World) (h : Lay.tChain.Reads w cs x) :
    Calls Tryd.prog 15 #[.agg cs.toArray] w fun e w' => ∃ cs, e = .returned (.agg cs.toArray) ∧ Lay.tTextResult.OwnIn w' cs (textR x) w.heap.size w'.heap.size ∧ Below w.heap.size w w' := by
  obtain ⟨a, d, rfl, R⟩ := open_Chain h
  have nb : Below w.heap.size w ((w.alloc (.cells #[.int .i64 x.epoch, .slice a x.ids.length d] 26)).alloc (.cells #[.int .i64 0, .string ⟨#[]⟩] 37)) := ((Below.refl _ _).alloc (Nat.le_refl _) _).alloc (by simp) _
  have hX : ChainAt ((w.alloc (.cells #[.int .i64 x.epoch, .slice a x.ids.length d] 26)).alloc (.cells #[.int .i64 0, .string ⟨#[]⟩] 37)) w.heap.size (.slice a x.ids.length d) x := (newBox (Nat.zero_le _)).grow _
  have bR : Box 0 #[.int .i64 0, .string ⟨#[]⟩] 37 ((w.alloc (.cells #[.int .i64 x.epoch, .slice a x.ids.length d] 26)).alloc (.cells #[.int .i64 0, .string ⟨#[]⟩] 37)) (w.heap.size + 1) := newBoxAt (Nat.zero_le _) (by simp)
  have HF := hide (l10FaultC w.heap.size a d x _ hX (R.later nb))
  have HT : Hid (ChainOK x → _) := fun ok => l10TextC w.heap.size a d x _ hX (R.later nb) ok
  have HB := hide nb
  have HR := hide bR
  clear h R nb hX bR
  go_enter Tryd.func15, Tryd.ntmps15
  go_wp2_with fail
  generalize (w.alloc (.cells #[.int .i64 x.epoch, .slice a x.ids.length d] 26)).alloc (.cells #[.int .i64 0, .string ⟨#[]⟩] 37) = W at *
  refine (unhide HF).mono ?_
  rintro e w1 ⟨rfl, h1⟩
  subst w1
  clear HF
  by_cases hc : chainFault x = 0
  · have HL := hide (unhide HT (chainFault_zero hc))
    have HV : Hid (textR x = ⟨0, ⟨(textC x.epoch x.ids).toArray⟩⟩) := if_pos hc
    rw [hc]
    clear hc HT
    generalize textC x.epoch x.ids = t at *
    go_wp2_with fail
    refine (unhide HL).mono ?_
    rintro e w1 ⟨rfl, hb⟩
    have bR := (unhide HR).keep hb
    have hlt := (unhide HR).lt
    have z0 := Box.at bR 0 _ rfl
    have z1 := Box.at bR 1 _ rfl
    simp only [List.getElem_toArray, List.getElem_cons_zero, List.getElem_cons_succ] at z0 z1
    have ff := Box.soft bR
    have l0 := Box.lt bR
    have hB1 := (unhide HB).trans (hb.mono (unhide HB).size)
    have HB2 := hide (below_setAll hB1 (w.heap.size + 1) 0 [.int .i64 0, .string ⟨t.toArray⟩] (by omega))
    clear bR hb hB1 HL HB HR
    go_wp2_with fail
    refine bodyPost_ret (v := .agg #[.int .i64 0, .string ⟨t.toArray⟩]) (by simp [results, Tryd.results15, go_sem, z0, z1]) rfl ?_
    rw [unhide HV]
    exact ⟨_, rfl, lies_textR (by decide), unhide HB2⟩
  · have HV : Hid (textR x = ⟨chainFault x, ⟨#[]⟩⟩) := if_neg hc
    have hv := chainFault_vals x
    have hc2 : (chainFault x != 0) = true := by simpa using hc
    have bR := unhide HR
    have z0 := Box.at bR 0 _ rfl
    have z1 := Box.at bR 1 _ rfl
    simp only [List.getElem_toArray, List.getElem_cons_zero, List.getElem_cons_succ] at z0 z1
    have ff := Box.soft bR
    have l0 := Box.lt bR
    clear hc HT bR HR
    generalize chainFault x = f at *
    have HB2 := hide (below_setAll (unhide HB) (w.heap.size + 1) 0 [.int .i64 f, .string ⟨#[]⟩] (by omega))
    clear HB
    go_wp2_with fail
    refine bodyPost_ret (v := .agg #[.int .i64 f, .string ⟨#[]⟩]) (by simp [results, Tryd.results15, go_sem, z0, z1]) rfl ?_
    rw [unhide HV]
    exact ⟨_, rfl, lies_textR (wf_of_bd (by omega)), unhide HB2⟩
end Go.Proofs.YtceoaphcjnfphaaDoor

namespace Go.Proofs.YtceoaphcjnfphaaDoor
open Go.RowKit

theorem lawCText (u : List Value) (x : DChain) (w : World) (h : Lay.tChain.Reads w u x) (ht : Tab w) :
    Calls Tryd.prog 4 #[.agg u.toArray] w fun e w' => e = .returned (.bool true) ∧ Below w.heap.size w w' := by
  by_cases hn : Lay.tChain.sz x ≤ 1048576
  · refine lawx_ChainText u x (textR x) w h hn ht (fun W a _ ha => (specChainText a x W ha).mono fun e w' ⟨cs, he, ho, hb⟩ => ⟨cs, he, ho.reads, hb⟩) (fun W a hT ha => implChainText a x W hT ha)
  · exact lawover_ChainText u x w h (by omega)

end Go.Proofs.YtceoaphcjnfphaaDoor

namespace Go.Proofs.YtceoaphcjnfphaaDoor
open Go.RowKit Go.ChangeShapes Go.WideShapes

/-- Whatever reads as data of the type t lies as A says. -/
def Opens {α : Type} (A : Lay α) (t : TypeId) : Prop :=
  ∀ {H : Type} (enc : TypeId × Value → H) (W : World) (base : Nat) (spare : Nat → Bool) (held : Bool) (fuel : Nat) (cs : List Value) (x : DataW H × List MemPlace), DataW.trod enc Tryd.prog W base spare held fuel t cs = some x → ∃ y, A.Reads W cs y

theorem reads_pair {α β : Type} {A : Lay α} {B : Lay β} {W : World} {c1 c2 : List Value} {x : α} {y : β} (h : A.Reads W c1 x) (k : B.Reads W c2 y) : (Lay.pair A B).Reads W (c1 ++ c2) (x, y) := by
  obtain ⟨b1, h⟩ := h
  obtain ⟨b2, k⟩ := k
  exact ⟨b1 ++ b2, c1, c2, b1, b2, rfl, rfl, h, k⟩

theorem opens_int {t : TypeId} (ht : Tryd.prog.underlying t = some (.int .i64)) : Opens Lay.int t := by
  intro H enc W base spare held fuel cs x h
  obtain ⟨n, rfl, -, hw⟩ := DataW.trod_int ht h
  exact ⟨n, [], rfl, hw, rfl⟩
theorem opens_bool {t : TypeId} (ht : Tryd.prog.underlying t = some .bool) : Opens Lay.bool t := by
  intro H enc W base spare held fuel cs x h
  obtain ⟨b, rfl, -⟩ := DataW.trod_bool ht h
  exact ⟨b, [], rfl, rfl⟩
theorem opens_str {t : TypeId} (ht : Tryd.prog.underlying t = some .string) : Opens Lay.str t := by
  intro H enc W base spare held fuel cs x h
  obtain ⟨s, rfl, -, -⟩ := DataW.trod_string ht h
  exact ⟨s, [], rfl, rfl⟩

theorem opens_sl {α : Type} {A : Lay α} {t e : TypeId} (ht : Tryd.prog.underlying t = some (.slice e)) (hn : Tryd.prog.cellsOf e = A.n) (h0 : 0 < A.n) (h : Opens A e) : Opens (Lay.sl A) t := by
  intro H enc W base spare held fuel cs x hx
  rcases Go.Deep.open_slice ht hx with ⟨rfl, -⟩ | ⟨a, len, cap, m, n, D, Pl, rfl, hb, hl, hm, hmm, -, hel⟩
  · exact ⟨[], [], none, 0, rfl, ⟨Nat.le_refl _, by simp⟩, Or.inl ⟨rfl, rfl⟩⟩
  · have hlm : len ≤ m := by rw [hmm]; split <;> omega
    rw [hn] at hel
    have each : ∀ i, i < len → ∃ q : List Value × α, (∀ j, j < A.n → W.cell? (a.add (i * A.n + j)) = q.1[j]?) ∧ q.1.length = A.n ∧ A.Reads W q.1 q.2 := by
      intro i hi
      obtain ⟨cs', h1, h2⟩ := hel i (by omega)
      obtain ⟨-, hlen, hc⟩ := World.cells?_some h1
      obtain ⟨y, hy⟩ := h enc W base spare held n cs' _ h2
      refine ⟨(cs', y), fun j hj => ?_, hlen, hy⟩
      have := hc j hj
      rw [Addr.add_add] at this
      exact this
    by_cases hp : 0 < len
    · obtain ⟨b, off, spot⟩ := a
      obtain ⟨q0, c0, l0, -⟩ := each 0 hp
      have hc0 := c0 0 h0
      have hs0 : ∃ v, W.cell? ((⟨b, off, spot⟩ : Addr).add (0 * A.n + 0)) = some v := ⟨_, hc0.trans (List.getElem?_eq_getElem (by omega))⟩
      obtain ⟨v0, hv0⟩ := hs0
      have hspot : spot = none := by simpa [Addr.add] using World.cell?_spot hv0
      subst hspot
      have hbl : b < W.heap.size := by
        have := World.block_lt_of_cell? _ _ hv0
        simpa [Addr.add] using this
      have pick : ∃ f : (i : Nat) → i < len → List Value × α, ∀ i (hi : i < len), (∀ j, j < A.n → W.cell? ((⟨b, off, none⟩ : Addr).add (i * A.n + j)) = (f i hi).1[j]?) ∧ (f i hi).1.length = A.n ∧ A.Reads W (f i hi).1 (f i hi).2 :=
        ⟨fun i hi => Classical.choose (each i hi), fun i hi => Classical.choose_spec (each i hi)⟩
      obtain ⟨f, hf⟩ := pick
      have pick2 : ∃ g : (i : Nat) → i < len → List Nat, ∀ i (hi : i < len), A.lies W (f i hi).1 (f i hi).2 (g i hi) :=
        ⟨fun i hi => Classical.choose (hf i hi).2.2, fun i hi => Classical.choose_spec (hf i hi).2.2⟩
      obtain ⟨g, hg⟩ := pick2
      refine ⟨(List.finRange len).map (fun i => (f i.1 i.2).2), b :: ((List.finRange len).map (fun i => g i.1 i.2)).flatten, some ⟨b, off, none⟩, cap, by simp, ⟨by simpa using hl, by simp; unfold maxLen at hm; omega⟩, Or.inr ⟨b, off, (List.finRange len).map (fun i => (f i.1 i.2).1), (List.finRange len).map (fun i => g i.1 i.2), rfl, hbl, rfl, by simp, by simp, fun j h1 h2 h3 => ?_⟩⟩
      have hj : j < len := by simpa using h1
      refine ⟨fun k hk => ?_, ?_⟩
      · have := (hf j hj).1 k hk
        rw [Addr.add_lit] at this
        simpa [Nat.add_assoc] using this
      · simpa using hg j hj
    · obtain rfl : len = 0 := by omega
      exact ⟨[], [], some a, cap, rfl, ⟨hl, by simp⟩, Or.inl ⟨rfl, rfl⟩⟩

theorem open_arg {α : Type} {A : Lay α} {t : TypeId} (O : Opens A t) {H : Type} {enc : TypeId × Value → H} {W : World} {base : Nat} {spare : Nat → Bool} {held : Bool} {a : Option Addr} {len cap : Nat} {d : DataW H} {p : List MemPlace}
    (h : DataW.Trod enc Tryd.prog W base spare held t (.slice a len cap) d p) : ∃ y, A.Reads W [.slice a len cap] y := by
  obtain ⟨fuel, hf⟩ := h
  exact O enc W base spare held fuel _ _ (by simpa [Value.cells] using hf)
theorem open_arg_st {α : Type} {A : Lay α} {t : TypeId} (O : Opens A t) {H : Type} {enc : TypeId × Value → H} {W : World} {base : Nat} {spare : Nat → Bool} {held : Bool} {cs : Array Value} {d : DataW H} {p : List MemPlace}
    (h : DataW.Trod enc Tryd.prog W base spare held t (.agg cs) d p) : ∃ y, A.Reads W cs.toList y := by
  obtain ⟨fuel, hf⟩ := h
  exact O enc W base spare held fuel _ _ (by simpa [Value.cells] using hf)

end Go.Proofs.YtceoaphcjnfphaaDoor

namespace Go.Proofs.YtceoaphcjnfphaaDoor
open Go.RowKit

set_option maxRecDepth 10000 in
theorem opens_Chain : Opens Lay.tChain 39 := by
  intro H enc W base spare held fuel cs x h
  obtain ⟨xs, n, _, _, hlen, hl, hfi⟩ := DataW.trod_struct Tryd.underlying39 h
  rw [show Tryd.prog.cellsOf 39 = 2 by kernel_rfl] at hlen
  match cs, hlen with
  | [c0, c1], _ =>
  match xs, hl with
  | [y0, y1], _ =>
  have z0 : Tryd.prog.cellsOf 2 = 1 := by kernel_rfl
  have z1 : Tryd.prog.cellsOf 24 = 1 := by kernel_rfl
  have f0 : DataW.trod enc Tryd.prog W base spare held n 2 (([c0, c1].drop 0).take (Tryd.prog.cellsOf 2)) = some y0 := hfi 0 _ rfl
  rw [z0] at f0
  obtain ⟨d0, r0⟩ := (opens_int Tryd.underlying2) enc W base spare held n _ _ f0
  have f1 : DataW.trod enc Tryd.prog W base spare held n 24 (([c0, c1].drop 1).take (Tryd.prog.cellsOf 24)) = some y1 := hfi 1 _ rfl
  rw [z1] at f1
  obtain ⟨d1, r1⟩ := (opens_sl Tryd.underlying24 (by kernel_rfl) (by decide) (opens_int Tryd.underlying2)) enc W base spare held n _ _ f1
  exact ⟨⟨d0, d1⟩, (reads_pair r0 r1)⟩

end Go.Proofs.YtceoaphcjnfphaaDoor
