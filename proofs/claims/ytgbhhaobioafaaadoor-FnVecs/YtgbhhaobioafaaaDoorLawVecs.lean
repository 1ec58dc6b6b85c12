/-
  The law FnVecs answers true at every slice of bytes, and writes nothing that was there.
  Condition: the table of powers of ten holds what the program's text lays there.
-/
import Derived.Test.YtgbhhaobioafaaaDoorDrawText
import Derived.Test.YtgbhhaobioafaaaDoorParseVec
import Derived.Test.YtgbhhaobioafaaaDoorLw
import Derived.Test.YtgbhhaobioafaaaDoorBig
import Derived.Deep.RegionHeld3
import Derived.Deep.RegionWith
import Derived.Deep.CutRange
namespace Go.Proofs.YtgbhhaobioafaaaDoor
open Go.RowKit

theorem fieldi0 (c : Int) (ao : Option Addr) (n cap : Nat) (w : World) : (Instr.field 27 (.agg #[.int .i64 c, .slice ao n cap]) 0).run Tryd.prog w = .ok (.int .i64 c) w := by kernel_rfl
theorem fieldt0 (c : Int) (s : ByteArray) (w : World) : (Instr.field 30 (.agg #[.int .i64 c, .string s]) 0).run Tryd.prog w = .ok (.int .i64 c) w := by kernel_rfl
theorem fieldt1 (c : Int) (s : ByteArray) (w : World) : (Instr.field 30 (.agg #[.int .i64 c, .string s]) 1).run Tryd.prog w = .ok (.string s) w := by kernel_rfl

theorem fault_of {x y z : Int} (hx : -1000 ≤ x ∧ x ≤ 1000) (hy : -1000 ≤ y ∧ y ≤ 1000) (hz : -1000 ≤ z ∧ z ≤ 1000) : vecFault [x, y, z] = 0 := by
  simp [vecFault, partB]
  omega

/-- What ParseVec of the program tells of a text. -/
def ReadsAs (s : ByteArray) (k : Int) (ao : Option Addr) (n c : Nat) (w : World) : Prop :=
  (k = 5 ∧ PP 3 (0, 0, 0) s.data.toList = none) ∨
    (k = 0 ∧ ∃ x y z g, PP 3 (0, 0, 0) s.data.toList = some (x, y, z) ∧ ao = some ⟨g, 0, none⟩ ∧ n = 3 ∧ IsInts w (.slice ao n c) [x, y, z])
theorem parse_any {s : ByteArray} {w : World} (hs : s.size ≤ 17) :
    (Calls Tryd.prog 6 #[.string s] w fun e w' => ∃ k ao n c, e = .returned (.agg #[.int .i64 k, .slice ao n c]) ∧ ReadsAs s k ao n c w' ∧ Below w.heap.size w w') := by
  refine (implParseVec s w (by omega)).mono ?_
  rintro e w' ⟨r, rfl, hown, hb⟩
  cases h : PP 3 (0, 0, 0) s.data.toList with
  | none =>
    have e1 : pCode s.data.toList = 5 := by simp [pCode, h]
    have e2 : pList s.data.toList = [] := by simp [pList, h]
    rw [e2] at hown
    rw [e1]
    obtain ⟨a, c, rfl⟩ := own_shape hown
    exact ⟨5, a, _, c, rfl, Or.inl ⟨rfl, h⟩, hb⟩
  | some t =>
    obtain ⟨x, y, z⟩ := t
    have e1 : pCode s.data.toList = 0 := by simp [pCode, h]
    have e2 : pList s.data.toList = [x, y, z] := by simp [pList, h]
    rw [e2] at hown
    rw [e1]
    obtain ⟨g, cap, rfl, -, -, -⟩ := own_three hown
    exact ⟨0, _, _, cap, rfl, Or.inr ⟨rfl, x, y, z, g, h, rfl, rfl, isInts_row (by rw [← e2]; exact pList_wf _) hown⟩, hb⟩
theorem parse_model {s : ByteArray} {w : World} (hs : s.size ≤ 17) (h : PP 3 (0, 0, 0) s.data.toList = none) :
    (Calls Tryd.prog 8 #[.string s] w fun e w' => ∃ a c, e = .returned (.agg #[.int .i64 5, .slice a 0 c]) ∧ Below w.heap.size w w') := by
  refine (modelParseVec s w (by omega)).mono ?_
  rintro e w' ⟨r, rfl, hown, hb⟩
  have e1 : pCode s.data.toList = 5 := by simp [pCode, h]
  have e2 : pList s.data.toList = [] := by simp [pList, h]
  rw [e2] at hown
  rw [e1]
  obtain ⟨a, c, rfl⟩ := own_shape hown
  exact ⟨a, c, rfl, hb⟩

theorem nums_ints {v u : Value} {x y z : Int} {w : World} (h1 : IsInts w v [x, y, z]) (h2 : IsInts w u [x, y, z]) :
    Calls Tryd.prog 11 #[v, u] w fun e w' => e = .returned (.bool true) ∧ Below w.heap.size w w' := by
  obtain ⟨b, off, cap, x1, y1, z1, e1, rfl, -, c0, c1, c2⟩ := h1.three rfl
  obtain ⟨b', off', cap', x2, y2, z2, e2, rfl, -, d0, d1, d2⟩ := h2.three rfl
  simp only [List.cons.injEq, and_true] at e1 e2
  obtain ⟨rfl, rfl, rfl⟩ := e1
  obtain ⟨rfl, rfl, rfl⟩ := e2
  exact nums_same b off cap b' off' cap' x y z w c0 c1 c2 d0 d1 d2

theorem IsCode.wider {B C : Nat} {w : World} {cv : Value} (h : IsCode B w cv) (hb : B ≤ C) : IsCode C w cv := by
  obtain ⟨ao, len, cap, rfl, hl, hc⟩ := h
  refine ⟨ao, len, cap, rfl, hl, fun hp => ?_⟩
  obtain ⟨b, off, h1, h2, h3⟩ := hc hp
  exact ⟨b, off, h1, Nat.lt_of_lt_of_le h2 hb, h3⟩

set_option maxRecDepth 100000 in
set_option maxHeartbeats 8000000 in
theorem lawVecs_few (ao : Option Addr) (len cap : Nat) (w : World) (hc : IsCode w.heap.size w (.slice ao len cap)) (hn : len ≤ 1048576) (ht : Tab w) :
    Calls Tryd.prog 3 #[.slice ao len cap] w fun e w' => e = .returned (.bool true) ∧ Below w.heap.size w w' := by
  have HT := hide ht
  have HC := hide hc
  clear ht hc
  go_enter Tryd.func3, Tryd.ntmps3
  go_wp2_with fail
  refine (big_no ao len cap w hn).mono ?_
  rintro e w ⟨rfl, rfl⟩
  go_wp2_with fail
  refine (drawParse ao len cap _ (unhide HC)).mono ?_
  rintro e w1 ⟨s, rfl, hs, hb1⟩
  have HB := hide hb1
  clear hb1
  go_wp2_with fail
  refine (parse_any hs).mono ?_
  rintro e w2 ⟨k, ao2, n2, c2, rfl, hr, hb2⟩
  have HR := hide hr
  have b2 : Below w.heap.size w (w2.alloc (.cells #[.int .i64 k, .slice ao2 n2 c2] 27)) := (below_keep (unhide HB) hb2).alloc (below_keep (unhide HB) hb2).size _
  have nb : Below w2.heap.size w2 (w2.alloc (.cells #[.int .i64 k, .slice ao2 n2 c2] 27)) := (Below.refl _ _).alloc (Nat.le_refl _) _
  obtain ⟨k0, k1⟩ := new_cells (w := w2) (T := 27) (x := .int .i64 k) (y := .slice ao2 n2 c2)
  have B2 := hide b2
  have NB := hide nb
  clear HB hb2 hr b2 nb
  go_upto_region 5 with fail
  generalize hwa : w2.alloc (.cells #[.int .i64 k, .slice ao2 n2 c2] 27) = wa at *
  generalize hs0 : w2.heap.size = s0 at *
  go_cut [37] from 14 to 36 (fun s37 wx => s37 = .bool false ∧ Below w.heap.size w wx)
  case first =>
    rcases unhide HR with ⟨rfl, hp⟩ | ⟨rfl, x, y, z, g, hp, rfl, rfl, hi⟩
    · have T2 : Hid (∀ W, Below wa.heap.size wa W → Calls Tryd.prog 8 #[.string s] W fun e w' => ∃ a c, e = .returned (.agg #[.int .i64 5, .slice a 0 c]) ∧ Below wa.heap.size wa w' ∧ w'.cell? ⟨s0, 0, none⟩ = some (.int .i64 5)) := fun W hW => (parse_model hs hp).mono fun e w' ⟨a, c, h1, h2⟩ => ⟨a, c, h1, below_keep hW h2, cell_keep (below_keep hW h2) k0⟩
      have hf0 := fieldi0 5
      clear hp HR hwa hs0
      first
        | go_region_with (go_at_call 8; refine (unhide T2 _ ?_).mono ?_; (repeat (first | exact Below.refl _ _ | refine Below.drew ?_)); rintro e w3 ⟨a2, c2, rfl, hb3, k3⟩)
        | fail
      all_goals go_wp2_with fail
      all_goals go_meet
      all_goals refine ⟨rfl, below_keep (unhide B2) ?_⟩
      all_goals (repeat (first | assumption | refine Below.drew ?_))
    · obtain ⟨hl, hx, hy, hz⟩ := PP_some hp
      have hse : s = ⟨(text3 x y z).toArray⟩ := by
        unfold text3
        rw [← hl]
      have hf := fault_of hx hy hz
      have htx : vecText [x, y, z] = text3 x y z := by simp [vecText, hf]
      have hi2 := hi.later (by rw [hs0]; exact unhide NB)
      have T1 : Hid (∀ W, Below wa.heap.size wa W → Calls Tryd.prog 7 #[.slice (some ⟨g, 0, none⟩) 3 c2] W fun e w' => e = .returned (.agg #[.int .i64 0, .string s]) ∧ Below wa.heap.size wa w' ∧ w'.cell? ⟨s0, 0, none⟩ = some (.int .i64 0)) := by
        intro W hW
        refine (implText _ [x, y, z] W (hi2.later hW) ((unhide HT).later (below_keep (unhide B2) hW))).mono ?_
        rintro e w' ⟨rfl, hb⟩
        rw [hf, htx, hse]
        exact ⟨rfl, below_keep hW hb, cell_keep (below_keep hW hb) k0⟩
      have hq : ∀ W : World, (Op.stringOp .neq s s).run Tryd.prog W = .ok (.bool false) W := fun W => by simp [Op.stringOp]
      have hf1 := fieldt1 0 s
      clear hp HR hwa hs0 hse hf htx hi2 hi hl hx hy hz
      first
        | go_region_with (go_at_call 7; refine (unhide T1 _ ?_).mono ?_; (repeat (first | exact Below.refl _ _ | refine Below.drew ?_)); rintro e w3 ⟨rfl, hb3, k3⟩)
        | fail
      all_goals go_wp2_with fail
      all_goals go_meet
      all_goals refine ⟨rfl, below_keep (unhide B2) ?_⟩
      all_goals (repeat (first | assumption | refine Below.drew ?_))
  case rest =>
    obtain ⟨rfl, hbc⟩ := hcut
    clear HR hwa hs0 k0 k1 B2 NB hs
    have HB := hide hbc
    have HC2 : Hid (IsCode wc.heap.size wc (.slice ao len cap)) := ((unhide HC).later hbc).wider hbc.size
    clear hbc HC
    go_wp2_with fail
    refine (drawVec ao len cap _ (unhide HC2)).mono ?_
    rintro e w4 ⟨v, zs, rfl, hi, -, hb4⟩
    have HB4 := hide (below_keep (unhide HB) hb4)
    have HI := hide hi
    clear HB HC2 hb4 hi
    go_wp2_with fail
    refine (implText v zs _ (unhide HI) ((unhide HT).later (unhide HB4))).mono ?_
    rintro e w5 ⟨rfl, hb5⟩
    simp only [str]
    have b5 := below_keep (unhide HB4) hb5
    have hi5 := (unhide HI).later hb5
    clear HB4 HI hb5
    by_cases hf : vecFault zs = 0
    · match zs, (vecFault_zero hf).1 with
      | [x, y, z], _ =>
      have htx : vecText [x, y, z] = text3 x y z := by simp [vecText, hf]
      obtain ⟨hx, hy, hz⟩ := fault3 hf
      have hp : PP 3 (0, 0, 0) (text3 x y z) = some (x, y, z) := PP_dec hx hy hz
      have hl := text3_ge x y z
      have hl2 := text3_len x y z
      rw [hf, htx]
      clear hf htx hx hy hz
      generalize text3 x y z = tx at *
      have hsz : (⟨tx.toArray⟩ : ByteArray).size = tx.length := rfl
      generalize hst : (⟨tx.toArray⟩ : ByteArray) = st at *
      have hp2 : PP 3 (0, 0, 0) st.data.toList = some (x, y, z) := by rw [← hst]; exact hp
      clear hst hp
      have nb : Below w5.heap.size w5 (w5.alloc (.cells #[.int .i64 0, .string st] 30)) := (Below.refl _ _).alloc (Nat.le_refl _) _
      have b6 := below_keep b5 nb
      have hi6 := hi5.later nb
      obtain ⟨k0, k1⟩ := new_cells (w := w5) (T := 30) (x := .int .i64 0) (y := .string st)
      clear nb b5 hi5
      have HP := hide hp2
      have HL := hide hl
      have HI := hide hi6
      have B6 := hide b6
      have hst17 : st.size ≤ 17 := by omega
      have hg5 : decide ((5 : Int) ≤ (st.size : Int)) = true := by simp; omega
      clear hp2 hl hl2 hsz hi6 b6
      go_wp2_with fail
      generalize hwa : w5.alloc (.cells #[.int .i64 0, .string st] 30) = wa at *
      generalize w5.heap.size = s1 at *
      clear hwa
      refine (parse_any hst17).mono ?_
      rintro e w6 ⟨k, ao2, n2, c2, rfl, hr, hb6⟩
      rcases hr with ⟨-, h0⟩ | ⟨rfl, x', y', z', g, h0, rfl, rfl, hi7⟩
      · exact absurd ((unhide HP).symm.trans h0) (by simp)
      obtain ⟨rfl, rfl, rfl⟩ : x' = x ∧ y' = y ∧ z' = z := by simpa using h0.symm.trans (unhide HP)
      replace k0 := cell_keep hb6 k0
      replace k1 := cell_keep hb6 k1
      have nb : Below w6.heap.size w6 (w6.alloc (.cells #[.int .i64 0, .slice (some ⟨g, 0, none⟩) 3 c2] 27)) := (Below.refl _ _).alloc (Nat.le_refl _) _
      have HI7 := hide (hi7.later nb)
      have HI6 := hide (((unhide HI).later hb6).later nb)
      have B7 := hide (below_keep (below_keep (unhide B6) hb6) nb)
      replace k1 := cell_keep nb k1
      clear hi7 HI B6 hb6 nb k0 h0 HP
      go_wp2_with fail
      refine (nums_ints (unhide HI7) (unhide HI6)).mono ?_
      rintro e w8 ⟨rfl, hb8⟩
      have b8 := below_keep (unhide B7) hb8
      replace k1 := cell_keep hb8 k1
      clear HI7 HI6 B7 hb8
      go_wp2_with fail
      go_ret
      exact ⟨rfl, b8⟩
    · have nb : Below w5.heap.size w5 (w5.alloc (.cells #[.int .i64 (vecFault zs), .string ⟨(vecText zs).toArray⟩] 30)) := (Below.refl _ _).alloc (Nat.le_refl _) _
      have b6 := below_keep b5 nb
      have hi6 := hi5.later nb
      obtain ⟨k0, k1⟩ := new_cells (w := w5) (T := 30) (x := .int .i64 (vecFault zs)) (y := .string ⟨(vecText zs).toArray⟩)
      have hd : (vecFault zs != 0) = true := by simpa using hf
      have hq : (vecFault zs == vecFault zs) = true := by simp
      have M := fun W hW => modelText v zs W (hi6.later hW)
      simp only [str] at M
      clear nb b5 hi5 hi6 hf
      generalize vecFault zs = f at *
      generalize (⟨(vecText zs).toArray⟩ : ByteArray) = st at *
      go_wp2_with fail
      generalize hwa : w5.alloc (.cells #[.int .i64 f, .string st] 30) = wa at *
      generalize w5.heap.size = s1 at *
      have T1 : Hid (∀ W, Below wa.heap.size wa W → Calls Tryd.prog 10 #[v] W fun e w' => e = .returned (.agg #[.int .i64 f, .string st]) ∧ Below wa.heap.size wa w' ∧ w'.cell? ⟨s1, 0, none⟩ = some (.int .i64 f)) := fun W hW => (M W hW).mono fun e w' ⟨h1, h2⟩ => ⟨h1, below_keep hW h2, cell_keep (below_keep hW h2) k0⟩
      have hf1 := fieldt0 f st
      have B6 := hide b6
      clear hwa M b6 k1
      first
        | go_region_with (go_at_call 10; refine (unhide T1 _ ?_).mono ?_; (repeat (first | exact Below.refl _ _ | refine Below.drew ?_)); rintro e w7 ⟨rfl, hb7, k7⟩)
        | fail
      all_goals go_wp2_with fail
      all_goals go_ret
      all_goals refine ⟨rfl, below_keep (unhide B6) ?_⟩
      all_goals (repeat (first | assumption | refine Below.drew ?_))

theorem lawVecs_many (ao : Option Addr) (len cap : Nat) (w : World) (hn : 1048576 < len) :
    Calls Tryd.prog 3 #[.slice ao len cap] w fun e w' => e = .returned (.bool true) ∧ Below w.heap.size w w' := by
  go_enter Tryd.func3, Tryd.ntmps3
  go_wp2_with fail
  refine (big_yes ao len cap w hn).mono ?_
  rintro e w' ⟨rfl, rfl⟩
  go_wp2_with fail
  go_ret
  exact ⟨rfl, Below.refl _ _⟩

theorem lawVecs {a : Option Addr} {len cap : Nat} {zs : List Int} (w : World) (h : (a = none ∧ len = 0 ∧ cap = 0 ∧ zs = []) ∨
    ∃ x, a = some x ∧ len ≤ cap ∧ cap ≤ maxLen ∧ zs.length = cap ∧ (∀ i, i < zs.length → w.cell? (x.add i) = some (.int .u8 (zs.getD i 0))) ∧ ∀ n ∈ zs, (Lit.int .u8 n).wf = true) (ht : Tab w) :
    Calls Tryd.prog 3 #[.slice a len cap] w fun e w' => e = .returned (.bool true) ∧ Below w.heap.size w w' := by
  by_cases hn : len ≤ 1048576
  · exact lawVecs_few a len cap w (isCode_of_row h hn) hn ht
  · exact lawVecs_many a len cap w (by omega)

end Go.Proofs.YtgbhhaobioafaaaDoor
