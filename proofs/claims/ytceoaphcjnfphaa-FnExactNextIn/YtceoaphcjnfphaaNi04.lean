/-
  Texts of this proof in one: SpecBeside, LawNextIn, LayOpen, OpenChain.
  Their conditions stand in their theorems.
-/
import Derived.Test.YtceoaphcjnfphaaNi03
import Derived.Test.YtceoaphcjnfphaaNi02
import Derived.Test.YtceoaphcjnfphaaChecked
import Derived.Test.YtceoaphcjnfphaaNi01
import Derived.ProofKit
import Derived.OpenShut
import Derived.Deep.Slices

namespace Go.Proofs.Ytceoaphcjnfphaa
open Go.RowKit

set_option maxRecDepth 10000 in
set_option maxHeartbeats 1000000 in
theorem l10NextC (b : Nat) (a : Option Addr) (d : Nat) (x : DChain) (id dd : Int) (w : World) (hX : ChainAt w b (.slice a x.ids.length d) x) (R : (Lay.sl Lay.int).Reads w [.slice a x.ids.length d] x.ids) (hn : x.ids.length ≤ 1000) (hd : -1 ≤ dd ∧ dd ≤ 1) :
    Calls Try.prog 53 #[.pointer (some ⟨b, 0, none⟩), .int .i64 id, .int .i64 dd] w fun e w' => e = .returned (.int .i64 (nextC x.ids id dd)) ∧ w' = w := by
  have x1 := Box.at hX 1 _ rfl
  simp only [List.getElem_toArray, List.getElem_cons_zero, List.getElem_cons_succ] at x1
  have xl := Box.lt hX
  have HP := hide (l10AtC b a d x id w hX R)
  have H := hide R
  clear hX R
  go_enter Try.func53, Try.ntmps53
  go_wp2_with fail
  refine (unhide HP).mono ?_
  rintro e w1 ⟨rfl, h1⟩
  subst w1
  clear HP
  have hb := placeC_bd x.ids id
  have HV : Hid (nextC x.ids id dd = if placeC x.ids id < 0 ∨ placeC x.ids id + dd < 0 ∨ (x.ids.length : Int) ≤ placeC x.ids id + dd then 0 else x.ids.getD (placeC x.ids id + dd).toNat 0) := rfl
  generalize placeC x.ids id = p at *
  by_cases h0 : p < 0
  · have HF := hide ((unhide HV).trans (if_pos (Or.inl h0)))
    have hd0 : decide (p < 0) = true := by simpa using h0
    clear HV
    go_wp2_with fail
    go_ret
    exact ⟨by rw [unhide HF]; rfl, rfl⟩
  · have hd0 : decide (p < 0) = false := by simpa using h0
    by_cases h1 : p + dd < 0
    · have HF := hide ((unhide HV).trans (if_pos (Or.inr (Or.inl h1))))
      have hd1 : decide (p + dd < 0) = true := by simpa using h1
      clear HV
      go_wp2_with fail
      go_ret
      exact ⟨by rw [unhide HF]; rfl, rfl⟩
    · have hd1 : decide (p + dd < 0) = false := by simpa using h1
      by_cases h2 : (x.ids.length : Int) ≤ p + dd
      · have HF := hide ((unhide HV).trans (if_pos (Or.inr (Or.inr h2))))
        have hd2 : decide ((x.ids.length : Int) ≤ p + dd) = true := by simpa using h2
        clear HV
        go_wp2_with fail
        go_ret
        exact ⟨by rw [unhide HF]; rfl, rfl⟩
      · have hd2 : decide ((x.ids.length : Int) ≤ p + dd) = false := by simp; omega
        obtain ⟨m, hm⟩ : ∃ m : Nat, p + dd = (m : Int) := ⟨(p + dd).toNat, by omega⟩
        have hml : m < x.ids.length := by omega
        have HF : Hid (nextC x.ids id dd = x.ids[m]) := by
          refine (unhide HV).trans ?_
          rw [if_neg (by omega), hm]
          simp [List.getD, hml]
        obtain ⟨b2, off, rfl, -⟩ := Lay.sl_addr (unhide H) (by omega)
        have c1 := int_cell (unhide H) hml
        clear HV
        generalize x.ids[m] = z at *
        rw [hm] at hd1 hd2
        go_wp2_with fail
        go_ret
        exact ⟨by rw [unhide HF]; rfl, rfl⟩

set_option maxRecDepth 10000 in
set_option maxHeartbeats 1000000 in
theorem l10BesideC (b : Nat) (a : Option Addr) (d : Nat) (x : DChain) (id dd : Int) (w : World) (hX : ChainAt w b (.slice a x.ids.length d) x) (R : (Lay.sl Lay.int).Reads w [.slice a x.ids.length d] x.ids) (hd : -1 ≤ dd ∧ dd ≤ 1) :
    Calls Try.prog 39 #[.pointer (some ⟨b, 0, none⟩), .int .i64 id, .int .i64 dd] w fun e w' => e = .returned (.agg #[.int .i64 (besideR x id dd).code, .int .i64 (besideR x id dd).value]) ∧ Below w.heap.size w w' := by
  have nb : Below w.heap.size w (w.alloc (.cells #[.int .i64 0, .int .i64 0] 38)) := (Below.refl _ _).alloc (Nat.le_refl _) _
  have hX2 := hX.keep nb
  have R2 := R.later nb
  have HF := hide (l10FaultC b a d x _ hX2 R2)
  have HA := hide (l10AtC b a d x id _ hX2 R2)
  have HN : Hid (x.ids.length ≤ 1000 → _) := fun hn => l10NextC b a d x id dd _ hX2 R2 hn hd
  have HB : Hid (∀ u v, Below w.heap.size w (((w.alloc (.cells #[.int .i64 0, .int .i64 0] 38)).setCell ⟨w.heap.size, 0, none⟩ u).setCell ⟨w.heap.size, 1, none⟩ v)) := fun u v => (nb.setCell (p := ⟨w.heap.size, 0, none⟩) (Nat.le_refl _) u).setCell (p := ⟨w.heap.size, 1, none⟩) (Nat.le_refl _) v
  have bR : Box 0 #[.int .i64 0, .int .i64 0] 38 (w.alloc (.cells #[.int .i64 0, .int .i64 0] 38)) w.heap.size := newBox (Nat.zero_le _)
  have z0 := Box.at bR 0 _ rfl
  have z1 := Box.at bR 1 _ rfl
  simp only [List.getElem_toArray, List.getElem_cons_zero, List.getElem_cons_succ] at z0 z1
  have ff := Box.soft bR
  have l0 := Box.lt bR
  clear hX R hX2 R2 nb bR
  go_enter Try.func39, Try.ntmps39
  go_wp2_with fail
  generalize w.alloc (.cells #[.int .i64 0, .int .i64 0] 38) = W at *
  refine (unhide HF).mono ?_
  rintro e w1 ⟨rfl, h1⟩
  subst w1
  clear HF
  by_cases hc : chainFault x = 0
  · have HV : Hid (besideR x id dd = if placeC x.ids id < 0 then ⟨4, 0⟩ else if nextC x.ids id dd = 0 then ⟨8, 0⟩ else ⟨0, nextC x.ids id dd⟩) := by show besideR x id dd = _; rw [besideR, if_pos hc]
    have HNN := hide (unhide HN (by have := (chainFault_zero hc).len; omega))
    rw [hc]
    clear hc HN
    go_wp2_with fail
    refine (unhide HA).mono ?_
    rintro e w1 ⟨rfl, h1⟩
    subst w1
    clear HA
    generalize placeC x.ids id = p at *
    by_cases h0 : p < 0
    · have HV2 := hide ((unhide HV).trans (if_pos h0))
      have hd0 : decide (p < 0) = true := by simpa using h0
      clear HV
      go_wp2_with fail
      refine bodyPost_ret (v := .agg #[.int .i64 4, .int .i64 0]) (by simp [results, Try.results39, go_sem, z0, z1]) rfl ?_
      exact ⟨by rw [unhide HV2], unhide HB _ _⟩
    · have hd0 : decide (p < 0) = false := by simpa using h0
      have HV2 := hide ((unhide HV).trans (if_neg h0))
      clear HV
      go_wp2_with fail
      refine (unhide HNN).mono ?_
      rintro e w1 ⟨rfl, h1⟩
      subst w1
      clear HNN
      generalize nextC x.ids id dd = q at *
      by_cases hq : q = 0
      · have HV3 := hide ((unhide HV2).trans (if_pos hq))
        clear HV2
        subst hq
        go_wp2_with fail
        refine bodyPost_ret (v := .agg #[.int .i64 8, .int .i64 0]) (by simp [results, Try.results39, go_sem, z0, z1]) rfl ?_
        exact ⟨by rw [unhide HV3], unhide HB _ _⟩
      · have hq2 : (q == 0) = false := by simpa using hq
        have HV3 := hide ((unhide HV2).trans (if_neg hq))
        clear hq HV2
        go_wp2_with fail
        refine bodyPost_ret (v := .agg #[.int .i64 0, .int .i64 q]) (by simp [results, Try.results39, go_sem, z0, z1]) rfl ?_
        exact ⟨by rw [unhide HV3], unhide HB _ _⟩
  · have HV := hide (besideR_bad (id := id) (d := dd) hc)
    have hc2 : (chainFault x != 0) = true := by simpa using hc
    clear hc HA HN
    generalize chainFault x = f at *
    go_wp2_with fail
    refine bodyPost_ret (v := .agg #[.int .i64 f, .int .i64 0]) (by simp [results, Try.results39, go_sem, z0, z1]) rfl ?_
    exact ⟨by rw [unhide HV], unhide HB _ _⟩
set_option maxRecDepth 10000 in
set_option maxHeartbeats 1000000 in
theorem specNextIn (cs : List Value) (x : DChain) (id : Int) (w : World) (h : Lay.tChain.Reads w cs x) :
    Calls Try.prog 19 #[.agg cs.toArray, .int .i64 id] w fun e w' => ∃ cs, e = .returned (.agg cs.toArray) ∧ Lay.tIntResult.OwnIn w' cs (besideR x id 1) w.heap.size w'.heap.size ∧ Below w.heap.size w w' := by
  obtain ⟨a, d, rfl, R⟩ := open_Chain h
  have nb : Below w.heap.size w ((w.alloc (.cells #[.int .i64 x.epoch, .slice a x.ids.length d] 27)).alloc (.cells #[.int .i64 0, .int .i64 0] 38)) := ((Below.refl _ _).alloc (Nat.le_refl _) _).alloc (by simp) _
  have hX : ChainAt ((w.alloc (.cells #[.int .i64 x.epoch, .slice a x.ids.length d] 27)).alloc (.cells #[.int .i64 0, .int .i64 0] 38)) w.heap.size (.slice a x.ids.length d) x := (newBox (Nat.zero_le _)).grow _
  have bR : Box 0 #[.int .i64 0, .int .i64 0] 38 ((w.alloc (.cells #[.int .i64 x.epoch, .slice a x.ids.length d] 27)).alloc (.cells #[.int .i64 0, .int .i64 0] 38)) (w.heap.size + 1) := newBoxAt (Nat.zero_le _) (by simp)
  have HL := hide (l10BesideC w.heap.size a d x id 1 _ hX (R.later nb) (by omega))
  have HW : Hid ((Lit.int .i64 (besideR x id 1).code).wf = true ∧ (Lit.int .i64 (besideR x id 1).value).wf = true) := besideR_wf (int_wf R) id 1
  have HB := hide nb
  have HR := hide bR
  clear h R nb hX bR
  go_enter Try.func19, Try.ntmps19
  go_wp2_with fail
  generalize (w.alloc (.cells #[.int .i64 x.epoch, .slice a x.ids.length d] 27)).alloc (.cells #[.int .i64 0, .int .i64 0] 38) = W at *
  refine (unhide HL).mono ?_
  rintro e w1 ⟨rfl, hb⟩
  have bR := (unhide HR).keep hb
  have hlt := (unhide HR).lt
  have z0 := Box.at bR 0 _ rfl
  have z1 := Box.at bR 1 _ rfl
  simp only [List.getElem_toArray, List.getElem_cons_zero, List.getElem_cons_succ] at z0 z1
  have ff := Box.soft bR
  have l0 := Box.lt bR
  have HB2 := hide ((unhide HB).trans (hb.mono (unhide HB).size))
  clear HL HB HR bR hb
  have HO : Hid (∀ W', Lay.tIntResult.OwnIn W' [.int .i64 (besideR x id 1).code, .int .i64 (besideR x id 1).value] (besideR x id 1) w.heap.size W'.heap.size) := fun W' => own_intRC (unhide HW).1 (unhide HW).2
  generalize (besideR x id 1).code = yc at *
  generalize (besideR x id 1).value = yv at *
  go_wp2_with fail
  refine bodyPost_ret (v := .agg #[.int .i64 yc, .int .i64 yv]) (by simp [results, Try.results19, go_sem, z0, z1]) rfl ?_
  exact ⟨_, rfl, unhide HO _, ((unhide HB2).setCell (p := ⟨w.heap.size + 1, 0, none⟩) (by simp) _).setCell (p := ⟨w.heap.size + 1, 1, none⟩) (by simp) _⟩
set_option maxRecDepth 10000 in
set_option maxHeartbeats 1000000 in
theorem specPrevIn (cs : List Value) (x : DChain) (id : Int) (w : World) (h : Lay.tChain.Reads w cs x) :
    Calls Try.prog 22 #[.agg cs.toArray, .int .i64 id] w fun e w' => ∃ cs, e = .returned (.agg cs.toArray) ∧ Lay.tIntResult.OwnIn w' cs (besideR x id (-1)) w.heap.size w'.heap.size ∧ Below w.heap.size w w' := by
  obtain ⟨a, d, rfl, R⟩ := open_Chain h
  have nb : Below w.heap.size w ((w.alloc (.cells #[.int .i64 x.epoch, .slice a x.ids.length d] 27)).alloc (.cells #[.int .i64 0, .int .i64 0] 38)) := ((Below.refl _ _).alloc (Nat.le_refl _) _).alloc (by simp) _
  have hX : ChainAt ((w.alloc (.cells #[.int .i64 x.epoch, .slice a x.ids.length d] 27)).alloc (.cells #[.int .i64 0, .int .i64 0] 38)) w.heap.size (.slice a x.ids.length d) x := (newBox (Nat.zero_le _)).grow _
  have bR : Box 0 #[.int .i64 0, .int .i64 0] 38 ((w.alloc (.cells #[.int .i64 x.epoch, .slice a x.ids.length d] 27)).alloc (.cells #[.int .i64 0, .int .i64 0] 38)) (w.heap.size + 1) := newBoxAt (Nat.zero_le _) (by simp)
  have HL := hide (l10BesideC w.heap.size a d x id (-1) _ hX (R.later nb) (by omega))
  have HW : Hid ((Lit.int .i64 (besideR x id (-1)).code).wf = true ∧ (Lit.int .i64 (besideR x id (-1)).value).wf = true) := besideR_wf (int_wf R) id (-1)
  have HB := hide nb
  have HR := hide bR
  clear h R nb hX bR
  go_enter Try.func22, Try.ntmps22
  go_wp2_with fail
  generalize (w.alloc (.cells #[.int .i64 x.epoch, .slice a x.ids.length d] 27)).alloc (.cells #[.int .i64 0, .int .i64 0] 38) = W at *
  refine (unhide HL).mono ?_
  rintro e w1 ⟨rfl, hb⟩
  have bR := (unhide HR).keep hb
  have hlt := (unhide HR).lt
  have z0 := Box.at bR 0 _ rfl
  have z1 := Box.at bR 1 _ rfl
  simp only [List.getElem_toArray, List.getElem_cons_zero, List.getElem_cons_succ] at z0 z1
  have ff := Box.soft bR
  have l0 := Box.lt bR
  have HB2 := hide ((unhide HB).trans (hb.mono (unhide HB).size))
  clear HL HB HR bR hb
  have HO : Hid (∀ W', Lay.tIntResult.OwnIn W' [.int .i64 (besideR x id (-1)).code, .int .i64 (besideR x id (-1)).value] (besideR x id (-1)) w.heap.size W'.heap.size) := fun W' => own_intRC (unhide HW).1 (unhide HW).2
  generalize (besideR x id (-1)).code = yc at *
  generalize (besideR x id (-1)).value = yv at *
  go_wp2_with fail
  refine bodyPost_ret (v := .agg #[.int .i64 yc, .int .i64 yv]) (by simp [results, Try.results22, go_sem, z0, z1]) rfl ?_
  exact ⟨_, rfl, unhide HO _, ((unhide HB2).setCell (p := ⟨w.heap.size + 1, 0, none⟩) (by simp) _).setCell (p := ⟨w.heap.size + 1, 1, none⟩) (by simp) _⟩
end Go.Proofs.Ytceoaphcjnfphaa

namespace Go.Proofs.Ytceoaphcjnfphaa
open Go.RowKit

theorem lawNextIn (cs : List Value) (x : DChain) (id : Int) (w : World) (h : Lay.tChain.Reads w cs x) :
    Calls Try.prog 5 #[.agg cs.toArray, .int .i64 id] w fun e w' => e = .returned (.bool true) ∧ Below w.heap.size w w' := by
  by_cases hn : Lay.tChain.sz x ≤ 1048576
  · refine lawx_NextIn cs x id (besideR x id 1) w h hn (fun W a ha => (specNextIn a x id W ha).mono fun e w' q => ?_) (fun W a ha => implNextIn a x id W ha)
    obtain ⟨cs, q1, q2, q3⟩ := q
    exact ⟨cs, q1, q2.reads, q3⟩
  · exact lawover_NextIn cs x id w h (by omega)

end Go.Proofs.Ytceoaphcjnfphaa

namespace Go.Proofs.Ytceoaphcjnfphaa
open Go.RowKit Go.ChangeShapes Go.WideShapes

/-- Whatever reads as data of the type t lies as A says. -/
def Opens {α : Type} (A : Lay α) (t : TypeId) : Prop :=
  ∀ {H : Type} (enc : TypeId × Value → H) (W : World) (base : Nat) (spare : Nat → Bool) (held : Bool) (fuel : Nat) (cs : List Value) (x : DataW H × List MemPlace), DataW.trod enc Try.prog W base spare held fuel t cs = some x → ∃ y, A.Reads W cs y

theorem reads_pair {α β : Type} {A : Lay α} {B : Lay β} {W : World} {c1 c2 : List Value} {x : α} {y : β} (h : A.Reads W c1 x) (k : B.Reads W c2 y) : (Lay.pair A B).Reads W (c1 ++ c2) (x, y) := by
  obtain ⟨b1, h⟩ := h
  obtain ⟨b2, k⟩ := k
  exact ⟨b1 ++ b2, c1, c2, b1, b2, rfl, rfl, h, k⟩

theorem opens_int {t : TypeId} (ht : Try.prog.underlying t = some (.int .i64)) : Opens Lay.int t := by
  intro H enc W base spare held fuel cs x h
  obtain ⟨n, rfl, -, hw⟩ := DataW.trod_int ht h
  exact ⟨n, [], rfl, hw, rfl⟩
theorem opens_bool {t : TypeId} (ht : Try.prog.underlying t = some .bool) : Opens Lay.bool t := by
  intro H enc W base spare held fuel cs x h
  obtain ⟨b, rfl, -⟩ := DataW.trod_bool ht h
  exact ⟨b, [], rfl, rfl⟩
theorem opens_str {t : TypeId} (ht : Try.prog.underlying t = some .string) : Opens Lay.str t := by
  intro H enc W base spare held fuel cs x h
  obtain ⟨s, rfl, -, -⟩ := DataW.trod_string ht h
  exact ⟨s, [], rfl, rfl⟩

theorem opens_sl {α : Type} {A : Lay α} {t e : TypeId} (ht : Try.prog.underlying t = some (.slice e)) (hn : Try.prog.cellsOf e = A.n) (h0 : 0 < A.n) (h : Opens A e) : Opens (Lay.sl A) t := by
  intro H enc W base spare held fuel cs x hx
  rcases Go.Deep.open_slice ht hx with ⟨rfl, -⟩ | ⟨a, len, cap, m, n, D, Pl, rfl, hb, hl, hm, hmm, -, hel⟩
  · exact ⟨[], [], none, 0, rfl, ⟨Nat.le_refl _, by simp⟩, Or.inl ⟨rfl, rfl⟩⟩
  · have hlm : len ≤ m := by rw [hmm]; split <;> omega
    rw [hn] at hel
    have each : ∀ i, i < len → ∃ q : List Value × α, (∀ j, j < A.n → W.cell? (a.add (i * A.n + j)) = q.1[j]?) ∧ q.1.length = A.n ∧ A.Reads W q.1 q.2 := by
      intro i hi
      obtain ⟨cs', h1, h2⟩ := hel i (by omega)
      obtain ⟨-, hlen, hc⟩ := World.cells?_some h1
      obtain ⟨y, hy⟩ := h enc W base spare held n cs' _ h2
      refine ⟨(cs', y), fun j hj => ?_, hlen, hy⟩
      have := hc j hj
      rw [Addr.add_add] at this
      exact this
    by_cases hp : 0 < len
    · obtain ⟨b, off, spot⟩ := a
      obtain ⟨q0, c0, l0, -⟩ := each 0 hp
      have hc0 := c0 0 h0
      have hs0 : ∃ v, W.cell? ((⟨b, off, spot⟩ : Addr).add (0 * A.n + 0)) = some v := ⟨_, hc0.trans (List.getElem?_eq_getElem (by omega))⟩
      obtain ⟨v0, hv0⟩ := hs0
      have hspot : spot = none := by simpa [Addr.add] using World.cell?_spot hv0
      subst hspot
      have hbl : b < W.heap.size := by
        have := World.block_lt_of_cell? _ _ hv0
        simpa [Addr.add] using this
      have pick : ∃ f : (i : Nat) → i < len → List Value × α, ∀ i (hi : i < len), (∀ j, j < A.n → W.cell? ((⟨b, off, none⟩ : Addr).add (i * A.n + j)) = (f i hi).1[j]?) ∧ (f i hi).1.length = A.n ∧ A.Reads W (f i hi).1 (f i hi).2 :=
        ⟨fun i hi => Classical.choose (each i hi), fun i hi => Classical.choose_spec (each i hi)⟩
      obtain ⟨f, hf⟩ := pick
      have pick2 : ∃ g : (i : Nat) → i < len → List Nat, ∀ i (hi : i < len), A.lies W (f i hi).1 (f i hi).2 (g i hi) :=
        ⟨fun i hi => Classical.choose (hf i hi).2.2, fun i hi => Classical.choose_spec (hf i hi).2.2⟩
      obtain ⟨g, hg⟩ := pick2
      refine ⟨(List.finRange len).map (fun i => (f i.1 i.2).2), b :: ((List.finRange len).map (fun i => g i.1 i.2)).flatten, some ⟨b, off, none⟩, cap, by simp, ⟨by simpa using hl, by simp; unfold maxLen at hm; omega⟩, Or.inr ⟨b, off, (List.finRange len).map (fun i => (f i.1 i.2).1), (List.finRange len).map (fun i => g i.1 i.2), rfl, hbl, rfl, by simp, by simp, fun j h1 h2 h3 => ?_⟩⟩
      have hj : j < len := by simpa using h1
      refine ⟨fun k hk => ?_, ?_⟩
      · have := (hf j hj).1 k hk
        rw [Addr.add_lit] at this
        simpa [Nat.add_assoc] using this
      · simpa using hg j hj
    · obtain rfl : len = 0 := by omega
      exact ⟨[], [], some a, cap, rfl, ⟨hl, by simp⟩, Or.inl ⟨rfl, rfl⟩⟩

theorem open_arg {α : Type} {A : Lay α} {t : TypeId} (O : Opens A t) {H : Type} {enc : TypeId × Value → H} {W : World} {base : Nat} {spare : Nat → Bool} {held : Bool} {a : Option Addr} {len cap : Nat} {d : DataW H} {p : List MemPlace}
    (h : DataW.Trod enc Try.prog W base spare held t (.slice a len cap) d p) : ∃ y, A.Reads W [.slice a len cap] y := by
  obtain ⟨fuel, hf⟩ := h
  exact O enc W base spare held fuel _ _ (by simpa [Value.cells] using hf)
theorem open_arg_st {α : Type} {A : Lay α} {t : TypeId} (O : Opens A t) {H : Type} {enc : TypeId × Value → H} {W : World} {base : Nat} {spare : Nat → Bool} {held : Bool} {cs : Array Value} {d : DataW H} {p : List MemPlace}
    (h : DataW.Trod enc Try.prog W base spare held t (.agg cs) d p) : ∃ y, A.Reads W cs.toList y := by
  obtain ⟨fuel, hf⟩ := h
  exact O enc W base spare held fuel _ _ (by simpa [Value.cells] using hf)

end Go.Proofs.Ytceoaphcjnfphaa

namespace Go.Proofs.Ytceoaphcjnfphaa
open Go.RowKit

set_option maxRecDepth 10000 in
theorem opens_Chain : Opens Lay.tChain 24 := by
  intro H enc W base spare held fuel cs x h
  obtain ⟨xs, n, _, _, hlen, hl, hfi⟩ := DataW.trod_struct Try.underlying24 h
  rw [show Try.prog.cellsOf 24 = 2 by kernel_rfl] at hlen
  match cs, hlen with
  | [c0, c1], _ =>
  match xs, hl with
  | [y0, y1], _ =>
  have z0 : Try.prog.cellsOf 2 = 1 := by kernel_rfl
  have z1 : Try.prog.cellsOf 22 = 1 := by kernel_rfl
  have f0 : DataW.trod enc Try.prog W base spare held n 2 (([c0, c1].drop 0).take (Try.prog.cellsOf 2)) = some y0 := hfi 0 _ rfl
  rw [z0] at f0
  obtain ⟨d0, r0⟩ := (opens_int Try.underlying2) enc W base spare held n _ _ f0
  have f1 : DataW.trod enc Try.prog W base spare held n 22 (([c0, c1].drop 1).take (Try.prog.cellsOf 22)) = some y1 := hfi 1 _ rfl
  rw [z1] at f1
  obtain ⟨d1, r1⟩ := (opens_sl Try.underlying22 (by kernel_rfl) (by decide) (opens_int Try.underlying2)) enc W base spare held n _ _ f1
  exact ⟨⟨d0, d1⟩, (reads_pair r0 r1)⟩

end Go.Proofs.Ytceoaphcjnfphaa
