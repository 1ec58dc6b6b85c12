/-
  Texts of this proof in one: SpecFault7, SpecIvfF, LawIvfF, LayOpen, OpenCenter, OpenItem, OpenIvfList, OpenIvf.
  Their conditions stand in their theorems.
-/
import Derived.Test.YtfgadegpdknocaaIq10
import Derived.Test.YtfgadegpdknocaaIq11
import Derived.BigQuiet
import Derived.Deep.QuietTactic
import Derived.Test.YtfgadegpdknocaaIq04
import Derived.Test.YtfgadegpdknocaaChecked
import Derived.Test.YtfgadegpdknocaaIq01
import Derived.ProofKit
import Derived.OpenShut
import Derived.Deep.Slices
import Derived.Test.YtfgadegpdknocaaIq02

namespace Go.Proofs.Ytfgadegpdknocaa
open Go.RowKit

set_option maxRecDepth 100000 in
set_option maxHeartbeats 4000000 in
theorem specFault7 (b : Nat) (x : DIvf) (ac : Option Addr) (dc : Nat) (al : Option Addr) (dl : Nat) (w : World) (h : IvfAt w b x ac dc al dl) :
    Calls Try.prog 55 #[.pointer (some ⟨b, 0, none⟩)] w fun e w' => e = .returned (.int .i64 (ivfFault x)) ∧ Below w.heap.size w w' := by
  generalize hF0 : ivfFault x = F0
  have HF0 := hide hF0
  have HX := hide h
  have c0 := h.c0
  have c1 := h.c1
  have L1 := hide (specCen _ x.centers w h.cens)
  clear h hF0
  go_enter Try.func55, Try.ntmps55
  go_wp2_with fail
  refine (unhide L1).mono ?_
  rintro e w1 ⟨rfl, hb1⟩
  have HX1 := hide ((unhide HX).later hb1)
  have HB := hide hb1
  clear c0 c1 L1 hb1
  by_cases hcf : centersFault x.centers = 0
  · rw [hcf]
    have c0 := (unhide HX1).c0
    have c1 := (unhide HX1).c1
    have HCF := hide hcf
    by_cases hne : x.lists.length = x.centers.length
    · have hd : ((x.lists.length : Int) != (x.centers.length : Int)) = false := by rw [hne]; simp
      have hn6 : x.lists.length ≤ 6 := by rw [hne]; exact (centersFault_zero hcf).1.2
      have HNE : Hid (x.lists.length = x.centers.length) := hne
      clear hcf hne
      go_wp2_with fail
      go_quiet (fail)
      clear c0 c1 hd
      go_wp2_with fail
      refine (specLists7 b x ac dc al dl _ ((unhide HX1).later (below_drawn (Below.refl _ _) _)) (unhide HCF) (by omega)).mono ?_
      rintro e w3 ⟨rfl, hb3⟩
      have HX3 := hide (((unhide HX1).later (below_drawn (Below.refl _ _) _)).later hb3)
      replace HB := hide ((below_drawn (unhide HB) _).trans (hb3.mono (unhide HB).size))
      clear hb3 HX1
      by_cases hlf : listsFrom x.centers 0 x.lists = 0
      · rw [hlf]
        have HLF := hide hlf
        have HTF := hide (list_facts (x := x) hlf)
        clear hlf
        have HCB : Hid (∀ k, countIs (x.lists.take k) ≤ 180) := fun k => by
          have h1 := countIs_le (ls := x.lists.take k) (fun l hm => (tableFault_zero (unhide HTF l (List.mem_of_mem_take hm))).1)
          have h2 : (x.lists.take k).length ≤ 6 := by simp; omega
          omega
        go_wp2_with fail
        go_loopw [5, 6] (fun n i wr => ∃ k : Nat, k ≤ x.lists.length ∧ i = .int .i64 k ∧ n = .int .i64 (countIs (x.lists.take k) : Nat) ∧ wr = w3) (fun _ i _ => x.lists.length - (intOf i).toNat)
        case atStart => exact ⟨0, Nat.zero_le _, rfl, rfl, rfl⟩
        case round =>
          obtain ⟨k, hk, rfl, rfl, rfl⟩ := hrel
          have c1 := (unhide HX3).c1
          by_cases hlt : k < x.lists.length
          · obtain ⟨bl, ol, rfl, hbl⟩ := Lay.sl_addr (unhide HX3).lists (by omega)
            obtain ⟨row, hc, hr⟩ := Lay.row_at (unhide HX3).lists hlt
            obtain ⟨a5, d5, rfl, -⟩ := open_IvfList hr
            have c2 : wr.cell? ⟨bl, ol + k, none⟩ = some (.slice a5 (x.lists[k]).items.length d5) := one_cell (hc 0 (by decide))
            have hstep := countIs_take x.lists k hlt
            have hcb := unhide HCB (k + 1)
            rw [hstep] at hcb
            have HST := hide hstep
            clear hc hr hstep
            generalize (x.lists[k]).items.length = m at *
            generalize countIs (x.lists.take k) = n at *
            go_wp2_with fail
            go_roundw
            case rel => exact ⟨k + 1, by omega, by go_num, by rw [unhide HST]; go_num, by simp⟩
            case measure => simp [intOf]; omega
          · obtain rfl : k = x.lists.length := by omega
            rw [List.take_length]
            have LI := hide (specItems7 b x ac dc al dl wr (unhide HX3) (unhide HTF) hn6)
            have hc180 := unhide HCB x.lists.length
            rw [List.take_length] at hc180
            go_wp2_with fail
            clear c1
            refine (unhide LI).mono ?_
            rintro e w5 ⟨v5, rfl, hO5, hb5⟩
            obtain ⟨a5, d5, rfl⟩ := open_sl hO5.reads
            replace HB := hide ((unhide HB).trans (hb5.mono (unhide HB).size))
            clear hO5 hb5 LI
            by_cases hal : (allIs x.lists).length = countIs x.lists
            · have hd2 : (((allIs x.lists).length : Int) != ((countIs x.lists : Nat) : Int)) = false := by rw [hal]; simp
              by_cases h30 : countIs x.lists ≤ 30
              · have hd3 : decide ((30 : Int) < ((countIs x.lists : Nat) : Int)) = false := by simp; omega
                have HF1 : Hid (0 = F0) := by
                  have := unhide HF0
                  rw [ivfFault, if_pos (unhide HCF), if_pos (unhide HNE), if_pos (unhide HLF), if_pos hal, if_pos h30] at this
                  exact this
                clear hal h30
                go_wp2_with fail
                go_ret
                exact ⟨by rw [← unhide HF1]; rfl, unhide HB⟩
              · have hd3 : decide ((30 : Int) < ((countIs x.lists : Nat) : Int)) = true := by simp; omega
                have HF1 : Hid (2 = F0) := by
                  have := unhide HF0
                  rw [ivfFault, if_pos (unhide HCF), if_pos (unhide HNE), if_pos (unhide HLF), if_pos hal, if_neg h30] at this
                  exact this
                clear hal h30
                go_wp2_with fail
                go_ret
                exact ⟨by rw [← unhide HF1]; rfl, unhide HB⟩
            · have hd2 : (((allIs x.lists).length : Int) != ((countIs x.lists : Nat) : Int)) = true := by rw [bne_iff_ne]; omega
              have HF1 : Hid (6 = F0) := by
                have := unhide HF0
                rw [ivfFault, if_pos (unhide HCF), if_pos (unhide HNE), if_pos (unhide HLF), if_neg hal] at this
                exact this
              clear hal
              go_wp2_with fail
              go_ret
              exact ⟨by rw [← unhide HF1]; rfl, unhide HB⟩
      · have hd2 : (listsFrom x.centers 0 x.lists != 0) = true := by simpa using hlf
        have HF1 : Hid (listsFrom x.centers 0 x.lists = F0) := by
          have := unhide HF0
          rw [ivfFault, if_pos (unhide HCF), if_pos (unhide HNE), if_neg hlf] at this
          exact this
        clear hlf
        go_wp2_with fail
        go_ret
        exact ⟨by rw [← unhide HF1]; rfl, unhide HB⟩
    · have hd : ((x.lists.length : Int) != (x.centers.length : Int)) = true := by rw [bne_iff_ne]; omega
      have HF1 : Hid (1 = F0) := by
        have := unhide HF0
        rw [ivfFault, if_pos hcf, if_neg hne] at this
        exact this
      clear hcf hne HCF
      go_wp2_with fail
      go_quiet (fail)
      go_wp2_with fail
      go_ret
      exact ⟨by rw [← unhide HF1]; rfl, below_drewN (unhide HB) _⟩
  · have hd : (centersFault x.centers != 0) = true := by simpa using hcf
    have HF1 : Hid (centersFault x.centers = F0) := by
      have := unhide HF0
      rw [ivfFault, if_neg hcf] at this
      exact this
    clear hcf
    go_wp2_with fail
    go_ret
    exact ⟨by rw [← unhide HF1]; rfl, unhide HB⟩

end Go.Proofs.Ytfgadegpdknocaa

namespace Go.Proofs.Ytfgadegpdknocaa
open Go.RowKit

theorem specIvfF (cs : List Value) (x : DIvf) (w : World) (h : Lay.tIvf.Reads w cs x) :
    Calls Try.prog 10 #[.agg cs.toArray] w fun e w' => e = .returned (.int .i64 (ivfFault x)) ∧ Below w.heap.size w w' := by
  obtain ⟨ac, dc, al, dl, rfl, R0, R1⟩ := open_Ivf h
  have nb : Below w.heap.size w (w.alloc (.cells #[.slice ac x.centers.length dc, .slice al x.lists.length dl] 31)) := (Below.refl _ _).alloc (Nat.le_refl _) _
  have bx : Box w.heap.size #[.slice ac x.centers.length dc, .slice al x.lists.length dl] 31 (w.alloc (.cells #[.slice ac x.centers.length dc, .slice al x.lists.length dl] 31)) w.heap.size := newBox (Nat.le_refl _)
  have L := hide (specFault7 w.heap.size x ac dc al dl _ (ivfAt_box bx (R0.later nb) (R1.later nb)))
  have HB := hide nb
  clear h R0 R1 nb bx
  go_enter Try.func10, Try.ntmps10
  go_wp2_with fail
  refine (unhide L).mono ?_
  rintro e w1 ⟨rfl, hb⟩
  replace HB := hide ((unhide HB).trans (hb.mono (unhide HB).size))
  clear hb L
  go_wp2_with fail
  go_ret
  exact ⟨rfl, unhide HB⟩

end Go.Proofs.Ytfgadegpdknocaa

namespace Go.Proofs.Ytfgadegpdknocaa
open Go.RowKit

theorem lawIvfF (cs : List Value) (x : DIvf) (w : World) (h : Lay.tIvf.Reads w cs x) :
    Calls Try.prog 3 #[.agg cs.toArray] w fun e w' => e = .returned (.bool true) ∧ Below w.heap.size w w' := by
  by_cases hn : Lay.tIvf.sz x ≤ 1048576
  · exact lawx_IvfFault cs x (ivfFault x) w h hn (fun W a ha => specIvfF a x W ha) (fun W a ha => implIvfF a x W ha)
  · exact lawover_IvfFault cs x w h (by omega)

end Go.Proofs.Ytfgadegpdknocaa

namespace Go.Proofs.Ytfgadegpdknocaa
open Go.RowKit Go.ChangeShapes Go.WideShapes

/-- Whatever reads as data of the type t lies as A says. -/
def Opens {α : Type} (A : Lay α) (t : TypeId) : Prop :=
  ∀ {H : Type} (enc : TypeId × Value → H) (W : World) (base : Nat) (spare : Nat → Bool) (held : Bool) (fuel : Nat) (cs : List Value) (x : DataW H × List MemPlace), DataW.trod enc Try.prog W base spare held fuel t cs = some x → ∃ y, A.Reads W cs y

theorem reads_pair {α β : Type} {A : Lay α} {B : Lay β} {W : World} {c1 c2 : List Value} {x : α} {y : β} (h : A.Reads W c1 x) (k : B.Reads W c2 y) : (Lay.pair A B).Reads W (c1 ++ c2) (x, y) := by
  obtain ⟨b1, h⟩ := h
  obtain ⟨b2, k⟩ := k
  exact ⟨b1 ++ b2, c1, c2, b1, b2, rfl, rfl, h, k⟩

theorem opens_int {t : TypeId} (ht : Try.prog.underlying t = some (.int .i64)) : Opens Lay.int t := by
  intro H enc W base spare held fuel cs x h
  obtain ⟨n, rfl, -, hw⟩ := DataW.trod_int ht h
  exact ⟨n, [], rfl, hw, rfl⟩
theorem opens_bool {t : TypeId} (ht : Try.prog.underlying t = some .bool) : Opens Lay.bool t := by
  intro H enc W base spare held fuel cs x h
  obtain ⟨b, rfl, -⟩ := DataW.trod_bool ht h
  exact ⟨b, [], rfl, rfl⟩
theorem opens_str {t : TypeId} (ht : Try.prog.underlying t = some .string) : Opens Lay.str t := by
  intro H enc W base spare held fuel cs x h
  obtain ⟨s, rfl, -, -⟩ := DataW.trod_string ht h
  exact ⟨s, [], rfl, rfl⟩

theorem opens_sl {α : Type} {A : Lay α} {t e : TypeId} (ht : Try.prog.underlying t = some (.slice e)) (hn : Try.prog.cellsOf e = A.n) (h0 : 0 < A.n) (h : Opens A e) : Opens (Lay.sl A) t := by
  intro H enc W base spare held fuel cs x hx
  rcases Go.Deep.open_slice ht hx with ⟨rfl, -⟩ | ⟨a, len, cap, m, n, D, Pl, rfl, hb, hl, hm, hmm, -, hel⟩
  · exact ⟨[], [], none, 0, rfl, ⟨Nat.le_refl _, by simp⟩, Or.inl ⟨rfl, rfl⟩⟩
  · have hlm : len ≤ m := by rw [hmm]; split <;> omega
    rw [hn] at hel
    have each : ∀ i, i < len → ∃ q : List Value × α, (∀ j, j < A.n → W.cell? (a.add (i * A.n + j)) = q.1[j]?) ∧ q.1.length = A.n ∧ A.Reads W q.1 q.2 := by
      intro i hi
      obtain ⟨cs', h1, h2⟩ := hel i (by omega)
      obtain ⟨-, hlen, hc⟩ := World.cells?_some h1
      obtain ⟨y, hy⟩ := h enc W base spare held n cs' _ h2
      refine ⟨(cs', y), fun j hj => ?_, hlen, hy⟩
      have := hc j hj
      rw [Addr.add_add] at this
      exact this
    by_cases hp : 0 < len
    · obtain ⟨b, off, spot⟩ := a
      obtain ⟨q0, c0, l0, -⟩ := each 0 hp
      have hc0 := c0 0 h0
      have hs0 : ∃ v, W.cell? ((⟨b, off, spot⟩ : Addr).add (0 * A.n + 0)) = some v := ⟨_, hc0.trans (List.getElem?_eq_getElem (by omega))⟩
      obtain ⟨v0, hv0⟩ := hs0
      have hspot : spot = none := by simpa [Addr.add] using World.cell?_spot hv0
      subst hspot
      have hbl : b < W.heap.size := by
        have := World.block_lt_of_cell? _ _ hv0
        simpa [Addr.add] using this
      have pick : ∃ f : (i : Nat) → i < len → List Value × α, ∀ i (hi : i < len), (∀ j, j < A.n → W.cell? ((⟨b, off, none⟩ : Addr).add (i * A.n + j)) = (f i hi).1[j]?) ∧ (f i hi).1.length = A.n ∧ A.Reads W (f i hi).1 (f i hi).2 :=
        ⟨fun i hi => Classical.choose (each i hi), fun i hi => Classical.choose_spec (each i hi)⟩
      obtain ⟨f, hf⟩ := pick
      have pick2 : ∃ g : (i : Nat) → i < len → List Nat, ∀ i (hi : i < len), A.lies W (f i hi).1 (f i hi).2 (g i hi) :=
        ⟨fun i hi => Classical.choose (hf i hi).2.2, fun i hi => Classical.choose_spec (hf i hi).2.2⟩
      obtain ⟨g, hg⟩ := pick2
      refine ⟨(List.finRange len).map (fun i => (f i.1 i.2).2), b :: ((List.finRange len).map (fun i => g i.1 i.2)).flatten, some ⟨b, off, none⟩, cap, by simp, ⟨by simpa using hl, by simp; unfold maxLen at hm; omega⟩, Or.inr ⟨b, off, (List.finRange len).map (fun i => (f i.1 i.2).1), (List.finRange len).map (fun i => g i.1 i.2), rfl, hbl, rfl, by simp, by simp, fun j h1 h2 h3 => ?_⟩⟩
      have hj : j < len := by simpa using h1
      refine ⟨fun k hk => ?_, ?_⟩
      · have := (hf j hj).1 k hk
        rw [Addr.add_lit] at this
        simpa [Nat.add_assoc] using this
      · simpa using hg j hj
    · obtain rfl : len = 0 := by omega
      exact ⟨[], [], some a, cap, rfl, ⟨hl, by simp⟩, Or.inl ⟨rfl, rfl⟩⟩

theorem open_arg {α : Type} {A : Lay α} {t : TypeId} (O : Opens A t) {H : Type} {enc : TypeId × Value → H} {W : World} {base : Nat} {spare : Nat → Bool} {held : Bool} {a : Option Addr} {len cap : Nat} {d : DataW H} {p : List MemPlace}
    (h : DataW.Trod enc Try.prog W base spare held t (.slice a len cap) d p) : ∃ y, A.Reads W [.slice a len cap] y := by
  obtain ⟨fuel, hf⟩ := h
  exact O enc W base spare held fuel _ _ (by simpa [Value.cells] using hf)
theorem open_arg_st {α : Type} {A : Lay α} {t : TypeId} (O : Opens A t) {H : Type} {enc : TypeId × Value → H} {W : World} {base : Nat} {spare : Nat → Bool} {held : Bool} {cs : Array Value} {d : DataW H} {p : List MemPlace}
    (h : DataW.Trod enc Try.prog W base spare held t (.agg cs) d p) : ∃ y, A.Reads W cs.toList y := by
  obtain ⟨fuel, hf⟩ := h
  exact O enc W base spare held fuel _ _ (by simpa [Value.cells] using hf)

end Go.Proofs.Ytfgadegpdknocaa

namespace Go.Proofs.Ytfgadegpdknocaa
open Go.RowKit

set_option maxRecDepth 10000 in
theorem opens_Center : Opens Lay.tCenter 98 := by
  intro H enc W base spare held fuel cs x h
  obtain ⟨xs, n, _, _, hlen, hl, hfi⟩ := DataW.trod_struct Try.underlying98 h
  rw [show Try.prog.cellsOf 98 = 1 by kernel_rfl] at hlen
  match cs, hlen with
  | [c0], _ =>
  match xs, hl with
  | [y0], _ =>
  have z0 : Try.prog.cellsOf 51 = 1 := by kernel_rfl
  have f0 : DataW.trod enc Try.prog W base spare held n 51 (([c0].drop 0).take (Try.prog.cellsOf 51)) = some y0 := hfi 0 _ rfl
  rw [z0] at f0
  obtain ⟨d0, r0⟩ := (opens_sl Try.underlying51 (by kernel_rfl) (by decide) (opens_int Try.underlying2)) enc W base spare held n _ _ f0
  exact ⟨⟨d0⟩, r0⟩

end Go.Proofs.Ytfgadegpdknocaa

namespace Go.Proofs.Ytfgadegpdknocaa
open Go.RowKit

set_option maxRecDepth 10000 in
theorem opens_Item : Opens Lay.tItem 101 := by
  intro H enc W base spare held fuel cs x h
  obtain ⟨xs, n, _, _, hlen, hl, hfi⟩ := DataW.trod_struct Try.underlying101 h
  rw [show Try.prog.cellsOf 101 = 2 by kernel_rfl] at hlen
  match cs, hlen with
  | [c0, c1], _ =>
  match xs, hl with
  | [y0, y1], _ =>
  have z0 : Try.prog.cellsOf 2 = 1 := by kernel_rfl
  have z1 : Try.prog.cellsOf 51 = 1 := by kernel_rfl
  have f0 : DataW.trod enc Try.prog W base spare held n 2 (([c0, c1].drop 0).take (Try.prog.cellsOf 2)) = some y0 := hfi 0 _ rfl
  rw [z0] at f0
  obtain ⟨d0, r0⟩ := (opens_int Try.underlying2) enc W base spare held n _ _ f0
  have f1 : DataW.trod enc Try.prog W base spare held n 51 (([c0, c1].drop 1).take (Try.prog.cellsOf 51)) = some y1 := hfi 1 _ rfl
  rw [z1] at f1
  obtain ⟨d1, r1⟩ := (opens_sl Try.underlying51 (by kernel_rfl) (by decide) (opens_int Try.underlying2)) enc W base spare held n _ _ f1
  exact ⟨⟨d0, d1⟩, (reads_pair r0 r1)⟩

end Go.Proofs.Ytfgadegpdknocaa

namespace Go.Proofs.Ytfgadegpdknocaa
open Go.RowKit

set_option maxRecDepth 10000 in
theorem opens_IvfList : Opens Lay.tIvfList 145 := by
  intro H enc W base spare held fuel cs x h
  obtain ⟨xs, n, _, _, hlen, hl, hfi⟩ := DataW.trod_struct Try.underlying145 h
  rw [show Try.prog.cellsOf 145 = 1 by kernel_rfl] at hlen
  match cs, hlen with
  | [c0], _ =>
  match xs, hl with
  | [y0], _ =>
  have z0 : Try.prog.cellsOf 35 = 1 := by kernel_rfl
  have f0 : DataW.trod enc Try.prog W base spare held n 35 (([c0].drop 0).take (Try.prog.cellsOf 35)) = some y0 := hfi 0 _ rfl
  rw [z0] at f0
  obtain ⟨d0, r0⟩ := (opens_sl Try.underlying35 (by kernel_rfl) (by decide) opens_Item) enc W base spare held n _ _ f0
  exact ⟨⟨d0⟩, r0⟩

end Go.Proofs.Ytfgadegpdknocaa

namespace Go.Proofs.Ytfgadegpdknocaa
open Go.RowKit

set_option maxRecDepth 10000 in
theorem opens_Ivf : Opens Lay.tIvf 25 := by
  intro H enc W base spare held fuel cs x h
  obtain ⟨xs, n, _, _, hlen, hl, hfi⟩ := DataW.trod_struct Try.underlying25 h
  rw [show Try.prog.cellsOf 25 = 2 by kernel_rfl] at hlen
  match cs, hlen with
  | [c0, c1], _ =>
  match xs, hl with
  | [y0, y1], _ =>
  have z0 : Try.prog.cellsOf 22 = 1 := by kernel_rfl
  have z1 : Try.prog.cellsOf 23 = 1 := by kernel_rfl
  have f0 : DataW.trod enc Try.prog W base spare held n 22 (([c0, c1].drop 0).take (Try.prog.cellsOf 22)) = some y0 := hfi 0 _ rfl
  rw [z0] at f0
  obtain ⟨d0, r0⟩ := (opens_sl Try.underlying22 (by kernel_rfl) (by decide) opens_Center) enc W base spare held n _ _ f0
  have f1 : DataW.trod enc Try.prog W base spare held n 23 (([c0, c1].drop 1).take (Try.prog.cellsOf 23)) = some y1 := hfi 1 _ rfl
  rw [z1] at f1
  obtain ⟨d1, r1⟩ := (opens_sl Try.underlying23 (by kernel_rfl) (by decide) opens_IvfList) enc W base spare held n _ _ f1
  exact ⟨⟨d0, d1⟩, (reads_pair r0 r1)⟩

end Go.Proofs.Ytfgadegpdknocaa
