/-
  Texts of this proof in one: LayOpen, ImplStory, ImplOnce, ImplWrF, ImplNodeF, ImplClone, CloneC, ImplCopied, ImplNodeOf, AsCall, AsMiss, OwnOnceResult, ImplApp, ImplTake.
  Their conditions stand in their theorems.
-/
import Derived.Test.YtbogjepkdcknfaaDoorChecked
import Derived.Test.YtbogjepkdcknfaaDoorTk01
import Derived.ProofKit
import Derived.OpenShut
import Derived.Deep.Slices
import Derived.Test.YtbogjepkdcknfaaDoorTk06
import Derived.Carry
import Derived.Deep.RegionHeld3
import Derived.Test.YtbogjepkdcknfaaDoorTk04
import Derived.BigQuiet
import Derived.Deep.QuietTactic
import Derived.WalkSmall
import Derived.WalkKit
import Derived.Test.YtbogjepkdcknfaaDoorTk02
import Derived.Laws.Tables
import Derived.Test.YtbogjepkdcknfaaDoorTk03

namespace Go.Proofs.YtbogjepkdcknfaaDoor
open Go.RowKit Go.ChangeShapes Go.WideShapes

/-- Whatever reads as data of the type t lies as A says. -/
def Opens {α : Type} (A : Lay α) (t : TypeId) : Prop :=
  ∀ {H : Type} (enc : TypeId × Value → H) (W : World) (base : Nat) (spare : Nat → Bool) (held : Bool) (fuel : Nat) (cs : List Value) (x : DataW H × List MemPlace), DataW.trod enc Tryd.prog W base spare held fuel t cs = some x → ∃ y, A.Reads W cs y

theorem reads_pair {α β : Type} {A : Lay α} {B : Lay β} {W : World} {c1 c2 : List Value} {x : α} {y : β} (h : A.Reads W c1 x) (k : B.Reads W c2 y) : (Lay.pair A B).Reads W (c1 ++ c2) (x, y) := by
  obtain ⟨b1, h⟩ := h
  obtain ⟨b2, k⟩ := k
  exact ⟨b1 ++ b2, c1, c2, b1, b2, rfl, rfl, h, k⟩

theorem opens_int {t : TypeId} (ht : Tryd.prog.underlying t = some (.int .i64)) : Opens Lay.int t := by
  intro H enc W base spare held fuel cs x h
  obtain ⟨n, rfl, -, hw⟩ := DataW.trod_int ht h
  exact ⟨n, [], rfl, hw, rfl⟩
theorem opens_bool {t : TypeId} (ht : Tryd.prog.underlying t = some .bool) : Opens Lay.bool t := by
  intro H enc W base spare held fuel cs x h
  obtain ⟨b, rfl, -⟩ := DataW.trod_bool ht h
  exact ⟨b, [], rfl, rfl⟩
theorem opens_str {t : TypeId} (ht : Tryd.prog.underlying t = some .string) : Opens Lay.str t := by
  intro H enc W base spare held fuel cs x h
  obtain ⟨s, rfl, -, -⟩ := DataW.trod_string ht h
  exact ⟨s, [], rfl, rfl⟩

theorem opens_sl {α : Type} {A : Lay α} {t e : TypeId} (ht : Tryd.prog.underlying t = some (.slice e)) (hn : Tryd.prog.cellsOf e = A.n) (h0 : 0 < A.n) (h : Opens A e) : Opens (Lay.sl A) t := by
  intro H enc W base spare held fuel cs x hx
  rcases Go.Deep.open_slice ht hx with ⟨rfl, -⟩ | ⟨a, len, cap, m, n, D, Pl, rfl, hb, hl, hm, hmm, -, hel⟩
  · exact ⟨[], [], none, 0, rfl, ⟨Nat.le_refl _, by simp⟩, Or.inl ⟨rfl, rfl⟩⟩
  · have hlm : len ≤ m := by rw [hmm]; split <;> omega
    rw [hn] at hel
    have each : ∀ i, i < len → ∃ q : List Value × α, (∀ j, j < A.n → W.cell? (a.add (i * A.n + j)) = q.1[j]?) ∧ q.1.length = A.n ∧ A.Reads W q.1 q.2 := by
      intro i hi
      obtain ⟨cs', h1, h2⟩ := hel i (by omega)
      obtain ⟨-, hlen, hc⟩ := World.cells?_some h1
      obtain ⟨y, hy⟩ := h enc W base spare held n cs' _ h2
      refine ⟨(cs', y), fun j hj => ?_, hlen, hy⟩
      have := hc j hj
      rw [Addr.add_add] at this
      exact this
    by_cases hp : 0 < len
    · obtain ⟨b, off, spot⟩ := a
      obtain ⟨q0, c0, l0, -⟩ := each 0 hp
      have hc0 := c0 0 h0
      have hs0 : ∃ v, W.cell? ((⟨b, off, spot⟩ : Addr).add (0 * A.n + 0)) = some v := ⟨_, hc0.trans (List.getElem?_eq_getElem (by omega))⟩
      obtain ⟨v0, hv0⟩ := hs0
      have hspot : spot = none := by simpa [Addr.add] using World.cell?_spot hv0
      subst hspot
      have hbl : b < W.heap.size := by
        have := World.block_lt_of_cell? _ _ hv0
        simpa [Addr.add] using this
      have pick : ∃ f : (i : Nat) → i < len → List Value × α, ∀ i (hi : i < len), (∀ j, j < A.n → W.cell? ((⟨b, off, none⟩ : Addr).add (i * A.n + j)) = (f i hi).1[j]?) ∧ (f i hi).1.length = A.n ∧ A.Reads W (f i hi).1 (f i hi).2 :=
        ⟨fun i hi => Classical.choose (each i hi), fun i hi => Classical.choose_spec (each i hi)⟩
      obtain ⟨f, hf⟩ := pick
      have pick2 : ∃ g : (i : Nat) → i < len → List Nat, ∀ i (hi : i < len), A.lies W (f i hi).1 (f i hi).2 (g i hi) :=
        ⟨fun i hi => Classical.choose (hf i hi).2.2, fun i hi => Classical.choose_spec (hf i hi).2.2⟩
      obtain ⟨g, hg⟩ := pick2
      refine ⟨(List.finRange len).map (fun i => (f i.1 i.2).2), b :: ((List.finRange len).map (fun i => g i.1 i.2)).flatten, some ⟨b, off, none⟩, cap, by simp, ⟨by simpa using hl, by simp; unfold maxLen at hm; omega⟩, Or.inr ⟨b, off, (List.finRange len).map (fun i => (f i.1 i.2).1), (List.finRange len).map (fun i => g i.1 i.2), rfl, hbl, rfl, by simp, by simp, fun j h1 h2 h3 => ?_⟩⟩
      have hj : j < len := by simpa using h1
      refine ⟨fun k hk => ?_, ?_⟩
      · have := (hf j hj).1 k hk
        rw [Addr.add_lit] at this
        simpa [Nat.add_assoc] using this
      · simpa using hg j hj
    · obtain rfl : len = 0 := by omega
      exact ⟨[], [], some a, cap, rfl, ⟨hl, by simp⟩, Or.inl ⟨rfl, rfl⟩⟩

theorem open_arg {α : Type} {A : Lay α} {t : TypeId} (O : Opens A t) {H : Type} {enc : TypeId × Value → H} {W : World} {base : Nat} {spare : Nat → Bool} {held : Bool} {a : Option Addr} {len cap : Nat} {d : DataW H} {p : List MemPlace}
    (h : DataW.Trod enc Tryd.prog W base spare held t (.slice a len cap) d p) : ∃ y, A.Reads W [.slice a len cap] y := by
  obtain ⟨fuel, hf⟩ := h
  exact O enc W base spare held fuel _ _ (by simpa [Value.cells] using hf)
theorem open_arg_st {α : Type} {A : Lay α} {t : TypeId} (O : Opens A t) {H : Type} {enc : TypeId × Value → H} {W : World} {base : Nat} {spare : Nat → Bool} {held : Bool} {cs : Array Value} {d : DataW H} {p : List MemPlace}
    (h : DataW.Trod enc Tryd.prog W base spare held t (.agg cs) d p) : ∃ y, A.Reads W cs.toList y := by
  obtain ⟨fuel, hf⟩ := h
  exact O enc W base spare held fuel _ _ (by simpa [Value.cells] using hf)

end Go.Proofs.YtbogjepkdcknfaaDoor

namespace Go.Proofs.YtbogjepkdcknfaaDoor
open Go.RowKit

/-- What storyOf answers. -/
def ToldAs (w w' : World) (e : Ending) (ws : List DWrite) : Prop := ∃ r, e = .returned (.tuple #[r, .int .i64 (writesF ws)]) ∧ (writesF ws = 0 → r = .pointer (some ⟨w.heap.size + 1, 0, none⟩) ∧ ∃ v rows bls, Told w' (w.heap.size + 1) w.heap.size w'.heap.size ws v rows bls) ∧ (writesF ws ≠ 0 → r = .pointer none) ∧ Below w.heap.size w w'
theorem told_start (w : World) : Told ((w.alloc (.map #[] 0)).alloc (.cells #[.slice none 0 0, .map (some w.heap.size), .int .i64 0, .int .i64 0, .int .i64 0, .int .i64 0, .int .i64 0, .int .i64 0, .int .i64 0, .int .i64 0, .int .i64 0, .int .i64 0] 95)) (w.heap.size + 1) w.heap.size ((w.alloc (.map #[] 0)).alloc (.cells #[.slice none 0 0, .map (some w.heap.size), .int .i64 0, .int .i64 0, .int .i64 0, .int .i64 0, .int .i64 0, .int .i64 0, .int .i64 0, .int .i64 0, .int .i64 0, .int .i64 0] 95)).heap.size [] (.slice none 0 0) [] [] := told_new w

set_option maxRecDepth 100000 in
set_option maxHeartbeats 4000000 in
theorem story_pos (b off cap : Nat) (ws : List DWrite) (w : World) (h : (Lay.sl Lay.tWrite).Reads w [.slice (some ⟨b, off, none⟩) ws.length cap] ws) (hbl : b < w.heap.size) (hn : ws.length ≤ 200) :
    Calls Tryd.prog 52 #[.slice (some ⟨b, off, none⟩) ws.length cap] w fun e w' => ToldAs w w' e ws := by
  have HW : Hid (writesF ws = wsFrom ws) := by show writesF ws = wsFrom ws; rw [writesF, if_neg (by omega)]
  have H := hide h
  clear h
  have HT0 := hide (told_start w)
  have HB0 := hide (((Below.refl w.heap.size w).alloc (Nat.le_refl _) (.map #[] 0)).alloc (by simp) (.cells #[.slice none 0 0, .map (some w.heap.size), .int .i64 0, .int .i64 0, .int .i64 0, .int .i64 0, .int .i64 0, .int .i64 0, .int .i64 0, .int .i64 0, .int .i64 0, .int .i64 0] 95))
  have hmk := @run_makeMap Tryd.prog
  go_enter Tryd.func52, Tryd.ntmps52
  go_wp2_with fail
  clear hmk
  generalize (w.alloc (.map #[] 0)).alloc (.cells #[.slice none 0 0, .map (some w.heap.size), .int .i64 0, .int .i64 0, .int .i64 0, .int .i64 0, .int .i64 0, .int .i64 0, .int .i64 0, .int .i64 0, .int .i64 0, .int .i64 0] 95) = W1 at *
  go_loopw [17] (fun i wr => ∃ k : Nat, k ≤ ws.length ∧ i = .int .i64 k ∧ (∀ j (hj : j < ws.length), j < k → wF ws[j] = 0) ∧ (∃ v rows bls, Told wr (w.heap.size + 1) w.heap.size wr.heap.size (ws.take k) v rows bls) ∧ Below w.heap.size w wr) (fun i _ => ws.length - (intOf i).toNat)
  case atStart => exact ⟨0, Nat.zero_le _, rfl, fun j _ hj => by omega, ⟨_, _, _, unhide HT0⟩, unhide HB0⟩
  case round =>
    obtain ⟨k, hk, rfl, hz, ⟨v, rows, bls, hT⟩, hB⟩ := hrel
    clear HT0 HB0
    by_cases hlt : k < ws.length
    · obtain ⟨row, hc, hr⟩ := Lay.row_at (unhide H) hlt
      replace hr := hr.later hB
      obtain ⟨a2, d2, rfl, R2⟩ := open_Write hr
      have c0 : wr.cell? ⟨b, off + k * 5, none⟩ = some (.int .i64 (ws[k]).kind) := (hB.cell (p := ⟨b, off + k * 5, none⟩) hbl).trans (hc 0 (by decide))
      have c1 : wr.cell? ⟨b, off + k * 5 + 1, none⟩ = some (.int .i64 (ws[k]).id) := (hB.cell (p := ⟨b, off + k * 5 + 1, none⟩) hbl).trans (hc 1 (by decide))
      have c2 : wr.cell? ⟨b, off + k * 5 + 2, none⟩ = some (.slice a2 (ws[k]).vec.length d2) := (hB.cell (p := ⟨b, off + k * 5 + 2, none⟩) hbl).trans (hc 2 (by decide))
      have c3 : wr.cell? ⟨b, off + k * 5 + 3, none⟩ = some (.int .i64 (ws[k]).session) := (hB.cell (p := ⟨b, off + k * 5 + 3, none⟩) hbl).trans (hc 3 (by decide))
      have c4 : wr.cell? ⟨b, off + k * 5 + 4, none⟩ = some (.int .i64 (ws[k]).seq) := (hB.cell (p := ⟨b, off + k * 5 + 4, none⟩) hbl).trans (hc 4 (by decide))
      have HZ := hide hz
      have HST : Hid (ws.take (k + 1) = ws.take k ++ [ws[k]]) := List.take_succ_eq_append_getElem hlt
      have HAT : Hid (wF ws[k] ≠ 0 → writesF ws = wF ws[k]) := fun hn => (unhide HW).trans (wsFrom_at ws k hlt hz hn)
      have HZ2 : Hid (wF ws[k] = 0 → ∀ j (hj : j < ws.length), j < k + 1 → wF ws[j] = 0) := by
        intro h0 j hj hjk
        by_cases hjk2 : j < k
        · exact unhide HZ j hj hjk2
        · obtain rfl : j = k := by omega
          exact h0
      have HLK : Hid ((ws.take k).length = k) := by show (ws.take k).length = k; rw [List.length_take]; omega
      clear hc hr hz HZ
      generalize hx : ws[k] = x at *
      clear hx
      have hbr : b < wr.heap.size := Nat.lt_of_lt_of_le hbl hB.size
      have nb : Below wr.heap.size wr (wr.alloc (.cells #[.int .i64 x.kind, .int .i64 x.id, .slice a2 x.vec.length d2, .int .i64 x.session, .int .i64 x.seq] 37)) := (Below.refl _ _).alloc (Nat.le_refl _) _
      have bI : Box wr.heap.size #[.int .i64 x.kind, .int .i64 x.id, .slice a2 x.vec.length d2, .int .i64 x.session, .int .i64 x.seq] 37 (wr.alloc (.cells #[.int .i64 x.kind, .int .i64 x.id, .slice a2 x.vec.length d2, .int .i64 x.session, .int .i64 x.seq] 37)) wr.heap.size := newBox (Nat.le_refl _)
      have L := implDeed x.kind x.id (.slice a2 x.vec.length d2) x.session x.seq x.vec _ ((Lay.ints_reads R2).later nb)
      simp only [ToldDeed] at L
      rw [show writeFault x.kind x.id x.vec x.session x.seq = wF x from rfl] at L
      have HL := hide L
      have HT := hide (hT.later nb)
      have HB := hide (hB.trans (nb.mono hB.size))
      have HBI := hide bI
      have HZW : Hid (w.heap.size ≤ wr.heap.size) := hB.size
      clear R2 hT hB nb bI L
      go_wp2_with fail
      clear c0 c1 c2 c3 c4
      refine (unhide HL).mono ?_
      generalize hW0 : wr.alloc (.cells #[.int .i64 x.kind, .int .i64 x.id, .slice a2 x.vec.length d2, .int .i64 x.session, .int .i64 x.seq] 37) = W0 at *
      clear hW0
      rintro e w2 ⟨rfl, hb⟩
      replace HT := hide ((unhide HT).later hb)
      replace HBI := hide ((unhide HBI).keep hb)
      replace HB := hide ((unhide HB).trans (hb.mono (unhide HB).size))
      clear hb HL
      by_cases hf : wF x = 0
      · rw [hf, show deedRes x.kind x.id x.vec x.session x.seq = deedV x.kind x.vec from if_pos hf]
        have hb1 : w2.cell? ⟨wr.heap.size, 1, none⟩ = some (.int .i64 x.id) := (unhide HBI).at 1 _ rfl
        have hb3 : w2.cell? ⟨wr.heap.size, 3, none⟩ = some (.int .i64 x.session) := (unhide HBI).at 3 _ rfl
        have hb4 : w2.cell? ⟨wr.heap.size, 4, none⟩ = some (.int .i64 x.seq) := (unhide HBI).at 4 _ rfl
        have hbl1 : wr.heap.size < w2.heap.size := (unhide HBI).lt
        have HZ3 := hide (unhide HZ2 hf)
        have HL := hide (writeOfC x w2 hf)
        have HF := hide hf
        generalize hdv : deedV x.kind x.vec = dv at *
        clear hf hdv HZ2 HAT HBI
        go_wp2_with fail
        refine (unhide HL).mono ?_
        rintro e w3 ⟨cs, rfl, ⟨bl, hO, hr⟩, hb3⟩
        have hT3 := (unhide HT).later hb3
        replace HB := hide ((unhide HB).trans (hb3.mono (unhide HB).size))
        have HC := hide (tellC (hT3.raise (Nat.le_trans (Nat.le_of_lt hbl1) (Nat.le_refl w2.heap.size))) hO.1 (fun c hc => ⟨(hr c hc).1, hO.2.2 c hc⟩) hO.2.1 hb3.size (unhide HF) (by rw [unhide HLK]; omega))
        rw [← unhide HST] at HC
        clear hO hr hb3 HL HT hT3 HF hb1 hb4 hbl1
        go_wp2_with fail
        refine (unhide HC).mono ?_
        rintro e w4 ⟨rfl, ⟨v4, rows4, bls4, hT4⟩, hb4⟩
        have HT4 := hide hT4
        have HB4 := hide ((unhide HB).trans hb4)
        clear hT4 hb4 HC HB
        go_wp2_with fail
        go_roundw
        case rel => exact ⟨k + 1, by omega, by go_num, unhide HZ3, ⟨_, _, _, unhide HT4⟩, unhide HB4⟩
        case measure => simp [intOf]; omega
      · have hd : (wF x != 0) = true := by simpa using hf
        have HG := hide (unhide HAT hf)
        have HF := hide hf
        generalize hdr : deedRes x.kind x.id x.vec x.session x.seq = dr at *
        clear hf hdr HZ2 HAT HST HT HBI
        go_wp2_with fail
        refine bodyPost_ret (v := .tuple #[.pointer none, .int .i64 (wF x)]) (by simp [results, Tryd.results52, go_sem]) rfl ?_
        exact ⟨.pointer none, by rw [unhide HG], fun e => absurd ((unhide HG).symm.trans e) (unhide HF), fun _ => rfl, unhide HB⟩
    · obtain rfl : k = ws.length := by omega
      have HG : Hid (writesF ws = 0) := (unhide HW).trans (wsFrom_all ws fun j hj => hz j hj hj)
      rw [List.take_length] at hT
      have HT := hide hT
      have HB := hide hB
      clear hT hB hz H HW
      go_wp2_with fail
      refine bodyPost_ret (v := .tuple #[.pointer (some ⟨w.heap.size + 1, 0, none⟩), .int .i64 0]) (by simp [results, Tryd.results52, go_sem]) rfl ?_
      exact ⟨.pointer (some ⟨w.heap.size + 1, 0, none⟩), by rw [unhide HG], fun _ => ⟨rfl, _, _, _, unhide HT⟩, fun e => absurd (unhide HG) e, unhide HB⟩

set_option maxRecDepth 10000 in
set_option maxHeartbeats 1000000 in
/-- storyOf of the program. -/
theorem storyC (v : Value) (ws : List DWrite) (w : World) (h : (Lay.sl Lay.tWrite).Reads w [v] ws) :
    Calls Tryd.prog 52 #[v] w fun e w' => ToldAs w w' e ws := by
  obtain ⟨ao, cap, rfl⟩ := open_sl h
  by_cases hn : ws.length ≤ 200
  · by_cases hp : 0 < ws.length
    · obtain ⟨b, off, rfl, hbl⟩ := Lay.sl_addr h hp
      exact story_pos b off cap ws w h hbl hn
    · obtain rfl : ws = [] := List.eq_nil_of_length_eq_zero (by omega)
      clear h hn hp
      have HT0 := hide (told_start w)
      have HB0 := hide (((Below.refl w.heap.size w).alloc (Nat.le_refl _) (.map #[] 0)).alloc (by simp) (.cells #[.slice none 0 0, .map (some w.heap.size), .int .i64 0, .int .i64 0, .int .i64 0, .int .i64 0, .int .i64 0, .int .i64 0, .int .i64 0, .int .i64 0, .int .i64 0, .int .i64 0] 95))
      have hmk := @run_makeMap Tryd.prog
      go_enter Tryd.func52, Tryd.ntmps52
      go_wp2_with fail
      clear hmk
      refine wp_loop_rounds 1 ?_
      rw [rounds_succ]
      go_wp2_with fail
      refine bodyPost_ret (v := .tuple #[.pointer (some ⟨w.heap.size + 1, 0, none⟩), .int .i64 0]) (by simp [results, Tryd.results52, go_sem]) rfl ?_
      exact ⟨.pointer (some ⟨w.heap.size + 1, 0, none⟩), rfl, fun _ => ⟨rfl, _, _, _, unhide HT0⟩, fun e => absurd rfl e, unhide HB0⟩
  · have e : writesF ws = 2 := by rw [writesF, if_pos (by omega)]
    have HG := hide e
    have hd : decide ((200 : Int) < (ws.length : Int)) = true := by simp; omega
    clear h e
    go_enter Tryd.func52, Tryd.ntmps52
    go_wp2_with fail
    refine bodyPost_ret (v := .tuple #[.pointer none, .int .i64 2]) (by simp [results, Tryd.results52, go_sem]) rfl ?_
    exact ⟨.pointer none, by rw [unhide HG], fun e => absurd ((unhide HG).symm.trans e) (by decide), fun _ => rfl, Below.refl _ _⟩

end Go.Proofs.YtbogjepkdcknfaaDoor

namespace Go.Proofs.YtbogjepkdcknfaaDoor
open Go.RowKit

def acells (f : Int → Int) : Array Value := #[.int .i64 (f 0), .int .i64 (f 1), .int .i64 (f 2), .int .i64 (f 3), .int .i64 (f 4), .int .i64 (f 5), .int .i64 (f 6), .int .i64 (f 7), .int .i64 (f 8), .int .i64 (f 9)]
theorem acells_at (f : Int → Int) (i : Nat) (h : i < 10) : (acells f)[i]? = some (.int .i64 (f i)) := by
  match i, h with
  | 0, _ => rfl
  | 1, _ => rfl
  | 2, _ => rfl
  | 3, _ => rfl
  | 4, _ => rfl
  | 5, _ => rfl
  | 6, _ => rfl
  | 7, _ => rfl
  | 8, _ => rfl
  | 9, _ => rfl
theorem acells_set (f : Int → Int) (i : Nat) (h : i < 10) (z : Int) : (acells f).setIfInBounds i (.int .i64 z) = acells (fun j => if j = i then z else f j) := by
  match i, h with
  | 0, _ => rfl
  | 1, _ => rfl
  | 2, _ => rfl
  | 3, _ => rfl
  | 4, _ => rfl
  | 5, _ => rfl
  | 6, _ => rfl
  | 7, _ => rfl
  | 8, _ => rfl
  | 9, _ => rfl

set_option maxRecDepth 100000 in
set_option maxHeartbeats 4000000 in
theorem onceRight_pos (b off cap : Nat) (ws : List DWrite) (w : World) (h : (Lay.sl Lay.tWrite).Reads w [.slice (some ⟨b, off, none⟩) ws.length cap] ws) (hbl : b < w.heap.size) (hf : writesF ws = 0) :
    Calls Tryd.prog 73 #[.slice (some ⟨b, off, none⟩) ws.length cap] w fun e w' => e = .returned (.bool (onceB [] ws)) ∧ Below w.heap.size w w' := by
  have HL := hide (storyC _ ws w h)
  have H := hide h
  obtain ⟨hlen, hall⟩ := writesF_zero hf
  have HA := hide hall
  have HF := hide hf
  clear h hall hf
  go_enter Tryd.func73, Tryd.ntmps73
  go_wp2_with fail
  refine (unhide HL).mono ?_
  rintro e w2 ⟨r, rfl, g0, -, hb⟩
  obtain ⟨rfl, -⟩ := g0 (unhide HF)
  rw [unhide HF]
  have HB0 := hide (hb.alloc hb.size (.cells #[.int .i64 0, .int .i64 0, .int .i64 0, .int .i64 0, .int .i64 0, .int .i64 0, .int .i64 0, .int .i64 0, .int .i64 0, .int .i64 0] 93))
  have HX0 : Hid (Box 0 (acells (lastI [])) 93 (w2.alloc (.cells #[.int .i64 0, .int .i64 0, .int .i64 0, .int .i64 0, .int .i64 0, .int .i64 0, .int .i64 0, .int .i64 0, .int .i64 0, .int .i64 0] 93)) w2.heap.size) := newBox (Nat.zero_le _)
  have hz2 := hb.size
  clear hb HL HF g0
  go_wp2_with fail
  generalize w2.alloc (.cells #[.int .i64 0, .int .i64 0, .int .i64 0, .int .i64 0, .int .i64 0, .int .i64 0, .int .i64 0, .int .i64 0, .int .i64 0, .int .i64 0] 93) = W1 at *
  generalize w2.heap.size = L at *
  go_loopw [17] (fun i wr => ∃ k : Nat, k ≤ ws.length ∧ i = .int .i64 k ∧ (∀ j (hj : j < ws.length), j < k → lastI ([] ++ ws.take j) (ws[j]).session < (ws[j]).seq) ∧ Box 0 (acells (lastI (ws.take k))) 93 wr L ∧ Below w.heap.size w wr) (fun i _ => ws.length - (intOf i).toNat)
  case atStart => exact ⟨0, Nat.zero_le _, rfl, fun j _ hj => by omega, unhide HX0, unhide HB0⟩
  case round =>
    obtain ⟨k, hk, rfl, hz, hX, hB⟩ := hrel
    clear HX0 HB0
    by_cases hlt : k < ws.length
    · obtain ⟨row, hc, hr⟩ := Lay.row_at (unhide H) hlt
      replace hr := hr.later hB
      obtain ⟨a2, d2, rfl, R2⟩ := open_Write hr
      have c0 : wr.cell? ⟨b, off + k * 5, none⟩ = some (.int .i64 (ws[k]).kind) := (hB.cell (p := ⟨b, off + k * 5, none⟩) hbl).trans (hc 0 (by decide))
      have c1 : wr.cell? ⟨b, off + k * 5 + 1, none⟩ = some (.int .i64 (ws[k]).id) := (hB.cell (p := ⟨b, off + k * 5 + 1, none⟩) hbl).trans (hc 1 (by decide))
      have c2 : wr.cell? ⟨b, off + k * 5 + 2, none⟩ = some (.slice a2 (ws[k]).vec.length d2) := (hB.cell (p := ⟨b, off + k * 5 + 2, none⟩) hbl).trans (hc 2 (by decide))
      have c3 : wr.cell? ⟨b, off + k * 5 + 3, none⟩ = some (.int .i64 (ws[k]).session) := (hB.cell (p := ⟨b, off + k * 5 + 3, none⟩) hbl).trans (hc 3 (by decide))
      have c4 : wr.cell? ⟨b, off + k * 5 + 4, none⟩ = some (.int .i64 (ws[k]).seq) := (hB.cell (p := ⟨b, off + k * 5 + 4, none⟩) hbl).trans (hc 4 (by decide))
      have hsq := wF_seq (unhide HA ws[k] (List.getElem_mem hlt))
      have HAT : Hid ((ws[k]).seq ≤ lastI (ws.take k) (ws[k]).session → onceB [] ws = false) := fun he => onceB_at ws [] k hlt (by simpa using he)
      have HZ2 : Hid (lastI (ws.take k) (ws[k]).session < (ws[k]).seq → ∀ j (hj : j < ws.length), j < k + 1 → lastI ([] ++ ws.take j) (ws[j]).session < (ws[j]).seq) := by
        intro h0 j hj hjk
        by_cases hjk2 : j < k
        · exact hz j hj hjk2
        · obtain rfl : j = k := by omega
          simpa using h0
      have HLT : Hid (lastI (ws.take k) (ws[k]).session < (ws[k]).seq → ∀ j : Int, (if j = ((ws[k]).session.toNat : Int) then (ws[k]).seq else lastI (ws.take k) j) = lastI (ws.take (k + 1)) j) := by
        intro h0 j
        have h9 := wF_seq (unhide HA ws[k] (List.getElem_mem hlt))
        rw [lastI_take ws k hlt, show ((ws[k]).session.toNat : Int) = (ws[k]).session by omega]
        by_cases e : j = (ws[k]).session
        · rw [if_pos e, if_pos e.symm, e]; omega
        · rw [if_neg e, if_neg (fun h => e h.symm)]
      clear hc hr hz R2
      generalize hx : ws[k] = x at *
      clear hx
      have hbr : b < wr.heap.size := Nat.lt_of_lt_of_le hbl hB.size
      have nb : Below wr.heap.size wr (wr.alloc (.cells #[.int .i64 x.kind, .int .i64 x.id, .slice a2 x.vec.length d2, .int .i64 x.session, .int .i64 x.seq] 37)) := (Below.refl _ _).alloc (Nat.le_refl _) _
      have bI : Box 0 #[.int .i64 x.kind, .int .i64 x.id, .slice a2 x.vec.length d2, .int .i64 x.session, .int .i64 x.seq] 37 (wr.alloc (.cells #[.int .i64 x.kind, .int .i64 x.id, .slice a2 x.vec.length d2, .int .i64 x.session, .int .i64 x.seq] 37)) wr.heap.size := newBox (Nat.zero_le _)
      have hLq := hX.lt
      have HX1 := hide (hX.keep nb)
      have HB1 := hide (hB.trans (nb.mono hB.size))
      have HBI := hide bI
      have hLw : w.heap.size ≤ L := hz2
      clear nb bI hX hB
      go_wp2_with fail
      clear c0 c1 c2 c3 c4
      generalize wr.alloc (.cells #[.int .i64 x.kind, .int .i64 x.id, .slice a2 x.vec.length d2, .int .i64 x.session, .int .i64 x.seq] 37) = W0 at *
      obtain ⟨b1, b9, q1, q9⟩ := hsq
      have hs9 : x.session.toNat < 10 := by omega
      have hsi : (x.session.toNat : Int) = x.session := by omega
      have i1 : (0 : Int) ≤ x.session := by omega
      have i2 : x.session < 10 := by omega
      have hXD := unhide HX1
      have hID := unhide HBI
      refine wp_region_noPanic ?_
      refine wp_region_held_drew (S := fun w' => w' = W0.drew) (by kernel_rfl) rfl (fun hHeld => ?_)
      refine wpAnyH_take (i := 0) (oi := { dst := some 21, op := Go.Op.fieldAddr 37 (Go.Operand.tmp 7) 4, type := 0, pos := "l05_session.go:155", after := #[], guard := none }) (v := ?vo0) rfl (by kernel_rfl) (by kernel_rfl) (by kernel_rfl) (fun _ _ _ h => h) (Or.inl ⟨by rfl, ?ho0⟩) hHeld ?ro0
      case ho0 =>
        intro wS hSw
        (try dsimp only at hSw)
        go_simp
        try with_reducible rfl
      case ro0 =>
      simp only [Act.put, List.setIfInBounds_toArray, List.set_cons_zero, List.set_cons_succ]
      refine wpAnyH_take (i := 1) (oi := { dst := some 22, op := Go.Op.load 2 (Go.Operand.tmp 21), type := 2, pos := "l05_session.go:155", after := #[{ on := 0, ground := Go.Ground.data }], guard := none }) (v := ?vo1) rfl (by kernel_rfl) (by kernel_rfl) (by kernel_rfl) (fun _ _ _ h => h) (Or.inl ⟨by rfl, ?ho1⟩) hHeld ?ro1
      case ho1 =>
        intro wS hSw
        have y3 : wS.cell? ⟨wr.heap.size, 3, none⟩ = some (.int .i64 x.session) := by rw [hSw]; exact hID.at 3 _ rfl
        have y4 : wS.cell? ⟨wr.heap.size, 4, none⟩ = some (.int .i64 x.seq) := by rw [hSw]; exact hID.at 4 _ rfl
        have yl : wS.cell? ⟨L, x.session.toNat, none⟩ = some (.int .i64 (lastI (ws.take k) x.session)) := by
          have := hXD.at _ _ (acells_at (lastI (ws.take k)) x.session.toNat hs9)
          rw [hsi] at this
          rw [hSw]; exact this
        clear hSw
        (try dsimp only at hSw)
        go_simp
        try with_reducible rfl
      case ro1 =>
      simp only [Act.put, List.setIfInBounds_toArray, List.set_cons_zero, List.set_cons_succ]
      refine wpAnyH_take (i := 2) (oi := { dst := some 23, op := Go.Op.fieldAddr 37 (Go.Operand.tmp 7) 3, type := 0, pos := "l05_session.go:155", after := #[], guard := none }) (v := ?vo2) rfl (by kernel_rfl) (by kernel_rfl) (by kernel_rfl) (fun _ _ _ h => h) (Or.inl ⟨by rfl, ?ho2⟩) hHeld ?ro2
      case ho2 =>
        intro wS hSw
        (try dsimp only at hSw)
        go_simp
        try with_reducible rfl
      case ro2 =>
      simp only [Act.put, List.setIfInBounds_toArray, List.set_cons_zero, List.set_cons_succ]
      refine wpAnyH_take (i := 3) (oi := { dst := some 24, op := Go.Op.load 2 (Go.Operand.tmp 23), type := 2, pos := "l05_session.go:155", after := #[{ on := 2, ground := Go.Ground.data }], guard := none }) (v := ?vo3) rfl (by kernel_rfl) (by kernel_rfl) (by kernel_rfl) (fun _ _ _ h => h) (Or.inl ⟨by rfl, ?ho3⟩) hHeld ?ro3
      case ho3 =>
        intro wS hSw
        have y3 : wS.cell? ⟨wr.heap.size, 3, none⟩ = some (.int .i64 x.session) := by rw [hSw]; exact hID.at 3 _ rfl
        have y4 : wS.cell? ⟨wr.heap.size, 4, none⟩ = some (.int .i64 x.seq) := by rw [hSw]; exact hID.at 4 _ rfl
        have yl : wS.cell? ⟨L, x.session.toNat, none⟩ = some (.int .i64 (lastI (ws.take k) x.session)) := by
          have := hXD.at _ _ (acells_at (lastI (ws.take k)) x.session.toNat hs9)
          rw [hsi] at this
          rw [hSw]; exact this
        clear hSw
        (try dsimp only at hSw)
        go_simp
        try with_reducible rfl
      case ro3 =>
      simp only [Act.put, List.setIfInBounds_toArray, List.set_cons_zero, List.set_cons_succ]
      refine wpAnyH_take (i := 4) (oi := { dst := some 25, op := Go.Op.indexAddr 93 (Go.Operand.tmp 5) (Go.Operand.tmp 24), type := 0, pos := "l05_session.go:155", after := #[{ on := 3, ground := Go.Ground.data }], guard := none }) (v := ?vo4) rfl (by kernel_rfl) (by kernel_rfl) (by kernel_rfl) (fun _ _ _ h => h) (Or.inl ⟨by rfl, ?ho4⟩) hHeld ?ro4
      case ho4 =>
        intro wS hSw
        (try dsimp only at hSw)
        go_simp
        try with_reducible rfl
      case ro4 =>
      simp only [Act.put, List.setIfInBounds_toArray, List.set_cons_zero, List.set_cons_succ]
      refine wpAnyH_take (i := 5) (oi := { dst := some 26, op := Go.Op.load 2 (Go.Operand.tmp 25), type := 2, pos := "l05_session.go:155", after := #[{ on := 4, ground := Go.Ground.data }], guard := none }) (v := ?vo5) rfl (by kernel_rfl) (by kernel_rfl) (by kernel_rfl) (fun _ _ _ h => h) (Or.inl ⟨by rfl, ?ho5⟩) hHeld ?ro5
      case ho5 =>
        intro wS hSw
        have y3 : wS.cell? ⟨wr.heap.size, 3, none⟩ = some (.int .i64 x.session) := by rw [hSw]; exact hID.at 3 _ rfl
        have y4 : wS.cell? ⟨wr.heap.size, 4, none⟩ = some (.int .i64 x.seq) := by rw [hSw]; exact hID.at 4 _ rfl
        have yl : wS.cell? ⟨L, x.session.toNat, none⟩ = some (.int .i64 (lastI (ws.take k) x.session)) := by
          have := hXD.at _ _ (acells_at (lastI (ws.take k)) x.session.toNat hs9)
          rw [hsi] at this
          rw [hSw]; exact this
        clear hSw
        (try dsimp only at hSw)
        go_simp
        try with_reducible rfl
      case ro5 =>
      simp only [Act.put, List.setIfInBounds_toArray, List.set_cons_zero, List.set_cons_succ]
      refine wpAnyH_take (i := 6) (oi := { dst := some 27, op := Go.Op.binOp Go.BinOp.leq 2 (Go.Operand.tmp 22) (Go.Operand.tmp 26) 2, type := 4, pos := "l05_session.go:155", after := #[{ on := 1, ground := Go.Ground.data }, { on := 5, ground := Go.Ground.data }], guard := none }) (v := ?vo6) rfl (by kernel_rfl) (by kernel_rfl) (by kernel_rfl) (fun _ _ _ h => h) (Or.inl ⟨by rfl, ?ho6⟩) hHeld ?ro6
      case ho6 =>
        intro wS hSw
        (try dsimp only at hSw)
        go_simp
        try with_reducible rfl
      case ro6 =>
      simp only [Act.put, List.setIfInBounds_toArray, List.set_cons_zero, List.set_cons_succ]
      refine wpAnyH_done (by kernel_rfl) ?_ _
      refine NoPanic.normal ?_
      clear hHeld
      have HBD := hide (unhide HB1).drew
      have hX2 : Box 0 (acells (lastI (ws.take k))) 93 W0.drew L := unhide HX1
      have hI2 : Box 0 #[.int .i64 x.kind, .int .i64 x.id, .slice a2 x.vec.length d2, .int .i64 x.session, .int .i64 x.seq] 37 W0.drew wr.heap.size := unhide HBI
      generalize W0.drew = W2 at *
      clear HX1 HBI HB1 hXD hID
      by_cases hq : x.seq ≤ lastI (ws.take k) x.session
      · have hd : decide (x.seq ≤ lastI (ws.take k) x.session) = true := by simpa using hq
        have HG := hide (unhide HAT hq)
        clear hq HAT HZ2 HLT hsi
        rw [hd]
        go_wp2_with fail
        go_ret
        exact ⟨by rw [unhide HG]; first | done | rfl, unhide HBD⟩
      · have hd : decide (x.seq ≤ lastI (ws.take k) x.session) = false := by simpa using hq
        have HZ := hide (unhide HZ2 (by omega))
        have HX3 : Hid (Box 0 (acells (lastI (ws.take (k + 1)))) 93 (W2.setCell ⟨L, x.session.toNat, none⟩ (.int .i64 x.seq)) L) := by
          have e := hX2.set x.session.toNat (.int .i64 x.seq)
          rw [acells_set _ _ hs9, funext (unhide HLT (by omega))] at e
          exact e
        have HB3 : Hid (Below w.heap.size w (W2.setCell ⟨L, x.session.toNat, none⟩ (.int .i64 x.seq))) := (unhide HBD).setCell (by simp; omega) _
        have y3 : W2.cell? ⟨wr.heap.size, 3, none⟩ = some (.int .i64 x.session) := hI2.at 3 _ rfl
        have y4 : W2.cell? ⟨wr.heap.size, 4, none⟩ = some (.int .i64 x.seq) := hI2.at 4 _ rfl
        have yl : W2.cell? ⟨L, x.session.toNat, none⟩ = some (.int .i64 (lastI (ws.take k) x.session)) := by
          have := hX2.at _ _ (acells_at (lastI (ws.take k)) x.session.toNat hs9)
          rwa [hsi] at this
        have fl := hX2.soft x.session.toNat
        have ll := hX2.lt
        clear hq HAT HZ2 HLT hsi hX2 hI2 HBD
        rw [hd]
        go_wp2_with fail
        go_roundw
        case rel => exact ⟨k + 1, by omega, by go_num, unhide HZ, unhide HX3, unhide HB3⟩
        case measure => simp [intOf]; omega
    · obtain rfl : k = ws.length := by omega
      have HG : Hid (onceB [] ws = true) := onceB_all ws [] fun j hj => hz j hj hj
      have HB := hide hB
      clear H hz hB hX
      go_wp2_with fail
      go_ret
      exact ⟨by rw [unhide HG]; first | done | rfl, unhide HB⟩

set_option maxRecDepth 10000 in
set_option maxHeartbeats 1000000 in
/-- OnceRight of the program. -/
theorem implOnce (v : Value) (ws : List DWrite) (w : World) (h : (Lay.sl Lay.tWrite).Reads w [v] ws) :
    Calls Tryd.prog 73 #[v] w fun e w' => e = .returned (.bool (onceR ws)) ∧ Below w.heap.size w w' := by
  obtain ⟨ao, cap, rfl⟩ := open_sl h
  by_cases hf : writesF ws = 0
  · have e1 : onceR ws = onceB [] ws := by simp [onceR, hf]
    rw [e1]
    by_cases hp : 0 < ws.length
    · obtain ⟨b, off, rfl, hbl⟩ := Lay.sl_addr h hp
      exact onceRight_pos b off cap ws w h hbl hf
    · obtain rfl : ws = [] := List.eq_nil_of_length_eq_zero (by omega)
      have HL := hide (storyC _ [] w h)
      clear h hp e1 hf
      go_enter Tryd.func73, Tryd.ntmps73
      go_wp2_with fail
      refine (unhide HL).mono ?_
      rintro e w2 ⟨r, rfl, g0, -, hb⟩
      obtain ⟨rfl, -⟩ := g0 rfl
      rw [show writesF [] = 0 from rfl]
      have HB0 := hide (hb.alloc hb.size (.cells #[.int .i64 0, .int .i64 0, .int .i64 0, .int .i64 0, .int .i64 0, .int .i64 0, .int .i64 0, .int .i64 0, .int .i64 0, .int .i64 0] 93))
      clear hb HL g0
      go_wp2_with fail
      refine wp_loop_rounds 1 ?_
      rw [rounds_succ]
      go_wp2_with fail
      go_ret
      exact ⟨rfl, unhide HB0⟩
  · have HL := hide (storyC _ ws w h)
    have HG : Hid (onceR ws = false) := by show onceR ws = _; simp [onceR, hf]
    have hd : (writesF ws != 0) = true := by simpa using hf
    clear h
    go_enter Tryd.func73, Tryd.ntmps73
    go_wp2_with fail
    refine (unhide HL).mono ?_
    rintro e w2 ⟨r, rfl, -, -, hb⟩
    have HB0 := hide hb
    clear hb HL hf
    go_wp2_with fail
    go_ret
    exact ⟨by rw [unhide HG]; first | done | rfl, unhide HB0⟩

end Go.Proofs.YtbogjepkdcknfaaDoor

namespace Go.Proofs.YtbogjepkdcknfaaDoor
open Go.RowKit

/-- WriteFault of the program. -/
theorem implWriteFault (k i : Int) (v : Value) (s q : Int) (zs : List Int) (w : World) (h : IsInts w v zs) :
    Calls Tryd.prog 72 #[.agg #[.int .i64 k, .int .i64 i, v, .int .i64 s, .int .i64 q]] w fun e w' => e = .returned (.int .i64 (writeFault k i zs s q)) ∧ Below w.heap.size w w' := by
  have h' := h
  obtain ⟨ao, cap, rfl, -⟩ := h'
  have B0 : Below w.heap.size w (w.alloc (.cells #[.int .i64 k, .int .i64 i, .slice ao zs.length cap, .int .i64 s, .int .i64 q] 37)) := (Below.refl _ _).alloc (Nat.le_refl _) _
  have L := hide (implDeed k i (.slice ao zs.length cap) s q zs _ (h.later B0))
  have HB := hide B0
  clear B0 h
  go_enter Tryd.func72, Tryd.ntmps72
  go_wp2_with fail
  refine (unhide L).mono ?_
  rintro e w1 ⟨rfl, hb1⟩
  have HB1 := hide ((unhide HB).trans (hb1.mono (unhide HB).size))
  clear hb1 HB L
  go_wp2_with fail
  go_ret
  exact ⟨rfl, unhide HB1⟩

end Go.Proofs.YtbogjepkdcknfaaDoor

namespace Go.Proofs.YtbogjepkdcknfaaDoor
open Go.RowKit

theorem isNodeIdC (n : Int) (w : World) :
    Calls Tryd.prog 61 #[.int .i64 n] w fun e w' => e = .returned (.bool (decide (1 ≤ n) && decide (n ≤ 5))) ∧ w' = w := by
  by_cases h1 : 1 ≤ n
  · have d1 : decide (1 ≤ n) = true := by simpa using h1
    rw [d1]
    cases d2 : decide (n ≤ 5) <;>
    · go_enter Tryd.func61, Tryd.ntmps61
      go_wp2_with fail
      go_ret
      exact ⟨rfl, rfl⟩
  · have d1 : decide (1 ≤ n) = false := by simpa using h1
    rw [d1]
    go_enter Tryd.func61, Tryd.ntmps61
    go_wp2_with fail
    go_ret
    exact ⟨rfl, rfl⟩
theorem isUpToC (n m : Int) (w : World) :
    Calls Tryd.prog 62 #[.int .i64 n, .int .i64 m] w fun e w' => e = .returned (.bool (decide (0 ≤ n) && decide (n ≤ m))) ∧ w' = w := by
  by_cases h1 : 0 ≤ n
  · have d1 : decide (0 ≤ n) = true := by simpa using h1
    rw [d1]
    cases d2 : decide (n ≤ m) <;>
    · go_enter Tryd.func62, Tryd.ntmps62
      go_wp2_with fail
      go_ret
      exact ⟨rfl, rfl⟩
  · have d1 : decide (0 ≤ n) = false := by simpa using h1
    rw [d1]
    go_enter Tryd.func62, Tryd.ntmps62
    go_wp2_with fail
    go_ret
    exact ⟨rfl, rfl⟩

set_option maxRecDepth 100000 in
set_option maxHeartbeats 2000000 in
theorem takenC (v : Value) (ws : List DWrite) (w : World) (h : (Lay.sl Lay.tWrite).Reads w [v] ws) :
    Calls Tryd.prog 63 #[v] w fun e w' => e = .returned (.int .i64 (takenF ws)) ∧ Below w.heap.size w w' := by
  obtain ⟨ao, cap, rfl⟩ := open_sl h
  by_cases hn0 : 40 < ws.length
  · have HF : Hid (takenF ws = 2) := by show takenF ws = 2; rw [takenF, if_pos hn0]
    have hbig := h.big
    have hd : decide ((40 : Int) < (ws.length : Int)) = true := by simp; omega
    clear h
    go_enter Tryd.func63, Tryd.ntmps63
    go_wp2_with fail
    go_ret
    exact ⟨by rw [unhide HF]; rfl, Below.refl _ _⟩
  · have hn : ws.length ≤ 40 := by omega
    have HW : Hid (takenF ws = if wsFrom ws ≠ 0 then wsFrom ws else if onceB [] ws = false then 6 else 0) := by show takenF ws = _; rw [takenF, if_neg hn0]
    have H := hide h
    clear h hn0
    go_enter Tryd.func63, Tryd.ntmps63
    go_wp2_with fail
    go_loopw [11] (fun i wr => ∃ k : Nat, k ≤ ws.length ∧ i = .int .i64 k ∧ (∀ j (hj : j < ws.length), j < k → wF ws[j] = 0) ∧ Below w.heap.size w wr) (fun i _ => ws.length - (intOf i).toNat)
    case atStart => exact ⟨0, Nat.zero_le _, rfl, fun j _ hj => by omega, Below.refl _ _⟩
    case round =>
      obtain ⟨k, hk, rfl, hz, hB⟩ := hrel
      by_cases hlt : k < ws.length
      · obtain ⟨b, off, rfl, hbl⟩ := Lay.sl_addr (unhide H) (by omega)
        obtain ⟨row, hc, hr⟩ := Lay.row_at (unhide H) hlt
        replace hr := hr.later hB
        obtain ⟨a2, d2, rfl, R2⟩ := open_Write hr
        have c0 : wr.cell? ⟨b, off + k * 5, none⟩ = some (.int .i64 (ws[k]).kind) := (hB.cell (p := ⟨b, off + k * 5, none⟩) hbl).trans (hc 0 (by decide))
        have c1 : wr.cell? ⟨b, off + k * 5 + 1, none⟩ = some (.int .i64 (ws[k]).id) := (hB.cell (p := ⟨b, off + k * 5 + 1, none⟩) hbl).trans (hc 1 (by decide))
        have c2 : wr.cell? ⟨b, off + k * 5 + 2, none⟩ = some (.slice a2 (ws[k]).vec.length d2) := (hB.cell (p := ⟨b, off + k * 5 + 2, none⟩) hbl).trans (hc 2 (by decide))
        have c3 : wr.cell? ⟨b, off + k * 5 + 3, none⟩ = some (.int .i64 (ws[k]).session) := (hB.cell (p := ⟨b, off + k * 5 + 3, none⟩) hbl).trans (hc 3 (by decide))
        have c4 : wr.cell? ⟨b, off + k * 5 + 4, none⟩ = some (.int .i64 (ws[k]).seq) := (hB.cell (p := ⟨b, off + k * 5 + 4, none⟩) hbl).trans (hc 4 (by decide))
        have HZ := hide hz
        have HAT : Hid (wF ws[k] ≠ 0 → takenF ws = wF ws[k]) := fun hn => by
          have e := wsFrom_at ws k hlt hz hn
          rw [unhide HW, e, if_pos hn]
        have HZ2 : Hid (wF ws[k] = 0 → ∀ j (hj : j < ws.length), j < k + 1 → wF ws[j] = 0) := by
          intro h0 j hj hjk
          by_cases hjk2 : j < k
          · exact unhide HZ j hj hjk2
          · obtain rfl : j = k := by omega
            exact h0
        clear hc hr hz HZ
        generalize hx : ws[k] = x at *
        clear hx
        have hbr : b < wr.heap.size := Nat.lt_of_lt_of_le hbl hB.size
        have nb : Below wr.heap.size wr (wr.alloc (.cells #[.int .i64 x.kind, .int .i64 x.id, .slice a2 x.vec.length d2, .int .i64 x.session, .int .i64 x.seq] 37)) := (Below.refl _ _).alloc (Nat.le_refl _) _
        have L := implWriteFault x.kind x.id (.slice a2 x.vec.length d2) x.session x.seq x.vec _ ((Lay.ints_reads R2).later nb)
        rw [show writeFault x.kind x.id x.vec x.session x.seq = wF x from rfl] at L
        have HL := hide L
        have HB := hide (hB.trans (nb.mono hB.size))
        clear R2 hB nb L
        go_wp2_with fail
        clear c0 c1 c2 c3 c4
        refine (unhide HL).mono ?_
        generalize hW0 : wr.alloc (.cells #[.int .i64 x.kind, .int .i64 x.id, .slice a2 x.vec.length d2, .int .i64 x.session, .int .i64 x.seq] 37) = W0 at *
        clear hW0
        rintro e w2 ⟨rfl, hb⟩
        replace HB := hide ((unhide HB).trans (hb.mono (unhide HB).size))
        clear hb HL
        by_cases hf : wF x = 0
        · have HZ3 := hide (unhide HZ2 hf)
          rw [hf]
          clear hf HZ2 HAT
          go_wp2_with fail
          go_roundw
          case rel => exact ⟨k + 1, by omega, by go_num, unhide HZ3, unhide HB⟩
          case measure => simp [intOf]; omega
        · have hd : (wF x != 0) = true := by simpa using hf
          have HE := hide (unhide HAT hf)
          clear HAT HZ2 hf
          generalize wF x = c at *
          go_wp2_with fail
          go_ret
          exact ⟨by rw [unhide HE]; rfl, unhide HB⟩
      · obtain rfl : k = ws.length := by omega
        have e0 := wsFrom_all ws (fun j hj => hz j hj hj)
        have HL := hide (implOnce _ ws wr ((unhide H).later hB))
        have hf0 : writesF ws = 0 := by rw [writesF, if_neg (by omega), e0]
        have hor : onceR ws = onceB [] ws := by rw [onceR, hf0]; simp
        rw [hor] at HL
        have HB := hide hB
        have HT : Hid (takenF ws = if onceB [] ws = false then 6 else 0) := by show takenF ws = _; rw [unhide HW, e0, if_neg (by simp)]
        clear hB hz e0 hf0 hor H HW
        cases ho : onceB [] ws
        · rw [ho] at HL HT
          clear ho
          go_wp2_with fail
          refine (unhide HL).mono ?_
          rintro e w2 ⟨rfl, hb⟩
          have HB2 := hide ((unhide HB).trans (hb.mono (unhide HB).size))
          clear hb HL
          go_wp2_with fail
          go_ret
          exact ⟨by rw [unhide HT]; rfl, unhide HB2⟩
        · rw [ho] at HL HT
          clear ho
          go_wp2_with fail
          refine (unhide HL).mono ?_
          rintro e w2 ⟨rfl, hb⟩
          have HB2 := hide ((unhide HB).trans (hb.mono (unhide HB).size))
          clear hb HL
          go_wp2_with fail
          go_ret
          exact ⟨by rw [unhide HT]; rfl, unhide HB2⟩

set_option maxRecDepth 10000 in
set_option maxHeartbeats 1000000 in
theorem isDownRightC (cs : List Value) (x : DNode) (w : World) (h : Lay.tNode.Reads w cs x) :
    Calls Tryd.prog 64 #[.agg cs.toArray] w fun e w' => e = .returned (.bool (downB x)) ∧ Below w.heap.size w w' := by
  obtain ⟨a4, d4, rfl, R4⟩ := open_Node h
  have hbig := R4.big
  clear h R4
  have HB := hide ((Below.refl w.heap.size w).alloc (Nat.le_refl _) (.cells #[.int .i64 x.id, .bool x.up, .int .i64 x.epoch, .int .i64 x.lease, .slice a4 x.writes.length d4, .int .i64 x.sure, .int .i64 x.clean] 32))
  cases d1 : (x.sure == (x.writes.length : Int))
  · have HF : Hid (downB x = false) := by show downB x = false; rw [downB, d1]; rfl
    go_enter Tryd.func64, Tryd.ntmps64
    go_wp2_with fail
    go_ret
    exact ⟨by rw [unhide HF]; rfl, unhide HB⟩
  · cases d2 : (x.clean == 0)
    · have HF : Hid (downB x = false) := by show downB x = false; rw [downB, d1, d2]; rfl
      go_enter Tryd.func64, Tryd.ntmps64
      go_wp2_with fail
      go_ret
      exact ⟨by rw [unhide HF]; rfl, unhide HB⟩
    · cases d3 : (x.lease == 0)
      · have HF : Hid (downB x = false) := by show downB x = false; rw [downB, d1, d2, d3]; rfl
        go_enter Tryd.func64, Tryd.ntmps64
        go_wp2_with fail
        go_ret
        exact ⟨by rw [unhide HF]; rfl, unhide HB⟩
      · have HF : Hid (downB x = true) := by show downB x = true; rw [downB, d1, d2, d3]; rfl
        go_enter Tryd.func64, Tryd.ntmps64
        go_wp2_with fail
        go_ret
        exact ⟨by rw [unhide HF]; rfl, unhide HB⟩

set_option maxRecDepth 100000 in
set_option maxHeartbeats 2000000 in
/-- NodeFault of the program. -/
theorem implNodeFault (cs : List Value) (x : DNode) (w : World) (h : Lay.tNode.Reads w cs x) :
    Calls Tryd.prog 50 #[.agg cs.toArray] w fun e w' => e = .returned (.int .i64 (nodeFault x)) ∧ Below w.heap.size w w' := by
  have hN := h
  obtain ⟨a4, d4, rfl, R4⟩ := open_Node h
  have hbig := R4.big
  have nb : Below w.heap.size w (w.alloc (.cells #[.int .i64 x.id, .bool x.up, .int .i64 x.epoch, .int .i64 x.lease, .slice a4 x.writes.length d4, .int .i64 x.sure, .int .i64 x.clean] 32)) := (Below.refl _ _).alloc (Nat.le_refl _) _
  have bX : Box w.heap.size #[.int .i64 x.id, .bool x.up, .int .i64 x.epoch, .int .i64 x.lease, .slice a4 x.writes.length d4, .int .i64 x.sure, .int .i64 x.clean] 32 (w.alloc (.cells #[.int .i64 x.id, .bool x.up, .int .i64 x.epoch, .int .i64 x.lease, .slice a4 x.writes.length d4, .int .i64 x.sure, .int .i64 x.clean] 32)) w.heap.size := newBox (Nat.le_refl _)
  have HT := hide (takenC _ x.writes _ (R4.later nb))
  have HN := hide hN
  have HB := hide nb
  have HX := hide bX
  clear h hN nb bX R4
  go_enter Tryd.func50, Tryd.ntmps50
  go_wp2_with fail
  generalize w.alloc (.cells #[.int .i64 x.id, .bool x.up, .int .i64 x.epoch, .int .i64 x.lease, .slice a4 x.writes.length d4, .int .i64 x.sure, .int .i64 x.clean] 32) = W0 at *
  have x1 := (unhide HX).at 1 _ rfl
  have x2 := (unhide HX).at 2 _ rfl
  have x3 := (unhide HX).at 3 _ rfl
  have x4 := (unhide HX).at 4 _ rfl
  have x5 := (unhide HX).at 5 _ rfl
  have x6 := (unhide HX).at 6 _ rfl
  simp only [List.getElem_toArray, List.getElem_cons_zero, List.getElem_cons_succ] at x1 x2 x3 x4 x5 x6
  have xl := (unhide HX).lt
  refine (isNodeIdC x.id W0).mono ?_
  rintro e W1 ⟨rfl, h1⟩
  subst W1
  cases d1 : (decide (1 ≤ x.id) && decide (x.id ≤ 5))
  · have HF := hide (nf_id d1)
    clear d1
    go_wp2_with fail
    go_ret
    exact ⟨by rw [unhide HF]; rfl, unhide HB⟩
  · go_wp2_with fail
    refine (isUpToC x.epoch 999 W0).mono ?_
    rintro e W1 ⟨rfl, h1⟩
    subst W1
    cases d2 : (decide (0 ≤ x.epoch) && decide (x.epoch ≤ 999))
    · have HF := hide (nf_epoch d2)
      clear d1 d2
      go_wp2_with fail
      go_ret
      exact ⟨by rw [unhide HF]; rfl, unhide HB⟩
    · go_wp2_with fail
      refine (isUpToC x.lease 9999 W0).mono ?_
      rintro e W1 ⟨rfl, h1⟩
      subst W1
      cases d3 : (decide (0 ≤ x.lease) && decide (x.lease ≤ 9999))
      · have HF := hide (nf_lease d3)
        clear d1 d2 d3
        go_wp2_with fail
        go_ret
        exact ⟨by rw [unhide HF]; rfl, unhide HB⟩
      · have HF := hide (nf_rest d1 d2 d3)
        clear d1 d2 d3
        go_wp2_with fail
        refine (unhide HT).mono ?_
        rintro e W1 ⟨rfl, hb⟩
        have bX1 := (unhide HX).keep hb
        replace x1 := bX1.at 1 _ rfl
        replace x2 := bX1.at 2 _ rfl
        replace x3 := bX1.at 3 _ rfl
        replace x4 := bX1.at 4 _ rfl
        replace x5 := bX1.at 5 _ rfl
        replace x6 := bX1.at 6 _ rfl
        have x0 := bX1.at 0 _ rfl
        simp only [List.getElem_toArray, List.getElem_cons_zero, List.getElem_cons_succ] at x0 x1 x2 x3 x4 x5 x6
        replace xl := bX1.lt
        have HB1 := hide ((unhide HB).trans (hb.mono (unhide HB).size))
        clear hb bX1 HT HX HB
        by_cases ht : takenF x.writes = 0
        · rw [ht]
          have HF1 := hide ((unhide HF).trans (if_neg (by simpa using ht)))
          clear HF ht
          go_wp2_with fail
          refine (isUpToC x.sure (x.writes.length : Int) W1).mono ?_
          rintro e W2 ⟨rfl, h1⟩
          subst W2
          cases d4 : (decide (0 ≤ x.sure) && decide (x.sure ≤ (x.writes.length : Int)))
          · have HF2 := hide ((unhide HF1).trans (if_neg (by rw [d4]; simp)))
            clear HF1 d4
            go_wp2_with fail
            go_ret
            exact ⟨by rw [unhide HF2]; rfl, unhide HB1⟩
          · go_wp2_with fail
            refine (isUpToC x.clean x.sure W1).mono ?_
            rintro e W2 ⟨rfl, h1⟩
            subst W2
            cases d5 : (decide (0 ≤ x.clean) && decide (x.clean ≤ x.sure))
            · have HF2 := hide ((unhide HF1).trans (if_neg (by rw [d5]; simp)))
              clear HF1 d4 d5
              go_wp2_with fail
              go_ret
              exact ⟨by rw [unhide HF2]; rfl, unhide HB1⟩
            · have HF2 := hide ((unhide HF1).trans (if_pos ⟨d4, d5⟩))
              clear HF1 d4 d5
              have HD := hide (isDownRightC _ x W1 ((unhide HN).later (unhide HB1)))
              cases hu : x.up
              · rw [hu] at x1 HF2 HD
                cases hdn : downB x
                · have HF3 := hide ((unhide HF2).trans (if_pos ⟨rfl, hdn⟩))
                  rw [hdn] at HD
                  clear HF2 hdn hu
                  go_wp2_with fail
                  refine (unhide HD).mono ?_
                  rintro e W2 ⟨rfl, hb⟩
                  have HB2 := hide ((unhide HB1).trans (hb.mono (unhide HB1).size))
                  clear hb HD
                  go_wp2_with fail
                  go_ret
                  exact ⟨by rw [unhide HF3]; rfl, unhide HB2⟩
                · have HF3 := hide ((unhide HF2).trans (if_neg (by simp [hdn])))
                  rw [hdn] at HD
                  clear HF2 hdn hu
                  go_wp2_with fail
                  refine (unhide HD).mono ?_
                  rintro e W2 ⟨rfl, hb⟩
                  have HB2 := hide ((unhide HB1).trans (hb.mono (unhide HB1).size))
                  clear hb HD
                  go_wp2_with fail
                  go_ret
                  exact ⟨by rw [unhide HF3]; rfl, unhide HB2⟩
              · rw [hu] at x1 HF2
                have HF3 := hide ((unhide HF2).trans (if_neg (by simp)))
                clear HF2 hu HD
                go_wp2_with fail
                go_ret
                exact ⟨by rw [unhide HF3]; rfl, unhide HB1⟩
        · have HF1 := hide ((unhide HF).trans (if_pos (by simpa using ht)))
          have hd : (takenF x.writes != 0) = true := by simpa using ht
          clear HF ht
          generalize takenF x.writes = c at *
          go_wp2_with fail
          go_ret
          exact ⟨by rw [unhide HF1]; rfl, unhide HB1⟩
end Go.Proofs.YtbogjepkdcknfaaDoor

namespace Go.Proofs.YtbogjepkdcknfaaDoor
open Go.RowKit

set_option maxHeartbeats 400000 in
theorem slClone (ad : Addr) (cap : Nat) (zs : List Int) (w : World) (h : IsInts w (.slice (some ad) zs.length cap) zs) (hn : zs.length ≤ 100000000) :
    Calls Tryd.prog 65 #[.slice (some ad) zs.length cap] w fun e w' => ∃ v', e = .returned v' ∧ w'.ownsRow w.heap.size 2 1 v' zs.length (zs.map (Value.int .i64)) ∧ Below w.heap.size w w' := by
  have nb : Below w.heap.size w (w.alloc (.cells #[] 2)) := (Below.refl _ _).alloc (Nat.le_refl _) _
  have O : (w.alloc (.cells #[] 2)).ownsRow w.heap.size 2 1 (.slice (some ⟨w.heap.size, 0, none⟩) 0 0) 0 [] := World.ownsRow_lit w _ 0 (Nat.le_refl _) (by unfold maxLen; omega) rfl
  have h1 := h.later nb
  have HB := hide nb
  have hnil : ∀ w : World, (binOp .eql 25 (.slice (some ad) zs.length cap) (.slice none 0 0)).run Tryd.prog w = .ok (.bool false) w := fun _ => by kernel_rfl
  clear nb h
  go_enter Tryd.func65, Tryd.ntmps65
  go_wp2_with (at_builtin; refine wpList_append_ints O h1 rfl _ _ rfl rfl rfl (by omega) (by simp) ?_)
  rintro v' w' O2 - hb
  have HB2 := hide ((unhide HB).trans hb)
  clear O h1 hb HB
  go_wp2_with fail
  go_ret
  exact ⟨v', rfl, by simpa using O2, unhide HB2⟩

end Go.Proofs.YtbogjepkdcknfaaDoor

namespace Go.Proofs.YtbogjepkdcknfaaDoor
open Go.RowKit

set_option maxHeartbeats 400000 in
theorem clone_nil (d : Nat) (w : World) : Calls Tryd.prog 65 #[.slice none 0 d] w fun e w' => e = .returned (.slice none 0 0) ∧ Below w.heap.size w w' := by
  have hnil : ∀ w : World, (binOp .eql 25 (.slice none 0 d) (.slice none 0 0)).run Tryd.prog w = .ok (.bool true) w := fun _ => by kernel_rfl
  have HB : Hid (∀ o, Below w.heap.size w (w.alloc o)) := fun o => (Below.refl _ _).alloc (Nat.le_refl _) o
  go_enter Tryd.func65, Tryd.ntmps65
  go_wp2_with fail
  go_ret
  exact ⟨rfl, Below.refl _ _⟩
theorem cloneC (v : Value) (zs : List Int) (w : World) (h : (Lay.sl Lay.int).Reads w [v] zs) (hn : zs.length ≤ 10000000) :
    Calls Tryd.prog 65 #[v] w fun e w' => ∃ a n c, e = .returned (.slice a n c) ∧ ((Lay.sl Lay.int).OwnIn w' [.slice a n c] zs w.heap.size w'.heap.size ∧ n = zs.length) ∧ Below w.heap.size w w' := by
  obtain ⟨ao, cap, rfl⟩ := open_sl h
  cases ao with
  | none =>
    have h0 : zs = [] := by
      by_cases hp : 0 < zs.length
      · obtain ⟨b, off, e, -⟩ := Lay.sl_addr h hp
        cases e
      · exact List.eq_nil_of_length_eq_zero (by omega)
    subst h0
    refine (clone_nil cap w).mono ?_
    rintro e w' ⟨rfl, hb⟩
    exact ⟨none, 0, 0, rfl, ⟨nil_own, rfl⟩, hb⟩
  | some ad =>
    refine (slClone ad cap zs w (Lay.ints_reads h) (by omega)).mono ?_
    rintro e w' ⟨v', rfl, O, hb⟩
    have hO := Lay.ownInts (Lay.ints_reads h).wf (by omega) O
    obtain ⟨a3, c3, rfl⟩ := open_sl hO.reads
    exact ⟨a3, _, c3, rfl, ⟨hO, rfl⟩, hb⟩

end Go.Proofs.YtbogjepkdcknfaaDoor

namespace Go.Proofs.YtbogjepkdcknfaaDoor
open Go.RowKit

theorem infoWriteC : (Tryd.prog.info? 37).map (fun i => (i.zero, i.size, decide (i.bytes ≤ 1000))) = some (some (.agg #[.int .i64 0, .int .i64 0, .slice none 0 0, .int .i64 0, .int .i64 0]), 5, true) := by kernel_rfl
theorem own_writeC {w : World} {x : DWrite} {v : Value} {lo hi : Nat} (h : (Lay.sl Lay.int).OwnIn w [v] x.vec lo hi) (v0 : (Lit.int .i64 x.kind).wf = true) (v1 : (Lit.int .i64 x.id).wf = true) (v3 : (Lit.int .i64 x.session).wf = true) (v4 : (Lit.int .i64 x.seq).wf = true) : Lay.tWrite.OwnIn w [.int .i64 x.kind, .int .i64 x.id, v, .int .i64 x.session, .int .i64 x.seq] x lo hi := by
  obtain ⟨bl, O, i⟩ := h
  exact ⟨bl, mkOwn_Write O v0 v1 v3 v4 O.2.1, i⟩
set_option maxRecDepth 10000 in
set_option maxHeartbeats 4000000 in
theorem copiedC (v : Value) (xs : List DWrite) (w : World) (h : (Lay.sl Lay.tWrite).Reads w [v] xs) (hlen : xs.length ≤ 1000000) (hv : ∀ x ∈ xs, x.vec.length ≤ 10000000) :
    Calls Tryd.prog 51 #[v] w fun e w' => ∃ (g : Nat), e = .returned (.slice (some ⟨g, 0, none⟩) xs.length xs.length) ∧ (Lay.sl Lay.tWrite).OwnIn w' [.slice (some ⟨g, 0, none⟩) xs.length xs.length] xs w.heap.size w'.heap.size ∧ Below w.heap.size w w' := by
  have hbig := h.big
  obtain ⟨ao, cap, rfl⟩ := open_sl h
  obtain ⟨i0, hi, hz0, hz1, hz2⟩ : ∃ i, Tryd.prog.info? 37 = some i ∧ i.zero = some (.agg #[.int .i64 0, .int .i64 0, .slice none 0 0, .int .i64 0, .int .i64 0]) ∧ i.size = 5 ∧ i.bytes ≤ 1000 := by
    have := infoWriteC
    cases hq : Tryd.prog.info? 37 with
    | none => rw [hq] at this; simp at this
    | some i =>
      rw [hq] at this
      simp only [Option.map_some, Option.some.injEq, Prod.mk.injEq, decide_eq_true_eq] at this
      exact ⟨i, rfl, this.1, this.2.1, this.2.2⟩
  have H := hide h
  have HN := hide hv
  clear h hv
  go_enter Tryd.func51, Tryd.ntmps51
  go_wp2_with (at_make; refine wpList_make_full _ rfl _ _ 30 rfl w.heap.size 37 i0 _ 5 Tryd.underlying30 hi hz0 hz1 _ _ _ _ xs.length rfl rfl rfl rfl ?c1 ?c2 ?c3 ?_)
  case c1 => have := Nat.mul_le_mul hz2 hlen; omega
  case c2 => unfold maxLen; omega
  case c3 => exact Nat.le_refl _
  intro w1 hown1 hgrow1
  have hB1 : Below w.heap.size w w1 := (Below.refl _ _).grown hgrow1 (Nat.le_refl _) (by simp)
  clear hgrow1 hi hz0 hz1 hz2
  have HO1 := hide hown1
  have HB1 := hide hB1
  clear hown1 hB1
  go_wp2_with fail
  go_loopw [11] (fun i wr => ∃ (k : Nat) (rows : List (List Value)) (Q : List Value) (hi : Nat), k ≤ xs.length ∧ i = .int .i64 k ∧ wr.ownsRow w.heap.size 37 5 (.slice (some ⟨w.heap.size, 0, none⟩) xs.length xs.length) xs.length (rows.flatten ++ Q) ∧ Q.length = (xs.length - k) * 5 ∧ Lay.Subs Lay.tWrite wr rows (xs.take k) (w.heap.size + 1) hi ∧ hi ≤ wr.heap.size ∧ w.heap.size < hi ∧ Below w.heap.size w wr) (fun i _ => xs.length - (intOf i).toNat)
  case atStart =>
    have hl := ((unhide HO1).lt w.heap.size rfl).2
    exact ⟨0, [], _, w1.heap.size, Nat.zero_le _, rfl, by simpa using unhide HO1, by have := (unhide HO1).1; simpa using this, Lay.subs_nil, Nat.le_refl _, hl, unhide HB1⟩
  case round =>
    obtain ⟨k, rows, Q, hi, hk, rfl, hown, hQ, hsub, hhi, hlo, hB⟩ := hrel
    clear HO1 HB1
    by_cases hlt : k < xs.length
    · obtain ⟨b, off, rfl, hbl⟩ := Lay.sl_addr (unhide H) (by omega)
      obtain ⟨row, hc, hr⟩ := Lay.row_at (unhide H) hlt
      replace hr := hr.later hB
      have hr2 := hr
      obtain ⟨a2, d2, rfl, R2⟩ := open_Write hr2
      obtain ⟨v0, v1, v3, v4⟩ : (Lit.int .i64 (xs[k]).kind).wf = true ∧ (Lit.int .i64 (xs[k]).id).wf = true ∧ (Lit.int .i64 (xs[k]).session).wf = true ∧ (Lit.int .i64 (xs[k]).seq).wf = true := by
        obtain ⟨bl9, hl9⟩ := hr
        obtain ⟨a9, d9, b9, -, -, f0, f1, -, f3, f4⟩ := lies_Write.1 hl9
        exact ⟨f0, f1, f3, f4⟩
      have c0 : wr.cell? ⟨b, off + k * 5, none⟩ = some (.int .i64 (xs[k]).kind) := (hB.cell (p := ⟨b, off + k * 5, none⟩) hbl).trans (hc 0 (by decide))
      have c1 : wr.cell? ⟨b, off + k * 5 + 1, none⟩ = some (.int .i64 (xs[k]).id) := (hB.cell (p := ⟨b, off + k * 5 + 1, none⟩) hbl).trans (hc 1 (by decide))
      have c2 : wr.cell? ⟨b, off + k * 5 + 2, none⟩ = some (.slice a2 (xs[k]).vec.length d2) := (hB.cell (p := ⟨b, off + k * 5 + 2, none⟩) hbl).trans (hc 2 (by decide))
      have c3' : wr.cell? ⟨b, off + k * 5 + 3, none⟩ = some (.int .i64 (xs[k]).session) := (hB.cell (p := ⟨b, off + k * 5 + 3, none⟩) hbl).trans (hc 3 (by decide))
      have c4 : wr.cell? ⟨b, off + k * 5 + 4, none⟩ = some (.int .i64 (xs[k]).seq) := (hB.cell (p := ⟨b, off + k * 5 + 4, none⟩) hbl).trans (hc 4 (by decide))
      have hrl : rows.flatten.length = k * 5 := by have := (Lay.subs_len hsub).1; rw [List.length_take, Nat.min_eq_left hk] at this; exact this
      have hvl := unhide HN xs[k] (List.getElem_mem hlt)
      have HT : Hid (xs.take (k + 1) = xs.take k ++ [xs[k]]) := List.take_succ_eq_append_getElem hlt
      have HB := hide hB
      have HO := hide hown
      have HS := hide hsub
      have HQ := hide hQ
      have HV := hide (And.intro v0 (And.intro v1 (And.intro v3 v4)))
      clear hB hr hc hown hsub hQ v0 v1 v3 v4
      generalize hxk : xs[k] = x at *
      clear hxk
      have hbr : b < wr.heap.size := Nat.lt_of_lt_of_le hbl (unhide HB).size
      have nb : Below wr.heap.size wr (wr.alloc (.cells #[.int .i64 x.kind, .int .i64 x.id, .slice a2 x.vec.length d2, .int .i64 x.session, .int .i64 x.seq] 37)) := (Below.refl _ _).alloc (Nat.le_refl _) _
      have bT : Box wr.heap.size #[.int .i64 x.kind, .int .i64 x.id, .slice a2 x.vec.length d2, .int .i64 x.session, .int .i64 x.seq] 37 (wr.alloc (.cells #[.int .i64 x.kind, .int .i64 x.id, .slice a2 x.vec.length d2, .int .i64 x.session, .int .i64 x.seq] 37)) wr.heap.size := newBox (Nat.le_refl _)
      have HL := hide (cloneC _ x.vec _ (R2.later nb) hvl)
      have HNB := hide nb
      have HBT := hide bT
      clear R2 nb bT
      go_wp2_with fail
      clear c0 c1 c2 c3' c4
      refine (unhide HL).mono ?_
      generalize hW0 : wr.alloc (.cells #[.int .i64 x.kind, .int .i64 x.id, .slice a2 x.vec.length d2, .int .i64 x.session, .int .i64 x.seq] 37) = W0 at *
      have hz0 : W0.heap.size = wr.heap.size + 1 := by rw [← hW0]; simp
      clear hW0
      rintro e w2 ⟨a3, n3, c3, rfl, ⟨O, hn3⟩, hb⟩
      subst hn3
      have hbt := (unhide HBT).keep hb
      have y0 := hbt.at 0 _ rfl
      have y1 := hbt.at 1 _ rfl
      have y2 := hbt.at 2 _ rfl
      have y3 := hbt.at 3 _ rfl
      have y4 := hbt.at 4 _ rfl
      have yf := hbt.soft
      have yl := hbt.lt
      simp only [List.getElem_toArray, List.getElem_cons_zero, List.getElem_cons_succ] at y0 y1 y2 y3 y4
      have hnb2 := (unhide HNB).trans (hb.mono (unhide HNB).size)
      have hz2 : W0.heap.size ≤ w2.heap.size := hb.size
      have e3 : Ext (fun q => q = wr.heap.size) w2 (w2.setCell ⟨wr.heap.size, 2, none⟩ (.slice a3 x.vec.length c3)) := (Ext.refl (fun q => q = wr.heap.size) _).setCell ⟨wr.heap.size, 2, none⟩ _ rfl
      have hb3 : Below wr.heap.size wr (w2.setCell ⟨wr.heap.size, 2, none⟩ (.slice a3 x.vec.length c3)) := hnb2.setCell (by simp) _
      have o2 := own_below (unhide HO) hb3
      have o1 := own_below (unhide HO) hnb2
      have ow : Lay.tWrite.OwnIn (w2.setCell ⟨wr.heap.size, 2, none⟩ (.slice a3 x.vec.length c3)) [.int .i64 x.kind, .int .i64 x.id, .slice a3 x.vec.length c3, .int .i64 x.session, .int .i64 x.seq] x W0.heap.size w2.heap.size := own_writeC (O.ext e3 (fun q h1 h2 h3 => by omega)) (unhide HV).1 (unhide HV).2.1 (unhide HV).2.2.1 (unhide HV).2.2.2
      replace HS := hide (Lay.subs_snoc (Lay.subs_ext (unhide HS) (ext_of_below hb3 nowhere) (fun _ _ _ h => h)) ow (by omega) (by omega) (by omega))
      have hb2 := (unhide HB).trans (hb3.mono (unhide HB).size)
      have hz3 : (w2.setCell ⟨wr.heap.size, 2, none⟩ (.slice a3 x.vec.length c3)).heap.size = w2.heap.size := by simp
      have hxw : w.heap.size < wr.heap.size := by omega
      clear hb HB HO O HV HNB HBT HL hnb2 e3 hb3 ow hbt
      have hQ := unhide HQ
      have hl5 : (rows.flatten ++ Q).length = xs.length * 5 := o2.1
      obtain ⟨u0, g0⟩ : ∃ u, w2.cell? ⟨w.heap.size, k * 5, none⟩ = some u := by
        rw [o1.cellAt (k * 5) (by omega)]
        exact ⟨_, List.getElem?_eq_getElem (by omega)⟩
      have t0 := o1.frozenAt (k * 5)
      obtain ⟨u1, g1⟩ : ∃ u, w2.cell? ⟨w.heap.size, k * 5 + 1, none⟩ = some u := by
        rw [o1.cellAt (k * 5 + 1) (by omega)]
        exact ⟨_, List.getElem?_eq_getElem (by omega)⟩
      have t1 := o1.frozenAt (k * 5 + 1)
      obtain ⟨u2, g2⟩ : ∃ u, w2.cell? ⟨w.heap.size, k * 5 + 2, none⟩ = some u := by
        rw [o1.cellAt (k * 5 + 2) (by omega)]
        exact ⟨_, List.getElem?_eq_getElem (by omega)⟩
      have t2 := o1.frozenAt (k * 5 + 2)
      obtain ⟨u3, g3⟩ : ∃ u, w2.cell? ⟨w.heap.size, k * 5 + 3, none⟩ = some u := by
        rw [o1.cellAt (k * 5 + 3) (by omega)]
        exact ⟨_, List.getElem?_eq_getElem (by omega)⟩
      have t3 := o1.frozenAt (k * 5 + 3)
      obtain ⟨u4, g4⟩ : ∃ u, w2.cell? ⟨w.heap.size, k * 5 + 4, none⟩ = some u := by
        rw [o1.cellAt (k * 5 + 4) (by omega)]
        exact ⟨_, List.getElem?_eq_getElem (by omega)⟩
      have t4 := o1.frozenAt (k * 5 + 4)
      have o3 := own_setAll o2 (k * 5) [.int .i64 x.kind, .int .i64 x.id, .slice a3 x.vec.length c3, .int .i64 x.session, .int .i64 x.seq]
      rw [show k * 5 = rows.flatten.length from hrl.symm, setFrom_app _ _ _ (by rw [hQ]; simp; have : 1 * 5 ≤ (xs.length - k) * 5 := Nat.mul_le_mul_right _ (by omega); omega), hrl] at o3
      have E : Ext (fun q => q = w.heap.size) (w2.setCell ⟨wr.heap.size, 2, none⟩ (.slice a3 x.vec.length c3)) (setAll (w2.setCell ⟨wr.heap.size, 2, none⟩ (.slice a3 x.vec.length c3)) w.heap.size (k * 5) [.int .i64 x.kind, .int .i64 x.id, .slice a3 x.vec.length c3, .int .i64 x.session, .int .i64 x.seq]) := ext_setAll _ (Ext.refl _ _) _ _ _ rfl
      replace HS := hide (Lay.subs_ext (unhide HS) E (fun q h1 h2 h3 => by omega))
      have HB := hide (below_setAll hb2 w.heap.size (k * 5) [.int .i64 x.kind, .int .i64 x.id, .slice a3 x.vec.length c3, .int .i64 x.session, .int .i64 x.seq] (Nat.le_refl _))
      have HZ : Hid ((setAll (w2.setCell ⟨wr.heap.size, 2, none⟩ (.slice a3 x.vec.length c3)) w.heap.size (k * 5) [.int .i64 x.kind, .int .i64 x.id, .slice a3 x.vec.length c3, .int .i64 x.session, .int .i64 x.seq]).heap.size = w2.heap.size) := (size_setAll _ _ _ _).trans hz3
      have HO : Hid ((setAll (w2.setCell ⟨wr.heap.size, 2, none⟩ (.slice a3 x.vec.length c3)) w.heap.size (k * 5) [.int .i64 x.kind, .int .i64 x.id, .slice a3 x.vec.length c3, .int .i64 x.session, .int .i64 x.seq]).ownsRow w.heap.size 37 5 (.slice (some ⟨w.heap.size, 0, none⟩) xs.length xs.length) xs.length ((rows ++ [([.int .i64 x.kind, .int .i64 x.id, .slice a3 x.vec.length c3, .int .i64 x.session, .int .i64 x.seq] : List Value)]).flatten ++ Q.drop 5)) := by
        show (setAll (w2.setCell ⟨wr.heap.size, 2, none⟩ (.slice a3 x.vec.length c3)) w.heap.size (k * 5) [.int .i64 x.kind, .int .i64 x.id, .slice a3 x.vec.length c3, .int .i64 x.session, .int .i64 x.seq]).ownsRow w.heap.size 37 5 (.slice (some ⟨w.heap.size, 0, none⟩) xs.length xs.length) xs.length ((rows ++ [([.int .i64 x.kind, .int .i64 x.id, .slice a3 x.vec.length c3, .int .i64 x.session, .int .i64 x.seq] : List Value)]).flatten ++ Q.drop 5)
        rw [List.flatten_append]
        simpa using o3
      have hl2 := (o1.lt w.heap.size rfl).2
      clear o3 o2 o1 E hb2 hl5
      have hQ2 : Hid ((Q.drop 5).length = (xs.length - (k + 1)) * 5) := by
        show (Q.drop 5).length = (xs.length - (k + 1)) * 5
        rw [List.length_drop, hQ, show xs.length - k = xs.length - (k + 1) + 1 by omega, Nat.add_mul]
        omega
      have HW2 : Hid (w.heap.size < w2.heap.size) := hl2
      clear hQ HQ hz3 hz2 hz0
      go_wp2_with fail
      go_roundw
      case rel => exact ⟨k + 1, rows ++ [([.int .i64 x.kind, .int .i64 x.id, .slice a3 x.vec.length c3, .int .i64 x.session, .int .i64 x.seq] : List Value)], Q.drop 5, w2.heap.size, by omega, by go_num, unhide HO, unhide hQ2, (by rw [unhide HT]; exact unhide HS), Nat.le_of_eq (unhide HZ).symm, unhide HW2, unhide HB⟩
      case measure => simp [intOf]; omega
    · obtain rfl : k = xs.length := by omega
      have e0 : Q = [] := List.eq_nil_of_length_eq_zero (by rw [hQ]; simp)
      subst e0
      rw [List.append_nil] at hown
      rw [List.take_length] at hsub
      have HO := hide (Lay.subs_done (A := Lay.tWrite) hown hsub (by omega) hhi hbig)
      have HB := hide hB
      clear hown hsub hB
      go_wp2_with fail
      go_ret
      exact ⟨_, rfl, unhide HO, unhide HB⟩

end Go.Proofs.YtbogjepkdcknfaaDoor

namespace Go.Proofs.YtbogjepkdcknfaaDoor
open Go.RowKit

/-- A node that is pointed at: its writes are v, and so many of them are sure. -/
def HeldAt (w : World) (g : Nat) (v : Value) (x : DNode) : Prop := Box 0 #[v, .int .i64 x.sure, .int .i64 x.id, .bool x.up, .int .i64 x.epoch, .int .i64 x.lease, .int .i64 x.clean] 64 w g
theorem HeldAt.keep {w w' : World} {g : Nat} {v : Value} {x : DNode} (h : HeldAt w g v x) (hb : Below w.heap.size w w') : HeldAt w' g v x := Box.keep h hb
theorem HeldAt.lt {w : World} {g : Nat} {v : Value} {x : DNode} (h : HeldAt w g v x) : g < w.heap.size := Box.lt h
theorem node_vecs {x : DNode} (h : NodeOK x) : ∀ y ∈ x.writes, y.vec.length ≤ 10000000 := fun y hy => by
  obtain ⟨-, -, -, hk⟩ := writeFault_zero (h.ws y hy)
  rcases hk with ⟨-, hv⟩ | ⟨-, hv⟩
  · have := (vecFault_zero hv).1; omega
  · rw [hv]; simp

set_option maxRecDepth 10000 in
set_option maxHeartbeats 1000000 in
theorem nodeOf_bad (cs : List Value) (x : DNode) (w : World) (h : Lay.tNode.Reads w cs x) (hf : nodeFault x ≠ 0) :
    Calls Tryd.prog 40 #[.agg cs.toArray] w fun e w' => e = .returned (.tuple #[.pointer none, .int .i64 (nodeFault x)]) ∧ Below w.heap.size w w' := by
  have hN := h
  obtain ⟨a4, d4, rfl, R4⟩ := open_Node h
  have nb : Below w.heap.size w (w.alloc (.cells #[.int .i64 x.id, .bool x.up, .int .i64 x.epoch, .int .i64 x.lease, .slice a4 x.writes.length d4, .int .i64 x.sure, .int .i64 x.clean] 32)) := (Below.refl _ _).alloc (Nat.le_refl _) _
  have bX : Box w.heap.size #[.int .i64 x.id, .bool x.up, .int .i64 x.epoch, .int .i64 x.lease, .slice a4 x.writes.length d4, .int .i64 x.sure, .int .i64 x.clean] 32 (w.alloc (.cells #[.int .i64 x.id, .bool x.up, .int .i64 x.epoch, .int .i64 x.lease, .slice a4 x.writes.length d4, .int .i64 x.sure, .int .i64 x.clean] 32)) w.heap.size := newBox (Nat.le_refl _)
  have HL := hide (implNodeFault _ x _ (hN.later nb))
  have HB := hide nb
  have hd : (nodeFault x != 0) = true := by simpa using hf
  clear h hN nb bX R4 hf
  generalize nodeFault x = c at *
  go_enter Tryd.func40, Tryd.ntmps40
  go_wp2_with fail
  refine (unhide HL).mono ?_
  rintro e w1 ⟨rfl, hb⟩
  have HB1 := hide ((unhide HB).trans (hb.mono (unhide HB).size))
  clear hb HL HB
  go_wp2_with fail
  refine bodyPost_ret (v := .tuple #[.pointer none, .int .i64 c]) (by simp [results, Tryd.results40, go_sem]) rfl ?_
  exact ⟨rfl, unhide HB1⟩

set_option maxRecDepth 10000 in
set_option maxHeartbeats 2000000 in
theorem nodeOf_ok (cs : List Value) (x : DNode) (w : World) (h : Lay.tNode.Reads w cs x) (hf : nodeFault x = 0) :
    Calls Tryd.prog 40 #[.agg cs.toArray] w fun e w' => ∃ g gw, e = .returned (.tuple #[.pointer (some ⟨g, 0, none⟩), .int .i64 0]) ∧ HeldAt w' g (.slice (some ⟨gw, 0, none⟩) x.writes.length x.writes.length) x ∧ (Lay.sl Lay.tWrite).OwnIn w' [.slice (some ⟨gw, 0, none⟩) x.writes.length x.writes.length] x.writes (g + 1) w'.heap.size ∧ w.heap.size ≤ g ∧ Below w.heap.size w w' := by
  have hN := h
  obtain ⟨a4, d4, rfl, R4⟩ := open_Node h
  have nb : Below w.heap.size w (w.alloc (.cells #[.int .i64 x.id, .bool x.up, .int .i64 x.epoch, .int .i64 x.lease, .slice a4 x.writes.length d4, .int .i64 x.sure, .int .i64 x.clean] 32)) := (Below.refl _ _).alloc (Nat.le_refl _) _
  have bX : Box w.heap.size #[.int .i64 x.id, .bool x.up, .int .i64 x.epoch, .int .i64 x.lease, .slice a4 x.writes.length d4, .int .i64 x.sure, .int .i64 x.clean] 32 (w.alloc (.cells #[.int .i64 x.id, .bool x.up, .int .i64 x.epoch, .int .i64 x.lease, .slice a4 x.writes.length d4, .int .i64 x.sure, .int .i64 x.clean] 32)) w.heap.size := newBox (Nat.le_refl _)
  have hok := nodeFault_zero hf
  have HL := hide (implNodeFault _ x _ (hN.later nb))
  rw [hf] at HL
  have hlen := hok.len
  have HV := hide (node_vecs hok)
  have HB := hide nb
  have HX := hide bX
  have HR := hide (R4.later nb)
  clear h hN nb bX R4 hf hok
  go_enter Tryd.func40, Tryd.ntmps40
  go_wp2_with fail
  generalize w.alloc (.cells #[.int .i64 x.id, .bool x.up, .int .i64 x.epoch, .int .i64 x.lease, .slice a4 x.writes.length d4, .int .i64 x.sure, .int .i64 x.clean] 32) = W0 at *
  refine (unhide HL).mono ?_
  rintro e w1 ⟨rfl, hb⟩
  have bX1 := (unhide HX).keep hb
  have HB1 := hide ((unhide HB).trans (hb.mono (unhide HB).size))
  have HR1 := hide ((unhide HR).later hb)
  have x0 := bX1.at 0 _ rfl
  have x1 := bX1.at 1 _ rfl
  have x2 := bX1.at 2 _ rfl
  have x3 := bX1.at 3 _ rfl
  have x4 := bX1.at 4 _ rfl
  have x5 := bX1.at 5 _ rfl
  have x6 := bX1.at 6 _ rfl
  simp only [List.getElem_toArray, List.getElem_cons_zero, List.getElem_cons_succ] at x0 x1 x2 x3 x4 x5 x6
  have xl := bX1.lt
  have hgs := (unhide HB1).size
  have nb2 : Below w1.heap.size w1 (w1.alloc (.cells #[.slice none 0 0, .int .i64 0, .int .i64 x.id, .bool x.up, .int .i64 x.epoch, .int .i64 x.lease, .int .i64 x.clean] 64)) := (Below.refl _ _).alloc (Nat.le_refl _) _
  have bH : Box 0 #[.slice none 0 0, .int .i64 0, .int .i64 x.id, .bool x.up, .int .i64 x.epoch, .int .i64 x.lease, .int .i64 x.clean] 64 (w1.alloc (.cells #[.slice none 0 0, .int .i64 0, .int .i64 x.id, .bool x.up, .int .i64 x.epoch, .int .i64 x.lease, .int .i64 x.clean] 64)) w1.heap.size := newBox (Nat.zero_le _)
  have HC := hide (copiedC _ x.writes _ ((unhide HR1).later nb2) (by omega) (unhide HV))
  have HX2 := hide (bX1.keep nb2)
  have HB2 := hide ((unhide HB1).trans (nb2.mono (unhide HB1).size))
  have HH := hide bH
  have hz2 : (w1.alloc (.cells #[.slice none 0 0, .int .i64 0, .int .i64 x.id, .bool x.up, .int .i64 x.epoch, .int .i64 x.lease, .int .i64 x.clean] 64)).heap.size = w1.heap.size + 1 := by simp
  have HZ2 : Hid (w1.heap.size + 1 ≤ (w1.alloc (.cells #[.slice none 0 0, .int .i64 0, .int .i64 x.id, .bool x.up, .int .i64 x.epoch, .int .i64 x.lease, .int .i64 x.clean] 64)).heap.size) := Nat.le_of_eq hz2.symm
  clear hb HL HB HX HR HR1 bX1 nb2 bH HB1 hz2
  go_wp2_with fail
  clear x0 x1 x2 x3 x4 x5 x6 xl
  refine (unhide HC).mono ?_
  generalize w1.alloc (.cells #[.slice none 0 0, .int .i64 0, .int .i64 x.id, .bool x.up, .int .i64 x.epoch, .int .i64 x.lease, .int .i64 x.clean] 64) = W2 at *
  rintro e w3 ⟨gw, rfl, O, hb⟩
  have bX3 := (unhide HX2).keep hb
  have bH3 := (unhide HH).keep hb
  have x5 := bX3.at 5 _ rfl
  have y0 := bH3.at 0 _ rfl
  have y1 := bH3.at 1 _ rfl
  have yf := bH3.soft
  have yl := bH3.lt
  have xl := bX3.lt
  have hxy : w.heap.size ≠ w1.heap.size := by
    have h1 := (unhide HX2).lt
    intro e
    have q1 := (unhide HX2).2
    have q2 := (unhide HH).2
    rw [e, q2] at q1
    simp at q1
  have hwlt : w.heap.size < w1.heap.size := by omega
  simp only [List.getElem_toArray, List.getElem_cons_zero, List.getElem_cons_succ] at x5 y0 y1
  have HF3 : Hid (HeldAt ((w3.setCell ⟨w1.heap.size, 0, none⟩ (.slice (some ⟨gw, 0, none⟩) x.writes.length x.writes.length)).setCell ⟨w1.heap.size, 1, none⟩ (.int .i64 x.sure)) w1.heap.size (.slice (some ⟨gw, 0, none⟩) x.writes.length x.writes.length) x) := (bH3.set 0 (.slice (some ⟨gw, 0, none⟩) x.writes.length x.writes.length)).set 1 (.int .i64 x.sure)
  have hzb := unhide HZ2
  have E : Ext (fun q => q = w1.heap.size) w3 ((w3.setCell ⟨w1.heap.size, 0, none⟩ (.slice (some ⟨gw, 0, none⟩) x.writes.length x.writes.length)).setCell ⟨w1.heap.size, 1, none⟩ (.int .i64 x.sure)) := ((Ext.refl (fun q => q = w1.heap.size) _).setCell ⟨w1.heap.size, 0, none⟩ _ rfl).setCell ⟨w1.heap.size, 1, none⟩ _ rfl
  have HO3 := hide ((O.ext E (fun q h1 h2 h3 => by omega)).mono (lo' := w1.heap.size + 1) (hi' := ((w3.setCell ⟨w1.heap.size, 0, none⟩ (.slice (some ⟨gw, 0, none⟩) x.writes.length x.writes.length)).setCell ⟨w1.heap.size, 1, none⟩ (.int .i64 x.sure)).heap.size) hzb (by simp))
  have HB3 : Hid (Below w.heap.size w ((w3.setCell ⟨w1.heap.size, 0, none⟩ (.slice (some ⟨gw, 0, none⟩) x.writes.length x.writes.length)).setCell ⟨w1.heap.size, 1, none⟩ (.int .i64 x.sure))) := (((unhide HB2).trans (hb.mono (unhide HB2).size)).setCell (by simpa using hgs) _).setCell (by simpa using hgs) _
  clear hb O bX3 bH3 E HC HX2 HH HB2 HZ2
  go_wp2_with fail
  refine bodyPost_ret (v := .tuple #[.pointer (some ⟨w1.heap.size, 0, none⟩), .int .i64 0]) (by simp [results, Tryd.results40, go_sem]) rfl ?_
  exact ⟨w1.heap.size, gw, rfl, unhide HF3, unhide HO3, hgs, unhide HB3⟩

set_option maxRecDepth 10000 in
set_option maxHeartbeats 1000000 in
theorem upNode_bad (cs : List Value) (x : DNode) (w : World) (h : Lay.tNode.Reads w cs x) (hf : askedN x ≠ 0) :
    Calls Tryd.prog 25 #[.agg cs.toArray] w fun e w' => e = .returned (.tuple #[.pointer none, .int .i64 (askedN x)]) ∧ Below w.heap.size w w' := by
  have hN := h
  obtain ⟨a4, d4, rfl, R4⟩ := open_Node h
  have nb : Below w.heap.size w (w.alloc (.cells #[.int .i64 x.id, .bool x.up, .int .i64 x.epoch, .int .i64 x.lease, .slice a4 x.writes.length d4, .int .i64 x.sure, .int .i64 x.clean] 32)) := (Below.refl _ _).alloc (Nat.le_refl _) _
  have bX : Box w.heap.size #[.int .i64 x.id, .bool x.up, .int .i64 x.epoch, .int .i64 x.lease, .slice a4 x.writes.length d4, .int .i64 x.sure, .int .i64 x.clean] 32 (w.alloc (.cells #[.int .i64 x.id, .bool x.up, .int .i64 x.epoch, .int .i64 x.lease, .slice a4 x.writes.length d4, .int .i64 x.sure, .int .i64 x.clean] 32)) w.heap.size := newBox (Nat.le_refl _)
  by_cases hn : nodeFault x = 0
  · have HL := hide (nodeOf_ok _ x _ (hN.later nb) hn)
    have ha : askedN x = 10 ∧ x.up = false := by
      unfold askedN at hf ⊢
      rw [if_pos hn] at hf ⊢
      cases hu : x.up
      · exact ⟨by simp, rfl⟩
      · rw [hu] at hf; simp at hf
    have HU := hide ha.2
    rw [ha.1]
    have HB := hide nb
    clear h hN nb bX R4 hf hn ha
    go_enter Tryd.func25, Tryd.ntmps25
    go_wp2_with fail
    refine (unhide HL).mono ?_
    rintro e w1 ⟨g, gw, rfl, hH, -, -, hb⟩
    have y3 := Box.at hH 3 _ rfl
    have yl := hH.lt
    simp only [List.getElem_toArray, List.getElem_cons_zero, List.getElem_cons_succ] at y3
    rw [unhide HU] at y3
    have HB1 := hide ((unhide HB).trans (hb.mono (unhide HB).size))
    clear hb HL HB hH
    go_wp2_with fail
    refine bodyPost_ret (v := .tuple #[.pointer none, .int .i64 10]) (by simp [results, Tryd.results25, go_sem]) rfl ?_
    exact ⟨rfl, unhide HB1⟩
  · have HL := hide (nodeOf_bad _ x _ (hN.later nb) hn)
    have ha : askedN x = nodeFault x := by rw [askedN, if_neg hn]
    rw [ha]
    have HB := hide nb
    have hd : (nodeFault x == 0) = false := by simpa using hn
    clear h hN nb bX R4 hf hn ha
    generalize nodeFault x = c at *
    go_enter Tryd.func25, Tryd.ntmps25
    go_wp2_with fail
    refine (unhide HL).mono ?_
    rintro e w1 ⟨rfl, hb⟩
    have HB1 := hide ((unhide HB).trans (hb.mono (unhide HB).size))
    clear hb HL HB
    go_wp2_with fail
    refine bodyPost_ret (v := .tuple #[.pointer none, .int .i64 c]) (by simp [results, Tryd.results25, go_sem]) rfl ?_
    exact ⟨rfl, unhide HB1⟩

set_option maxRecDepth 10000 in
set_option maxHeartbeats 1000000 in
theorem upNode_ok (cs : List Value) (x : DNode) (w : World) (h : Lay.tNode.Reads w cs x) (hf : askedN x = 0) :
    Calls Tryd.prog 25 #[.agg cs.toArray] w fun e w' => ∃ g gw, e = .returned (.tuple #[.pointer (some ⟨g, 0, none⟩), .int .i64 0]) ∧ HeldAt w' g (.slice (some ⟨gw, 0, none⟩) x.writes.length x.writes.length) x ∧ (Lay.sl Lay.tWrite).OwnIn w' [.slice (some ⟨gw, 0, none⟩) x.writes.length x.writes.length] x.writes (g + 1) w'.heap.size ∧ w.heap.size ≤ g ∧ Below w.heap.size w w' := by
  obtain ⟨hok, hu⟩ := askedN_zero hf
  have HU := hide hu
  clear hu
  have hN := h
  obtain ⟨a4, d4, rfl, R4⟩ := open_Node h
  have nb : Below w.heap.size w (w.alloc (.cells #[.int .i64 x.id, .bool x.up, .int .i64 x.epoch, .int .i64 x.lease, .slice a4 x.writes.length d4, .int .i64 x.sure, .int .i64 x.clean] 32)) := (Below.refl _ _).alloc (Nat.le_refl _) _
  have bX : Box w.heap.size #[.int .i64 x.id, .bool x.up, .int .i64 x.epoch, .int .i64 x.lease, .slice a4 x.writes.length d4, .int .i64 x.sure, .int .i64 x.clean] 32 (w.alloc (.cells #[.int .i64 x.id, .bool x.up, .int .i64 x.epoch, .int .i64 x.lease, .slice a4 x.writes.length d4, .int .i64 x.sure, .int .i64 x.clean] 32)) w.heap.size := newBox (Nat.le_refl _)
  have HL := hide (nodeOf_ok _ x _ (hN.later nb) hok.fault)
  have HB := hide nb
  clear h hN nb bX R4 hf hok
  go_enter Tryd.func25, Tryd.ntmps25
  go_wp2_with fail
  refine (unhide HL).mono ?_
  rintro e w1 ⟨g, gw, rfl, hH, O, hg, hb⟩
  have y3 := Box.at hH 3 _ rfl
  have yl := hH.lt
  simp only [List.getElem_toArray, List.getElem_cons_zero, List.getElem_cons_succ] at y3
  rw [unhide HU] at y3
  have HB1 := hide ((unhide HB).trans (hb.mono (unhide HB).size))
  have HH := hide hH
  have HO := hide O
  have HG := hide (Nat.le_trans (unhide HB).size hg)
  clear hb HL HB hH O hg
  go_wp2_with fail
  refine bodyPost_ret (v := .tuple #[.pointer (some ⟨g, 0, none⟩), .int .i64 0]) (by simp [results, Tryd.results25, go_sem]) rfl ?_
  exact ⟨g, gw, rfl, unhide HH, unhide HO, unhide HG, unhide HB1⟩

end Go.Proofs.YtbogjepkdcknfaaDoor

namespace Go.Proofs.YtbogjepkdcknfaaDoor
open Go.RowKit Go.Extern.Stop Go.Stop Go.Extern

theorem asInfo : (Tryd.prog.info? 117).map (·.size) = some 2 := by kernel_rfl
theorem asSet (tb b : Nat) (x y : Int) (o0 o1 : Value) (W : World) (hb : W.heap[b]? = some (.cells #[.int .i64 x, .int .i64 y] 117 (0, 0))) (ht : W.heap[tb]? = some (.cells #[o0, o1] 117 (0, 0))) :
    (ReflectliteValue.set #[.agg #[.pointer (some ⟨2, 117, none⟩), .pointer (some ⟨tb, 0, none⟩), .int .u64 409], .agg #[.pointer (some ⟨2, 117, none⟩), .pointer (some ⟨b, 0, none⟩), .int .u64 153]]).run Tryd.prog W
      = .ok (.tuple #[]) (W.setRow tb #[.int .i64 x, .int .i64 y]) := by
  have hl := run_loadVar_row W b 117 117 _ (0, 0) _ hb Tryd.underlying117 rfl asInfo
  have hs := run_storeVar_row W tb 117 117 _ #[.int .i64 x, .int .i64 y] ht asInfo rfl (by simp [Value.oneCell'])
  rw [asRls]
  simp only [Sem.run_bind, asPartsA, asPartsO, Result.andThen]
  simp [ReflectliteValue.flagAddr, hl, hs, Result.andThen, asDirect]

theorem below_setRow {B tb : Nat} {w w' : World} (h : Below B w w') (hb : B ≤ tb) (cs : Array Value) : Below B w (w'.setRow tb cs) :=
  ⟨h.os, h.tape, h.output, by simpa using h.size, fun k hk => (setRow_other w' tb k cs (by omega)).trans (h.block k hk)⟩

set_option maxHeartbeats 4000000 in
set_option maxRecDepth 100000 in
/-- errors.As at an error of the program's own make. -/
theorem as_hit (x y : Int) (tb : Nat) (o0 o1 : Value) (w : World) (hg : ErrT w) (ht : w.heap[tb]? = some (.cells #[o0, o1] 117 (0, 0))) :
    Calls Tryd.prog 70 #[.iface 117 (.agg #[.int .i64 x, .int .i64 y]), .iface 119 (.pointer (some ⟨tb, 0, none⟩))] w fun ev w' => ev = .returned (.bool true) ∧ Below tb w w' := by
  have htl : tb < w.heap.size := lt_of_block ht
  have n1 : Below w.heap.size w (w.alloc (.cells #[.pointer (some ⟨tb, 0, none⟩)] 119)) := (Below.refl _ _).alloc (Nat.le_refl _) _
  have n2 := n1.alloc n1.size (.cells #[.pointer (some ⟨2, 119, none⟩), .pointer (some ⟨w.heap.size, 0, none⟩), .int .u64 150] 125)
  have n3 := n2.alloc n2.size (.cells #[.pointer (some ⟨2, 119, none⟩), .pointer (some ⟨w.heap.size, 0, none⟩), .int .u64 150] 125)
  have n4 := n3.alloc n3.size (.cells #[.int .i64 x, .int .i64 y] 117)
  have b1 : Box 0 #[.pointer (some ⟨tb, 0, none⟩)] 119 (w.alloc (.cells #[.pointer (some ⟨tb, 0, none⟩)] 119)) w.heap.size := newBox (Nat.zero_le _)
  have b2 := b1.keep ((Below.refl _ _).alloc (Nat.le_refl _) (.cells #[.pointer (some ⟨2, 119, none⟩), .pointer (some ⟨w.heap.size, 0, none⟩), .int .u64 150] 125))
  have b3 := b2.keep ((Below.refl _ _).alloc (Nat.le_refl _) (.cells #[.pointer (some ⟨2, 119, none⟩), .pointer (some ⟨w.heap.size, 0, none⟩), .int .u64 150] 125))
  have c2 := b2.at 0 (.pointer (some ⟨tb, 0, none⟩)) rfl
  have c3 := b3.at 0 (.pointer (some ⟨tb, 0, none⟩)) rfl
  have n8 := asIsNil ⟨w.heap.size, 0, none⟩ ⟨tb, 0, none⟩ _ c2
  have el := asElemV ⟨w.heap.size, 0, none⟩ ⟨tb, 0, none⟩ _ c3
  have hg2 := (n2.cell (p := ⟨1, 0, none⟩) (World.block_lt_of_cell? _ _ hg)).trans hg
  have bO := newBox (lo := 0) (cs := #[.int .i64 x, .int .i64 y]) (T := 117) (W := (((w.alloc (.cells #[.pointer (some ⟨tb, 0, none⟩)] 119)).alloc (.cells #[.pointer (some ⟨2, 119, none⟩), .pointer (some ⟨w.heap.size, 0, none⟩), .int .u64 150] 125)).alloc (.cells #[.pointer (some ⟨2, 119, none⟩), .pointer (some ⟨w.heap.size, 0, none⟩), .int .u64 150] 125))) (Nat.zero_le _)
  have st := asSet tb _ x y o0 o1 _ bO.2 ((n4.block tb htl).trans ht)
  have es : (((w.alloc (.cells #[.pointer (some ⟨tb, 0, none⟩)] 119)).alloc (.cells #[.pointer (some ⟨2, 119, none⟩), .pointer (some ⟨w.heap.size, 0, none⟩), .int .u64 150] 125)).alloc (.cells #[.pointer (some ⟨2, 119, none⟩), .pointer (some ⟨w.heap.size, 0, none⟩), .int .u64 150] 125)).heap.size = w.heap.size + 1 + 1 + 1 := by simp
  rw [es] at st
  have HB := hide (below_setRow (n4.mono (Nat.le_of_lt htl)) (Nat.le_refl _) #[.int .i64 x, .int .i64 y])
  have h6 := @run_callFunc_extern Tryd.prog 75 _ (fun args => ReflectliteValue.unpack (args.getD 0 (.tuple #[]))) Tryd.func75 (by kernel_rfl) (by kernel_rfl) (by kernel_rfl) (by kernel_rfl)
  have h7 := @run_callFunc_extern Tryd.prog 76 _ (ReflectliteValue.methodAny (ReflectliteValue.valueError "reflectlite.Value.Type" 0) (fun t _ _ _ => ReflectliteType.toType t)) Tryd.func76 (by kernel_rfl) (by kernel_rfl) (by kernel_rfl) (by kernel_rfl)
  have h8 := @run_callFunc_extern Tryd.prog 77 _ (ReflectliteValue.method (ReflectliteValue.valueError "reflectlite.Value.IsNil" 0) ReflectliteValue.isNil) Tryd.func77 (by kernel_rfl) (by kernel_rfl) (by kernel_rfl) (by kernel_rfl)
  have h27 := @run_callFunc_extern Tryd.prog 97 _ (ReflectliteType.abiMethod fun t => do pure (.int .u8 (← Rtype.kind t))) Tryd.func97 (by kernel_rfl) (by kernel_rfl) (by kernel_rfl) (by kernel_rfl)
  have h37 := @run_callFunc_extern Tryd.prog 110 _ (ReflectliteType.method ReflectliteType.elem) Tryd.func110 (by kernel_rfl) (by kernel_rfl) (by kernel_rfl) (by kernel_rfl)
  have h38 := @run_callFunc_extern Tryd.prog 111 _ (ReflectliteType.relation "Implements" ReflectliteType.implements_) Tryd.func111 (by kernel_rfl) (by kernel_rfl) (by kernel_rfl) (by kernel_rfl)
  have h10 := @run_callFunc_extern Tryd.prog 80 _ ReflectliteType.typeOf Tryd.func80 (by kernel_rfl) (by kernel_rfl) (by kernel_rfl) (by kernel_rfl)
  have h35 := @run_callFunc_extern Tryd.prog 108 _ (ReflectliteType.relation "AssignableTo" ReflectliteType.assignableTo) Tryd.func108 (by kernel_rfl) (by kernel_rfl) (by kernel_rfl) (by kernel_rfl)
  have h11 := @run_callFunc_extern Tryd.prog 81 _ (ReflectliteValue.method (ReflectliteValue.valueError "reflectlite.Value.Elem" 0) ReflectliteValue.elem) Tryd.func81 (by kernel_rfl) (by kernel_rfl) (by kernel_rfl) (by kernel_rfl)
  have h12 := @run_callFunc_extern Tryd.prog 82 _ ReflectliteValue.set Tryd.func82 (by kernel_rfl) (by kernel_rfl) (by kernel_rfl) (by kernel_rfl)
  have tO := asTypeO
  have mA := asMAssign
  have aO := asAssO
  have vO := asOfO
  have f6 := asOf
  have f7 := asType
  have mK := asMKind
  have mE := asMElem
  have mI := asMImpl
  have kP := asKindP
  have kO := asKindO
  have eT := asElemT
  have iO := asImpl
  clear ht hg n1 n2 n3 n4 b1 b2 b3 c2 c3 bO es
  go_enter Tryd.func70, Tryd.ntmps70
  go_wp2
  refine wp_loop_rounds 1 ?_
  rw [rounds_succ]
  go_wp2
  go_ret
  exact ⟨rfl, unhide HB⟩

end Go.Proofs.YtbogjepkdcknfaaDoor

namespace Go.Proofs.YtbogjepkdcknfaaDoor
open Go.RowKit Go.Extern.Stop Go.Stop Go.Extern

set_option maxHeartbeats 4000000 in
set_option maxRecDepth 100000 in
/-- errors.As at an error of errors.New's make. -/
theorem as_miss (e : Addr) (tb : Nat) (w : World) (hg : ErrT w) :
    Calls Tryd.prog 70 #[.iface 149 (.pointer (some e)), .iface 119 (.pointer (some ⟨tb, 0, none⟩))] w fun ev w' => ev = .returned (.bool false) ∧ Below w.heap.size w w' := by
  have n1 : Below w.heap.size w (w.alloc (.cells #[.pointer (some ⟨tb, 0, none⟩)] 119)) := (Below.refl _ _).alloc (Nat.le_refl _) _
  have n2 := n1.alloc n1.size (.cells #[.pointer (some ⟨2, 119, none⟩), .pointer (some ⟨w.heap.size, 0, none⟩), .int .u64 150] 125)
  have n3 := n2.alloc n2.size (.cells #[.pointer (some ⟨2, 119, none⟩), .pointer (some ⟨w.heap.size, 0, none⟩), .int .u64 150] 125)
  have b1 : Box 0 #[.pointer (some ⟨tb, 0, none⟩)] 119 (w.alloc (.cells #[.pointer (some ⟨tb, 0, none⟩)] 119)) w.heap.size := newBox (Nat.zero_le _)
  have b2 := b1.keep ((Below.refl _ _).alloc (Nat.le_refl _) (.cells #[.pointer (some ⟨2, 119, none⟩), .pointer (some ⟨w.heap.size, 0, none⟩), .int .u64 150] 125))
  have c2 := b2.at 0 (.pointer (some ⟨tb, 0, none⟩)) rfl
  have n8 := asIsNil ⟨w.heap.size, 0, none⟩ ⟨tb, 0, none⟩ _ c2
  have hg2 := (n2.cell (p := ⟨1, 0, none⟩) (World.block_lt_of_cell? _ _ hg)).trans hg
  have HB := hide n3
  have h6 := @run_callFunc_extern Tryd.prog 75 _ (fun args => ReflectliteValue.unpack (args.getD 0 (.tuple #[]))) Tryd.func75 (by kernel_rfl) (by kernel_rfl) (by kernel_rfl) (by kernel_rfl)
  have h7 := @run_callFunc_extern Tryd.prog 76 _ (ReflectliteValue.methodAny (ReflectliteValue.valueError "reflectlite.Value.Type" 0) (fun t _ _ _ => ReflectliteType.toType t)) Tryd.func76 (by kernel_rfl) (by kernel_rfl) (by kernel_rfl) (by kernel_rfl)
  have h8 := @run_callFunc_extern Tryd.prog 77 _ (ReflectliteValue.method (ReflectliteValue.valueError "reflectlite.Value.IsNil" 0) ReflectliteValue.isNil) Tryd.func77 (by kernel_rfl) (by kernel_rfl) (by kernel_rfl) (by kernel_rfl)
  have h27 := @run_callFunc_extern Tryd.prog 97 _ (ReflectliteType.abiMethod fun t => do pure (.int .u8 (← Rtype.kind t))) Tryd.func97 (by kernel_rfl) (by kernel_rfl) (by kernel_rfl) (by kernel_rfl)
  have h37 := @run_callFunc_extern Tryd.prog 110 _ (ReflectliteType.method ReflectliteType.elem) Tryd.func110 (by kernel_rfl) (by kernel_rfl) (by kernel_rfl) (by kernel_rfl)
  have h38 := @run_callFunc_extern Tryd.prog 111 _ (ReflectliteType.relation "Implements" ReflectliteType.implements_) Tryd.func111 (by kernel_rfl) (by kernel_rfl) (by kernel_rfl) (by kernel_rfl)
  have h10 := @run_callFunc_extern Tryd.prog 80 _ ReflectliteType.typeOf Tryd.func80 (by kernel_rfl) (by kernel_rfl) (by kernel_rfl) (by kernel_rfl)
  have h35 := @run_callFunc_extern Tryd.prog 108 _ (ReflectliteType.relation "AssignableTo" ReflectliteType.assignableTo) Tryd.func108 (by kernel_rfl) (by kernel_rfl) (by kernel_rfl) (by kernel_rfl)
  have tO := asTypeE
  have mA := asMAssign
  have aO := asAssE
  have q1 := fun (v : Value) (w : World) => run_typeAssert_lacksB (P := Tryd.prog) (t := 149) (z := .nilIface) Tryd.underlying141 (by kernel_rfl) (by kernel_rfl) v 100 w
  have q2 := fun (v : Value) (w : World) => run_typeAssert_lacksB (P := Tryd.prog) (t := 149) (z := .nilIface) Tryd.underlying144 (by kernel_rfl) (by kernel_rfl) v 100 w
  have q3 := fun (v : Value) (w : World) => run_typeAssert_lacksB (P := Tryd.prog) (t := 149) (z := .nilIface) Tryd.underlying146 (by kernel_rfl) (by kernel_rfl) v 100 w
  have f6 := asOf
  have f7 := asType
  have mK := asMKind
  have mE := asMElem
  have mI := asMImpl
  have kP := asKindP
  have kO := asKindO
  have eT := asElemT
  have iO := asImpl
  clear hg n1 n2 n3 b1 b2 c2
  go_enter Tryd.func70, Tryd.ntmps70
  go_wp2
  refine wp_loop_rounds 1 ?_
  rw [rounds_succ]
  go_wp2
  go_ret
  exact ⟨rfl, unhide HB⟩

set_option maxRecDepth 10000 in
/-- refusalCode of the program, of a number that was skipped. -/
theorem refusal_old (x y : Int) (w : World) (hg : ErrT w) : Calls Tryd.prog 56 #[.iface 117 (.agg #[.int .i64 x, .int .i64 y])] w fun e w' => e = .returned (.int .i64 7) ∧ Below w.heap.size w w' := by
  have n1 : Below w.heap.size w (w.alloc (.cells #[.int .i64 0, .int .i64 0] 117)) := (Below.refl _ _).alloc (Nat.le_refl _) _
  have bB := newBox (lo := 0) (cs := #[.int .i64 0, .int .i64 0]) (T := 117) (W := w) (Nat.zero_le _)
  have HL := hide (as_hit x y w.heap.size _ _ _ ((n1.cell (p := ⟨1, 0, none⟩) (World.block_lt_of_cell? _ _ hg)).trans hg) bB.2)
  have HB := hide n1
  clear n1 bB hg
  go_enter Tryd.func56, Tryd.ntmps56
  go_wp2_with fail
  refine (unhide HL).mono ?_
  rintro e w2 ⟨rfl, hb⟩
  have HB2 := hide ((unhide HB).trans hb)
  clear hb HL HB
  go_wp2_with fail
  go_ret
  exact ⟨rfl, unhide HB2⟩

set_option maxRecDepth 10000 in
/-- refusalCode of the program, where there is no room. -/
theorem refusal_full (e : Addr) (w : World) (hg : ErrT w) : Calls Tryd.prog 56 #[.iface 149 (.pointer (some e))] w fun e w' => e = .returned (.int .i64 2) ∧ Below w.heap.size w w' := by
  have n1 : Below w.heap.size w (w.alloc (.cells #[.int .i64 0, .int .i64 0] 117)) := (Below.refl _ _).alloc (Nat.le_refl _) _
  have HL := hide (as_miss e w.heap.size _ ((n1.cell (p := ⟨1, 0, none⟩) (World.block_lt_of_cell? _ _ hg)).trans hg))
  have HB := hide n1
  clear n1 hg
  go_enter Tryd.func56, Tryd.ntmps56
  go_wp2_with fail
  refine (unhide HL).mono ?_
  rintro e w2 ⟨rfl, hb⟩
  have HB2 := hide ((unhide HB).trans (hb.mono (unhide HB).size))
  clear hb HL HB
  go_wp2_with fail
  go_ret
  exact ⟨rfl, unhide HB2⟩

end Go.Proofs.YtbogjepkdcknfaaDoor

namespace Go.Proofs.YtbogjepkdcknfaaDoor
open Go.RowKit

theorem vcnt_OnceResult (x : DOnceResult) : Lay.tOnceResult.vcnt x = (Lay.sl Lay.tWrite).vcnt x.writes := by
  show 0 + (0 + (0 + ((Lay.sl Lay.tWrite).vcnt x.writes))) = (Lay.sl Lay.tWrite).vcnt x.writes
  omega
theorem mkv_OnceResult (k : Int) (x : DOnceResult) : Lay.tOnceResult.mkv k x = ⟨x.code, x.isNew, x.place, (Lay.sl Lay.tWrite).mkv (k) x.writes⟩ := by
  simp [Lay.tOnceResult, Lay.via, Lay.pair, Lay.int, Lay.bool]
theorem own_OnceResult {w : World} {cs : List Value} {x : DOnceResult} {bl : List Nat} (h : Lay.tOnceResult.Own w cs x bl) : ∃ (a3 : Option Addr) (d3 : Nat) (g3 : List Nat), cs = [.int .i64 x.code, .bool x.isNew, .int .i64 x.place, .slice a3 x.writes.length d3] ∧ bl = g3 ∧ (Lay.sl Lay.tWrite).Own w [.slice a3 x.writes.length d3] x.writes g3 ∧ (Lit.int .i64 x.code).wf = true ∧ (Lit.int .i64 x.place).wf = true := by
  obtain ⟨hl, hn, hf⟩ := h
  obtain ⟨a3, d3, b3, rfl, hbl, w0, w2, l3⟩ := lies_OnceResult.1 hl
  rw [hbl] at hn hf
  exact ⟨a3, d3, b3, rfl, hbl, ⟨l3, hn, hf⟩, w0, w2⟩
theorem mkOwn_OnceResult {w : World} {x : DOnceResult} {c3 : List Value} {g3 : List Nat} (O3 : (Lay.sl Lay.tWrite).Own w c3 x.writes g3) (v0 : (Lit.int .i64 x.code).wf = true) (v2 : (Lit.int .i64 x.place).wf = true) (hn : (g3).Nodup) : Lay.tOnceResult.Own w ([.int .i64 x.code] ++ ([.bool x.isNew] ++ ([.int .i64 x.place] ++ c3))) x (g3) := by
  refine ⟨⟨[.int .i64 x.code], [.bool x.isNew] ++ ([.int .i64 x.place] ++ c3), [], [] ++ ([] ++ g3), rfl, by simp, ⟨rfl, v0, rfl⟩, ⟨[.bool x.isNew], [.int .i64 x.place] ++ c3, [], [] ++ g3, rfl, rfl, ⟨rfl, rfl⟩, ⟨[.int .i64 x.place], c3, [], g3, rfl, rfl, ⟨rfl, v2, rfl⟩, O3.1⟩⟩⟩, hn, ?_⟩
  intro b hb o
  exact O3.2.2 b hb o

end Go.Proofs.YtbogjepkdcknfaaDoor

namespace Go.Proofs.YtbogjepkdcknfaaDoor
open Go.RowKit

theorem wF_wfs {x : DWrite} (h : wF x = 0) : (Lit.int .i64 x.session).wf = true ∧ (Lit.int .i64 x.seq).wf = true := by
  have := wF_seq h
  exact ⟨wf_of_bd (by omega), wf_of_bd (by omega)⟩
theorem own_once {w : World} {c : Int} {b : Bool} {n : Int} {v : Value} {xs : List DWrite} {lo hi : Nat} (hc : (Lit.int .i64 c).wf = true) (hn : (Lit.int .i64 n).wf = true) (h : (Lay.sl Lay.tWrite).OwnIn w [v] xs lo hi) : Lay.tOnceResult.OwnIn w [.int .i64 c, .bool b, .int .i64 n, v] ⟨c, b, n, xs⟩ lo hi := by
  obtain ⟨bl, O, i⟩ := h
  exact ⟨bl, mkOwn_OnceResult (x := ⟨c, b, n, xs⟩) O hc hn O.2.1, i⟩
theorem own_codeOnce {w : World} {c : Int} {lo hi : Nat} (hc : (Lit.int .i64 c).wf = true) : Lay.tOnceResult.OwnIn w [.int .i64 c, .bool false, .int .i64 0, .slice none 0 0] ⟨c, false, 0, []⟩ lo hi := own_once hc (by decide) ⟨[], ⟨⟨none, 0, rfl, by simp, Or.inl ⟨rfl, rfl⟩⟩, by simp, by simp⟩, by simp⟩
theorem box_low {lo B : Nat} {cs : Array Value} {T : TypeId} {W w' : World} {s : Nat} (h : Box lo cs T W s) (hb : Below B W w') (hs : s < B) : Box lo cs T w' s := ⟨h.1, (hb.block s hs).trans h.2⟩
theorem told_form {w : World} {p mb N : Nat} {ws : List DWrite} {v : Value} {rows : List (List Value)} {bls : List (List Nat)} (h : Told w p mb N ws v rows bls) : ∃ ao cap, v = .slice ao ws.length cap := by
  rcases h.grow.form with ⟨rfl, rfl⟩ | ⟨g, cap, rfl, -⟩
  · exact ⟨_, _, rfl⟩
  · exact ⟨_, _, rfl⟩
theorem below4 {B b : Nat} {w w' : World} (h : Below B w w') (hb : B ≤ b) (v0 v1 v2 v3 : Value) : Below B w ((((w'.setCell ⟨b, 0, none⟩ v0).setCell ⟨b, 1, none⟩ v1).setCell ⟨b, 2, none⟩ v2).setCell ⟨b, 3, none⟩ v3) := (((h.setCell (by simpa using hb) _).setCell (by simpa using hb) _).setCell (by simpa using hb) _).setCell (by simpa using hb) _

set_option maxRecDepth 100000 in
set_option maxHeartbeats 4000000 in
theorem implApp (v : Value) (ws : List DWrite) (u : List Value) (x : DWrite) (w : World) (hE : Errs w) (h : (Lay.sl Lay.tWrite).Reads w [v] ws) (hx : Lay.tWrite.Reads w u x) :
    Calls Tryd.prog 41 #[v, .agg u.toArray] w fun e w' => ∃ cs, e = .returned (.agg cs.toArray) ∧ Lay.tOnceResult.OwnIn w' cs (appR ws x) w.heap.size w'.heap.size ∧ Below w.heap.size w w' := by
  obtain ⟨a2, d2, rfl, R2⟩ := open_Write hx
  have n1 : Below w.heap.size w (w.alloc (.cells #[.int .i64 x.kind, .int .i64 x.id, .slice a2 x.vec.length d2, .int .i64 x.session, .int .i64 x.seq] 37)) := (Below.refl _ _).alloc (Nat.le_refl _) _
  have nb := n1.alloc n1.size (.cells #[.int .i64 0, .bool false, .int .i64 0, .slice none 0 0] 77)
  have hQ1 : Box 0 #[.int .i64 x.kind, .int .i64 x.id, .slice a2 x.vec.length d2, .int .i64 x.session, .int .i64 x.seq] 37 (w.alloc (.cells #[.int .i64 x.kind, .int .i64 x.id, .slice a2 x.vec.length d2, .int .i64 x.session, .int .i64 x.seq] 37)) w.heap.size := newBox (Nat.zero_le _)
  have HQ := hide (hQ1.keep ((Below.refl _ _).alloc (Nat.le_refl _) (.cells #[.int .i64 0, .bool false, .int .i64 0, .slice none 0 0] 77)))
  have hsz1 : (w.alloc (.cells #[.int .i64 x.kind, .int .i64 x.id, .slice a2 x.vec.length d2, .int .i64 x.session, .int .i64 x.seq] 37)).heap.size = w.heap.size + 1 := by simp
  have HBR : Hid (Box w.heap.size #[.int .i64 0, .bool false, .int .i64 0, .slice none 0 0] 77 ((w.alloc (.cells #[.int .i64 x.kind, .int .i64 x.id, .slice a2 x.vec.length d2, .int .i64 x.session, .int .i64 x.seq] 37)).alloc (.cells #[.int .i64 0, .bool false, .int .i64 0, .slice none 0 0] 77)) (w.heap.size + 1)) := by
    have := newBox (lo := w.heap.size) (cs := #[.int .i64 0, .bool false, .int .i64 0, .slice none 0 0]) (T := 77) (W := w.alloc (.cells #[.int .i64 x.kind, .int .i64 x.id, .slice a2 x.vec.length d2, .int .i64 x.session, .int .i64 x.seq] 37)) n1.size
    rwa [hsz1] at this
  have HL := hide (storyC _ ws _ (h.later nb))
  have HR2 := hide (R2.later nb)
  have HE := hide (hE.later nb)
  have HB0 := hide nb
  have hsz : ((w.alloc (.cells #[.int .i64 x.kind, .int .i64 x.id, .slice a2 x.vec.length d2, .int .i64 x.session, .int .i64 x.seq] 37)).alloc (.cells #[.int .i64 0, .bool false, .int .i64 0, .slice none 0 0] 77)).heap.size = w.heap.size + 2 := by simp
  obtain ⟨ao, cap, rfl⟩ := open_sl h
  clear n1 nb hQ1 hsz1 h hx R2 hE
  go_enter Tryd.func41, Tryd.ntmps41
  go_wp2_with fail
  generalize (w.alloc (.cells #[.int .i64 x.kind, .int .i64 x.id, .slice a2 x.vec.length d2, .int .i64 x.session, .int .i64 x.seq] 37)).alloc (.cells #[.int .i64 0, .bool false, .int .i64 0, .slice none 0 0] 77) = W1 at *
  refine (unhide HL).mono ?_
  rintro e w2 ⟨r, rfl, g0, g1, hb⟩
  rw [hsz] at g0
  have bR := (unhide HBR).keep hb
  have HB2 := hide ((unhide HB0).trans (hb.mono (unhide HB0).size))
  have HQ2 := hide ((unhide HQ).keep hb)
  have HR3 := hide ((unhide HR2).later hb)
  have HE2 := hide ((unhide HE).later hb)
  clear hb HL HB0 HBR HQ HR2 HE
  by_cases hfw : writesF ws = 0
  · obtain ⟨rfl, v2, rows, bls, hT⟩ := g0 hfw
    clear g0 g1
    have HFW := hide hfw
    rw [hfw]
    clear hfw
    have y0 : w2.cell? ⟨w.heap.size, 0, none⟩ = some (.int .i64 x.kind) := (unhide HQ2).at 0 _ rfl
    have y1 : w2.cell? ⟨w.heap.size, 1, none⟩ = some (.int .i64 x.id) := (unhide HQ2).at 1 _ rfl
    have y2 : w2.cell? ⟨w.heap.size, 2, none⟩ = some (.slice a2 x.vec.length d2) := (unhide HQ2).at 2 _ rfl
    have y3 : w2.cell? ⟨w.heap.size, 3, none⟩ = some (.int .i64 x.session) := (unhide HQ2).at 3 _ rfl
    have y4 : w2.cell? ⟨w.heap.size, 4, none⟩ = some (.int .i64 x.seq) := (unhide HQ2).at 4 _ rfl
    have L := implDeed x.kind x.id (.slice a2 x.vec.length d2) x.session x.seq x.vec w2 (Lay.ints_reads (unhide HR3))
    simp only [ToldDeed] at L
    rw [show writeFault x.kind x.id x.vec x.session x.seq = wF x from rfl] at L
    have HL := hide L
    have HT := hide hT
    have HBR := hide bR
    clear L hT bR
    go_wp2_with fail
    clear y0 y1 y2 y3 y4
    refine (unhide HL).mono ?_
    rintro e w4 ⟨rfl, hb⟩
    have bR := (unhide HBR).keep hb
    have HB4 := hide ((unhide HB2).trans (hb.mono (unhide HB2).size))
    have hQ4 := (unhide HQ2).keep hb
    have HE4 := hide ((unhide HE2).later hb)
    have hT4 := (unhide HT).later hb
    clear hb HL HBR HB2 HQ2 HE2 HT HR3
    by_cases hf : wF x = 0
    · rw [hf, show deedRes x.kind x.id x.vec x.session x.seq = deedV x.kind x.vec from if_pos hf]
      have HDV : Hid (∀ W : World, Calls Tryd.prog 58 #[deedV x.kind x.vec, .int .i64 x.id, .int .i64 x.session, .int .i64 x.seq] W fun e w' => ∃ cs, e = .returned (.agg cs.toArray) ∧ Lay.tWrite.OwnIn w' cs x W.heap.size w'.heap.size ∧ Below W.heap.size W w') := fun W => writeOfC x W hf
      generalize hdv : deedV x.kind x.vec = dv at *
      clear hdv
      obtain ⟨bs, hbs⟩ : ∃ bs, bs = decide (seenI ws x.session x.seq ≠ 0) := ⟨_, rfl⟩
      have HBS := hide hbs
      clear hbs
      go_wp2_with fail
      refine wp_region_noPanic ?_
      refine wp_region_held_drew (S := fun w' => Below w4.heap.size w4 w') (by kernel_rfl) (Below.refl _ _).drew (fun hHeld => ?_)
      refine wpAnyH_take (i := 0) (oi := { dst := some 30, op := Go.Op.move (Go.Operand.tmp 5), type := 84, pos := "l05_session.go:139", after := #[], guard := none }) (v := ?vk0) rfl (by kernel_rfl) (by kernel_rfl) (by kernel_rfl) (fun _ _ _ h => h) (Or.inl ⟨by rfl, ?hk0⟩) hHeld ?rk0
      case hk0 =>
        intro wS hSw
        (try dsimp only at hSw)
        go_simp
        try with_reducible rfl
      case rk0 =>
      simp only [Act.put, List.setIfInBounds_toArray, List.set_cons_zero, List.set_cons_succ]
      refine wpAnyH_take (i := 1) (oi := { dst := some 31, op := Go.Op.nilCheck (Go.Operand.tmp 30), type := 0, pos := "l05_session.go:139", after := #[{ on := 0, ground := Go.Ground.data }], guard := none }) (v := ?vk1) rfl (by kernel_rfl) (by kernel_rfl) (by kernel_rfl) (fun _ _ _ h => h) (Or.inl ⟨by rfl, ?hk1⟩) hHeld ?rk1
      case hk1 =>
        intro wS hSw
        (try dsimp only at hSw)
        go_simp
        try with_reducible rfl
      case rk1 =>
      simp only [Act.put, List.setIfInBounds_toArray, List.set_cons_zero, List.set_cons_succ]
      refine wpAnyH_take (i := 2) (oi := { dst := some 32, op := Go.Op.fieldAddr 95 (Go.Operand.tmp 31) 1, type := 0, pos := "l05_session.go:139", after := #[{ on := 1, ground := Go.Ground.data }], guard := none }) (v := ?vk2) rfl (by kernel_rfl) (by kernel_rfl) (by kernel_rfl) (fun _ _ _ h => h) (Or.inl ⟨by rfl, ?hk2⟩) hHeld ?rk2
      case hk2 =>
        intro wS hSw
        (try dsimp only at hSw)
        go_simp
        try with_reducible rfl
      case rk2 =>
      simp only [Act.put, List.setIfInBounds_toArray, List.set_cons_zero, List.set_cons_succ]
      refine wpAnyH_take (i := 3) (oi := { dst := some 33, op := Go.Op.load 92 (Go.Operand.tmp 32), type := 92, pos := "l05_session.go:139", after := #[{ on := 2, ground := Go.Ground.data }], guard := none }) (v := ?vk3) rfl (by kernel_rfl) (by kernel_rfl) (by kernel_rfl) (fun _ _ _ h => h) (Or.inl ⟨by rfl, ?hk3⟩) hHeld ?rk3
      case hk3 =>
        intro wS hSw
        have y0 : wS.cell? ⟨w.heap.size, 0, none⟩ = some (.int .i64 x.kind) := (hQ4.keep hSw).at 0 _ rfl
        have y1 : wS.cell? ⟨w.heap.size, 1, none⟩ = some (.int .i64 x.id) := (hQ4.keep hSw).at 1 _ rfl
        have y2 : wS.cell? ⟨w.heap.size, 2, none⟩ = some (.slice a2 x.vec.length d2) := (hQ4.keep hSw).at 2 _ rfl
        have y3 : wS.cell? ⟨w.heap.size, 3, none⟩ = some (.int .i64 x.session) := (hQ4.keep hSw).at 3 _ rfl
        have y4 : wS.cell? ⟨w.heap.size, 4, none⟩ = some (.int .i64 x.seq) := (hQ4.keep hSw).at 4 _ rfl
        have zm : wS.cell? ⟨w.heap.size + 2 + 1, 1, none⟩ = some (.map (some (w.heap.size + 2))) := (hT4.box.keep hSw).at 1 _ rfl
        clear hSw
        (try dsimp only at hSw)
        go_simp
        try with_reducible rfl
      case rk3 =>
      simp only [Act.put, List.setIfInBounds_toArray, List.set_cons_zero, List.set_cons_succ]
      refine wpAnyH_take (i := 4) (oi := { dst := some 34, op := Go.Op.load 37 (Go.Operand.tmp 3), type := 37, pos := "l05_session.go:139", after := #[], guard := none }) (v := ?vk4) rfl (by kernel_rfl) (by kernel_rfl) (by kernel_rfl) (fun _ _ _ h => h) (Or.inl ⟨by rfl, ?hk4⟩) hHeld ?rk4
      case hk4 =>
        intro wS hSw
        have y0 : wS.cell? ⟨w.heap.size, 0, none⟩ = some (.int .i64 x.kind) := (hQ4.keep hSw).at 0 _ rfl
        have y1 : wS.cell? ⟨w.heap.size, 1, none⟩ = some (.int .i64 x.id) := (hQ4.keep hSw).at 1 _ rfl
        have y2 : wS.cell? ⟨w.heap.size, 2, none⟩ = some (.slice a2 x.vec.length d2) := (hQ4.keep hSw).at 2 _ rfl
        have y3 : wS.cell? ⟨w.heap.size, 3, none⟩ = some (.int .i64 x.session) := (hQ4.keep hSw).at 3 _ rfl
        have y4 : wS.cell? ⟨w.heap.size, 4, none⟩ = some (.int .i64 x.seq) := (hQ4.keep hSw).at 4 _ rfl
        have zm : wS.cell? ⟨w.heap.size + 2 + 1, 1, none⟩ = some (.map (some (w.heap.size + 2))) := (hT4.box.keep hSw).at 1 _ rfl
        clear hSw
        (try dsimp only at hSw)
        go_simp
        try with_reducible rfl
      case rk4 =>
      simp only [Act.put, List.setIfInBounds_toArray, List.set_cons_zero, List.set_cons_succ]
      refine wpAnyH_ready (rs := [5]) (by kernel_rfl) (by simp) ?_
      refine AllReadyH.cons (o := { dst := some 35, op := Go.Op.call { callee := Go.Callee.value (Go.Operand.func 54), args := #[Go.Operand.tmp 34], argTypes := #[37] }, type := 97, pos := "l05_session.go:139", after := #[{ on := 4, ground := Go.Ground.data }], guard := none }) rfl (fun K hK => ?_) AllReadyH.nil
      go_simp
      go_at_call 54
      refine (ticketC _ _ _ _ _ _ _ _).mono ?_
      rintro e w7 ⟨rfl, hb7⟩
      simp only [tick]
      try go_wp2_with fail
      refine hK.out _ _ (hHeld.trans (hb7.mono hHeld.size)) (fun hHeld => ?_)
      clear hK K
      try simp only [Act.put, List.setIfInBounds_toArray, List.set_cons_zero, List.set_cons_succ]
      refine wpAnyH_take (i := 6) (oi := { dst := some 36, op := Go.Op.lookup 92 (Go.Operand.tmp 33) (Go.Operand.tmp 35) true, type := 91, pos := "l05_session.go:139", after := #[{ on := 3, ground := Go.Ground.data }, { on := 5, ground := Go.Ground.data }], guard := none }) (v := ?vk6) rfl (by kernel_rfl) (by kernel_rfl) (by kernel_rfl) (fun _ _ _ h => h) (Or.inl ⟨by rfl, ?hk6⟩) hHeld ?rk6
      case hk6 =>
        intro wS hSw
        have hlk := (hT4.later hSw).seen.look (wF_wfs hf).1 (wF_wfs hf).2
        simp only [tick] at hlk
        rw [← unhide HBS] at hlk
        clear hSw
        (try dsimp only at hSw)
        go_simp
        try with_reducible rfl
      case rk6 =>
      simp only [Act.put, List.setIfInBounds_toArray, List.set_cons_zero, List.set_cons_succ]
      refine wpAnyH_take (i := 7) (oi := { dst := some 29, op := Go.Op.move (Go.Operand.tmp 36), type := 91, pos := "l05_session.go:139", after := #[{ on := 6, ground := Go.Ground.data }], guard := none }) (v := ?vk7) rfl (by kernel_rfl) (by kernel_rfl) (by kernel_rfl) (fun _ _ _ h => h) (Or.inl ⟨by rfl, ?hk7⟩) hHeld ?rk7
      case hk7 =>
        intro wS hSw
        (try dsimp only at hSw)
        go_simp
        try with_reducible rfl
      case rk7 =>
      simp only [Act.put, List.setIfInBounds_toArray, List.set_cons_zero, List.set_cons_succ]
      refine wpAnyH_take (i := 8) (oi := { dst := some 37, op := Go.Op.extract (Go.Operand.tmp 29) 0, type := 2, pos := "l05_session.go:139", after := #[{ on := 7, ground := Go.Ground.data }], guard := none }) (v := ?vk8) rfl (by kernel_rfl) (by kernel_rfl) (by kernel_rfl) (fun _ _ _ h => h) (Or.inl ⟨by rfl, ?hk8⟩) hHeld ?rk8
      case hk8 =>
        intro wS hSw
        (try dsimp only at hSw)
        go_simp
        try with_reducible rfl
      case rk8 =>
      simp only [Act.put, List.setIfInBounds_toArray, List.set_cons_zero, List.set_cons_succ]
      refine wpAnyH_take (i := 9) (oi := { dst := some 38, op := Go.Op.extract (Go.Operand.tmp 29) 1, type := 4, pos := "l05_session.go:139", after := #[{ on := 7, ground := Go.Ground.data }, { on := 10, ground := Go.Ground.gcOnly Go.Departure.lateStores }], guard := none }) (v := ?vk9) rfl (by kernel_rfl) (by kernel_rfl) (by kernel_rfl) (fun _ _ _ h => h) (Or.inl ⟨by rfl, ?hk9⟩) hHeld ?rk9
      case hk9 =>
        intro wS hSw
        (try dsimp only at hSw)
        go_simp
        try with_reducible rfl
      case rk9 =>
      simp only [Act.put, List.setIfInBounds_toArray, List.set_cons_zero, List.set_cons_succ]
      refine wpAnyH_take (i := 10) (oi := { dst := some 8, op := Go.Op.assign (Go.Operand.tmp 37), type := 2, pos := "l05_session.go:139", after := #[{ on := 8, ground := Go.Ground.data }, { on := 5, ground := Go.Ground.chain }, { on := 0, ground := Go.Ground.phase }, { on := 1, ground := Go.Ground.phase }, { on := 2, ground := Go.Ground.phase }, { on := 3, ground := Go.Ground.phase }, { on := 4, ground := Go.Ground.phase }, { on := 5, ground := Go.Ground.phase }, { on := 6, ground := Go.Ground.phase }, { on := 7, ground := Go.Ground.phase }, { on := 8, ground := Go.Ground.phase }, { on := 9, ground := Go.Ground.textOnly Go.Departure.lateStores }], guard := none }) (v := ?vk10) rfl (by kernel_rfl) (by kernel_rfl) (by kernel_rfl) (fun _ _ _ h => h) (Or.inl ⟨by rfl, ?hk10⟩) hHeld ?rk10
      case hk10 =>
        intro wS hSw
        (try dsimp only at hSw)
        go_simp
        try with_reducible rfl
      case rk10 =>
      simp only [Act.put, List.setIfInBounds_toArray, List.set_cons_zero, List.set_cons_succ]
      refine wpAnyH_take (i := 11) (oi := { dst := some 9, op := Go.Op.assign (Go.Operand.tmp 38), type := 4, pos := "l05_session.go:139", after := #[{ on := 9, ground := Go.Ground.data }, { on := 10, ground := Go.Ground.chain }, { on := 0, ground := Go.Ground.phase }, { on := 1, ground := Go.Ground.phase }, { on := 2, ground := Go.Ground.phase }, { on := 3, ground := Go.Ground.phase }, { on := 4, ground := Go.Ground.phase }, { on := 5, ground := Go.Ground.phase }, { on := 6, ground := Go.Ground.phase }, { on := 7, ground := Go.Ground.phase }, { on := 8, ground := Go.Ground.phase }, { on := 9, ground := Go.Ground.phase }, { on := 10, ground := Go.Ground.phase }], guard := none }) (v := ?vk11) rfl (by kernel_rfl) (by kernel_rfl) (by kernel_rfl) (fun _ _ _ h => h) (Or.inl ⟨by rfl, ?hk11⟩) hHeld ?rk11
      case hk11 =>
        intro wS hSw
        (try dsimp only at hSw)
        go_simp
        try with_reducible rfl
      case rk11 =>
      simp only [Act.put, List.setIfInBounds_toArray, List.set_cons_zero, List.set_cons_succ]
      refine wpAnyH_done (by kernel_rfl) ?_ _
      refine NoPanic.normal ?_
      have hT5 := (hT4.later hHeld)
      have bR5 := bR.keep hHeld
      have hQ5 := hQ4.keep hHeld
      have HB5 := hide ((unhide HB4).trans (hHeld.mono (unhide HB4).size))
      have HE5 := hide ((unhide HE4).later hHeld)
      clear hHeld hT4 hQ4 bR HB4 HE4 hb7
      by_cases hsn : seenI ws x.session x.seq = 0
      · obtain rfl : bs = false := by rw [unhide HBS]; simpa using hsn
        have hbs := HBS
        clear HBS hbs
        obtain ⟨ea, hF⟩ := (unhide HE5).2
        have HRF := hide (refusalC hT5 x a2 d2 hf ea hF)
        have y0 : w7.cell? ⟨w.heap.size, 0, none⟩ = some (.int .i64 x.kind) := hQ5.at 0 _ rfl
        have y1 : w7.cell? ⟨w.heap.size, 1, none⟩ = some (.int .i64 x.id) := hQ5.at 1 _ rfl
        have y2 : w7.cell? ⟨w.heap.size, 2, none⟩ = some (.slice a2 x.vec.length d2) := hQ5.at 2 _ rfl
        have y3 : w7.cell? ⟨w.heap.size, 3, none⟩ = some (.int .i64 x.session) := hQ5.at 3 _ rfl
        have y4 : w7.cell? ⟨w.heap.size, 4, none⟩ = some (.int .i64 x.seq) := hQ5.at 4 _ rfl
        have HT5 := hide hT5
        have HBR5 := hide bR5
        have HQ5 := hide hQ5
        have HF := hide hf
        have HSN := hide hsn
        clear hT5 bR5 hQ5 hf hsn hF
        go_wp2_with fail
        clear y0 y1 y2 y3 y4
        refine (unhide HRF).mono ?_
        rintro e w8 ⟨rfl, hb8⟩
        have hT8 := (unhide HT5).later hb8
        have bR := (unhide HBR5).keep hb8
        have hQ8 := (unhide HQ5).keep hb8
        have HB8 := hide ((unhide HB5).trans (hb8.mono (unhide HB5).size))
        have HE8 := hide ((unhide HE5).later hb8)
        clear hb8 HT5 HBR5 HQ5 HB5 HE5 HRF
        by_cases c1 : x.seq < lastI ws x.session
        · rw [show refV ea ws x = _ from if_pos c1]
          have HG : Hid (appR ws x = ⟨7, false, 0, []⟩) := appR_old (unhide HFW) (unhide HF) (unhide HSN) c1
          have HRC := hide (refusal_old x.seq (lastI ws x.session) w8 (unhide HE8).1)
          have HBR := hide bR
          clear c1 bR hT8 hQ8 HE8
          go_wp2_with fail
          refine (unhide HRC).mono ?_
          rintro e w9 ⟨rfl, hb9⟩
          have bR := (unhide HBR).keep hb9
          have HB9 := hide ((unhide HB8).trans (hb9.mono (unhide HB8).size))
          have z0 : w9.cell? ⟨w.heap.size + 1, 0, none⟩ = some (.int .i64 0) := bR.at 0 _ rfl
          have z1 : w9.cell? ⟨w.heap.size + 1, 1, none⟩ = some (.bool false) := bR.at 1 _ rfl
          have z2 : w9.cell? ⟨w.heap.size + 1, 2, none⟩ = some (.int .i64 0) := bR.at 2 _ rfl
          have z3 : w9.cell? ⟨w.heap.size + 1, 3, none⟩ = some (.slice none 0 0) := bR.at 3 _ rfl
          have f0 := bR.soft 0
          have f1 := bR.soft 1
          have f2 := bR.soft 2
          have f3 := bR.soft 3
          have l0 := bR.lt
          clear bR hb9 HRC HBR HB8
          go_wp2_with fail
          refine bodyPost_ret (v := .agg #[.int .i64 (7), .bool false, .int .i64 0, .slice none 0 0]) (by simp [results, Tryd.results41, go_sem, z0, z1, z2, z3]) rfl ?_
          rw [unhide HG]
          exact ⟨_, rfl, own_codeOnce (by decide), ((((unhide HB9).setCell (by simp) _).setCell (by simp) _).setCell (by simp) _).setCell (by simp) _⟩
        · by_cases c2 : 200 ≤ ws.length
          · rw [show refV ea ws x = .iface 149 (.pointer (some ea)) by rw [refV, if_neg c1, if_pos c2]]
            have HG : Hid (appR ws x = ⟨2, false, 0, []⟩) := appR_full (unhide HFW) (unhide HF) (unhide HSN) c1 c2
            have HRC := hide (refusal_full ea w8 (unhide HE8).1)
            have HBR := hide bR
            clear c1 c2 bR hT8 hQ8 HE8
            go_wp2_with fail
            refine (unhide HRC).mono ?_
            rintro e w9 ⟨rfl, hb9⟩
            have bR := (unhide HBR).keep hb9
            have HB9 := hide ((unhide HB8).trans (hb9.mono (unhide HB8).size))
            have z0 : w9.cell? ⟨w.heap.size + 1, 0, none⟩ = some (.int .i64 0) := bR.at 0 _ rfl
            have z1 : w9.cell? ⟨w.heap.size + 1, 1, none⟩ = some (.bool false) := bR.at 1 _ rfl
            have z2 : w9.cell? ⟨w.heap.size + 1, 2, none⟩ = some (.int .i64 0) := bR.at 2 _ rfl
            have z3 : w9.cell? ⟨w.heap.size + 1, 3, none⟩ = some (.slice none 0 0) := bR.at 3 _ rfl
            have f0 := bR.soft 0
            have f1 := bR.soft 1
            have f2 := bR.soft 2
            have f3 := bR.soft 3
            have l0 := bR.lt
            clear bR hb9 HRC HBR HB8
            go_wp2_with fail
            refine bodyPost_ret (v := .agg #[.int .i64 (2), .bool false, .int .i64 0, .slice none 0 0]) (by simp [results, Tryd.results41, go_sem, z0, z1, z2, z3]) rfl ?_
            rw [unhide HG]
            exact ⟨_, rfl, own_codeOnce (by decide), ((((unhide HB9).setCell (by simp) _).setCell (by simp) _).setCell (by simp) _).setCell (by simp) _⟩
          · rw [show refV ea ws x = .nilIface by rw [refV, if_neg c1, if_neg c2]]
            have HG : Hid (appR ws x = ⟨0, true, (ws.length : Int) + 1, ws ++ [x]⟩) := appR_new (unhide HFW) (unhide HF) (unhide HSN) c1 c2
            have y1 : w8.cell? ⟨w.heap.size, 1, none⟩ = some (.int .i64 x.id) := hQ8.at 1 _ rfl
            have y3 : w8.cell? ⟨w.heap.size, 3, none⟩ = some (.int .i64 x.session) := hQ8.at 3 _ rfl
            have y4 : w8.cell? ⟨w.heap.size, 4, none⟩ = some (.int .i64 x.seq) := hQ8.at 4 _ rfl
            have hlen : ws.length < 1000 := by omega
            have HT8 := hide hT8.top
            have HBR := hide bR
            clear c1 c2 bR hT8 hQ8 HE8 HSN HFW
            go_wp2_with fail
            clear y1 y3 y4
            refine (unhide HDV w8).mono ?_
            rintro e w10 ⟨cs, rfl, ⟨bl, hO, hr⟩, hb10⟩
            have HC := hide (tellC ((unhide HT8).later hb10) hO.1 (fun c hc => ⟨(hr c hc).1, hO.2.2 c hc⟩) hO.2.1 hb10.size (unhide HF) hlen)
            have HB10 := hide ((unhide HB8).trans (hb10.mono (unhide HB8).size))
            have HBR10 := hide ((unhide HBR).keep hb10)
            clear hO hr hb10 HB8 HBR HT8 HDV HF
            go_wp2_with fail
            refine (unhide HC).mono ?_
            rintro e w12 ⟨rfl, ⟨v4, rows4, bls4, hT12⟩, hb12⟩
            have HB12 := hide ((unhide HB10).trans (hb12.mono (Nat.le_add_right _ _)))
            have bR12 := box_low (unhide HBR10) hb12 (by omega)
            obtain ⟨ao9, cp9, hv9⟩ : ∃ ao cap, v4 = .slice ao (ws.length + 1) cap := by
              obtain ⟨ao, cap, e⟩ := told_form hT12
              exact ⟨ao, cap, by rw [e]; simp⟩
            subst hv9
            have HO12 := hide (hT12.own (by simp; omega))
            clear hb12 HB10 HBR10 HC
            go_wp2_with fail
            have bS : Box w.heap.size #[.int .i64 0, .bool false, .int .i64 0, .slice none 0 0] 77 w12.drew (w.heap.size + 1) := bR12
            have hBS : Below w.heap.size w w12.drew := (unhide HB12).drew
            have hOS : (Lay.sl Lay.tWrite).OwnIn w12.drew [.slice ao9 (ws.length + 1) cp9] (ws ++ [x]) (w.heap.size + 2 + 1 + 1) w12.drew.heap.size := (unhide HO12).later (below_drawn (Below.refl _ _) 1)
            refine wp_region_noPanic ?_
            refine wp_region_held_drew (S := fun w' => Ext (fun c => c = w.heap.size + 1) w12 w') (by kernel_rfl) (Ext.refl _ _).drew3 (fun hHeld => ?_)
            generalize w12.drew = wS14 at hHeld bS hBS hOS ⊢
            refine wpAnyH_take (i := 0) (oi := { dst := some 64, op := Go.Op.move (Go.Operand.tmp 5), type := 84, pos := "l05_session.go:146", after := #[], guard := none }) (v := ?vm0) rfl (by kernel_rfl) (by kernel_rfl) (by kernel_rfl) (fun _ _ _ h => h) (Or.inl ⟨by rfl, ?hm0⟩) hHeld ?rm0
            case hm0 =>
              intro wS hSw
              (try dsimp only at hSw)
              go_simp
              try with_reducible rfl
            case rm0 =>
            simp only [Act.put, List.setIfInBounds_toArray, List.set_cons_zero, List.set_cons_succ]
            refine wpAnyH_take (i := 1) (oi := { dst := some 65, op := Go.Op.nilCheck (Go.Operand.tmp 64), type := 0, pos := "l05_session.go:146", after := #[{ on := 0, ground := Go.Ground.data }], guard := none }) (v := ?vm1) rfl (by kernel_rfl) (by kernel_rfl) (by kernel_rfl) (fun _ _ _ h => h) (Or.inl ⟨by rfl, ?hm1⟩) hHeld ?rm1
            case hm1 =>
              intro wS hSw
              (try dsimp only at hSw)
              go_simp
              try with_reducible rfl
            case rm1 =>
            simp only [Act.put, List.setIfInBounds_toArray, List.set_cons_zero, List.set_cons_succ]
            refine wpAnyH_take (i := 2) (oi := { dst := some 66, op := Go.Op.fieldAddr 95 (Go.Operand.tmp 65) 0, type := 0, pos := "l05_session.go:146", after := #[{ on := 1, ground := Go.Ground.data }], guard := none }) (v := ?vm2) rfl (by kernel_rfl) (by kernel_rfl) (by kernel_rfl) (fun _ _ _ h => h) (Or.inl ⟨by rfl, ?hm2⟩) hHeld ?rm2
            case hm2 =>
              intro wS hSw
              (try dsimp only at hSw)
              go_simp
              try with_reducible rfl
            case rm2 =>
            simp only [Act.put, List.setIfInBounds_toArray, List.set_cons_zero, List.set_cons_succ]
            refine wpAnyH_take (i := 3) (oi := { dst := some 67, op := Go.Op.load 30 (Go.Operand.tmp 66), type := 30, pos := "l05_session.go:146", after := #[{ on := 2, ground := Go.Ground.data }], guard := none }) (v := ?vm3) rfl (by kernel_rfl) (by kernel_rfl) (by kernel_rfl) (fun _ _ _ h => h) (Or.inl ⟨by rfl, ?hm3⟩) hHeld ?rm3
            case hm3 =>
              intro wS hSw
              have zp : wS.cell? ⟨w.heap.size + 2 + 1, 0, none⟩ = some (.slice ao9 (ws.length + 1) cp9) := (hT12.box.ext hSw (by omega)).at 0 _ rfl
              clear hSw
              (try dsimp only at hSw)
              go_simp
              try with_reducible rfl
            case rm3 =>
            simp only [Act.put, List.setIfInBounds_toArray, List.set_cons_zero, List.set_cons_succ]
            refine wpAnyH_take (i := 4) (oi := { dst := some 68, op := Go.Op.call { callee := Go.Callee.builtin Go.Builtin.len, args := #[Go.Operand.tmp 67], argTypes := #[30] }, type := 3, pos := "l05_session.go:146", after := #[{ on := 3, ground := Go.Ground.data }], guard := none }) (v := ?vm4) rfl (by kernel_rfl) (by kernel_rfl) (by kernel_rfl) (fun _ _ _ h => h) (Or.inl ⟨by rfl, ?hm4⟩) hHeld ?rm4
            case hm4 =>
              intro wS hSw
              (try dsimp only at hSw)
              go_simp
              try with_reducible rfl
            case rm4 =>
            simp only [Act.put, List.setIfInBounds_toArray, List.set_cons_zero, List.set_cons_succ]
            refine wpAnyH_take (i := 5) (oi := { dst := some 69, op := Go.Op.move (Go.Operand.tmp 5), type := 84, pos := "l05_session.go:146", after := #[], guard := none }) (v := ?vm5) rfl (by kernel_rfl) (by kernel_rfl) (by kernel_rfl) (fun _ _ _ h => h) (Or.inl ⟨by rfl, ?hm5⟩) hHeld ?rm5
            case hm5 =>
              intro wS hSw
              (try dsimp only at hSw)
              go_simp
              try with_reducible rfl
            case rm5 =>
            simp only [Act.put, List.setIfInBounds_toArray, List.set_cons_zero, List.set_cons_succ]
            refine wpAnyH_take (i := 6) (oi := { dst := some 70, op := Go.Op.nilCheck (Go.Operand.tmp 69), type := 0, pos := "l05_session.go:146", after := #[{ on := 5, ground := Go.Ground.data }], guard := none }) (v := ?vm6) rfl (by kernel_rfl) (by kernel_rfl) (by kernel_rfl) (fun _ _ _ h => h) (Or.inl ⟨by rfl, ?hm6⟩) hHeld ?rm6
            case hm6 =>
              intro wS hSw
              (try dsimp only at hSw)
              go_simp
              try with_reducible rfl
            case rm6 =>
            simp only [Act.put, List.setIfInBounds_toArray, List.set_cons_zero, List.set_cons_succ]
            refine wpAnyH_take (i := 7) (oi := { dst := some 71, op := Go.Op.fieldAddr 95 (Go.Operand.tmp 70) 0, type := 0, pos := "l05_session.go:146", after := #[{ on := 6, ground := Go.Ground.data }], guard := none }) (v := ?vm7) rfl (by kernel_rfl) (by kernel_rfl) (by kernel_rfl) (fun _ _ _ h => h) (Or.inl ⟨by rfl, ?hm7⟩) hHeld ?rm7
            case hm7 =>
              intro wS hSw
              (try dsimp only at hSw)
              go_simp
              try with_reducible rfl
            case rm7 =>
            simp only [Act.put, List.setIfInBounds_toArray, List.set_cons_zero, List.set_cons_succ]
            refine wpAnyH_take (i := 8) (oi := { dst := some 72, op := Go.Op.load 30 (Go.Operand.tmp 71), type := 30, pos := "l05_session.go:146", after := #[{ on := 7, ground := Go.Ground.data }], guard := none }) (v := ?vm8) rfl (by kernel_rfl) (by kernel_rfl) (by kernel_rfl) (fun _ _ _ h => h) (Or.inl ⟨by rfl, ?hm8⟩) hHeld ?rm8
            case hm8 =>
              intro wS hSw
              have zp : wS.cell? ⟨w.heap.size + 2 + 1, 0, none⟩ = some (.slice ao9 (ws.length + 1) cp9) := (hT12.box.ext hSw (by omega)).at 0 _ rfl
              clear hSw
              (try dsimp only at hSw)
              go_simp
              try with_reducible rfl
            case rm8 =>
            simp only [Act.put, List.setIfInBounds_toArray, List.set_cons_zero, List.set_cons_succ]
            refine wpAnyH_take (i := 9) (oi := { dst := some 73, op := Go.Op.build 77 #[(1, Go.Operand.const (Go.Value.bool true)), (2, Go.Operand.tmp 68), (3, Go.Operand.tmp 72)], type := 77, pos := "l05_session.go:146", after := #[{ on := 4, ground := Go.Ground.data }, { on := 8, ground := Go.Ground.data }], guard := none }) (v := ?vm9) rfl (by kernel_rfl) (by kernel_rfl) (by kernel_rfl) (fun _ _ _ h => h) (Or.inl ⟨by rfl, ?hm9⟩) hHeld ?rm9
            case hm9 =>
              intro wS hSw
              (try dsimp only at hSw)
              go_simp
              try with_reducible rfl
            case rm9 =>
            simp only [Act.put, List.setIfInBounds_toArray, List.set_cons_zero, List.set_cons_succ]
            refine wpAnyH_ready (rs := [10]) (by kernel_rfl) (by simp) ?_
            refine AllReadyH.cons (o := { dst := none, op := Go.Op.store 77 (Go.Operand.tmp 4) (Go.Operand.tmp 73), type := 0, pos := "l05_session.go:146", after := #[{ on := 9, ground := Go.Ground.data }, { on := 0, ground := Go.Ground.phase }, { on := 1, ground := Go.Ground.phase }, { on := 2, ground := Go.Ground.phase }, { on := 3, ground := Go.Ground.phase }, { on := 4, ground := Go.Ground.phase }, { on := 5, ground := Go.Ground.phase }, { on := 6, ground := Go.Ground.phase }, { on := 7, ground := Go.Ground.phase }, { on := 8, ground := Go.Ground.phase }, { on := 9, ground := Go.Ground.phase }], guard := none }) rfl (fun K hK => ?_) AllReadyH.nil
            have zz0 : wS14.cell? ⟨w.heap.size + 1, 0, none⟩ = some (.int .i64 0) := bS.at 0 _ rfl
            have zz1 : wS14.cell? ⟨w.heap.size + 1, 1, none⟩ = some (.bool false) := bS.at 1 _ rfl
            have zz2 : wS14.cell? ⟨w.heap.size + 1, 2, none⟩ = some (.int .i64 0) := bS.at 2 _ rfl
            have zz3 : wS14.cell? ⟨w.heap.size + 1, 3, none⟩ = some (.slice none 0 0) := bS.at 3 _ rfl
            have f0 := bS.soft 0
            have f1 := bS.soft 1
            have f2 := bS.soft 2
            have f3 := bS.soft 3
            have l0 := bS.lt
            go_simp
            refine hK.out _ _ ((((hHeld.setCell ⟨w.heap.size + 1, 0, none⟩ _ rfl).setCell ⟨w.heap.size + 1, 1, none⟩ _ rfl).setCell ⟨w.heap.size + 1, 2, none⟩ _ rfl).setCell ⟨w.heap.size + 1, 3, none⟩ _ rfl) (fun hHeld => ?_)
            clear hK K
            try simp only [Act.put, List.setIfInBounds_toArray, List.set_cons_zero, List.set_cons_succ]
            refine wpAnyH_done (by kernel_rfl) ?_ _
            refine NoPanic.normal ?_
            have HBZ := hide (below4 hBS (Nat.le_add_right _ 1) (.int .i64 0) (.bool true) (.int .i64 ((ws.length : Int) + 1)) (.slice ao9 (ws.length + 1) cp9))
            have hE : Ext (fun c => c = w.heap.size + 1) wS14 ((((wS14.setCell ⟨w.heap.size + 1, 0, none⟩ (.int .i64 0)).setCell ⟨w.heap.size + 1, 1, none⟩ (.bool true)).setCell ⟨w.heap.size + 1, 2, none⟩ (.int .i64 ((ws.length : Int) + 1))).setCell ⟨w.heap.size + 1, 3, none⟩ (.slice ao9 (ws.length + 1) cp9)) := ((((Ext.refl (fun c => c = w.heap.size + 1) _).setCell ⟨w.heap.size + 1, 0, none⟩ _ rfl).setCell ⟨w.heap.size + 1, 1, none⟩ _ rfl).setCell ⟨w.heap.size + 1, 2, none⟩ _ rfl).setCell ⟨w.heap.size + 1, 3, none⟩ _ rfl
            have HOZ : Hid ((Lay.sl Lay.tWrite).OwnIn ((((wS14.setCell ⟨w.heap.size + 1, 0, none⟩ (.int .i64 0)).setCell ⟨w.heap.size + 1, 1, none⟩ (.bool true)).setCell ⟨w.heap.size + 1, 2, none⟩ (.int .i64 ((ws.length : Int) + 1))).setCell ⟨w.heap.size + 1, 3, none⟩ (.slice ao9 (ws.length + 1) cp9)) [.slice ao9 (ws.length + 1) cp9] (ws ++ [x]) w.heap.size ((((wS14.setCell ⟨w.heap.size + 1, 0, none⟩ (.int .i64 0)).setCell ⟨w.heap.size + 1, 1, none⟩ (.bool true)).setCell ⟨w.heap.size + 1, 2, none⟩ (.int .i64 ((ws.length : Int) + 1))).setCell ⟨w.heap.size + 1, 3, none⟩ (.slice ao9 (ws.length + 1) cp9)).heap.size) := (hOS.ext hE (fun c h1 _ h3 => by omega)).mono (by omega) (by simp)
            have zz := bS
            have z0 : ((((wS14.setCell ⟨w.heap.size + 1, 0, none⟩ (.int .i64 0)).setCell ⟨w.heap.size + 1, 1, none⟩ (.bool true)).setCell ⟨w.heap.size + 1, 2, none⟩ (.int .i64 ((ws.length : Int) + 1))).setCell ⟨w.heap.size + 1, 3, none⟩ (.slice ao9 (ws.length + 1) cp9)).cell? ⟨w.heap.size + 1, 0, none⟩ = some (.int .i64 0) := ((((bS.set 0 (.int .i64 0)).set 1 (.bool true)).set 2 (.int .i64 ((ws.length : Int) + 1))).set 3 (.slice ao9 (ws.length + 1) cp9)).at 0 _ rfl
            have z1 : ((((wS14.setCell ⟨w.heap.size + 1, 0, none⟩ (.int .i64 0)).setCell ⟨w.heap.size + 1, 1, none⟩ (.bool true)).setCell ⟨w.heap.size + 1, 2, none⟩ (.int .i64 ((ws.length : Int) + 1))).setCell ⟨w.heap.size + 1, 3, none⟩ (.slice ao9 (ws.length + 1) cp9)).cell? ⟨w.heap.size + 1, 1, none⟩ = some (.bool true) := ((((bS.set 0 (.int .i64 0)).set 1 (.bool true)).set 2 (.int .i64 ((ws.length : Int) + 1))).set 3 (.slice ao9 (ws.length + 1) cp9)).at 1 _ rfl
            have z2 : ((((wS14.setCell ⟨w.heap.size + 1, 0, none⟩ (.int .i64 0)).setCell ⟨w.heap.size + 1, 1, none⟩ (.bool true)).setCell ⟨w.heap.size + 1, 2, none⟩ (.int .i64 ((ws.length : Int) + 1))).setCell ⟨w.heap.size + 1, 3, none⟩ (.slice ao9 (ws.length + 1) cp9)).cell? ⟨w.heap.size + 1, 2, none⟩ = some (.int .i64 ((ws.length : Int) + 1)) := ((((bS.set 0 (.int .i64 0)).set 1 (.bool true)).set 2 (.int .i64 ((ws.length : Int) + 1))).set 3 (.slice ao9 (ws.length + 1) cp9)).at 2 _ rfl
            have z3 : ((((wS14.setCell ⟨w.heap.size + 1, 0, none⟩ (.int .i64 0)).setCell ⟨w.heap.size + 1, 1, none⟩ (.bool true)).setCell ⟨w.heap.size + 1, 2, none⟩ (.int .i64 ((ws.length : Int) + 1))).setCell ⟨w.heap.size + 1, 3, none⟩ (.slice ao9 (ws.length + 1) cp9)).cell? ⟨w.heap.size + 1, 3, none⟩ = some (.slice ao9 (ws.length + 1) cp9) := ((((bS.set 0 (.int .i64 0)).set 1 (.bool true)).set 2 (.int .i64 ((ws.length : Int) + 1))).set 3 (.slice ao9 (ws.length + 1) cp9)).at 3 _ rfl
            clear hHeld bS hBS hOS hE zz hT12 bR12 HB12 HO12
            generalize ((((wS14.setCell ⟨w.heap.size + 1, 0, none⟩ (.int .i64 0)).setCell ⟨w.heap.size + 1, 1, none⟩ (.bool true)).setCell ⟨w.heap.size + 1, 2, none⟩ (.int .i64 ((ws.length : Int) + 1))).setCell ⟨w.heap.size + 1, 3, none⟩ (.slice ao9 (ws.length + 1) cp9)) = wZ at *
            go_wp2_with fail
            refine bodyPost_ret (v := .agg #[.int .i64 0, .bool true, .int .i64 ((ws.length : Int) + 1), .slice ao9 (ws.length + 1) cp9]) (by simp [results, Tryd.results41, go_sem, z0, z1, z2, z3]) rfl ?_
            rw [unhide HG]
            exact ⟨_, rfl, own_once (by decide) (wf_of_bd (by omega)) (unhide HOZ), unhide HBZ⟩
      · obtain rfl : bs = true := by rw [unhide HBS]; simpa using hsn
        have HG : Hid (appR ws x = ⟨0, false, seenI ws x.session x.seq, ws⟩) := appR_seen (unhide HFW) hf hsn
        have hlen := (writesF_zero (unhide HFW)).1
        have hsl := Nat.le_trans (seenI_le ws x.session x.seq) hlen
        obtain ⟨ao9, cp9, rfl⟩ := told_form hT5
        have zp : w7.cell? ⟨w.heap.size + 2 + 1, 0, none⟩ = some (.slice ao9 ws.length cp9) := hT5.box.at 0 _ rfl
        have HO := hide (hT5.own (by omega))
        have bR := bR5
        have z0 : w7.cell? ⟨w.heap.size + 1, 0, none⟩ = some (.int .i64 0) := bR.at 0 _ rfl
        have z1 : w7.cell? ⟨w.heap.size + 1, 1, none⟩ = some (.bool false) := bR.at 1 _ rfl
        have z2 : w7.cell? ⟨w.heap.size + 1, 2, none⟩ = some (.int .i64 0) := bR.at 2 _ rfl
        have z3 : w7.cell? ⟨w.heap.size + 1, 3, none⟩ = some (.slice none 0 0) := bR.at 3 _ rfl
        have f0 := bR.soft 0
        have f1 := bR.soft 1
        have f2 := bR.soft 2
        have f3 := bR.soft 3
        have l0 := bR.lt
        have hE : Ext (fun c => c = w.heap.size + 1) w7 ((((w7.setCell ⟨w.heap.size + 1, 0, none⟩ (.int .i64 0)).setCell ⟨w.heap.size + 1, 1, none⟩ (.bool false)).setCell ⟨w.heap.size + 1, 2, none⟩ (.int .i64 (seenI ws x.session x.seq))).setCell ⟨w.heap.size + 1, 3, none⟩ (.slice ao9 ws.length cp9)) := ((((Ext.refl (fun c => c = w.heap.size + 1) _).setCell ⟨w.heap.size + 1, 0, none⟩ _ rfl).setCell ⟨w.heap.size + 1, 1, none⟩ _ rfl).setCell ⟨w.heap.size + 1, 2, none⟩ _ rfl).setCell ⟨w.heap.size + 1, 3, none⟩ _ rfl
        have HOZ : Hid ((Lay.sl Lay.tWrite).OwnIn ((((w7.setCell ⟨w.heap.size + 1, 0, none⟩ (.int .i64 0)).setCell ⟨w.heap.size + 1, 1, none⟩ (.bool false)).setCell ⟨w.heap.size + 1, 2, none⟩ (.int .i64 (seenI ws x.session x.seq))).setCell ⟨w.heap.size + 1, 3, none⟩ (.slice ao9 ws.length cp9)) [.slice ao9 ws.length cp9] ws w.heap.size ((((w7.setCell ⟨w.heap.size + 1, 0, none⟩ (.int .i64 0)).setCell ⟨w.heap.size + 1, 1, none⟩ (.bool false)).setCell ⟨w.heap.size + 1, 2, none⟩ (.int .i64 (seenI ws x.session x.seq))).setCell ⟨w.heap.size + 1, 3, none⟩ (.slice ao9 ws.length cp9)).heap.size) := ((unhide HO).ext hE (fun c h1 _ h3 => by omega)).mono (by omega) (by simp)
        have HBZ := hide (below4 (unhide HB5) (Nat.le_add_right _ 1) (.int .i64 0) (.bool false) (.int .i64 (seenI ws x.session x.seq)) (.slice ao9 ws.length cp9))
        clear HBS hsn bR bR5 hT5 hQ5 HE5 HO hE HB5 hf
        go_wp2_with fail
        refine bodyPost_ret (v := .agg #[.int .i64 0, .bool false, .int .i64 (seenI ws x.session x.seq), .slice ao9 ws.length cp9]) (by simp [results, Tryd.results41, go_sem, z0, z1, z2, z3]) rfl ?_
        rw [unhide HG]
        exact ⟨_, rfl, own_once (by decide) (wf_of_bd (by omega)) (unhide HOZ), unhide HBZ⟩
    · have hd : (wF x != 0) = true := by simpa using hf
      have HG : Hid (appR ws x = ⟨wF x, false, 0, []⟩) := appR_bad (unhide HFW) hf
      have HWF := hide (wF_wf x)
      generalize hdr : deedRes x.kind x.id x.vec x.session x.seq = dr at *
      have z0 : w4.cell? ⟨w.heap.size + 1, 0, none⟩ = some (.int .i64 0) := bR.at 0 _ rfl
      have z1 : w4.cell? ⟨w.heap.size + 1, 1, none⟩ = some (.bool false) := bR.at 1 _ rfl
      have z2 : w4.cell? ⟨w.heap.size + 1, 2, none⟩ = some (.int .i64 0) := bR.at 2 _ rfl
      have z3 : w4.cell? ⟨w.heap.size + 1, 3, none⟩ = some (.slice none 0 0) := bR.at 3 _ rfl
      have f0 := bR.soft 0
      have f1 := bR.soft 1
      have f2 := bR.soft 2
      have f3 := bR.soft 3
      have l0 := bR.lt
      clear hf hdr bR hQ4 hT4 HE4
      go_wp2_with fail
      refine bodyPost_ret (v := .agg #[.int .i64 (wF x), .bool false, .int .i64 0, .slice none 0 0]) (by simp [results, Tryd.results41, go_sem, z0, z1, z2, z3]) rfl ?_
      rw [unhide HG]
      exact ⟨_, rfl, own_codeOnce (unhide HWF), ((((unhide HB4).setCell (by simp) _).setCell (by simp) _).setCell (by simp) _).setCell (by simp) _⟩
  · obtain rfl := g1 hfw
    clear g0 g1
    have HG : Hid (appR ws x = ⟨writesF ws, false, 0, []⟩) := appR_wrong hfw
    have HWF := hide (wsF_wf ws)
    have hd : (writesF ws != 0) = true := by simpa using hfw
    have z0 : w2.cell? ⟨w.heap.size + 1, 0, none⟩ = some (.int .i64 0) := bR.at 0 _ rfl
    have z1 : w2.cell? ⟨w.heap.size + 1, 1, none⟩ = some (.bool false) := bR.at 1 _ rfl
    have z2 : w2.cell? ⟨w.heap.size + 1, 2, none⟩ = some (.int .i64 0) := bR.at 2 _ rfl
    have z3 : w2.cell? ⟨w.heap.size + 1, 3, none⟩ = some (.slice none 0 0) := bR.at 3 _ rfl
    have f0 := bR.soft 0
    have f1 := bR.soft 1
    have f2 := bR.soft 2
    have f3 := bR.soft 3
    have l0 := bR.lt
    clear hfw bR HQ2 HR3 HE2
    go_wp2_with fail
    refine bodyPost_ret (v := .agg #[.int .i64 (writesF ws), .bool false, .int .i64 0, .slice none 0 0]) (by simp [results, Tryd.results41, go_sem, z0, z1, z2, z3]) rfl ?_
    rw [unhide HG]
    exact ⟨_, rfl, own_codeOnce (unhide HWF), ((((unhide HB2).setCell (by simp) _).setCell (by simp) _).setCell (by simp) _).setCell (by simp) _⟩

end Go.Proofs.YtbogjepkdcknfaaDoor

namespace Go.Proofs.YtbogjepkdcknfaaDoor
open Go.RowKit

set_option maxRecDepth 100000 in
set_option maxHeartbeats 4000000 in
theorem takeC (g gw : Nat) (x : DNode) (u : List Value) (y : DWrite) (w : World) (hE : Errs w) (h : HeldAt w g (.slice (some ⟨gw, 0, none⟩) x.writes.length x.writes.length) x) (R : (Lay.sl Lay.tWrite).Reads w [.slice (some ⟨gw, 0, none⟩) x.writes.length x.writes.length] x.writes) (hy : Lay.tWrite.Reads w u y) :
    Calls Tryd.prog 26 #[.pointer (some ⟨g, 0, none⟩), .agg u.toArray] w fun e w' => ∃ at' : Int, e = .returned (.tuple #[.int .i64 at', .int .i64 (takeCode (appR x.writes y))]) ∧ (takeCode (appR x.writes y) = 0 → at' = (appR x.writes y).place ∧ ∃ a n c, HeldAt w' g (.slice a n c) x ∧ (Lay.sl Lay.tWrite).OwnIn w' [.slice a n c] (appR x.writes y).writes w.heap.size w'.heap.size) ∧ Ext (fun q => q = g) w w' := by
  have hyy := hy
  obtain ⟨a2, d2, rfl, -⟩ := open_Write hyy
  clear hyy
  have nb : Below w.heap.size w (w.alloc (.cells #[.int .i64 y.kind, .int .i64 y.id, .slice a2 y.vec.length d2, .int .i64 y.session, .int .i64 y.seq] 37)) := (Below.refl _ _).alloc (Nat.le_refl _) _
  have bY : Box 0 #[.int .i64 y.kind, .int .i64 y.id, .slice a2 y.vec.length d2, .int .i64 y.session, .int .i64 y.seq] 37 (w.alloc (.cells #[.int .i64 y.kind, .int .i64 y.id, .slice a2 y.vec.length d2, .int .i64 y.session, .int .i64 y.seq] 37)) w.heap.size := newBox (Nat.zero_le _)
  have hH0 := h.keep nb
  have k0 := Box.at hH0 0 _ rfl
  simp only [List.getElem_toArray, List.getElem_cons_zero] at k0
  have hgl := hH0.lt
  have q0 := Box.at bY 0 _ rfl
  have q1 := Box.at bY 1 _ rfl
  have q2 := Box.at bY 2 _ rfl
  have q3 := Box.at bY 3 _ rfl
  have q4 := Box.at bY 4 _ rfl
  simp only [List.getElem_toArray, List.getElem_cons_zero, List.getElem_cons_succ] at q0 q1 q2 q3 q4
  have hyl := bY.lt
  have hBD : Below w.heap.size w (w.alloc (.cells #[.int .i64 y.kind, .int .i64 y.id, .slice a2 y.vec.length d2, .int .i64 y.session, .int .i64 y.seq] 37)).drew := nb.drew
  have hgw := h.lt
  clear nb bY
  generalize hr : appR x.writes y = r
  have HRR := hide hr
  clear hr
  go_enter Tryd.func26, Tryd.ntmps26
  go_wp2_with fail
  generalize w.alloc (.cells #[.int .i64 y.kind, .int .i64 y.id, .slice a2 y.vec.length d2, .int .i64 y.session, .int .i64 y.seq] 37) = W0 at *
  refine wp_region_noPanic ?_
  refine wp_region_held_drew (S := fun w' => Below W0.heap.size W0 w') (by kernel_rfl) (Below.refl _ _).drew (fun hHeld => ?_)
  generalize W0.drew = wD at hHeld hBD ⊢
  refine wpAnyH_take (i := 0) (oi := { dst := some 7, op := Go.Op.move (Go.Operand.tmp 0), type := 75, pos := "l09_node.go:43", after := #[], guard := none }) (v := ?vt0_1) rfl (by kernel_rfl) (by kernel_rfl) (by kernel_rfl) (fun _ _ _ h => h) (Or.inl ⟨by rfl, ?ht0_1⟩) hHeld ?rt0_1
  case ht0_1 =>
    intro wS hSw
    (try dsimp only at hSw)
    go_simp
    try with_reducible rfl
  case rt0_1 =>
  simp only [Act.put, List.setIfInBounds_toArray, List.set_cons_zero, List.set_cons_succ]
  refine wpAnyH_take (i := 1) (oi := { dst := some 8, op := Go.Op.nilCheck (Go.Operand.tmp 7), type := 0, pos := "l09_node.go:43", after := #[{ on := 0, ground := Go.Ground.data }], guard := none }) (v := ?vt1_2) rfl (by kernel_rfl) (by kernel_rfl) (by kernel_rfl) (fun _ _ _ h => h) (Or.inl ⟨by rfl, ?ht1_2⟩) hHeld ?rt1_2
  case ht1_2 =>
    intro wS hSw
    (try dsimp only at hSw)
    go_simp
    try with_reducible rfl
  case rt1_2 =>
  simp only [Act.put, List.setIfInBounds_toArray, List.set_cons_zero, List.set_cons_succ]
  refine wpAnyH_take (i := 2) (oi := { dst := some 9, op := Go.Op.fieldAddr 62 (Go.Operand.tmp 8) 0, type := 0, pos := "l09_node.go:43", after := #[{ on := 1, ground := Go.Ground.data }], guard := none }) (v := ?vt2_3) rfl (by kernel_rfl) (by kernel_rfl) (by kernel_rfl) (fun _ _ _ h => h) (Or.inl ⟨by rfl, ?ht2_3⟩) hHeld ?rt2_3
  case ht2_3 =>
    intro wS hSw
    (try dsimp only at hSw)
    go_simp
    try with_reducible rfl
  case rt2_3 =>
  simp only [Act.put, List.setIfInBounds_toArray, List.set_cons_zero, List.set_cons_succ]
  refine wpAnyH_take (i := 3) (oi := { dst := some 10, op := Go.Op.load 30 (Go.Operand.tmp 9), type := 30, pos := "l09_node.go:43", after := #[{ on := 2, ground := Go.Ground.data }], guard := none }) (v := ?vt3_4) rfl (by kernel_rfl) (by kernel_rfl) (by kernel_rfl) (fun _ _ _ h => h) (Or.inl ⟨by rfl, ?ht3_4⟩) hHeld ?rt3_4
  case ht3_4 =>
    intro wS hSw
    have y0 : wS.cell? ⟨g, 0, none⟩ = some (.slice (some ⟨gw, 0, none⟩) x.writes.length x.writes.length) := (hSw.cell (p := ⟨g, 0, none⟩) hgl).trans k0
    clear hSw
    (try dsimp only at hSw)
    go_simp
    try with_reducible rfl
  case rt3_4 =>
  simp only [Act.put, List.setIfInBounds_toArray, List.set_cons_zero, List.set_cons_succ]
  refine wpAnyH_take (i := 4) (oi := { dst := some 11, op := Go.Op.load 37 (Go.Operand.tmp 3), type := 37, pos := "l09_node.go:43", after := #[], guard := none }) (v := ?vt4_5) rfl (by kernel_rfl) (by kernel_rfl) (by kernel_rfl) (fun _ _ _ h => h) (Or.inl ⟨by rfl, ?ht4_5⟩) hHeld ?rt4_5
  case ht4_5 =>
    intro wS hSw
    have v0 : wS.cell? ⟨w.heap.size, 0, none⟩ = some (.int .i64 y.kind) := (hSw.cell (p := ⟨w.heap.size, 0, none⟩) hyl).trans q0
    have v1 : wS.cell? ⟨w.heap.size, 1, none⟩ = some (.int .i64 y.id) := (hSw.cell (p := ⟨w.heap.size, 1, none⟩) hyl).trans q1
    have v2 : wS.cell? ⟨w.heap.size, 2, none⟩ = some (.slice a2 y.vec.length d2) := (hSw.cell (p := ⟨w.heap.size, 2, none⟩) hyl).trans q2
    have v3 : wS.cell? ⟨w.heap.size, 3, none⟩ = some (.int .i64 y.session) := (hSw.cell (p := ⟨w.heap.size, 3, none⟩) hyl).trans q3
    have v4 : wS.cell? ⟨w.heap.size, 4, none⟩ = some (.int .i64 y.seq) := (hSw.cell (p := ⟨w.heap.size, 4, none⟩) hyl).trans q4
    clear hSw
    (try dsimp only at hSw)
    go_simp
    try with_reducible rfl
  case rt4_5 =>
  simp only [Act.put, List.setIfInBounds_toArray, List.set_cons_zero, List.set_cons_succ]
  refine wpAnyH_ready (rs := [5, 6]) (by kernel_rfl) (by simp) ?_
  refine AllReadyH.cons (o := { dst := some 12, op := Go.Op.call { callee := Go.Callee.value (Go.Operand.func 41), args := #[Go.Operand.tmp 10, Go.Operand.tmp 11], argTypes := #[30, 37] }, type := 77, pos := "l09_node.go:43", after := #[{ on := 3, ground := Go.Ground.data }, { on := 4, ground := Go.Ground.data }], guard := none }) rfl (fun K hK => ?ot5_6) (AllReadyH.cons (o := { dst := some 6, op := Go.Op.alloc 77, type := 0, pos := "l09_node.go:43", after := #[], guard := none }) rfl (fun K hK => ?ot6_6) (AllReadyH.nil))
  case ot5_6 =>
    have hHD := hHeld.size
    have hW : Below w.heap.size w wD := hBD
    go_simp
    go_at_call 41
    refine (implApp _ x.writes _ y _ (hE.later hW) (R.later hW) (hy.later hW)).mono ?_
    rintro e w3 ⟨cs3, rfl, O3, hb3⟩
    rw [unhide HRR] at O3
    obtain ⟨bl3, Ow3, hr3⟩ := O3
    obtain ⟨a3, d3, g3, rfl, hbl3, Os3, -⟩ := own_OnceResult Ow3
    subst hbl3
    have OW : (Lay.sl Lay.tWrite).OwnIn w3 [.slice a3 r.writes.length d3] r.writes (wD).heap.size w3.heap.size := ⟨_, Os3, hr3⟩
    clear Os3 Ow3 hr3
    have hBw := hW.trans (hb3.mono hW.size)
    try go_wp2_with fail
    have hH3 := hHeld.trans (hb3.mono hHeld.size)
    refine hK.out _ _ (hHeld.trans (hb3.mono hHeld.size)) (fun hHeld => ?_)
    clear hK K
    try simp only [Act.put, List.setIfInBounds_toArray, List.set_cons_zero, List.set_cons_succ]
    refine wpAnyH_ready (rs := [6]) (by kernel_rfl) (by simp) ?_
    refine AllReadyH.cons (o := { dst := some 6, op := Go.Op.alloc 77, type := 0, pos := "l09_node.go:43", after := #[], guard := none }) rfl (fun K hK => ?_) AllReadyH.nil
    go_simp
    refine hK.out _ _ (hHeld.alloc hHeld.size _) (fun hHeld => ?_)
    clear hK K
    try simp only [Act.put, List.setIfInBounds_toArray, List.set_cons_zero, List.set_cons_succ]
    refine wpAnyH_ready (rs := [7]) (by kernel_rfl) (by simp) ?_
    refine AllReadyH.cons (o := { dst := none, op := Go.Op.store 77 (Go.Operand.tmp 6) (Go.Operand.tmp 12), type := 0, pos := "l09_node.go:43", after := #[{ on := 6, ground := Go.Ground.data }, { on := 5, ground := Go.Ground.data }, { on := 5, ground := Go.Ground.chain }, { on := 0, ground := Go.Ground.phase }, { on := 1, ground := Go.Ground.phase }, { on := 2, ground := Go.Ground.phase }, { on := 3, ground := Go.Ground.phase }, { on := 4, ground := Go.Ground.phase }, { on := 5, ground := Go.Ground.phase }, { on := 6, ground := Go.Ground.phase }], guard := none }) rfl (fun K hK => ?_) AllReadyH.nil
    go_simp
    try go_wp2_with fail
    refine hK.out _ _ (hH3.alloc hH3.size _) (fun hHeld => ?_)
    clear hK K
    try simp only [Act.put, List.setIfInBounds_toArray, List.set_cons_zero, List.set_cons_succ]
    refine wpAnyH_done (by kernel_rfl) ?_ _
    refine NoPanic.normal ?_
    have hGO : g ≠ w3.heap.size := by have h1 := hBD.size; have h2 := hb3.size; omega
    have bO : Box 0 #[.int .i64 r.code, .bool r.isNew, .int .i64 r.place, .slice a3 r.writes.length d3] 77 (w3.alloc (.cells #[.int .i64 r.code, .bool r.isNew, .int .i64 r.place, .slice a3 r.writes.length d3] 77)) w3.heap.size := newBox (Nat.zero_le _)
    have nb4 : Below w3.heap.size w3 (w3.alloc (.cells #[.int .i64 r.code, .bool r.isNew, .int .i64 r.place, .slice a3 r.writes.length d3] 77)) := (Below.refl _ _).alloc (Nat.le_refl _) _
    have oO := (OW.later nb4).mono (lo' := w.heap.size) (hi' := (w3.alloc (.cells #[.int .i64 r.code, .bool r.isNew, .int .i64 r.place, .slice a3 r.writes.length d3] 77)).heap.size) hBD.size nb4.size
    have hBF := hBw.trans (nb4.mono hBw.size)
    clear nb4 hH3
    clear hHeld OW hBw hb3 hW
    have hHF := h.keep hBF
    have big := oO.reads.big
    generalize hWF : (w3.alloc (.cells #[.int .i64 r.code, .bool r.isNew, .int .i64 r.place, .slice a3 r.writes.length d3] 77)) = WF at *
    clear hWF
    generalize hob : w3.heap.size = ob at *
    clear hob
    clear k0
    have k0 := Box.at hHF 0 _ rfl
    simp only [List.getElem_toArray, List.getElem_cons_zero] at k0
    have kf := Box.soft hHF
    have kl := Box.lt hHF
    have z0 := Box.at bO 0 _ rfl
    have z2 := Box.at bO 2 _ rfl
    have z3 := Box.at bO 3 _ rfl
    simp only [List.getElem_toArray, List.getElem_cons_zero, List.getElem_cons_succ] at z0 z2 z3
    have zl := Box.lt bO
    have HOF := hide oO
    have HBF := hide hBF
    have HHF := hide hHF
    clear oO hBF hHF bO hBD hHD q0 q1 q2 q3 q4 hyl hgl h R hy hE hH0
    by_cases hc : r.code = 0
    · rw [hc] at z0
      by_cases h40 : 40 < r.writes.length
      · have HT : Hid (takeCode r = 2) := by show takeCode r = 2; rw [takeCode, if_pos hc, if_pos h40]
        have hd : decide ((40 : Int) < (r.writes.length : Int)) = true := by simp; omega
        clear hc h40
        go_wp2_with fail
        refine bodyPost_ret (v := .tuple #[.int .i64 0, .int .i64 2]) (by simp [results, Tryd.results26, go_sem]) rfl ?_
        refine ⟨0, by rw [unhide HT], fun h0 => ?_, ext_of_below (unhide HBF) _⟩
        rw [unhide HT] at h0
        exact absurd h0 (by decide)
      · have HT : Hid (takeCode r = 0) := by show takeCode r = 0; rw [takeCode, if_pos hc, if_neg h40]
        have hd : decide ((40 : Int) < (r.writes.length : Int)) = false := by simp; omega
        have HBX : Hid (HeldAt (WF.setCell ⟨g, 0, none⟩ (.slice a3 r.writes.length d3)) g (.slice a3 r.writes.length d3) x) := Box.set (unhide HHF) 0 (.slice a3 r.writes.length d3)
        have e1 : Ext (fun q => q = g) WF (WF.setCell ⟨g, 0, none⟩ (.slice a3 r.writes.length d3)) := (Ext.refl (fun q => q = g) _).setCell ⟨g, 0, none⟩ _ rfl
        have HE1 := hide ((ext_of_below (unhide HBF) _).trans e1)
        have HO1 : Hid ((Lay.sl Lay.tWrite).OwnIn (WF.setCell ⟨g, 0, none⟩ (.slice a3 r.writes.length d3)) [.slice a3 r.writes.length d3] r.writes w.heap.size (WF.setCell ⟨g, 0, none⟩ (.slice a3 r.writes.length d3)).heap.size) := ((unhide HOF).ext e1 (fun q h1 h2 h3 => by omega)).mono (Nat.le_refl _) (by simp)
        have hgo : g ≠ ob := hGO
        clear hc e1 h40
        go_wp2_with fail
        refine bodyPost_ret (v := .tuple #[.int .i64 r.place, .int .i64 0]) (by simp [results, Tryd.results26, go_sem]) rfl ?_
        exact ⟨r.place, by rw [unhide HT], fun _ => ⟨rfl, a3, r.writes.length, d3, unhide HBX, unhide HO1⟩, unhide HE1⟩
    · have HT : Hid (takeCode r = r.code) := by show takeCode r = r.code; rw [takeCode, if_neg hc]
      have HC := hide hc
      have hd : (r.code != 0) = true := by simpa using hc
      clear hc
      generalize r.code = cc at *
      go_wp2_with fail
      refine wp_region_noPanic ?_
      refine wp_region_held_drew (S := fun w' => w' = WF.drew) (by kernel_rfl) rfl (fun hHeld => ?_)
      refine wpAnyH_take (i := 0) (oi := { dst := some 16, op := Go.Op.fieldAddr 77 (Go.Operand.tmp 6) 0, type := 0, pos := "l09_node.go:45", after := #[{ on := 2, ground := Go.Ground.gcOnly Go.Departure.lateStores }], guard := none }) (v := ?vu0) rfl (by kernel_rfl) (by kernel_rfl) (by kernel_rfl) (fun _ _ _ h => h) (Or.inl ⟨by rfl, ?hu0⟩) hHeld ?ru0
      case hu0 =>
        intro wS hSw
        (try dsimp only at hSw)
        go_simp
        try with_reducible rfl
      case ru0 =>
      simp only [Act.put, List.setIfInBounds_toArray, List.set_cons_zero, List.set_cons_succ]
      refine wpAnyH_take (i := 1) (oi := { dst := some 17, op := Go.Op.load 2 (Go.Operand.tmp 16), type := 2, pos := "l09_node.go:45", after := #[{ on := 0, ground := Go.Ground.data }, { on := 2, ground := Go.Ground.gcOnly Go.Departure.lateStores }], guard := none }) (v := ?vu1) rfl (by kernel_rfl) (by kernel_rfl) (by kernel_rfl) (fun _ _ _ h => h) (Or.inl ⟨by rfl, ?hu1⟩) hHeld ?ru1
      case hu1 =>
        intro wS hSw
        have v0 : wS.cell? ⟨ob, 0, none⟩ = some (.int .i64 cc) := by rw [hSw]; exact z0
        clear hSw
        (try dsimp only at hSw)
        go_simp
        try with_reducible rfl
      case ru1 =>
      simp only [Act.put, List.setIfInBounds_toArray, List.set_cons_zero, List.set_cons_succ]
      refine wpAnyH_take (i := 2) (oi := { dst := some 4, op := Go.Op.assign (Go.Operand.const (Go.Value.int Go.IntKind.i64 0)), type := 2, pos := "l09_node.go:45", after := #[{ on := 0, ground := Go.Ground.textOnly Go.Departure.lateStores }, { on := 1, ground := Go.Ground.textOnly Go.Departure.lateStores }], guard := none }) (v := ?vu2) rfl (by kernel_rfl) (by kernel_rfl) (by kernel_rfl) (fun _ _ _ h => h) (Or.inl ⟨by rfl, ?hu2⟩) hHeld ?ru2
      case hu2 =>
        intro wS hSw
        (try dsimp only at hSw)
        go_simp
        try with_reducible rfl
      case ru2 =>
      simp only [Act.put, List.setIfInBounds_toArray, List.set_cons_zero, List.set_cons_succ]
      refine wpAnyH_take (i := 3) (oi := { dst := some 5, op := Go.Op.assign (Go.Operand.tmp 17), type := 2, pos := "l09_node.go:45", after := #[{ on := 1, ground := Go.Ground.data }, { on := 2, ground := Go.Ground.chain }, { on := 0, ground := Go.Ground.phase }, { on := 1, ground := Go.Ground.phase }, { on := 2, ground := Go.Ground.phase }], guard := none }) (v := ?vu3) rfl (by kernel_rfl) (by kernel_rfl) (by kernel_rfl) (fun _ _ _ h => h) (Or.inl ⟨by rfl, ?hu3⟩) hHeld ?ru3
      case hu3 =>
        intro wS hSw
        (try dsimp only at hSw)
        go_simp
        try with_reducible rfl
      case ru3 =>
      simp only [Act.put, List.setIfInBounds_toArray, List.set_cons_zero, List.set_cons_succ]
      refine wpAnyH_done (by kernel_rfl) ?_ _
      refine NoPanic.normal ?_
      clear hHeld
      go_wp2_with fail
      refine bodyPost_ret (v := .tuple #[.int .i64 0, .int .i64 cc]) (by simp [results, Tryd.results26, go_sem]) rfl ?_
      refine ⟨0, by rw [unhide HT], fun h0 => ?_, ext_of_below (unhide HBF).drew _⟩
      rw [unhide HT] at h0
      exact absurd h0 (unhide HC)
  case ot6_6 =>
    have hHD := hHeld.size
    go_simp
    refine hK.out _ _ (hHeld.alloc hHeld.size _) (fun hHeld => ?_)
    clear hK K
    try simp only [Act.put, List.setIfInBounds_toArray, List.set_cons_zero, List.set_cons_succ]
    refine wpAnyH_ready (rs := [5]) (by kernel_rfl) (by simp) ?_
    refine AllReadyH.cons (o := { dst := some 12, op := Go.Op.call { callee := Go.Callee.value (Go.Operand.func 41), args := #[Go.Operand.tmp 10, Go.Operand.tmp 11], argTypes := #[30, 37] }, type := 77, pos := "l09_node.go:43", after := #[{ on := 3, ground := Go.Ground.data }, { on := 4, ground := Go.Ground.data }], guard := none }) rfl (fun K hK => ?_) AllReadyH.nil
    have hW : Below w.heap.size w (wD.alloc (.cells #[.int .i64 0, .bool false, .int .i64 0, .slice none 0 0] 77)) := hBD.alloc hBD.size _
    have hO3 : Box 0 #[.int .i64 0, .bool false, .int .i64 0, .slice none 0 0] 77 (wD.alloc (.cells #[.int .i64 0, .bool false, .int .i64 0, .slice none 0 0] 77)) wD.heap.size := newBox (Nat.zero_le _)
    go_simp
    go_at_call 41
    refine (implApp _ x.writes _ y _ (hE.later hW) (R.later hW) (hy.later hW)).mono ?_
    rintro e w3 ⟨cs3, rfl, O3, hb3⟩
    rw [unhide HRR] at O3
    obtain ⟨bl3, Ow3, hr3⟩ := O3
    obtain ⟨a3, d3, g3, rfl, hbl3, Os3, -⟩ := own_OnceResult Ow3
    subst hbl3
    have OW : (Lay.sl Lay.tWrite).OwnIn w3 [.slice a3 r.writes.length d3] r.writes ((wD.alloc (.cells #[.int .i64 0, .bool false, .int .i64 0, .slice none 0 0] 77))).heap.size w3.heap.size := ⟨_, Os3, hr3⟩
    clear Os3 Ow3 hr3
    have hBw := hW.trans (hb3.mono hW.size)
    try go_wp2_with fail
    have hO4 := hO3.keep hb3
    refine hK.out _ _ (hHeld.trans (hb3.mono hHeld.size)) (fun hHeld => ?_)
    clear hK K
    try simp only [Act.put, List.setIfInBounds_toArray, List.set_cons_zero, List.set_cons_succ]
    refine wpAnyH_ready (rs := [7]) (by kernel_rfl) (by simp) ?_
    refine AllReadyH.cons (o := { dst := none, op := Go.Op.store 77 (Go.Operand.tmp 6) (Go.Operand.tmp 12), type := 0, pos := "l09_node.go:43", after := #[{ on := 6, ground := Go.Ground.data }, { on := 5, ground := Go.Ground.data }, { on := 5, ground := Go.Ground.chain }, { on := 0, ground := Go.Ground.phase }, { on := 1, ground := Go.Ground.phase }, { on := 2, ground := Go.Ground.phase }, { on := 3, ground := Go.Ground.phase }, { on := 4, ground := Go.Ground.phase }, { on := 5, ground := Go.Ground.phase }, { on := 6, ground := Go.Ground.phase }], guard := none }) rfl (fun K hK => ?_) AllReadyH.nil
    have z0 := Box.at hO4 0 _ rfl
    have z1 := Box.at hO4 1 _ rfl
    have z2 := Box.at hO4 2 _ rfl
    have z3 := Box.at hO4 3 _ rfl
    simp only [List.getElem_toArray, List.getElem_cons_zero, List.getElem_cons_succ] at z0 z1 z2 z3
    have ff := Box.soft hO4
    have l0 := Box.lt hO4
    go_simp
    try go_wp2_with fail
    refine hK.out _ _ (below_setAll hHeld wD.heap.size 0 [.int .i64 r.code, .bool r.isNew, .int .i64 r.place, .slice a3 r.writes.length d3] (by omega)) (fun hHeld => ?_)
    clear hK K
    try simp only [Act.put, List.setIfInBounds_toArray, List.set_cons_zero, List.set_cons_succ]
    refine wpAnyH_done (by kernel_rfl) ?_ _
    refine NoPanic.normal ?_
    have hGO : g ≠ wD.heap.size := by have h1 := hBD.size; have h2 := hgw; omega
    have bO : Box 0 #[.int .i64 r.code, .bool r.isNew, .int .i64 r.place, .slice a3 r.writes.length d3] 77 ((((w3.setCell ⟨wD.heap.size, 0, none⟩ (.int .i64 r.code)).setCell ⟨wD.heap.size, 1, none⟩ (.bool r.isNew)).setCell ⟨wD.heap.size, 2, none⟩ (.int .i64 r.place)).setCell ⟨wD.heap.size, 3, none⟩ (.slice a3 r.writes.length d3)) wD.heap.size := by have q := Box.set (Box.set (Box.set (Box.set hO4 0 (.int .i64 r.code)) 1 (.bool r.isNew)) 2 (.int .i64 r.place)) 3 (.slice a3 r.writes.length d3); simp only [List.setIfInBounds_toArray, List.set_cons_zero, List.set_cons_succ] at q; exact q
    have hzD : wD.heap.size < (wD.alloc (.cells #[.int .i64 0, .bool false, .int .i64 0, .slice none 0 0] 77)).heap.size := by simp
    have hzF : ((((w3.setCell ⟨wD.heap.size, 0, none⟩ (.int .i64 r.code)).setCell ⟨wD.heap.size, 1, none⟩ (.bool r.isNew)).setCell ⟨wD.heap.size, 2, none⟩ (.int .i64 r.place)).setCell ⟨wD.heap.size, 3, none⟩ (.slice a3 r.writes.length d3)).heap.size = w3.heap.size := size_setAll w3 wD.heap.size 0 [.int .i64 r.code, .bool r.isNew, .int .i64 r.place, .slice a3 r.writes.length d3]
    have oO : (Lay.sl Lay.tWrite).OwnIn ((((w3.setCell ⟨wD.heap.size, 0, none⟩ (.int .i64 r.code)).setCell ⟨wD.heap.size, 1, none⟩ (.bool r.isNew)).setCell ⟨wD.heap.size, 2, none⟩ (.int .i64 r.place)).setCell ⟨wD.heap.size, 3, none⟩ (.slice a3 r.writes.length d3)) [.slice a3 r.writes.length d3] r.writes w.heap.size ((((w3.setCell ⟨wD.heap.size, 0, none⟩ (.int .i64 r.code)).setCell ⟨wD.heap.size, 1, none⟩ (.bool r.isNew)).setCell ⟨wD.heap.size, 2, none⟩ (.int .i64 r.place)).setCell ⟨wD.heap.size, 3, none⟩ (.slice a3 r.writes.length d3)).heap.size := (own_store' (s := wD.heap.size) (vs := [.int .i64 r.code, .bool r.isNew, .int .i64 r.place, .slice a3 r.writes.length d3]) OW hzD).mono (by have := hBD.size; omega) (Nat.le_of_eq hzF.symm)
    have hBF : Below w.heap.size w ((((w3.setCell ⟨wD.heap.size, 0, none⟩ (.int .i64 r.code)).setCell ⟨wD.heap.size, 1, none⟩ (.bool r.isNew)).setCell ⟨wD.heap.size, 2, none⟩ (.int .i64 r.place)).setCell ⟨wD.heap.size, 3, none⟩ (.slice a3 r.writes.length d3)) := below_setAll hBw wD.heap.size 0 [.int .i64 r.code, .bool r.isNew, .int .i64 r.place, .slice a3 r.writes.length d3] hBD.size
    clear hzD hzF hO3 hO4 z0 z1 z2 z3 ff l0
    clear hHeld OW hBw hb3 hW
    have hHF := h.keep hBF
    have big := oO.reads.big
    generalize hWF : ((((w3.setCell ⟨wD.heap.size, 0, none⟩ (.int .i64 r.code)).setCell ⟨wD.heap.size, 1, none⟩ (.bool r.isNew)).setCell ⟨wD.heap.size, 2, none⟩ (.int .i64 r.place)).setCell ⟨wD.heap.size, 3, none⟩ (.slice a3 r.writes.length d3)) = WF at *
    clear hWF
    generalize hob : wD.heap.size = ob at *
    clear hob
    clear k0
    have k0 := Box.at hHF 0 _ rfl
    simp only [List.getElem_toArray, List.getElem_cons_zero] at k0
    have kf := Box.soft hHF
    have kl := Box.lt hHF
    have z0 := Box.at bO 0 _ rfl
    have z2 := Box.at bO 2 _ rfl
    have z3 := Box.at bO 3 _ rfl
    simp only [List.getElem_toArray, List.getElem_cons_zero, List.getElem_cons_succ] at z0 z2 z3
    have zl := Box.lt bO
    have HOF := hide oO
    have HBF := hide hBF
    have HHF := hide hHF
    clear oO hBF hHF bO hBD hHD q0 q1 q2 q3 q4 hyl hgl h R hy hE hH0
    by_cases hc : r.code = 0
    · rw [hc] at z0
      by_cases h40 : 40 < r.writes.length
      · have HT : Hid (takeCode r = 2) := by show takeCode r = 2; rw [takeCode, if_pos hc, if_pos h40]
        have hd : decide ((40 : Int) < (r.writes.length : Int)) = true := by simp; omega
        clear hc h40
        go_wp2_with fail
        refine bodyPost_ret (v := .tuple #[.int .i64 0, .int .i64 2]) (by simp [results, Tryd.results26, go_sem]) rfl ?_
        refine ⟨0, by rw [unhide HT], fun h0 => ?_, ext_of_below (unhide HBF) _⟩
        rw [unhide HT] at h0
        exact absurd h0 (by decide)
      · have HT : Hid (takeCode r = 0) := by show takeCode r = 0; rw [takeCode, if_pos hc, if_neg h40]
        have hd : decide ((40 : Int) < (r.writes.length : Int)) = false := by simp; omega
        have HBX : Hid (HeldAt (WF.setCell ⟨g, 0, none⟩ (.slice a3 r.writes.length d3)) g (.slice a3 r.writes.length d3) x) := Box.set (unhide HHF) 0 (.slice a3 r.writes.length d3)
        have e1 : Ext (fun q => q = g) WF (WF.setCell ⟨g, 0, none⟩ (.slice a3 r.writes.length d3)) := (Ext.refl (fun q => q = g) _).setCell ⟨g, 0, none⟩ _ rfl
        have HE1 := hide ((ext_of_below (unhide HBF) _).trans e1)
        have HO1 : Hid ((Lay.sl Lay.tWrite).OwnIn (WF.setCell ⟨g, 0, none⟩ (.slice a3 r.writes.length d3)) [.slice a3 r.writes.length d3] r.writes w.heap.size (WF.setCell ⟨g, 0, none⟩ (.slice a3 r.writes.length d3)).heap.size) := ((unhide HOF).ext e1 (fun q h1 h2 h3 => by omega)).mono (Nat.le_refl _) (by simp)
        have hgo : g ≠ ob := hGO
        clear hc e1 h40
        go_wp2_with fail
        refine bodyPost_ret (v := .tuple #[.int .i64 r.place, .int .i64 0]) (by simp [results, Tryd.results26, go_sem]) rfl ?_
        exact ⟨r.place, by rw [unhide HT], fun _ => ⟨rfl, a3, r.writes.length, d3, unhide HBX, unhide HO1⟩, unhide HE1⟩
    · have HT : Hid (takeCode r = r.code) := by show takeCode r = r.code; rw [takeCode, if_neg hc]
      have HC := hide hc
      have hd : (r.code != 0) = true := by simpa using hc
      clear hc
      generalize r.code = cc at *
      go_wp2_with fail
      refine wp_region_noPanic ?_
      refine wp_region_held_drew (S := fun w' => w' = WF.drew) (by kernel_rfl) rfl (fun hHeld => ?_)
      refine wpAnyH_take (i := 0) (oi := { dst := some 16, op := Go.Op.fieldAddr 77 (Go.Operand.tmp 6) 0, type := 0, pos := "l09_node.go:45", after := #[{ on := 2, ground := Go.Ground.gcOnly Go.Departure.lateStores }], guard := none }) (v := ?vv0) rfl (by kernel_rfl) (by kernel_rfl) (by kernel_rfl) (fun _ _ _ h => h) (Or.inl ⟨by rfl, ?hv0⟩) hHeld ?rv0
      case hv0 =>
        intro wS hSw
        (try dsimp only at hSw)
        go_simp
        try with_reducible rfl
      case rv0 =>
      simp only [Act.put, List.setIfInBounds_toArray, List.set_cons_zero, List.set_cons_succ]
      refine wpAnyH_take (i := 1) (oi := { dst := some 17, op := Go.Op.load 2 (Go.Operand.tmp 16), type := 2, pos := "l09_node.go:45", after := #[{ on := 0, ground := Go.Ground.data }, { on := 2, ground := Go.Ground.gcOnly Go.Departure.lateStores }], guard := none }) (v := ?vv1) rfl (by kernel_rfl) (by kernel_rfl) (by kernel_rfl) (fun _ _ _ h => h) (Or.inl ⟨by rfl, ?hv1⟩) hHeld ?rv1
      case hv1 =>
        intro wS hSw
        have v0 : wS.cell? ⟨ob, 0, none⟩ = some (.int .i64 cc) := by rw [hSw]; exact z0
        clear hSw
        (try dsimp only at hSw)
        go_simp
        try with_reducible rfl
      case rv1 =>
      simp only [Act.put, List.setIfInBounds_toArray, List.set_cons_zero, List.set_cons_succ]
      refine wpAnyH_take (i := 2) (oi := { dst := some 4, op := Go.Op.assign (Go.Operand.const (Go.Value.int Go.IntKind.i64 0)), type := 2, pos := "l09_node.go:45", after := #[{ on := 0, ground := Go.Ground.textOnly Go.Departure.lateStores }, { on := 1, ground := Go.Ground.textOnly Go.Departure.lateStores }], guard := none }) (v := ?vv2) rfl (by kernel_rfl) (by kernel_rfl) (by kernel_rfl) (fun _ _ _ h => h) (Or.inl ⟨by rfl, ?hv2⟩) hHeld ?rv2
      case hv2 =>
        intro wS hSw
        (try dsimp only at hSw)
        go_simp
        try with_reducible rfl
      case rv2 =>
      simp only [Act.put, List.setIfInBounds_toArray, List.set_cons_zero, List.set_cons_succ]
      refine wpAnyH_take (i := 3) (oi := { dst := some 5, op := Go.Op.assign (Go.Operand.tmp 17), type := 2, pos := "l09_node.go:45", after := #[{ on := 1, ground := Go.Ground.data }, { on := 2, ground := Go.Ground.chain }, { on := 0, ground := Go.Ground.phase }, { on := 1, ground := Go.Ground.phase }, { on := 2, ground := Go.Ground.phase }], guard := none }) (v := ?vv3) rfl (by kernel_rfl) (by kernel_rfl) (by kernel_rfl) (fun _ _ _ h => h) (Or.inl ⟨by rfl, ?hv3⟩) hHeld ?rv3
      case hv3 =>
        intro wS hSw
        (try dsimp only at hSw)
        go_simp
        try with_reducible rfl
      case rv3 =>
      simp only [Act.put, List.setIfInBounds_toArray, List.set_cons_zero, List.set_cons_succ]
      refine wpAnyH_done (by kernel_rfl) ?_ _
      refine NoPanic.normal ?_
      clear hHeld
      go_wp2_with fail
      refine bodyPost_ret (v := .tuple #[.int .i64 0, .int .i64 cc]) (by simp [results, Tryd.results26, go_sem]) rfl ?_
      refine ⟨0, by rw [unhide HT], fun h0 => ?_, ext_of_below (unhide HBF).drew _⟩
      rw [unhide HT] at h0
      exact absurd h0 (unhide HC)
end Go.Proofs.YtbogjepkdcknfaaDoor
