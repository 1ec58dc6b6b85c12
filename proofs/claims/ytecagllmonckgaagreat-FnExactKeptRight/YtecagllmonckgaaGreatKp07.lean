/-
  Texts of this proof in one: ListC, ImplWOf, ImplWOfA, LayOpen, ImplStory, ImplOnce, ImplWrF, ImplNodeF, ImplWN, ImplWNs.
  Their conditions stand in their theorems.
-/
import Derived.Test.YtecagllmonckgaaGreatKp06
import Derived.Test.YtecagllmonckgaaGreatKp01
import Derived.Test.YtecagllmonckgaaGreatKp00
import Derived.Test.YtecagllmonckgaaGreatKp05
import Derived.Test.YtecagllmonckgaaGreatChecked
import Derived.ProofKit
import Derived.OpenShut
import Derived.Deep.Slices
import Derived.Carry
import Derived.Deep.RegionHeld3
import Derived.Deep.CutRange
import Derived.WalkMore
set_option maxRecDepth 100000
set_option maxHeartbeats 4000000
namespace Go.Proofs.YtecagllmonckgaaGreat
open Go.RowKit
theorem kJ (x y z : Int) (w : World) :
  Calls Tryz.prog 243 #[ei x y z] w fun e w' => e = .returned (.slice (some ⟨w.heap.size + 1, 0, none⟩) 3 3) ∧
   (w.alloc (.cells #[.int .i64 x, .int .i64 y, .int .i64 z] 272)).alloc (.cells #[.int .i64 x, .int .i64 y, .int .i64 z] 2) = w' := by
 have hmk : ∀ w : World, (Instr.makeSlice 22 (.int .i64 3) (.int .i64 3)).run Tryz.prog w = .ok (.slice (some ⟨w.heap.size, 0, none⟩) 3 3) (w.alloc (.cells #[.int .i64 0, .int .i64 0, .int .i64 0] 2)) := fun _ => by kernel_rfl
 have i0 : ∀ w : World, (Instr.index 272 (.agg #[.int .i64 x, .int .i64 y, .int .i64 z]) (.int .i64 0)).run Tryz.prog w = .ok (.int .i64 x) w := fun _ => by kernel_rfl
 have i1 : ∀ w : World, (Instr.index 272 (.agg #[.int .i64 x, .int .i64 y, .int .i64 z]) (.int .i64 1)).run Tryz.prog w = .ok (.int .i64 y) w := fun _ => by kernel_rfl
 have i2 : ∀ w : World, (Instr.index 272 (.agg #[.int .i64 x, .int .i64 y, .int .i64 z]) (.int .i64 2)).run Tryz.prog w = .ok (.int .i64 z) w := fun _ => by kernel_rfl
 simp only [ei]
 go_enter Tryz.func243, Tryz.ntmps243
 go_wp2
 refine wp_loop_rounds 4 ?_
 rw [rounds_succ]
 go_wp2
 rw [rounds_succ]
 go_wp2
 rw [rounds_succ]
 go_wp2
 rw [rounds_succ]
 go_wp2
 go_ret
 exact ⟨rfl, rfl⟩
theorem jN (v : Value) (w : World) : (Instr.typeAssert (.iface 294 v) 259 298 true).run Tryz.prog w = .ok (.tuple #[.agg #[.int .i64 0, .int .i64 0, .int .i64 0], .bool false]) w := by kernel_rfl
theorem kq (v : Value) (w : World) : (Instr.typeAssert (.iface 294 v) 259 294 true).run Tryz.prog w = .ok (.tuple #[v, .bool true]) w := by kernel_rfl
theorem gk (i s q : Int) (w : World) :
  Calls Tryz.prog 254 #[j6, .int .i64 i, .int .i64 s, .int .i64 q] w fun e w' => e = .returned (.agg #[.int .i64 2, .int .i64 i, .slice none 0 0, .int .i64 s, .int .i64 q]) ∧ Below w.heap.size w w' := by
 have a1 := jN
 have a2 := kq
 have HB : Hid (∀ o o' o'', Below w.heap.size w (((w.alloc o).alloc o').alloc o'')) := fun o o' o'' => (((Below.refl _ _).alloc (Nat.le_refl _) _).alloc (by simp) _).alloc (by simp; omega) _
 simp only [j6] at *
 go_enter Tryz.func254, Tryz.ntmps254
 go_wp2_with fail
 refine bodyPost_ret (v := .agg #[.int .i64 2, .int .i64 i, .slice none 0 0, .int .i64 s, .int .i64 q]) (by simp [results, Tryz.results254, go_sem]) rfl ?_
 exact ⟨rfl, uh HB _ _ _⟩
theorem jO (v : Value) (w : World) : (Instr.typeAssert (.iface 298 v) 259 298 true).run Tryz.prog w = .ok (.tuple #[v, .bool true]) w := by kernel_rfl
theorem lg (x y z : Int) (w : World) :
  Calls Tryz.prog 243 #[.agg #[.int .i64 x, .int .i64 y, .int .i64 z]] w fun e w' => ∃ a c, e = .returned (.slice a 3 c) ∧ w'.ownsRow w.heap.size 2 1 (.slice a 3 c) 3 [.int .i64 x, .int .i64 y, .int .i64 z] ∧ Below w.heap.size w w' := by
 refine (kJ x y z w).mono ?_
 rintro e w' ⟨rfl, rfl⟩
 exact ⟨_, _, rfl, j8 (W := w.alloc (.cells #[.int .i64 x, .int .i64 y, .int .i64 z] 272)) (base := w.heap.size) (T := 2) (by simp) (by simp), ((Below.refl _ _).alloc (Nat.le_refl _) _).alloc (by simp) _⟩
theorem lG {w w1 : World} {sx : Nat} {u : Value} {xs : List Value} {B : Nat} {vs : List Value} (hsx : w.heap.size < sx) (hB : sx < B) (O : w1.ownsRow B 2 1 u 3 xs) (hb : Below w.heap.size w w1) :
  (bc (w1.setCell ⟨sx, 2, none⟩ u) w.heap.size 0 vs).ownsRow B 2 1 u 3 xs ∧ Below w.heap.size w (bc (w1.setCell ⟨sx, 2, none⟩ u) w.heap.size 0 vs) := by
 have h1 := dH (a := ⟨sx, 2, none⟩) O (by simpa using hB) u
 have h2 : Below w.heap.size w (w1.setCell ⟨sx, 2, none⟩ u) := hb.setCell (by simp; omega) _
 refine ⟨?_, bF h2 _ _ _ (Nat.le_refl _)⟩
 have : ∀ (l : List Value) (i : Nat) (W : World), W.ownsRow B 2 1 u 3 xs → (bc W w.heap.size i l).ownsRow B 2 1 u 3 xs := by
  intro l
  induction l with
  | nil => intro i W h; exact h
  | cons v l ih => intro i W h; exact ih (i + 1) _ (dH (a := ⟨w.heap.size, i, none⟩) h (by simp; omega) v)
 exact this vs 0 _ h1
theorem gI (x y z i s q : Int) (w : World) :
  Calls Tryz.prog 254 #[lX x y z, .int .i64 i, .int .i64 s, .int .i64 q] w fun e w' => ∃ a c, e = .returned (.agg #[.int .i64 1, .int .i64 i, .slice a 3 c, .int .i64 s, .int .i64 q]) ∧ w'.ownsRow w.heap.size 2 1 (.slice a 3 c) 3 [.int .i64 x, .int .i64 y, .int .i64 z] ∧ Below w.heap.size w w' := by
 have a1 := jO
 have L := yh (fun W => lg x y z W)
 simp only [lX] at *
 go_enter Tryz.func254, Tryz.ntmps254
 go_wp2_with fail
 obtain ⟨W, hW⟩ : ∃ W, W = ((w.alloc (.cells #[.int .i64 0, .int .i64 0, .slice none 0 0, .int .i64 0, .int .i64 0] 142)).alloc (.cells #[.int .i64 1, .int .i64 i, .slice none 0 0, .int .i64 s, .int .i64 q] 142)).alloc (.cells #[.int .i64 x, .int .i64 y, .int .i64 z] 298) := ⟨_, rfl⟩
 have n1 : Below w.heap.size w (w.alloc (.cells #[.int .i64 0, .int .i64 0, .slice none 0 0, .int .i64 0, .int .i64 0] 142)) := (Below.refl _ _).alloc (Nat.le_refl _) _
 have bR : aj 0 #[.int .i64 0, .int .i64 0, .slice none 0 0, .int .i64 0, .int .i64 0] 142 W w.heap.size := by rw [hW]; exact ((aI (Nat.zero_le _)).grow _).grow _
 have bX : aj 0 #[.int .i64 1, .int .i64 i, .slice none 0 0, .int .i64 s, .int .i64 q] 142 W (w.heap.size + 1) := by rw [hW]; exact (aW (by omega) (by simp)).grow _
 have HB : Hid (Below w.heap.size w W) := by rw [hW]; exact (n1.alloc (by simp) _).alloc (by simp; omega) _
 rw [← hW]
 clear hW n1
 refine (uh L _).mono ?_
 rintro e w1 ⟨a, c, rfl, O, hb⟩
 have hsx : w.heap.size < w.heap.size + 1 := by omega
 generalize w.heap.size + 1 = sx at *
 have hX := bX.lt
 replace bR := bR.ar hb
 replace bX := bX.ar hb
 replace HB := bZ HB hb
 have x0 := bX.at 0 _ rfl
 have x1 := bX.at 1 _ rfl
 have x2 := bX.at 2 _ rfl
 have x3 := bX.at 3 _ rfl
 have x4 := bX.at 4 _ rfl
 have xf := bX.soft
 have xl := bX.lt
 have r0 := bR.at 0 _ rfl
 have r1 := bR.at 1 _ rfl
 have r2 := bR.at 2 _ rfl
 have r3 := bR.at 3 _ rfl
 have r4 := bR.at 4 _ rfl
 have rf := bR.soft
 have rl := bR.lt
 have HO := yh O
 clear bR bX hb O L
 simp only [ga, gb, gc] at x0 x1 x2 x3 x4 r0 r1 r2 r3 r4
 go_wp2_with fail
 refine bodyPost_ret (v := .agg #[.int .i64 1, .int .i64 i, .slice a 3 c, .int .i64 s, .int .i64 q]) (by simp [results, Tryz.results254, go_sem, r0, r1, r2, r3, r4]) rfl ?_
 obtain ⟨s1, s2⟩ := lG (vs := [.int .i64 1, .int .i64 i, .slice a 3 c, .int .i64 s, .int .i64 q]) hsx hX (uh HO) (uh HB)
 exact ⟨a, c, rfl, jM (by omega) s1, s2⟩
theorem jL (x : ai) (w : World) (hf : wF x = 0) :
  Calls Tryz.prog 254 #[fH x.kind x.vec, .int .i64 x.id, .int .i64 x.aa, .int .i64 x.seq] w fun e w' => ∃ cs, e = .returned (.agg cs.toArray) ∧ ad.ag.aV w' cs x w.heap.size w'.heap.size ∧ Below w.heap.size w w' := by
 obtain ⟨kd, id, vec, ss, sq⟩ := x
 obtain ⟨hi, hs, hq, hk⟩ := cw hf
 simp only at hi hs hq hk
 have w1 : (Lit.int .i64 id).wf = true := cj (by omega)
 have w3 : (Lit.int .i64 ss).wf = true := cj (by omega)
 have w4 : (Lit.int .i64 sq).wf = true := cj (by omega)
 rcases hk with ⟨rfl, hv⟩ | ⟨rfl, hv⟩
 ·
  obtain ⟨hl, hb⟩ := dC hv
  match vec, hl with
  | [p, q, r], _ =>
   refine (gI p q r id ss sq w).mono ?_
   rintro e w' ⟨a, c, rfl, hO, hb2⟩
   have hO2 := ad.iU (zs := [p, q, r]) (fun z hz => cj (by have h0 := hb 0 (by decide); have h1 := hb 1 (by decide); have h2 := hb 2 (by decide); simp at h0 h1 h2 hz; omega)) (by simp) hO
   obtain ⟨bl, O, hr⟩ := hO2
   exact ⟨_, rfl, ⟨bl, eA (x := ⟨1, id, [p, q, r], ss, sq⟩) O (show (Lit.int .i64 1).wf = true by decide) w1 w3 w4 O.2.1, hr⟩, hb2⟩
 subst hv
 refine (gk id ss sq w).mono ?_
 rintro e w' ⟨rfl, hb2⟩
 exact ⟨_, rfl, ⟨[], eA (x := ⟨2, id, [], ss, sq⟩) (c2 := [.slice none 0 0]) ⟨⟨none, 0, rfl, by simp, Or.inl ⟨rfl, rfl⟩⟩, by simp, by simp⟩ (show (Lit.int .i64 2).wf = true by decide) w1 w3 w4 (by simp), by simp⟩, hb2⟩
end Go.Proofs.YtecagllmonckgaaGreat

namespace Go.Proofs.YtecagllmonckgaaGreat
open Go.RowKit Go.ChangeShapes Go.WideShapes
def cY {α : Type} (A : ad α) (t : TypeId) : Prop :=
 ∀ {H : Type} (enc : TypeId × Value → H) (W : World) (base : Nat) (spare : Nat → Bool) (held : Bool) (fuel : Nat) (cs : List Value) (x : DataW H × List MemPlace), DataW.trod enc Tryz.prog W base spare held fuel t cs = some x → ∃ y, A.Reads W cs y
theorem ay {α β : Type} {A : ad α} {B : ad β} {W : World} {c1 c2 : List Value} {x : α} {y : β} (h : A.Reads W c1 x) (k : B.Reads W c2 y) : (ad.pair A B).Reads W (c1 ++ c2) (x, y) := by
 obtain ⟨b1, h⟩ := h
 obtain ⟨b2, k⟩ := k
 exact ⟨b1 ++ b2, c1, c2, b1, b2, rfl, rfl, h, k⟩
theorem aG {t : TypeId} (ht : Tryz.prog.underlying t = some (.int .i64)) : cY ad.int t := by
 intro H enc W base spare held fuel cs x h
 obtain ⟨n, rfl, -, hw⟩ := DataW.trod_int ht h
 exact ⟨n, [], rfl, hw, rfl⟩
theorem iA {t : TypeId} (ht : Tryz.prog.underlying t = some .bool) : cY ad.bool t := by
 intro H enc W base spare held fuel cs x h
 obtain ⟨b, rfl, -⟩ := DataW.trod_bool ht h
 exact ⟨b, [], rfl, rfl⟩
theorem cg {α : Type} {A : ad α} {t e : TypeId} (ht : Tryz.prog.underlying t = some (.slice e)) (hn : Tryz.prog.cellsOf e = A.n) (h0 : 0 < A.n) (h : cY A e) : cY (ad.sl A) t := by
 intro H enc W base spare held fuel cs x hx
 rcases Go.Deep.open_slice ht hx with ⟨rfl, -⟩ | ⟨a, len, cap, m, n, D, Pl, rfl, hb, hl, hm, hmm, -, hel⟩
 ·
  exact ⟨[], [], none, 0, rfl, ⟨Nat.le_refl _, by simp⟩, Or.inl ⟨rfl, rfl⟩⟩
 have hlm : len ≤ m := by rw [hmm]; split <;> omega
 rw [hn] at hel
 have each : ∀ i, i < len → ∃ q : List Value × α, (∀ j, j < A.n → W.cell? (a.add (i * A.n + j)) = q.1[j]?) ∧ q.1.length = A.n ∧ A.Reads W q.1 q.2 := by
  intro i hi
  obtain ⟨cs', h1, h2⟩ := hel i (by omega)
  obtain ⟨-, hlen, hc⟩ := World.cells?_some h1
  obtain ⟨y, hy⟩ := h enc W base spare held n cs' _ h2
  refine ⟨(cs', y), fun j hj => ?_, hlen, hy⟩
  have := hc j hj
  rw [Addr.add_add] at this
  exact this
 by_cases hp : 0 < len
 ·
  obtain ⟨b, off, spot⟩ := a
  obtain ⟨q0, c0, l0, -⟩ := each 0 hp
  have hc0 := c0 0 h0
  have hs0 : ∃ v, W.cell? ((⟨b, off, spot⟩ : Addr).add (0 * A.n + 0)) = some v := ⟨_, hc0.trans (List.getElem?_eq_getElem (by omega))⟩
  obtain ⟨v0, hv0⟩ := hs0
  have hspot : spot = none := by simpa [Addr.add] using World.cell?_spot hv0
  subst hspot
  have hbl : b < W.heap.size := by
   have := World.block_lt_of_cell? _ _ hv0
   simpa [Addr.add] using this
  have pick : ∃ f : (i : Nat) → i < len → List Value × α, ∀ i (hi : i < len), (∀ j, j < A.n → W.cell? ((⟨b, off, none⟩ : Addr).add (i * A.n + j)) = (f i hi).1[j]?) ∧ (f i hi).1.length = A.n ∧ A.Reads W (f i hi).1 (f i hi).2 :=
   ⟨fun i hi => Classical.choose (each i hi), fun i hi => Classical.choose_spec (each i hi)⟩
  obtain ⟨f, hf⟩ := pick
  have pick2 : ∃ g : (i : Nat) → i < len → List Nat, ∀ i (hi : i < len), A.bo W (f i hi).1 (f i hi).2 (g i hi) :=
   ⟨fun i hi => Classical.choose (hf i hi).2.2, fun i hi => Classical.choose_spec (hf i hi).2.2⟩
  obtain ⟨g, hg⟩ := pick2
  refine ⟨(List.finRange len).map (fun i => (f i.1 i.2).2), b :: ((List.finRange len).map (fun i => g i.1 i.2)).flatten, some ⟨b, off, none⟩, cap, by simp, ⟨by simpa using hl, by simp; unfold maxLen at hm; omega⟩, Or.inr ⟨b, off, (List.finRange len).map (fun i => (f i.1 i.2).1), (List.finRange len).map (fun i => g i.1 i.2), rfl, hbl, rfl, by simp, by simp, fun j h1 h2 h3 => ?_⟩⟩
  have hj : j < len := by simpa using h1
  refine ⟨fun k hk => ?_, ?_⟩
  ·
   have := (hf j hj).1 k hk
   rw [Addr.add_lit] at this
   simpa [Nat.add_assoc] using this
  simpa using hg j hj
 obtain rfl : len = 0 := by omega
 exact ⟨[], [], some a, cap, rfl, ⟨hl, by simp⟩, Or.inl ⟨rfl, rfl⟩⟩
theorem gW {α : Type} {A : ad α} {t : TypeId} (O : cY A t) {H : Type} {enc : TypeId × Value → H} {W : World} {base : Nat} {spare : Nat → Bool} {held : Bool} {cs : Array Value} {d : DataW H} {p : List MemPlace}
  (h : DataW.Trod enc Tryz.prog W base spare held t (.agg cs) d p) : ∃ y, A.Reads W cs.toList y := by
 obtain ⟨fuel, hf⟩ := h
 exact O enc W base spare held fuel _ _ (by simpa [Value.cells] using hf)
end Go.Proofs.YtecagllmonckgaaGreat

namespace Go.Proofs.YtecagllmonckgaaGreat
open Go.RowKit
def ki (w w' : World) (e : Ending) (ws : List ai) : Prop := ∃ r, e = .returned (.tuple #[r, .int .i64 (aD ws)]) ∧ (aD ws = 0 → r = .pointer (some ⟨w.heap.size + 1, 0, none⟩) ∧ ∃ v rows bls, Told w' (w.heap.size + 1) w.heap.size w'.heap.size ws v rows bls) ∧ (aD ws ≠ 0 → r = .pointer none) ∧ Below w.heap.size w w'
theorem eP (w : World) : Told ((w.alloc (.map #[] 0)).alloc (.cells #[.slice none 0 0, .map (some w.heap.size), .int .i64 0, .int .i64 0, .int .i64 0, .int .i64 0, .int .i64 0, .int .i64 0, .int .i64 0, .int .i64 0, .int .i64 0, .int .i64 0] 237)) (w.heap.size + 1) w.heap.size ((w.alloc (.map #[] 0)).alloc (.cells #[.slice none 0 0, .map (some w.heap.size), .int .i64 0, .int .i64 0, .int .i64 0, .int .i64 0, .int .i64 0, .int .i64 0, .int .i64 0, .int .i64 0, .int .i64 0, .int .i64 0] 237)).heap.size [] (.slice none 0 0) [] [] := kr w
theorem jl (b off cap : Nat) (ws : List ai) (w : World) (h : (ad.sl ad.ag).Reads w [.slice (some ⟨b, off, none⟩) ws.length cap] ws) (hbl : b < w.heap.size) (hn : ws.length ≤ 200) :
  Calls Tryz.prog 215 #[.slice (some ⟨b, off, none⟩) ws.length cap] w fun e w' => ki w w' e ws := by
 have HW : Hid (aD ws = bh ws) := by show aD ws = bh ws; rw [aD, if_neg (by omega)]
 have H := yh h
 clear h
 have HT0 := yh (eP w)
 have HB0 := yh (((Below.refl w.heap.size w).alloc (Nat.le_refl _) (.map #[] 0)).alloc (by simp) (.cells #[.slice none 0 0, .map (some w.heap.size), .int .i64 0, .int .i64 0, .int .i64 0, .int .i64 0, .int .i64 0, .int .i64 0, .int .i64 0, .int .i64 0, .int .i64 0, .int .i64 0] 237))
 have hmk := @run_makeMap Tryz.prog
 go_enter Tryz.func215, Tryz.ntmps215
 go_wp2_with fail
 clear hmk
 generalize (w.alloc (.map #[] 0)).alloc (.cells #[.slice none 0 0, .map (some w.heap.size), .int .i64 0, .int .i64 0, .int .i64 0, .int .i64 0, .int .i64 0, .int .i64 0, .int .i64 0, .int .i64 0, .int .i64 0, .int .i64 0] 237) = W1 at *
 go_loopw [17] (fun i wr => ∃ k : Nat, k ≤ ws.length ∧ i = .int .i64 k ∧ (∀ j (hj : j < ws.length), j < k → wF ws[j] = 0) ∧ (∃ v rows bls, Told wr (w.heap.size + 1) w.heap.size wr.heap.size (ws.take k) v rows bls) ∧ Below w.heap.size w wr) (fun i _ => ws.length - (intOf i).toNat)
 case atStart => exact ⟨0, Nat.zero_le _, rfl, fun j _ hj => by omega, ⟨_, _, _, uh HT0⟩, uh HB0⟩
 case round =>
  obtain ⟨k, hk, rfl, hz, ⟨v, rows, bls, hT⟩, hB⟩ := hrel
  clear HT0 HB0
  by_cases hlt : k < ws.length
  ·
   obtain ⟨row, hc, hr⟩ := ad.aX (uh H) hlt
   replace hr := hr.af hB
   obtain ⟨a2, d2, rfl, R2⟩ := aQ hr
   have c0 : wr.cell? ⟨b, off + k * 5, none⟩ = some (.int .i64 (ws[k]).kind) := (hB.cell (p := ⟨b, off + k * 5, none⟩) hbl).trans (hc 0 (by decide))
   have c1 : wr.cell? ⟨b, off + k * 5 + 1, none⟩ = some (.int .i64 (ws[k]).id) := (hB.cell (p := ⟨b, off + k * 5 + 1, none⟩) hbl).trans (hc 1 (by decide))
   have c2 : wr.cell? ⟨b, off + k * 5 + 2, none⟩ = some (.slice a2 (ws[k]).vec.length d2) := (hB.cell (p := ⟨b, off + k * 5 + 2, none⟩) hbl).trans (hc 2 (by decide))
   have c3 : wr.cell? ⟨b, off + k * 5 + 3, none⟩ = some (.int .i64 (ws[k]).aa) := (hB.cell (p := ⟨b, off + k * 5 + 3, none⟩) hbl).trans (hc 3 (by decide))
   have c4 : wr.cell? ⟨b, off + k * 5 + 4, none⟩ = some (.int .i64 (ws[k]).seq) := (hB.cell (p := ⟨b, off + k * 5 + 4, none⟩) hbl).trans (hc 4 (by decide))
   have HZ := yh hz
   have HST : Hid (ws.take (k + 1) = ws.take k ++ [ws[k]]) := List.take_succ_eq_append_getElem hlt
   have HAT : Hid (wF ws[k] ≠ 0 → aD ws = wF ws[k]) := fun hn => (uh HW).trans (eg ws k hlt hz hn)
   have HZ2 : Hid (wF ws[k] = 0 → ∀ j (hj : j < ws.length), j < k + 1 → wF ws[j] = 0) := by
    intro h0 j hj hjk
    by_cases hjk2 : j < k
    ·
     exact uh HZ j hj hjk2
    obtain rfl : j = k := by omega
    exact h0
   have HLK : Hid ((ws.take k).length = k) := by show (ws.take k).length = k; rw [List.length_take]; omega
   clear hc hr hz HZ
   generalize hx : ws[k] = x at *
   clear hx
   have hbr : b < wr.heap.size := Nat.lt_of_lt_of_le hbl hB.size
   have nb : Below wr.heap.size wr (wr.alloc (.cells #[.int .i64 x.kind, .int .i64 x.id, .slice a2 x.vec.length d2, .int .i64 x.aa, .int .i64 x.seq] 142)) := (Below.refl _ _).alloc (Nat.le_refl _) _
   have bI : aj wr.heap.size #[.int .i64 x.kind, .int .i64 x.id, .slice a2 x.vec.length d2, .int .i64 x.aa, .int .i64 x.seq] 142 (wr.alloc (.cells #[.int .i64 x.kind, .int .i64 x.id, .slice a2 x.vec.length d2, .int .i64 x.aa, .int .i64 x.seq] 142)) wr.heap.size := aI (Nat.le_refl _)
   have L := gY x.kind x.id (.slice a2 x.vec.length d2) x.aa x.seq x.vec _ ((ad.bq R2).af nb)
   simp only [bU] at L
   rw [show al x.kind x.id x.vec x.aa x.seq = wF x from rfl] at L
   have HL := yh L
   have HT := yh (hT.af nb)
   have HB := yh (hB.trans (nb.mono hB.size))
   have HBI := yh bI
   have HZW : Hid (w.heap.size ≤ wr.heap.size) := hB.size
   clear R2 hT hB nb bI L
   go_wp2_with fail
   clear c0 c1 c2 c3 c4
   refine (uh HL).mono ?_
   generalize hW0 : wr.alloc (.cells #[.int .i64 x.kind, .int .i64 x.id, .slice a2 x.vec.length d2, .int .i64 x.aa, .int .i64 x.seq] 142) = W0 at *
   clear hW0
   rintro e w2 ⟨rfl, hb⟩
   replace HT := yh ((uh HT).af hb)
   replace HBI := yh ((uh HBI).ar hb)
   replace HB := bZ HB hb
   clear hb HL
   by_cases hf : wF x = 0
   ·
    rw [hf, show dN x.kind x.id x.vec x.aa x.seq = fH x.kind x.vec from if_pos hf]
    have hb1 : w2.cell? ⟨wr.heap.size, 1, none⟩ = some (.int .i64 x.id) := (uh HBI).at 1 _ rfl
    have hb3 : w2.cell? ⟨wr.heap.size, 3, none⟩ = some (.int .i64 x.aa) := (uh HBI).at 3 _ rfl
    have hb4 : w2.cell? ⟨wr.heap.size, 4, none⟩ = some (.int .i64 x.seq) := (uh HBI).at 4 _ rfl
    have hbl1 : wr.heap.size < w2.heap.size := (uh HBI).lt
    have HZ3 := yh (uh HZ2 hf)
    have HL := yh (jL x w2 hf)
    have HF := yh hf
    generalize hdv : fH x.kind x.vec = dv at *
    clear hf hdv HZ2 HAT HBI
    go_wp2_with fail
    refine (uh HL).mono ?_
    rintro e w3 ⟨cs, rfl, ⟨bl, hO, hr⟩, hb3⟩
    have hT3 := (uh HT).af hb3
    replace HB := bZ HB hb3
    have HC := yh (l8 (hT3.raise (Nat.le_trans (Nat.le_of_lt hbl1) (Nat.le_refl w2.heap.size))) hO.1 (fun c hc => ⟨(hr c hc).1, hO.2.2 c hc⟩) hO.2.1 hb3.size (uh HF) (by rw [uh HLK]; omega))
    rw [← uh HST] at HC
    clear hO hr hb3 HL HT hT3 HF hb1 hb4 hbl1
    go_wp2_with fail
    refine (uh HC).mono ?_
    rintro e w4 ⟨rfl, ⟨v4, rows4, bls4, hT4⟩, hb4⟩
    have HT4 := yh hT4
    have HB4 := yh ((uh HB).trans hb4)
    clear hT4 hb4 HC HB
    go_wp2_with fail
    go_roundw
    case rel => exact ⟨k + 1, by omega, by go_num, uh HZ3, ⟨_, _, _, uh HT4⟩, uh HB4⟩
    case measure => simp [intOf]; omega
   have hd : (wF x != 0) = true := by simpa using hf
   have HG := yh (uh HAT hf)
   have HF := yh hf
   generalize hdr : dN x.kind x.id x.vec x.aa x.seq = dr at *
   clear hf hdr HZ2 HAT HST HT HBI
   go_wp2_with fail
   refine bodyPost_ret (v := .tuple #[.pointer none, .int .i64 (wF x)]) (by simp [results, Tryz.results215, go_sem]) rfl ?_
   exact ⟨.pointer none, by rw [uh HG], fun e => absurd ((uh HG).symm.trans e) (uh HF), fun _ => rfl, uh HB⟩
  obtain rfl : k = ws.length := by omega
  have HG : Hid (aD ws = 0) := (uh HW).trans (cz ws fun j hj => hz j hj hj)
  rw [List.take_length] at hT
  have HT := yh hT
  have HB := yh hB
  clear hT hB hz H HW
  go_wp2_with fail
  refine bodyPost_ret (v := .tuple #[.pointer (some ⟨w.heap.size + 1, 0, none⟩), .int .i64 0]) (by simp [results, Tryz.results215, go_sem]) rfl ?_
  exact ⟨.pointer (some ⟨w.heap.size + 1, 0, none⟩), by rw [uh HG], fun _ => ⟨rfl, _, _, _, uh HT⟩, fun e => absurd (uh HG) e, uh HB⟩
theorem gl (v : Value) (ws : List ai) (w : World) (h : (ad.sl ad.ag).Reads w [v] ws) :
  Calls Tryz.prog 215 #[v] w fun e w' => ki w w' e ws := by
 obtain ⟨ao, cap, rfl⟩ := aB h
 by_cases hn : ws.length ≤ 200
 ·
  by_cases hp : 0 < ws.length
  ·
   obtain ⟨b, off, rfl, hbl⟩ := ad.aF h hp
   exact jl b off cap ws w h hbl hn
  obtain rfl : ws = [] := List.eq_nil_of_length_eq_zero (by omega)
  clear h hn hp
  have HT0 := yh (eP w)
  have HB0 := yh (((Below.refl w.heap.size w).alloc (Nat.le_refl _) (.map #[] 0)).alloc (by simp) (.cells #[.slice none 0 0, .map (some w.heap.size), .int .i64 0, .int .i64 0, .int .i64 0, .int .i64 0, .int .i64 0, .int .i64 0, .int .i64 0, .int .i64 0, .int .i64 0, .int .i64 0] 237))
  have hmk := @run_makeMap Tryz.prog
  go_enter Tryz.func215, Tryz.ntmps215
  go_wp2_with fail
  clear hmk
  refine wp_loop_rounds 1 ?_
  rw [rounds_succ]
  go_wp2_with fail
  refine bodyPost_ret (v := .tuple #[.pointer (some ⟨w.heap.size + 1, 0, none⟩), .int .i64 0]) (by simp [results, Tryz.results215, go_sem]) rfl ?_
  exact ⟨.pointer (some ⟨w.heap.size + 1, 0, none⟩), rfl, fun _ => ⟨rfl, _, _, _, uh HT0⟩, fun e => absurd rfl e, uh HB0⟩
 have e : aD ws = 2 := by rw [aD, if_pos (by omega)]
 have HG := yh e
 have hd : decide ((200 : Int) < (ws.length : Int)) = true := by simp; omega
 clear h e
 go_enter Tryz.func215, Tryz.ntmps215
 go_wp2_with fail
 refine bodyPost_ret (v := .tuple #[.pointer none, .int .i64 2]) (by simp [results, Tryz.results215, go_sem]) rfl ?_
 exact ⟨.pointer none, by rw [uh HG], fun e => absurd ((uh HG).symm.trans e) (by decide), fun _ => rfl, Below.refl _ _⟩
def dE (f : Int → Int) : Array Value := #[.int .i64 (f 0), .int .i64 (f 1), .int .i64 (f 2), .int .i64 (f 3), .int .i64 (f 4), .int .i64 (f 5), .int .i64 (f 6), .int .i64 (f 7), .int .i64 (f 8), .int .i64 (f 9)]
theorem dp (f : Int → Int) (i : Nat) (h : i < 10) : (dE f)[i]? = some (.int .i64 (f i)) := by
 match i, h with
 | 0, _ => rfl
 | 1, _ => rfl
 | 2, _ => rfl
 | 3, _ => rfl
 | 4, _ => rfl
 | 5, _ => rfl
 | 6, _ => rfl
 | 7, _ => rfl
 | 8, _ => rfl
 | 9, _ => rfl
theorem iy (f : Int → Int) (i : Nat) (h : i < 10) (z : Int) : (dE f).setIfInBounds i (.int .i64 z) = dE (fun j => if j = i then z else f j) := by
 match i, h with
 | 0, _ => rfl
 | 1, _ => rfl
 | 2, _ => rfl
 | 3, _ => rfl
 | 4, _ => rfl
 | 5, _ => rfl
 | 6, _ => rfl
 | 7, _ => rfl
 | 8, _ => rfl
 | 9, _ => rfl
theorem fy (b off cap : Nat) (ws : List ai) (w : World) (h : (ad.sl ad.ag).Reads w [.slice (some ⟨b, off, none⟩) ws.length cap] ws) (hbl : b < w.heap.size) (hf : aD ws = 0) :
  Calls Tryz.prog 258 #[.slice (some ⟨b, off, none⟩) ws.length cap] w fun e w' => e = .returned (.bool (bH [] ws)) ∧ Below w.heap.size w w' := by
 have HL := yh (gl _ ws w h)
 have H := yh h
 obtain ⟨hlen, hall⟩ := dL hf
 have HA := yh hall
 have HF := yh hf
 clear h hall hf
 go_enter Tryz.func258, Tryz.ntmps258
 go_wp2_with fail
 refine (uh HL).mono ?_
 rintro e w2 ⟨r, rfl, g0, -, hb⟩
 obtain ⟨rfl, -⟩ := g0 (uh HF)
 rw [uh HF]
 have HB0 := yh (hb.alloc hb.size (.cells #[.int .i64 0, .int .i64 0, .int .i64 0, .int .i64 0, .int .i64 0, .int .i64 0, .int .i64 0, .int .i64 0, .int .i64 0, .int .i64 0] 235))
 have HX0 : Hid (aj 0 (dE (aA [])) 235 (w2.alloc (.cells #[.int .i64 0, .int .i64 0, .int .i64 0, .int .i64 0, .int .i64 0, .int .i64 0, .int .i64 0, .int .i64 0, .int .i64 0, .int .i64 0] 235)) w2.heap.size) := aI (Nat.zero_le _)
 have hz2 := hb.size
 clear hb HL HF g0
 go_wp2_with fail
 generalize w2.alloc (.cells #[.int .i64 0, .int .i64 0, .int .i64 0, .int .i64 0, .int .i64 0, .int .i64 0, .int .i64 0, .int .i64 0, .int .i64 0, .int .i64 0] 235) = W1 at *
 generalize w2.heap.size = L at *
 go_loopw [17] (fun i wr => ∃ k : Nat, k ≤ ws.length ∧ i = .int .i64 k ∧ (∀ j (hj : j < ws.length), j < k → aA ([] ++ ws.take j) (ws[j]).aa < (ws[j]).seq) ∧ aj 0 (dE (aA (ws.take k))) 235 wr L ∧ Below w.heap.size w wr) (fun i _ => ws.length - (intOf i).toNat)
 case atStart => exact ⟨0, Nat.zero_le _, rfl, fun j _ hj => by omega, uh HX0, uh HB0⟩
 case round =>
  obtain ⟨k, hk, rfl, hz, hX, hB⟩ := hrel
  clear HX0 HB0
  by_cases hlt : k < ws.length
  ·
   obtain ⟨row, hc, hr⟩ := ad.aX (uh H) hlt
   replace hr := hr.af hB
   obtain ⟨a2, d2, rfl, R2⟩ := aQ hr
   have c0 : wr.cell? ⟨b, off + k * 5, none⟩ = some (.int .i64 (ws[k]).kind) := (hB.cell (p := ⟨b, off + k * 5, none⟩) hbl).trans (hc 0 (by decide))
   have c1 : wr.cell? ⟨b, off + k * 5 + 1, none⟩ = some (.int .i64 (ws[k]).id) := (hB.cell (p := ⟨b, off + k * 5 + 1, none⟩) hbl).trans (hc 1 (by decide))
   have c2 : wr.cell? ⟨b, off + k * 5 + 2, none⟩ = some (.slice a2 (ws[k]).vec.length d2) := (hB.cell (p := ⟨b, off + k * 5 + 2, none⟩) hbl).trans (hc 2 (by decide))
   have c3 : wr.cell? ⟨b, off + k * 5 + 3, none⟩ = some (.int .i64 (ws[k]).aa) := (hB.cell (p := ⟨b, off + k * 5 + 3, none⟩) hbl).trans (hc 3 (by decide))
   have c4 : wr.cell? ⟨b, off + k * 5 + 4, none⟩ = some (.int .i64 (ws[k]).seq) := (hB.cell (p := ⟨b, off + k * 5 + 4, none⟩) hbl).trans (hc 4 (by decide))
   have hsq := iJ (uh HA ws[k] (List.getElem_mem hlt))
   have HAT : Hid ((ws[k]).seq ≤ aA (ws.take k) (ws[k]).aa → bH [] ws = false) := fun he => eR ws [] k hlt (by simpa using he)
   have HZ2 : Hid (aA (ws.take k) (ws[k]).aa < (ws[k]).seq → ∀ j (hj : j < ws.length), j < k + 1 → aA ([] ++ ws.take j) (ws[j]).aa < (ws[j]).seq) := by
    intro h0 j hj hjk
    by_cases hjk2 : j < k
    ·
     exact hz j hj hjk2
    obtain rfl : j = k := by omega
    simpa using h0
   have HLT : Hid (aA (ws.take k) (ws[k]).aa < (ws[k]).seq → ∀ j : Int, (if j = ((ws[k]).aa.toNat : Int) then (ws[k]).seq else aA (ws.take k) j) = aA (ws.take (k + 1)) j) := by
    intro h0 j
    have h9 := iJ (uh HA ws[k] (List.getElem_mem hlt))
    rw [eW ws k hlt, show ((ws[k]).aa.toNat : Int) = (ws[k]).aa by omega]
    by_cases e : j = (ws[k]).aa
    ·
     rw [if_pos e, if_pos e.symm, e]; omega
    rw [if_neg e, if_neg (fun h => e h.symm)]
   clear hc hr hz R2
   generalize hx : ws[k] = x at *
   clear hx
   have hbr : b < wr.heap.size := Nat.lt_of_lt_of_le hbl hB.size
   have nb : Below wr.heap.size wr (wr.alloc (.cells #[.int .i64 x.kind, .int .i64 x.id, .slice a2 x.vec.length d2, .int .i64 x.aa, .int .i64 x.seq] 142)) := (Below.refl _ _).alloc (Nat.le_refl _) _
   have bI : aj 0 #[.int .i64 x.kind, .int .i64 x.id, .slice a2 x.vec.length d2, .int .i64 x.aa, .int .i64 x.seq] 142 (wr.alloc (.cells #[.int .i64 x.kind, .int .i64 x.id, .slice a2 x.vec.length d2, .int .i64 x.aa, .int .i64 x.seq] 142)) wr.heap.size := aI (Nat.zero_le _)
   have hLq := hX.lt
   have HX1 := yh (hX.ar nb)
   have HB1 := yh (hB.trans (nb.mono hB.size))
   have HBI := yh bI
   have hLw : w.heap.size ≤ L := hz2
   clear nb bI hX hB
   go_wp2_with fail
   clear c0 c1 c2 c3 c4
   generalize wr.alloc (.cells #[.int .i64 x.kind, .int .i64 x.id, .slice a2 x.vec.length d2, .int .i64 x.aa, .int .i64 x.seq] 142) = W0 at *
   obtain ⟨b1, b9, q1, q9⟩ := hsq
   have hs9 : x.aa.toNat < 10 := by omega
   have hsi : (x.aa.toNat : Int) = x.aa := by omega
   have i1 : (0 : Int) ≤ x.aa := by omega
   have i2 : x.aa < 10 := by omega
   have hXD := uh HX1
   have hID := uh HBI
   refine wZz (fun w' => w' = W0.drew) rfl (fun zq => ?_)
   refine tkH 0 zq ?_
   refine tkJ 1 (v := ?vo1) ?ho1 zq ?ro1
   case ho1 =>
    intro wS hSw
    have y3 : wS.cell? ⟨wr.heap.size, 3, none⟩ = some (.int .i64 x.aa) := by rw [hSw]; exact hID.at 3 _ rfl
    have y4 : wS.cell? ⟨wr.heap.size, 4, none⟩ = some (.int .i64 x.seq) := by rw [hSw]; exact hID.at 4 _ rfl
    have yl : wS.cell? ⟨L, x.aa.toNat, none⟩ = some (.int .i64 (aA (ws.take k) x.aa)) := by
     have := hXD.at _ _ (dp (aA (ws.take k)) x.aa.toNat hs9)
     rw [hsi] at this
     rw [hSw]; exact this
    clear hSw
    exact fZ
   refine tkH 2 zq ?_
   refine tkJ 3 (v := ?vo3) ?ho3 zq ?ro3
   case ho3 =>
    intro wS hSw
    have y3 : wS.cell? ⟨wr.heap.size, 3, none⟩ = some (.int .i64 x.aa) := by rw [hSw]; exact hID.at 3 _ rfl
    have y4 : wS.cell? ⟨wr.heap.size, 4, none⟩ = some (.int .i64 x.seq) := by rw [hSw]; exact hID.at 4 _ rfl
    have yl : wS.cell? ⟨L, x.aa.toNat, none⟩ = some (.int .i64 (aA (ws.take k) x.aa)) := by
     have := hXD.at _ _ (dp (aA (ws.take k)) x.aa.toNat hs9)
     rw [hsi] at this
     rw [hSw]; exact this
    clear hSw
    exact fZ
   refine tkH 4 zq ?_
   refine tkJ 5 (v := ?vo5) ?ho5 zq ?ro5
   case ho5 =>
    intro wS hSw
    have y3 : wS.cell? ⟨wr.heap.size, 3, none⟩ = some (.int .i64 x.aa) := by rw [hSw]; exact hID.at 3 _ rfl
    have y4 : wS.cell? ⟨wr.heap.size, 4, none⟩ = some (.int .i64 x.seq) := by rw [hSw]; exact hID.at 4 _ rfl
    have yl : wS.cell? ⟨L, x.aa.toNat, none⟩ = some (.int .i64 (aA (ws.take k) x.aa)) := by
     have := hXD.at _ _ (dp (aA (ws.take k)) x.aa.toNat hs9)
     rw [hsi] at this
     rw [hSw]; exact this
    clear hSw
    exact fZ
   refine tkH 6 zq ?_
   refine dZ ?_
   clear zq
   have HBD := yh (uh HB1).drew
   have hX2 : aj 0 (dE (aA (ws.take k))) 235 W0.drew L := uh HX1
   have hI2 : aj 0 #[.int .i64 x.kind, .int .i64 x.id, .slice a2 x.vec.length d2, .int .i64 x.aa, .int .i64 x.seq] 142 W0.drew wr.heap.size := uh HBI
   generalize W0.drew = W2 at *
   clear HX1 HBI HB1 hXD hID
   by_cases hq : x.seq ≤ aA (ws.take k) x.aa
   ·
    have hd : decide (x.seq ≤ aA (ws.take k) x.aa) = true := by simpa using hq
    have HG := yh (uh HAT hq)
    clear hq HAT HZ2 HLT hsi
    rw [hd]
    go_wp2_with fail
    go_ret
    exact ⟨by rw [uh HG]; first | done | rfl, uh HBD⟩
   ·
    have hd : decide (x.seq ≤ aA (ws.take k) x.aa) = false := by simpa using hq
    have HZ := yh (uh HZ2 (by omega))
    have HX3 : Hid (aj 0 (dE (aA (ws.take (k + 1)))) 235 (W2.setCell ⟨L, x.aa.toNat, none⟩ (.int .i64 x.seq)) L) := by
     have e := hX2.set x.aa.toNat (.int .i64 x.seq)
     rw [iy _ _ hs9, funext (uh HLT (by omega))] at e
     exact e
    have HB3 : Hid (Below w.heap.size w (W2.setCell ⟨L, x.aa.toNat, none⟩ (.int .i64 x.seq))) := (uh HBD).setCell (by simp; omega) _
    have y3 : W2.cell? ⟨wr.heap.size, 3, none⟩ = some (.int .i64 x.aa) := hI2.at 3 _ rfl
    have y4 : W2.cell? ⟨wr.heap.size, 4, none⟩ = some (.int .i64 x.seq) := hI2.at 4 _ rfl
    have yl : W2.cell? ⟨L, x.aa.toNat, none⟩ = some (.int .i64 (aA (ws.take k) x.aa)) := by
     have := hX2.at _ _ (dp (aA (ws.take k)) x.aa.toNat hs9)
     rwa [hsi] at this
    have fl := hX2.soft x.aa.toNat
    have ll := hX2.lt
    clear hq HAT HZ2 HLT hsi hX2 hI2 HBD
    rw [hd]
    go_wp2_with fail
    go_roundw
    case rel => exact ⟨k + 1, by omega, by go_num, uh HZ, uh HX3, uh HB3⟩
    case measure => simp [intOf]; omega
  obtain rfl : k = ws.length := by omega
  have HG : Hid (bH [] ws = true) := ec ws [] fun j hj => hz j hj hj
  have HB := yh hB
  clear H hz hB hX
  go_wp2_with fail
  go_ret
  exact ⟨by rw [uh HG]; first | done | rfl, uh HB⟩
theorem j9 (v : Value) (ws : List ai) (w : World) (h : (ad.sl ad.ag).Reads w [v] ws) :
  Calls Tryz.prog 258 #[v] w fun e w' => e = .returned (.bool (eE ws)) ∧ Below w.heap.size w w' := by
 obtain ⟨ao, cap, rfl⟩ := aB h
 by_cases hf : aD ws = 0
 ·
  have e1 : eE ws = bH [] ws := by simp [eE, hf]
  rw [e1]
  by_cases hp : 0 < ws.length
  ·
   obtain ⟨b, off, rfl, hbl⟩ := ad.aF h hp
   exact fy b off cap ws w h hbl hf
  obtain rfl : ws = [] := List.eq_nil_of_length_eq_zero (by omega)
  have HL := yh (gl _ [] w h)
  clear h hp e1 hf
  go_enter Tryz.func258, Tryz.ntmps258
  go_wp2_with fail
  refine (uh HL).mono ?_
  rintro e w2 ⟨r, rfl, g0, -, hb⟩
  obtain ⟨rfl, -⟩ := g0 rfl
  rw [show aD [] = 0 from rfl]
  have HB0 := yh (hb.alloc hb.size (.cells #[.int .i64 0, .int .i64 0, .int .i64 0, .int .i64 0, .int .i64 0, .int .i64 0, .int .i64 0, .int .i64 0, .int .i64 0, .int .i64 0] 235))
  clear hb HL g0
  go_wp2_with fail
  refine wp_loop_rounds 1 ?_
  rw [rounds_succ]
  go_wp2_with fail
  go_ret
  exact ⟨rfl, uh HB0⟩
 have HL := yh (gl _ ws w h)
 have HG : Hid (eE ws = false) := by show eE ws = _; simp [eE, hf]
 have hd : (aD ws != 0) = true := by simpa using hf
 clear h
 go_enter Tryz.func258, Tryz.ntmps258
 go_wp2_with fail
 refine (uh HL).mono ?_
 rintro e w2 ⟨r, rfl, -, -, hb⟩
 have HB0 := yh hb
 clear hb HL hf
 go_wp2_with fail
 go_ret
 exact ⟨by rw [uh HG]; first | done | rfl, uh HB0⟩
theorem dj (k i : Int) (v : Value) (s q : Int) (zs : List Int) (w : World) (h : bj w v zs) :
  Calls Tryz.prog 257 #[.agg #[.int .i64 k, .int .i64 i, v, .int .i64 s, .int .i64 q]] w fun e w' => e = .returned (.int .i64 (al k i zs s q)) ∧ Below w.heap.size w w' := by
 have h' := h
 obtain ⟨ao, cap, rfl, -⟩ := h'
 have B0 : Below w.heap.size w (w.alloc (.cells #[.int .i64 k, .int .i64 i, .slice ao zs.length cap, .int .i64 s, .int .i64 q] 142)) := (Below.refl _ _).alloc (Nat.le_refl _) _
 have L := yh (gY k i (.slice ao zs.length cap) s q zs _ (h.af B0))
 have HB := yh B0
 clear B0 h
 go_enter Tryz.func257, Tryz.ntmps257
 go_wp2_with fail
 refine (uh L).mono ?_
 rintro e w1 ⟨rfl, hb1⟩
 have HB1 := yh ((uh HB).trans (hb1.mono (uh HB).size))
 clear hb1 HB L
 go_wp2_with fail
 go_ret
 exact ⟨rfl, uh HB1⟩
theorem lB (v : Value) (ws : List ai) (w : World) (h : (ad.sl ad.ag).Reads w [v] ws) :
  Calls Tryz.prog 227 #[v] w fun e w' => e = .returned (.int .i64 (bn ws)) ∧ Below w.heap.size w w' := by
 obtain ⟨ao, cap, rfl⟩ := aB h
 by_cases hn0 : 40 < ws.length
 ·
  have HF : Hid (bn ws = 2) := by show bn ws = 2; rw [bn, if_pos hn0]
  have hbig := h.da
  have hd : decide ((40 : Int) < (ws.length : Int)) = true := by simp; omega
  clear h
  go_enter Tryz.func227, Tryz.ntmps227
  go_wp2_with fail
  go_ret
  exact ⟨by rw [uh HF]; rfl, Below.refl _ _⟩
 have hn : ws.length ≤ 40 := by omega
 have HW : Hid (bn ws = if bh ws ≠ 0 then bh ws else if bH [] ws = false then 6 else 0) := by show bn ws = _; rw [bn, if_neg hn0]
 have H := yh h
 clear h hn0
 go_enter Tryz.func227, Tryz.ntmps227
 go_wp2_with fail
 go_loopw [11] (fun i wr => ∃ k : Nat, k ≤ ws.length ∧ i = .int .i64 k ∧ (∀ j (hj : j < ws.length), j < k → wF ws[j] = 0) ∧ Below w.heap.size w wr) (fun i _ => ws.length - (intOf i).toNat)
 case atStart => exact ⟨0, Nat.zero_le _, rfl, fun j _ hj => by omega, Below.refl _ _⟩
 case round =>
  obtain ⟨k, hk, rfl, hz, hB⟩ := hrel
  by_cases hlt : k < ws.length
  ·
   obtain ⟨b, off, rfl, hbl⟩ := ad.aF (uh H) (by omega)
   obtain ⟨row, hc, hr⟩ := ad.aX (uh H) hlt
   replace hr := hr.af hB
   obtain ⟨a2, d2, rfl, R2⟩ := aQ hr
   have c0 : wr.cell? ⟨b, off + k * 5, none⟩ = some (.int .i64 (ws[k]).kind) := (hB.cell (p := ⟨b, off + k * 5, none⟩) hbl).trans (hc 0 (by decide))
   have c1 : wr.cell? ⟨b, off + k * 5 + 1, none⟩ = some (.int .i64 (ws[k]).id) := (hB.cell (p := ⟨b, off + k * 5 + 1, none⟩) hbl).trans (hc 1 (by decide))
   have c2 : wr.cell? ⟨b, off + k * 5 + 2, none⟩ = some (.slice a2 (ws[k]).vec.length d2) := (hB.cell (p := ⟨b, off + k * 5 + 2, none⟩) hbl).trans (hc 2 (by decide))
   have c3 : wr.cell? ⟨b, off + k * 5 + 3, none⟩ = some (.int .i64 (ws[k]).aa) := (hB.cell (p := ⟨b, off + k * 5 + 3, none⟩) hbl).trans (hc 3 (by decide))
   have c4 : wr.cell? ⟨b, off + k * 5 + 4, none⟩ = some (.int .i64 (ws[k]).seq) := (hB.cell (p := ⟨b, off + k * 5 + 4, none⟩) hbl).trans (hc 4 (by decide))
   have HZ := yh hz
   have HAT : Hid (wF ws[k] ≠ 0 → bn ws = wF ws[k]) := fun hn => by
    have e := eg ws k hlt hz hn
    rw [uh HW, e, if_pos hn]
   have HZ2 : Hid (wF ws[k] = 0 → ∀ j (hj : j < ws.length), j < k + 1 → wF ws[j] = 0) := by
    intro h0 j hj hjk
    by_cases hjk2 : j < k
    ·
     exact uh HZ j hj hjk2
    obtain rfl : j = k := by omega
    exact h0
   clear hc hr hz HZ
   generalize hx : ws[k] = x at *
   clear hx
   have hbr : b < wr.heap.size := Nat.lt_of_lt_of_le hbl hB.size
   have nb : Below wr.heap.size wr (wr.alloc (.cells #[.int .i64 x.kind, .int .i64 x.id, .slice a2 x.vec.length d2, .int .i64 x.aa, .int .i64 x.seq] 142)) := (Below.refl _ _).alloc (Nat.le_refl _) _
   have L := dj x.kind x.id (.slice a2 x.vec.length d2) x.aa x.seq x.vec _ ((ad.bq R2).af nb)
   rw [show al x.kind x.id x.vec x.aa x.seq = wF x from rfl] at L
   have HL := yh L
   have HB := yh (hB.trans (nb.mono hB.size))
   clear R2 hB nb L
   go_wp2_with fail
   clear c0 c1 c2 c3 c4
   refine (uh HL).mono ?_
   generalize hW0 : wr.alloc (.cells #[.int .i64 x.kind, .int .i64 x.id, .slice a2 x.vec.length d2, .int .i64 x.aa, .int .i64 x.seq] 142) = W0 at *
   clear hW0
   rintro e w2 ⟨rfl, hb⟩
   replace HB := bZ HB hb
   clear hb HL
   by_cases hf : wF x = 0
   ·
    have HZ3 := yh (uh HZ2 hf)
    rw [hf]
    clear hf HZ2 HAT
    go_wp2_with fail
    go_roundw
    case rel => exact ⟨k + 1, by omega, by go_num, uh HZ3, uh HB⟩
    case measure => simp [intOf]; omega
   have hd : (wF x != 0) = true := by simpa using hf
   have HE := yh (uh HAT hf)
   clear HAT HZ2 hf
   generalize wF x = c at *
   go_wp2_with fail
   go_ret
   exact ⟨by rw [uh HE]; rfl, uh HB⟩
  obtain rfl : k = ws.length := by omega
  have e0 := cz ws (fun j hj => hz j hj hj)
  have HL := yh (j9 _ ws wr ((uh H).af hB))
  have hf0 : aD ws = 0 := by rw [aD, if_neg (by omega), e0]
  have hor : eE ws = bH [] ws := by rw [eE, hf0]; simp
  rw [hor] at HL
  have HB := yh hB
  have HT : Hid (bn ws = if bH [] ws = false then 6 else 0) := by show bn ws = _; rw [uh HW, e0, if_neg (by simp)]
  clear hB hz e0 hf0 hor H HW
  cases ho : bH [] ws
  ·
   rw [ho] at HL HT
   clear ho
   go_wp2_with fail
   refine (uh HL).mono ?_
   rintro e w2 ⟨rfl, hb⟩
   have HB2 := yh ((uh HB).trans (hb.mono (uh HB).size))
   clear hb HL
   go_wp2_with fail
   go_ret
   exact ⟨by rw [uh HT]; rfl, uh HB2⟩
  rw [ho] at HL HT
  clear ho
  go_wp2_with fail
  refine (uh HL).mono ?_
  rintro e w2 ⟨rfl, hb⟩
  have HB2 := yh ((uh HB).trans (hb.mono (uh HB).size))
  clear hb HL
  go_wp2_with fail
  go_ret
  exact ⟨by rw [uh HT]; rfl, uh HB2⟩
theorem gg (cs : List Value) (x : bu) (w : World) (h : ad.aP.Reads w cs x) :
  Calls Tryz.prog 228 #[.agg cs.toArray] w fun e w' => e = .returned (.bool (bW x)) ∧ Below w.heap.size w w' := by
 obtain ⟨a4, d4, rfl, R4⟩ := a0 h
 have hbig := R4.da
 clear h R4
 have HB := yh ((Below.refl w.heap.size w).alloc (Nat.le_refl _) (.cells #[.int .i64 x.id, .bool x.up, .int .i64 x.ab, .int .i64 x.ak, .slice a4 x.writes.length d4, .int .i64 x.sure, .int .i64 x.clean] 79))
 cases d1 : (x.sure == (x.writes.length : Int))
 ·
  have HF : Hid (bW x = false) := by show bW x = false; rw [bW, d1]; rfl
  go_enter Tryz.func228, Tryz.ntmps228
  go_wp2_with fail
  go_ret
  exact ⟨by rw [uh HF]; rfl, uh HB⟩
 cases d2 : (x.clean == 0)
 ·
  have HF : Hid (bW x = false) := by show bW x = false; rw [bW, d1, d2]; rfl
  go_enter Tryz.func228, Tryz.ntmps228
  go_wp2_with fail
  go_ret
  exact ⟨by rw [uh HF]; rfl, uh HB⟩
 cases d3 : (x.ak == 0)
 ·
  have HF : Hid (bW x = false) := by show bW x = false; rw [bW, d1, d2, d3]; rfl
  go_enter Tryz.func228, Tryz.ntmps228
  go_wp2_with fail
  go_ret
  exact ⟨by rw [uh HF]; rfl, uh HB⟩
 have HF : Hid (bW x = true) := by show bW x = true; rw [bW, d1, d2, d3]; rfl
 go_enter Tryz.func228, Tryz.ntmps228
 go_wp2_with fail
 go_ret
 exact ⟨by rw [uh HF]; rfl, uh HB⟩
theorem fC (cs : List Value) (x : bu) (w : World) (h : ad.aP.Reads w cs x) :
  Calls Tryz.prog 180 #[.agg cs.toArray] w fun e w' => e = .returned (.int .i64 (aC x)) ∧ Below w.heap.size w w' := by
 have hN := h
 obtain ⟨a4, d4, rfl, R4⟩ := a0 h
 have hbig := R4.da
 have nb : Below w.heap.size w (w.alloc (.cells #[.int .i64 x.id, .bool x.up, .int .i64 x.ab, .int .i64 x.ak, .slice a4 x.writes.length d4, .int .i64 x.sure, .int .i64 x.clean] 79)) := (Below.refl _ _).alloc (Nat.le_refl _) _
 have bX : aj w.heap.size #[.int .i64 x.id, .bool x.up, .int .i64 x.ab, .int .i64 x.ak, .slice a4 x.writes.length d4, .int .i64 x.sure, .int .i64 x.clean] 79 (w.alloc (.cells #[.int .i64 x.id, .bool x.up, .int .i64 x.ab, .int .i64 x.ak, .slice a4 x.writes.length d4, .int .i64 x.sure, .int .i64 x.clean] 79)) w.heap.size := aI (Nat.le_refl _)
 have HT := yh (lB _ x.writes _ (R4.af nb))
 have HN := yh hN
 have HB := yh nb
 have HX := yh bX
 clear h hN nb bX R4
 go_enter Tryz.func180, Tryz.ntmps180
 go_wp2_with fail
 generalize w.alloc (.cells #[.int .i64 x.id, .bool x.up, .int .i64 x.ab, .int .i64 x.ak, .slice a4 x.writes.length d4, .int .i64 x.sure, .int .i64 x.clean] 79) = W0 at *
 have x1 := (uh HX).at 1 _ rfl
 have x2 := (uh HX).at 2 _ rfl
 have x3 := (uh HX).at 3 _ rfl
 have x4 := (uh HX).at 4 _ rfl
 have x5 := (uh HX).at 5 _ rfl
 have x6 := (uh HX).at 6 _ rfl
 simp only [ga, gb, gc] at x1 x2 x3 x4 x5 x6
 have xl := (uh HX).lt
 refine (bK x.id W0).mono ?_
 rintro e W1 ⟨rfl, h1⟩
 subst W1
 cases d1 : (decide (1 ≤ x.id) && decide (x.id ≤ 5))
 ·
  have HF := yh (lu d1)
  clear d1
  go_wp2_with fail
  go_ret
  exact ⟨by rw [uh HF]; rfl, uh HB⟩
 go_wp2_with fail
 refine (cx x.ab 999 W0).mono ?_
 rintro e W1 ⟨rfl, h1⟩
 subst W1
 cases d2 : (decide (0 ≤ x.ab) && decide (x.ab ≤ 999))
 ·
  have HF := yh (hZ d2)
  clear d1 d2
  go_wp2_with fail
  go_ret
  exact ⟨by rw [uh HF]; rfl, uh HB⟩
 go_wp2_with fail
 refine (cx x.ak 9999 W0).mono ?_
 rintro e W1 ⟨rfl, h1⟩
 subst W1
 cases d3 : (decide (0 ≤ x.ak) && decide (x.ak ≤ 9999))
 ·
  have HF := yh (gG d3)
  clear d1 d2 d3
  go_wp2_with fail
  go_ret
  exact ⟨by rw [uh HF]; rfl, uh HB⟩
 have HF := yh (iY d1 d2 d3)
 clear d1 d2 d3
 go_wp2_with fail
 refine (uh HT).mono ?_
 rintro e W1 ⟨rfl, hb⟩
 have bX1 := (uh HX).ar hb
 replace x1 := bX1.at 1 _ rfl
 replace x2 := bX1.at 2 _ rfl
 replace x3 := bX1.at 3 _ rfl
 replace x4 := bX1.at 4 _ rfl
 replace x5 := bX1.at 5 _ rfl
 replace x6 := bX1.at 6 _ rfl
 have x0 := bX1.at 0 _ rfl
 simp only [ga, gb, gc] at x0 x1 x2 x3 x4 x5 x6
 replace xl := bX1.lt
 have HB1 := yh ((uh HB).trans (hb.mono (uh HB).size))
 clear hb bX1 HT HX HB
 by_cases ht : bn x.writes = 0
 ·
  rw [ht]
  have HF1 := yh ((uh HF).trans (if_neg (by simpa using ht)))
  clear HF ht
  go_wp2_with fail
  refine (cx x.sure (x.writes.length : Int) W1).mono ?_
  rintro e W2 ⟨rfl, h1⟩
  subst W2
  cases d4 : (decide (0 ≤ x.sure) && decide (x.sure ≤ (x.writes.length : Int)))
  ·
   have HF2 := yh ((uh HF1).trans (if_neg (by rw [d4]; simp)))
   clear HF1 d4
   go_wp2_with fail
   go_ret
   exact ⟨by rw [uh HF2]; rfl, uh HB1⟩
  go_wp2_with fail
  refine (cx x.clean x.sure W1).mono ?_
  rintro e W2 ⟨rfl, h1⟩
  subst W2
  cases d5 : (decide (0 ≤ x.clean) && decide (x.clean ≤ x.sure))
  ·
   have HF2 := yh ((uh HF1).trans (if_neg (by rw [d5]; simp)))
   clear HF1 d4 d5
   go_wp2_with fail
   go_ret
   exact ⟨by rw [uh HF2]; rfl, uh HB1⟩
  have HF2 := yh ((uh HF1).trans (if_pos ⟨d4, d5⟩))
  clear HF1 d4 d5
  have HD := yh (gg _ x W1 ((uh HN).af (uh HB1)))
  cases hu : x.up
  ·
   rw [hu] at x1 HF2 HD
   cases hdn : bW x
   ·
    have HF3 := yh ((uh HF2).trans (if_pos ⟨rfl, hdn⟩))
    rw [hdn] at HD
    clear HF2 hdn hu
    go_wp2_with fail
    refine (uh HD).mono ?_
    rintro e W2 ⟨rfl, hb⟩
    have HB2 := yh ((uh HB1).trans (hb.mono (uh HB1).size))
    clear hb HD
    go_wp2_with fail
    go_ret
    exact ⟨by rw [uh HF3]; rfl, uh HB2⟩
   have HF3 := yh ((uh HF2).trans (if_neg (by simp [hdn])))
   rw [hdn] at HD
   clear HF2 hdn hu
   go_wp2_with fail
   refine (uh HD).mono ?_
   rintro e W2 ⟨rfl, hb⟩
   have HB2 := yh ((uh HB1).trans (hb.mono (uh HB1).size))
   clear hb HD
   go_wp2_with fail
   go_ret
   exact ⟨by rw [uh HF3]; rfl, uh HB2⟩
  rw [hu] at x1 HF2
  have HF3 := yh ((uh HF2).trans (if_neg (by simp)))
  clear HF2 hu HD
  go_wp2_with fail
  go_ret
  exact ⟨by rw [uh HF3]; rfl, uh HB1⟩
 have HF1 := yh ((uh HF).trans (if_pos (by simpa using ht)))
 have hd : (bn x.writes != 0) = true := by simpa using ht
 clear HF ht
 generalize bn x.writes = c at *
 go_wp2_with fail
 go_ret
 exact ⟨by rw [uh HF1]; rfl, uh HB1⟩
theorem jX (cs : List Value) (x : aL) (id : Int) (w : World) (h : ad.aS.Reads w cs x) :
  Calls Tryz.prog 117 #[.agg cs.toArray, .int .i64 id] w fun e w' => e = .returned (.bool (bm x id)) ∧ Below w.heap.size w w' := by
 obtain ⟨a3, d3, a4, d4, a5, d5, a6, d6, rfl, -, R4, -, -⟩ := aw h
 have hbig := R4.da
 have nb : Below w.heap.size w (w.alloc (.cells #[.int .i64 x.now, .int .i64 x.events, .int .i64 x.chain.ab, .slice a3 x.chain.ids.length d3, .slice a4 x.nodes.length d4, .slice a5 x.msgs.length d5, .slice a6 x.ae.length d6] 37)) := (Below.refl _ _).alloc (Nat.le_refl _) _
 have bX : aj 0 #[.int .i64 x.now, .int .i64 x.events, .int .i64 x.chain.ab, .slice a3 x.chain.ids.length d3, .slice a4 x.nodes.length d4, .slice a5 x.msgs.length d5, .slice a6 x.ae.length d6] 37 (w.alloc (.cells #[.int .i64 x.now, .int .i64 x.events, .int .i64 x.chain.ab, .slice a3 x.chain.ids.length d3, .slice a4 x.nodes.length d4, .slice a5 x.msgs.length d5, .slice a6 x.ae.length d6] 37)) w.heap.size := aI (Nat.zero_le _)
 have z3 := aj.at bX 3 _ rfl
 simp only [ga, gb, gc] at z3
 have HB := yh nb
 clear nb bX R4 h
 show Calls _ _ _ _ fun e w' => e = .returned (.bool (decide (1 ≤ id) && decide (id ≤ (x.nodes.length : Int)))) ∧ _
 cases d1 : decide (1 ≤ id)
 ·
  go_enter Tryz.func117, Tryz.ntmps117
  go_wp2_with fail
  go_ret
  exact ⟨rfl, uh HB⟩
 cases d2 : decide (id ≤ (x.nodes.length : Int)) <;>
 ·
  go_enter Tryz.func117, Tryz.ntmps117
  go_wp2_with fail
  go_ret
  exact ⟨rfl, uh HB⟩
theorem iO (cs : List Value) (x : ba) (id : Int) (w : World) (h : ad.aY.Reads w cs x) :
  Calls Tryz.prog 229 #[.agg cs.toArray, .int .i64 id] w fun e w' => e = .returned (.bool (decide (0 ≤ aR x.ids id))) ∧ Below w.heap.size w w' := by
 obtain ⟨a3, d3, rfl, R3⟩ := bb h
 have nb : Below w.heap.size w (w.alloc (.cells #[.int .i64 x.ab, .slice a3 x.ids.length d3] 32)) := (Below.refl _ _).alloc (Nat.le_refl _) _
 have bX : aj 0 #[.int .i64 x.ab, .slice a3 x.ids.length d3] 32 (w.alloc (.cells #[.int .i64 x.ab, .slice a3 x.ids.length d3] 32)) w.heap.size := aI (Nat.zero_le _)
 have z1 := aj.at bX 1 _ rfl
 simp only [ga, gb, gc] at z1
 have HL := yh (fU _ x.ids id _ (R3.af nb))
 have HB := yh nb
 clear nb bX R3 h
 generalize decide (0 ≤ aR x.ids id) = c at *
 go_enter Tryz.func229, Tryz.ntmps229
 go_wp2_with fail
 refine (uh HL).mono ?_
 generalize w.alloc (.cells #[.int .i64 x.ab, .slice a3 x.ids.length d3] 32) = w1 at *
 rintro e w2 ⟨rfl, h2⟩
 subst w2
 clear HL z1
 go_wp2_with fail
 go_ret
 exact ⟨rfl, uh HB⟩
theorem gX (k : Nat) (cs : List Value) (x : bu) (w : World) (h : ad.aP.Reads w cs x) (hk : k ≤ 1000) :
  Calls Tryz.prog 181 #[.int .i64 (k : Int), .agg cs.toArray] w fun e w' => e = .returned (.int .i64 (if x.id ≠ (k : Int) + 1 then 1 else 0)) ∧ Below w.heap.size w w' := by
 obtain ⟨a4, d4, rfl, R4⟩ := a0 h
 have nb : Below w.heap.size w (w.alloc (.cells #[.int .i64 x.id, .bool x.up, .int .i64 x.ab, .int .i64 x.ak, .slice a4 x.writes.length d4, .int .i64 x.sure, .int .i64 x.clean] 79)) := (Below.refl _ _).alloc (Nat.le_refl _) _
 have HB := yh nb
 clear nb R4 h
 by_cases hd : x.id = (k : Int) + 1
 ·
  rw [if_neg (by simpa using hd)]
  have hb : (x.id != (k : Int) + 1) = false := by simpa using hd
  have HD := yh hd
  clear hd
  generalize x.id = i at *
  go_enter Tryz.func181, Tryz.ntmps181
  go_wp2_with fail
  go_ret
  exact ⟨rfl, uh HB⟩
 rw [if_pos hd]
 have hb : (x.id != (k : Int) + 1) = true := by simpa using hd
 clear hd
 go_enter Tryz.func181, Tryz.ntmps181
 go_wp2_with fail
 go_ret
 exact ⟨rfl, uh HB⟩
def lr (a q b : Bool) : Int := cond a 7 (cond q (cond b 7 0) 0)
def cT (c : ba) (n : bu) : Int := if c.ab < n.ab ∨ (n.up = true ∧ 0 ≤ aR c.ids n.id ∧ n.ab ≠ c.ab) then 7 else 0
theorem gQ (us : List Value) (c : ba) (cs : List Value) (x : bu) (w : World) (hc : ad.aY.Reads w us c) (h : ad.aP.Reads w cs x) :
  Calls Tryz.prog 182 #[.agg us.toArray, .agg cs.toArray] w fun e w' => e = .returned (.int .i64 (cT c x)) ∧ Below w.heap.size w w' := by
 obtain ⟨a3, d3, rfl, -⟩ := bb hc
 obtain ⟨a4, d4, rfl, -⟩ := a0 h
 have nb1 : Below w.heap.size w (w.alloc (.cells #[.int .i64 c.ab, .slice a3 c.ids.length d3] 32)) := (Below.refl _ _).alloc (Nat.le_refl _) _
 have nb : Below w.heap.size w ((w.alloc (.cells #[.int .i64 c.ab, .slice a3 c.ids.length d3] 32)).alloc (.cells #[.int .i64 x.id, .bool x.up, .int .i64 x.ab, .int .i64 x.ak, .slice a4 x.writes.length d4, .int .i64 x.sure, .int .i64 x.clean] 79)) := nb1.alloc (by simp) _
 have bC : aj 0 #[.int .i64 c.ab, .slice a3 c.ids.length d3] 32 ((w.alloc (.cells #[.int .i64 c.ab, .slice a3 c.ids.length d3] 32)).alloc (.cells #[.int .i64 x.id, .bool x.up, .int .i64 x.ab, .int .i64 x.ak, .slice a4 x.writes.length d4, .int .i64 x.sure, .int .i64 x.clean] 79)) w.heap.size := (aI (Nat.zero_le _)).grow _
 have bX : aj 0 #[.int .i64 x.id, .bool x.up, .int .i64 x.ab, .int .i64 x.ak, .slice a4 x.writes.length d4, .int .i64 x.sure, .int .i64 x.clean] 79 ((w.alloc (.cells #[.int .i64 c.ab, .slice a3 c.ids.length d3] 32)).alloc (.cells #[.int .i64 x.id, .bool x.up, .int .i64 x.ab, .int .i64 x.ak, .slice a4 x.writes.length d4, .int .i64 x.sure, .int .i64 x.clean] 79)) (w.heap.size + 1) := aW (Nat.zero_le _) (by simp)
 have HL := yh (iO _ c x.id _ (hc.af nb))
 have HC := yh bC
 have HX := yh bX
 have HB := yh nb
 have hE : cT c x = lr (decide (c.ab < x.ab)) (x.up && decide (0 ≤ aR c.ids x.id)) (x.ab != c.ab) := by
  unfold cT lr
  by_cases e1 : c.ab < x.ab
  ·
   simp [e1]
  by_cases e2 : (x.up && decide (0 ≤ aR c.ids x.id)) = true
  ·
   simp only [Bool.and_eq_true, decide_eq_true_eq] at e2
   simp [e1, e2.1, e2.2]
  have e3 : ¬ (x.up = true ∧ 0 ≤ aR c.ids x.id ∧ x.ab ≠ c.ab) := fun q => e2 (by simp [q.1, q.2.1])
  simp only [e1, e3, e2]
  simp
 rw [hE]
 clear hE nb1 nb bC bX hc h
 generalize hu : x.up = u at *
 clear hu
 generalize decide (0 ≤ aR c.ids x.id) = q at *
 cases u
 ·
  simp only [Bool.false_and]
  have z0 := aj.at (uh HC) 0 _ rfl
  have y0 := aj.at (uh HX) 0 _ rfl
  have y1 := aj.at (uh HX) 1 _ rfl
  have y2 := aj.at (uh HX) 2 _ rfl
  simp only [ga, gb, gc] at z0 y0 y1 y2
  cases d1 : decide (c.ab < x.ab)
  ·
   go_enter Tryz.func182, Tryz.ntmps182
   go_wp2_with fail
   go_ret
   exact ⟨rfl, uh HB⟩
  go_enter Tryz.func182, Tryz.ntmps182
  go_wp2_with fail
  go_ret
  exact ⟨rfl, uh HB⟩
 simp only [Bool.true_and]
 go_enter Tryz.func182, Tryz.ntmps182
 go_upto_region 1 with fail
 generalize (w.alloc (.cells #[.int .i64 c.ab, .slice a3 c.ids.length d3] 32)).alloc (.cells #[.int .i64 x.id, .bool true, .int .i64 x.ab, .int .i64 x.ak, .slice a4 x.writes.length d4, .int .i64 x.sure, .int .i64 x.clean] 79) = w1 at *
 have z0 := aj.at (uh HC) 0 _ rfl
 have z1 := aj.at (uh HC) 1 _ rfl
 have y0 := aj.at (uh HX) 0 _ rfl
 have y1 := aj.at (uh HX) 1 _ rfl
 simp only [ga, gb, gc] at z0 z1 y0 y1
 go_wp2_with fail
 refine (uh HL).mono ?_
 rintro e w2 ⟨rfl, hb⟩
 replace HC := yh ((uh HC).ar hb)
 replace HX := yh ((uh HX).ar hb)
 replace HB := bZ HB hb
 clear hb HL z0 z1 y0 y1
 have z0 := aj.at (uh HC) 0 _ rfl
 have y2 := aj.at (uh HX) 2 _ rfl
 simp only [ga, gb, gc] at z0 y2
 cases d1 : decide (c.ab < x.ab)
 ·
  cases q
  ·
   go_wp2_with fail
   go_ret
   exact ⟨by (try rw [d1]); rfl, uh HB⟩
  ·
   cases d2 : (x.ab != c.ab)
   ·
    go_wp2_with fail
    go_ret
    exact ⟨by (try rw [d1]); (try rw [d2]); rfl, uh HB⟩
   ·
    go_wp2_with fail
    go_ret
    exact ⟨by (try rw [d1]); (try rw [d2]); rfl, uh HB⟩
 ·
  go_wp2_with fail
  go_ret
  exact ⟨by (try rw [d1]); rfl, uh HB⟩
theorem gV (c : ba) {xs : List bu} {k : Nat} (hk : k < xs.length) : bz c k (xs.drop k) = if aC xs[k] ≠ 0 then aC xs[k] else if (if xs[k].id ≠ (k : Int) + 1 then (1 : Int) else 0) ≠ 0 then (if xs[k].id ≠ (k : Int) + 1 then (1 : Int) else 0) else if cT c xs[k] ≠ 0 then cT c xs[k] else bz c (k + 1) (xs.drop (k + 1)) := by
 rw [List.drop_eq_getElem_cons hk, bz]
 by_cases h1 : aC xs[k] ≠ 0
 ·
  rw [if_pos h1, if_pos h1]
 rw [if_neg h1, if_neg h1]
 by_cases h2 : xs[k].id ≠ (k : Int) + 1
 ·
  rw [if_pos h2, if_pos h2, if_pos (show ((1 : Int) ≠ 0) by omega)]
 rw [if_neg h2, if_neg h2, if_neg (show ¬ ((0 : Int) ≠ 0) by omega)]
 by_cases h3 : c.ab < xs[k].ab ∨ (xs[k].up = true ∧ 0 ≤ aR c.ids xs[k].id ∧ xs[k].ab ≠ c.ab)
 ·
  have hE : cT c xs[k] = 7 := if_pos h3
  rw [if_pos h3, hE, if_pos (show ((7 : Int) ≠ 0) by omega)]
 have hE : cT c xs[k] = 0 := if_neg h3
 rw [if_neg h3, hE, if_neg (show ¬ ((0 : Int) ≠ 0) by omega)]
def cA (c : ba) (ns : List bu) : Int := if 1 ≤ ns.length ∧ ns.length ≤ 5 then bz c 0 ns else 2
theorem gv (us : List Value) (c : ba) (v : Value) (ns : List bu) (w : World) (hc : ad.aY.Reads w us c) (h : (ad.sl ad.aP).Reads w [v] ns) :
  Calls Tryz.prog 115 #[.agg us.toArray, v] w fun e w' => e = .returned (.int .i64 (cA c ns)) ∧ Below w.heap.size w w' := by
 obtain ⟨a3, d3, rfl, -⟩ := bb hc
 obtain ⟨ao, cap, rfl⟩ := aB h
 have hbig := h.da
 have nb : Below w.heap.size w (w.alloc (.cells #[.int .i64 c.ab, .slice a3 c.ids.length d3] 32)) := (Below.refl _ _).alloc (Nat.le_refl _) _
 have HCH : Hid (aj 0 #[.int .i64 c.ab, .slice a3 c.ids.length d3] 32 (w.alloc (.cells #[.int .i64 c.ab, .slice a3 c.ids.length d3] 32)) w.heap.size) := aI (Nat.zero_le _)
 have HB := yh nb
 have HK := yh hc
 have H := yh h
 have HP : Hid (cA c ns = if 1 ≤ ns.length ∧ ns.length ≤ 5 then bz c 0 (ns.drop 0) else 2) := rfl
 clear nb hc h
 generalize cA c ns = r at *
 go_enter Tryz.func115, Tryz.ntmps115
 go_wp2_with fail
 go_step3
 go_wp2_with fail
 generalize w.alloc (.cells #[.int .i64 c.ab, .slice a3 c.ids.length d3] 32) = w0 at *
 refine (dK (ns.length : Int) w0).mono ?_
 rintro e w1 ⟨rfl, h1⟩
 subst w1
 cases d1 : (decide (1 ≤ (ns.length : Int)) && decide ((ns.length : Int) ≤ 5))
 ·
  replace HP := yh ((uh HP).trans (if_neg (by intro q; rw [decide_eq_true (by omega), decide_eq_true (by omega)] at d1; simp at d1)))
  clear d1
  go_wp2_with fail
  first | go_ret | (rw [Exit.noGoto_ret]; go_ret)
  exact ⟨by rw [uh HP]; rfl, uh HB⟩
 have hn : 1 ≤ ns.length ∧ ns.length ≤ 5 := by simp at d1; omega
 replace HP := yh ((uh HP).trans (if_pos hn))
 have hn5 := hn.2
 clear d1 hn
 go_wp2_with fail
 go_step3
 go_wp2_with fail
 go_loopw [5, 16] (fun f i wr => ∃ k : Nat, k ≤ ns.length ∧ f = .int .i64 0 ∧ i = .int .i64 k ∧ r = bz c k (ns.drop k) ∧ Below w.heap.size w wr ∧ aj 0 #[.int .i64 c.ab, .slice a3 c.ids.length d3] 32 wr w.heap.size) (fun _ i _ => ns.length - (intOf i).toNat)
 case atStart => exact ⟨0, Nat.zero_le _, rfl, rfl, uh HP, uh HB, uh HCH⟩
 case round =>
  obtain ⟨k, hk, rfl, rfl, hF, hB, hC⟩ := hrel
  clear HP HB HCH
  by_cases hlt : k < ns.length
  ·
   obtain ⟨b, off, rfl, hbl⟩ := ad.aF (uh H) (by omega)
   obtain ⟨row, hcl, hr⟩ := ad.aX (uh H) hlt
   replace hr := hr.af hB
   rw [gV c hlt] at hF
   have hdl : decide ((k : Int) < (ns.length : Int)) = true := by simp; omega
   obtain ⟨a4, d4, rfl, -⟩ := a0 hr
   have c0 : wr.cell? ⟨b, off + k * 7, none⟩ = some (.int .i64 (ns[k]).id) := (hB.cell (p := ⟨b, off + k * 7, none⟩) hbl).trans (hcl 0 (by decide))
   have c1 : wr.cell? ⟨b, off + k * 7 + 1, none⟩ = some (.bool (ns[k]).up) := (hB.cell (p := ⟨b, off + k * 7 + 1, none⟩) hbl).trans (hcl 1 (by decide))
   have c2 : wr.cell? ⟨b, off + k * 7 + 2, none⟩ = some (.int .i64 (ns[k]).ab) := (hB.cell (p := ⟨b, off + k * 7 + 2, none⟩) hbl).trans (hcl 2 (by decide))
   have c3 : wr.cell? ⟨b, off + k * 7 + 3, none⟩ = some (.int .i64 (ns[k]).ak) := (hB.cell (p := ⟨b, off + k * 7 + 3, none⟩) hbl).trans (hcl 3 (by decide))
   have c4 : wr.cell? ⟨b, off + k * 7 + 4, none⟩ = some (.slice a4 (ns[k]).writes.length d4) := (hB.cell (p := ⟨b, off + k * 7 + 4, none⟩) hbl).trans (hcl 4 (by decide))
   have c5 : wr.cell? ⟨b, off + k * 7 + 5, none⟩ = some (.int .i64 (ns[k]).sure) := (hB.cell (p := ⟨b, off + k * 7 + 5, none⟩) hbl).trans (hcl 5 (by decide))
   have c6 : wr.cell? ⟨b, off + k * 7 + 6, none⟩ = some (.int .i64 (ns[k]).clean) := (hB.cell (p := ⟨b, off + k * 7 + 6, none⟩) hbl).trans (hcl 6 (by decide))
   have HF := yh hF
   have HR := yh hr
   have HB := yh hB
   have HC := yh hC
   clear hF hr hB hcl hC
   generalize hx : ns[k] = x at *
   clear hx
   have nb : Below wr.heap.size wr (wr.alloc (.cells #[.int .i64 x.id, .bool x.up, .int .i64 x.ab, .int .i64 x.ak, .slice a4 x.writes.length d4, .int .i64 x.sure, .int .i64 x.clean] 79)) := (Below.refl _ _).alloc (Nat.le_refl _) _
   have HX1 : Hid (aj 0 #[.int .i64 x.id, .bool x.up, .int .i64 x.ab, .int .i64 x.ak, .slice a4 x.writes.length d4, .int .i64 x.sure, .int .i64 x.clean] 79 (wr.alloc (.cells #[.int .i64 x.id, .bool x.up, .int .i64 x.ab, .int .i64 x.ak, .slice a4 x.writes.length d4, .int .i64 x.sure, .int .i64 x.clean] 79)) wr.heap.size) := aI (Nat.zero_le _)
   have HC1 := yh ((uh HC).ar nb)
   have HR1 := yh ((uh HR).af nb)
   have HK1 := yh ((uh HK).af ((uh HB).trans (nb.mono (uh HB).size)))
   have HB1 := yh ((uh HB).trans (nb.mono (uh HB).size))
   clear nb HR HC HB
   go_upto_region 7 with fail
   generalize wr.alloc (.cells #[.int .i64 x.id, .bool x.up, .int .i64 x.ab, .int .i64 x.ak, .slice a4 x.writes.length d4, .int .i64 x.sure, .int .i64 x.clean] 79) = W1 at *
   clear c0 c1 c2 c3 c4 c5 c6
   have L1 : Hid (∀ W, Below W1.heap.size W1 W → Calls Tryz.prog 180 #[.agg #[.int .i64 x.id, .bool x.up, .int .i64 x.ab, .int .i64 x.ak, .slice a4 x.writes.length d4, .int .i64 x.sure, .int .i64 x.clean]] W fun e w' => e = .returned (.int .i64 (aC x)) ∧ Below W.heap.size W w') := fun W hW => fC _ x _ ((uh HR1).af hW)
   have L2 : Hid (∀ W, Below W1.heap.size W1 W → Calls Tryz.prog 181 #[.int .i64 (k : Int), .agg #[.int .i64 x.id, .bool x.up, .int .i64 x.ab, .int .i64 x.ak, .slice a4 x.writes.length d4, .int .i64 x.sure, .int .i64 x.clean]] W fun e w' => e = .returned (.int .i64 (if x.id ≠ (k : Int) + 1 then (1 : Int) else 0)) ∧ Below W.heap.size W w') := fun W hW => gX k _ x _ ((uh HR1).af hW) (by omega)
   have L3 : Hid (∀ W, Below W1.heap.size W1 W → Calls Tryz.prog 182 #[.agg #[.int .i64 c.ab, .slice a3 c.ids.length d3], .agg #[.int .i64 x.id, .bool x.up, .int .i64 x.ab, .int .i64 x.ak, .slice a4 x.writes.length d4, .int .i64 x.sure, .int .i64 x.clean]] W fun e w' => e = .returned (.int .i64 (cT c x)) ∧ Below W.heap.size W w') := fun W hW => gQ _ c _ x _ ((uh HK1).af hW) ((uh HR1).af hW)
   generalize aC x = c1 at *
   generalize (if x.id ≠ (k : Int) + 1 then (1 : Int) else 0) = c2 at *
   generalize cT c x = c3 at *
   refine wZz (fun w' => Below W1.heap.size W1 w') ((Below.refl _ _).drew) (fun zq => ?_)
   generalize W1.drew = wD at zq ⊢
   refine tkJ 0 (v := ?vn0) ?hn0 zq ?rn0
   case hn0 =>
    intro wS hSw
    have bS := (uh HX1).ar hSw
    have q0 := aj.at bS 0 _ rfl
    have q1 := aj.at bS 1 _ rfl
    have q2 := aj.at bS 2 _ rfl
    have q3 := aj.at bS 3 _ rfl
    have q4 := aj.at bS 4 _ rfl
    have q5 := aj.at bS 5 _ rfl
    have q6 := aj.at bS 6 _ rfl
    simp only [ga, gb, gc] at q0 q1 q2 q3 q4 q5 q6
    clear bS hSw
    exact fZ
   refine tkH 2 zq ?_
   refine tkJ 3 (v := ?vn3) ?hn3 zq ?rn3
   case hn3 =>
    intro wS hSw
    have bS := (uh HX1).ar hSw
    have q0 := aj.at bS 0 _ rfl
    have q1 := aj.at bS 1 _ rfl
    have q2 := aj.at bS 2 _ rfl
    have q3 := aj.at bS 3 _ rfl
    have q4 := aj.at bS 4 _ rfl
    have q5 := aj.at bS 5 _ rfl
    have q6 := aj.at bS 6 _ rfl
    simp only [ga, gb, gc] at q0 q1 q2 q3 q4 q5 q6
    clear bS hSw
    exact fZ
   refine tkJ 5 (v := ?vn5) ?hn5 zq ?rn5
   case hn5 =>
    intro wS hSw
    have bS := (uh HC1).ar hSw
    have q0 := aj.at bS 0 _ rfl
    have q1 := aj.at bS 1 _ rfl
    simp only [ga, gb, gc] at q0 q1
    clear bS hSw
    exact fZ
   refine tkJ 6 (v := ?vn6) ?hn6 zq ?rn6
   case hn6 =>
    intro wS hSw
    have bS := (uh HX1).ar hSw
    have q0 := aj.at bS 0 _ rfl
    have q1 := aj.at bS 1 _ rfl
    have q2 := aj.at bS 2 _ rfl
    have q3 := aj.at bS 3 _ rfl
    have q4 := aj.at bS 4 _ rfl
    have q5 := aj.at bS 5 _ rfl
    have q6 := aj.at bS 6 _ rfl
    simp only [ga, gb, gc] at q0 q1 q2 q3 q4 q5 q6
    clear bS hSw
    exact fZ
   refine tkH 9 zq ?_
   refine rdH 1 (fun K hK => ?_)
   go_simp
   go_at_call 180
   refine (uh L1 _ zq).mono ?_
   rintro e u1 ⟨rfl, hb1⟩
   have hz1 := hb1.size
   try go_wp2_with fail
   refine hK.out _ _ (zq.trans (hb1.mono zq.size)) (fun zq => ?_)
   clear hK K
   try simp only [Act.put, pz, py, px]
   refine rdH 4 (fun K hK => ?_)
   go_simp
   go_at_call 181
   refine (uh L2 _ zq).mono ?_
   rintro e u2 ⟨rfl, hb2⟩
   have hz2 := hb2.size
   try go_wp2_with fail
   refine hK.out _ _ (zq.trans (hb2.mono zq.size)) (fun zq => ?_)
   clear hK K
   try simp only [Act.put, pz, py, px]
   refine rdH 7 (fun K hK => ?_)
   go_simp
   go_at_call 182
   refine (uh L3 _ zq).mono ?_
   rintro e u3 ⟨rfl, hb3⟩
   have hz3 := hb3.size
   try go_wp2_with fail
   refine hK.out _ _ (zq.trans (hb3.mono zq.size)) (fun zq => ?_)
   clear hK K
   try simp only [Act.put, pz, py, px]
   refine tkH 8 zq ?_
   refine dZ ?_
   have HB5 := yh ((uh HB1).trans (zq.mono (uh HB1).size))
   replace HCH := yh ((uh HC1).ar zq)
   clear zq HX1 HC1 HR1 HK1 hb1 hb2 hb3 hz1 hz2 hz3 HB1
   clear L1 L2 L3
   have x0 : ∀ w : World, (Instr.index 208 (.agg #[.int .i64 c1, .int .i64 c2, .int .i64 c3]) (.int .i64 0)).run Tryz.prog w = .ok (.int .i64 c1) w := fun _ => by kernel_rfl
   have x1 : ∀ w : World, (Instr.index 208 (.agg #[.int .i64 c1, .int .i64 c2, .int .i64 c3]) (.int .i64 1)).run Tryz.prog w = .ok (.int .i64 c2) w := fun _ => by kernel_rfl
   have x2 : ∀ w : World, (Instr.index 208 (.agg #[.int .i64 c1, .int .i64 c2, .int .i64 c3]) (.int .i64 2)).run Tryz.prog w = .ok (.int .i64 c3) w := fun _ => by kernel_rfl
   by_cases e1 : c1 = 0
   ·
    subst e1
    by_cases e2 : c2 = 0
    ·
     subst e2
     by_cases e3 : c3 = 0
     ·
      subst e3
      replace HF := yh ((uh HF).trans (by rw [if_neg (by decide), if_neg (by decide), if_neg (by decide)]))
      go_wp2_with fail
      refine wp_loop_rounds 5 ?_
      rw [rounds_succ]
      go_wp2_with fail
      rw [rounds_succ]
      go_wp2_with fail
      rw [rounds_succ]
      go_wp2_with fail
      rw [rounds_succ]
      go_wp2_with fail
      go_roundw
      case rel => exact ⟨k + 1, by omega, rfl, by go_num, uh HF, uh HB5, uh HCH⟩
      case measure => simp [intOf]; omega
     have hd : (c3 != 0) = true := by simpa using e3
     replace HF := yh ((uh HF).trans (by rw [if_neg (by decide), if_neg (by decide), if_pos e3]))
     clear e3
     go_wp2_with fail
     refine wp_loop_rounds 5 ?_
     rw [rounds_succ]
     go_wp2_with fail
     rw [rounds_succ]
     go_wp2_with fail
     rw [rounds_succ]
     go_wp2_with fail
     first | go_ret | (rw [Exit.noGoto_ret]; go_ret)
     exact ⟨by rw [uh HF]; rfl, uh HB5⟩
    have hd : (c2 != 0) = true := by simpa using e2
    replace HF := yh ((uh HF).trans (by rw [if_neg (by decide), if_pos e2]))
    clear e2
    go_wp2_with fail
    refine wp_loop_rounds 5 ?_
    rw [rounds_succ]
    go_wp2_with fail
    rw [rounds_succ]
    go_wp2_with fail
    first | go_ret | (rw [Exit.noGoto_ret]; go_ret)
    exact ⟨by rw [uh HF]; rfl, uh HB5⟩
   have hd : (c1 != 0) = true := by simpa using e1
   replace HF := yh ((uh HF).trans (if_pos e1))
   clear e1
   go_wp2_with fail
   refine wp_loop_rounds 5 ?_
   rw [rounds_succ]
   go_wp2_with fail
   first | go_ret | (rw [Exit.noGoto_ret]; go_ret)
   exact ⟨by rw [uh HF]; rfl, uh HB5⟩
  obtain rfl : k = ns.length := by omega
  rw [List.drop_length] at hF
  have hdl : decide ((ns.length : Int) < (ns.length : Int)) = false := by simp
  have HF := yh hF
  have HB := yh hB
  clear hF hB hC
  go_wp2_with fail
  first | go_ret | (rw [Exit.noGoto_ret]; go_ret)
  exact ⟨by rw [uh HF]; rfl, uh HB⟩
end Go.Proofs.YtecagllmonckgaaGreat
