/-
  The draws of lists of writes: l4DrawWrites, DrawTableOf: some writes of the draw's own.
  Condition: at most 1000000 numbers have been drawn before.
-/
import Derived.Test.YteekfapjfpkidabDrawWrB
import Derived.Test.YteekfapjfpkidabAppWrite
namespace Go.Proofs.Yteekfapjfpkidab
open Go.RowKit

theorem grown_low {a b c : World} {s : Option Nat} (h : a.grownBy b s) (k : Below a.heap.size b c) : a.grownBy c s :=
  ⟨k.os.trans h.os, k.tape.trans h.tape, k.output.trans h.output, Nat.le_trans h.size k.size, fun i hi hn => (k.block i hi).trans (h.block i hi hn)⟩
theorem flat_snoc {bls : List (List Nat)} {bl : List Nat} {P : Nat → Prop} (h : ∀ c ∈ bls.flatten, P c) (h2 : ∀ c ∈ bl, P c) : ∀ c ∈ (bls ++ [bl]).flatten, P c := by
  intro c hc
  rw [List.flatten_append] at hc
  rcases List.mem_append.1 hc with hc | hc
  · exact h c hc
  · exact h2 c (by simpa using hc)

set_option maxRecDepth 10000 in
set_option maxHeartbeats 1000000 in
theorem drawWrites (b m n : Nat) (cv : Value) (w : World) (hs : SrcAt w b cv m) (hc : IsCode b w cv) (hm : m ≤ 100000) (hn0 : 0 < n) (hn : n ≤ 100) :
    Calls Try.prog 90 #[.pointer (some ⟨b, 0, none⟩), .int .i64 n] w fun e w' => ∃ (v : Value) (rows : List (List Value)) (xs : List DWrite) (bls : List (List Nat)) (m' : Nat), e = .returned v ∧ Grow Lay.tWrite w' w.heap.size 33 v rows xs bls ∧ (∀ c ∈ bls.flatten, w.heap.size ≤ c) ∧ xs.length ≤ n ∧
      SrcAt w' b cv m' ∧ m' ≤ m + 1 + 100 * n ∧ IsCode b w' cv ∧ w.grownBy w' (some b) := by
  have hbw := hs.lt
  have nb : Below w.heap.size w (w.alloc (.cells #[] 33)) := (Below.refl w.heap.size w).alloc (Nat.le_refl _) (.cells #[] 33)
  have G0 : Grow Lay.tWrite (w.alloc (.cells #[] 33)) w.heap.size 33 (.slice (some ⟨w.heap.size, 0, none⟩) 0 0) [] [] [] := Grow.nil (World.ownsRow_lit w #[] 0 (Nat.le_refl _) (Nat.zero_le _) rfl)
  have L := next b m cv n (w.alloc (.cells #[] 33)) (hs.onW nb) (hc.onW (Nat.le_of_lt hbw) nb) (by omega) (by omega) (by omega)
  have HL := hide L
  have HG := hide G0
  have HN := hide nb
  clear L G0 nb hs hc
  go_enter Try.func90, Try.ntmps90
  go_wp2_with fail
  refine (unhide HL).mono ?_
  rintro e w1 ⟨r, rfl, hr, s1, c1, g1⟩
  have hr2 : r ≤ n := by omega
  have HG1 := hide ((unhide HG).grown g1 hbw (by simp))
  have HS1 := hide s1
  have HC1 := hide c1
  have HGR1 : Hid (w.grownBy w1 (some b)) := ⟨g1.os.trans (unhide HN).os, g1.tape.trans (unhide HN).tape, g1.output.trans (unhide HN).output, Nat.le_trans (unhide HN).size g1.size, fun i hi hn => (g1.block i (Nat.lt_of_lt_of_le hi (unhide HN).size) hn).trans ((unhide HN).block i hi)⟩
  clear s1 c1 g1 HL HG HN hr
  go_wp2_with fail
  go_loopw [5, 6] (fun v kk wr => ∃ (j : Nat) (rows : List (List Value)) (xs : List DWrite) (bls : List (List Nat)) (m' : Nat), j ≤ n ∧ kk = .int .i64 j ∧ Grow Lay.tWrite wr w.heap.size 33 v rows xs bls ∧ (∀ c ∈ bls.flatten, w.heap.size ≤ c) ∧ xs.length + j ≤ n ∧
      SrcAt wr b cv m' ∧ m' + 100 * j ≤ m + 1 + 100 * n ∧ IsCode b wr cv ∧ w.grownBy wr (some b)) (fun _ kk _ => (intOf kk).toNat)
  case atStart => exact ⟨r, [], [], [], m + 1, hr2, rfl, unhide HG1, by simp, by simp; exact hr2, unhide HS1, by omega, unhide HC1, unhide HGR1⟩
  case round =>
    obtain ⟨j, rows, xs, bls, m', hj, rfl, hG, hsf, hlen, hS, hm', hC, hgr⟩ := hrel
    clear HG1 HS1 HC1 HGR1
    by_cases hlt : 0 < j
    · have HL := hide (drawWrite b m' cv wr hS hC (by omega))
      have HG := hide hG
      have HSF := hide hsf
      have HGR := hide hgr
      have d1 : decide ((0 : Int) < (j : Int)) = true := by simp; omega
      have hwr := hgr.size
      clear hG hsf hS hC hgr
      go_wp2_with fail
      refine (unhide HL).mono ?_
      rintro e w3 ⟨cs, x, bl, m3, rfl, hl, hbl, s3, hm3, c3, g3⟩
      have hG := (unhide HG).grown g3 hbw (unhide HSF)
      have hoff : ∀ c ∈ bl, u5.ownBlock ≠ some c := fun c hc e => by
        have h1 := hbl c hc
        have h2 := ((unhide HG).own.lt c e).2
        omega
      have HSF2 : Hid (∀ c ∈ (bls ++ [bl]).flatten, w.heap.size ≤ c) := flat_snoc (unhide HSF) (fun c hc => Nat.le_trans hwr (hbl c hc).1)
      have HS := hide s3
      have HC := hide c3
      have HGR3 := hide (grown_trans (unhide HGR) g3)
      have HZ : Hid (w.heap.size ≤ w3.heap.size) := Nat.le_trans hwr g3.size
      obtain ⟨a2, d2, bv, rfl, rfl, -, -, -, -, -⟩ := lies_Write.1 hl
      clear s3 c3 g3 HL HG HSF HGR hbl
      go_wp2_with (at_builtin; refine wpList_append_Write hG hl hoff rfl _ _ rfl rfl rfl (by omega) (unhide HZ) ?_)
      intro g cap w5 hG5 hb5 hE5 hg5 hz5 hor5
      have HG5 := hide hG5
      have HS5 : Hid (SrcAt w5 b cv m3) := (hb5.block b hbw).trans (unhide HS)
      have HC5 := hide ((unhide HC).later (hb5.mono (Nat.le_of_lt hbw)))
      have HGR5 := hide (grown_low (unhide HGR3) hb5)
      clear hG hl hoff hG5 hb5 hE5 hg5 hz5 hor5 HS HC HGR3
      go_wp2_with fail
      go_roundw
      case rel => exact ⟨j - 1, _, _, _, m3, by omega, by go_num, unhide HG5, unhide HSF2, by simp; omega, unhide HS5, by omega, unhide HC5, unhide HGR5⟩
      case measure => simp [intOf]; omega
    · obtain rfl : j = 0 := by omega
      have HG := hide hG
      have HSF := hide hsf
      have HGR := hide hgr
      have HS := hide hS
      have HC := hide hC
      clear hG hsf hS hC hgr
      go_wp2_with fail
      go_ret
      exact ⟨u5, rows, xs, bls, m', rfl, unhide HG, unhide HSF, by omega, unhide HS, by omega, unhide HC, unhide HGR⟩

end Go.Proofs.Yteekfapjfpkidab
