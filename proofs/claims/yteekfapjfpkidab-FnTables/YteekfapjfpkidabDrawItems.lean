/-
  The draws of tables: l4Right, l4Bent; whatever is drawn is some list of items, of the draw's own.
  Condition: at most 1000000 numbers have been drawn before.
-/
import Derived.Test.YteekfapjfpkidabSpecSet2
import Derived.Test.YteekfapjfpkidabSource
import Derived.Test.YteekfapjfpkidabDraw3
namespace Go.Proofs.Yteekfapjfpkidab
open Go.RowKit

theorem grown_on {a b c : World} {s : Option Nat} (h : a.grownBy b s) (k : Below b.heap.size b c) : a.grownBy c s :=
  ⟨k.os.trans h.os, k.tape.trans h.tape, k.output.trans h.output, Nat.le_trans h.size k.size, fun i hi hn => (k.block i (Nat.lt_of_lt_of_le hi h.size)).trans (h.block i hi hn)⟩
theorem SrcAt.on {w w' : World} {b m : Nat} {cv : Value} (h : SrcAt w b cv m) (hb : Below w.heap.size w w') : SrcAt w' b cv m := (hb.block b h.lt).trans h
theorem IsCode.on {B : Nat} {w w' : World} {cv : Value} (h : IsCode B w cv) (hB : B ≤ w.heap.size) (hb : Below w.heap.size w w') : IsCode B w' cv := h.later (hb.mono hB)
/-- Some items of the draw's own; the source has gone on. -/
def ItemsPost (b m : Nat) (cv : Value) (w : World) (e : Ending) (w' : World) : Prop :=
  ∃ (v : Value) (rows : List (List Value)) (xs : List DItem) (bls : List (List Nat)) (m' : Nat), e = .returned v ∧ Grow Lay.tItem w' w.heap.size 60 v rows xs bls ∧ (∀ c ∈ bls.flatten, w.heap.size ≤ c) ∧ xs.length ≤ 31 ∧
    SrcAt w' b cv m' ∧ m' ≤ m + 400 ∧ IsCode b w' cv ∧ w.grownBy w' (some b)

set_option maxRecDepth 10000 in
set_option maxHeartbeats 1000000 in
theorem drawRight (b m : Nat) (cv : Value) (w : World) (hs : SrcAt w b cv m) (hc : IsCode b w cv) (hm : m ≤ 1000000) :
    Calls Try.prog 107 #[.pointer (some ⟨b, 0, none⟩)] w fun e w' => ∃ (v : Value) (rows : List (List Value)) (xs : List DItem) (bls : List (List Nat)) (m' : Nat), e = .returned v ∧ Grow Lay.tItem w' w.heap.size 60 v rows xs bls ∧ (∀ c ∈ bls.flatten, w.heap.size ≤ c) ∧ xs.length ≤ 11 ∧
      SrcAt w' b cv m' ∧ m' ≤ m + 200 ∧ IsCode b w' cv ∧ w.grownBy w' (some b) := by
  have hbw := hs.lt
  have nb : Below w.heap.size w (w.alloc (.cells #[] 60)) := (Below.refl w.heap.size w).alloc (Nat.le_refl _) (.cells #[] 60)
  have G0 : Grow Lay.tItem (w.alloc (.cells #[] 60)) w.heap.size 60 (.slice (some ⟨w.heap.size, 0, none⟩) 0 0) [] [] [] := Grow.nil (World.ownsRow_lit w #[] 0 (Nat.le_refl _) (Nat.zero_le _) rfl)
  have L := next b m cv 12 (w.alloc (.cells #[] 60)) (hs.on nb) (hc.on (Nat.le_of_lt hbw) nb) (by omega) (by omega) (by omega)
  have HL := hide L
  have HG := hide G0
  have HN := hide nb
  clear L G0 nb hs hc
  go_enter Try.func107, Try.ntmps107
  go_wp2_with fail
  refine (unhide HL).mono ?_
  rintro e w1 ⟨r, rfl, hr, s1, c1, g1⟩
  have hr2 : r ≤ 11 := by omega
  have HG1 := hide ((unhide HG).grown g1 hbw (by simp))
  have HS1 := hide s1
  have HC1 := hide c1
  have HGR1 : Hid (w.grownBy w1 (some b)) := ⟨g1.os.trans (unhide HN).os, g1.tape.trans (unhide HN).tape, g1.output.trans (unhide HN).output, Nat.le_trans (unhide HN).size g1.size, fun i hi hn => (g1.block i (Nat.lt_of_lt_of_le hi (unhide HN).size) hn).trans ((unhide HN).block i hi)⟩
  clear s1 c1 g1 HL HG HN hr
  go_wp2_with fail
  go_loopw [3, 4] (fun v kk wr => ∃ (j : Nat) (rows : List (List Value)) (xs : List DItem) (bls : List (List Nat)) (m' : Nat), j ≤ 11 ∧ kk = .int .i64 j ∧ Grow Lay.tItem wr w.heap.size 60 v rows xs bls ∧ (∀ c ∈ bls.flatten, w.heap.size ≤ c) ∧ Rising xs ∧ (∀ x ∈ xs, x.vec.length = 3) ∧ xs.length + j ≤ 11 ∧
      SrcAt wr b cv m' ∧ m' + 10 * j ≤ m + 111 ∧ IsCode b wr cv ∧ w.grownBy wr (some b)) (fun _ kk _ => (intOf kk).toNat)
  case atStart => exact ⟨r, [], [], [], m + 1, hr2, rfl, unhide HG1, by simp, List.Pairwise.nil, by simp, by simp; exact hr2, unhide HS1, by omega, unhide HC1, unhide HGR1⟩
  case round =>
    obtain ⟨j, rows, xs, bls, m', hj, rfl, hG, hsf, hris, hv3, hlen, hS, hm', hC, hgr⟩ := hrel
    clear HG1 HS1 HC1 HGR1
    by_cases hlt : 0 < j
    · have L := next b m' cv 14 wr hS hC (by omega) (by omega) (by omega)
      have HL := hide L
      have HG := hide hG
      have HSF := hide hsf
      have HRI := hide hris
      have HV3 := hide hv3
      have HGR := hide hgr
      clear L hG hsf hris hv3 hS hC hgr
      go_wp2_with fail
      refine (unhide HL).mono ?_
      rintro e w2 ⟨r2, rfl, hr2', s2, c2, g2⟩
      have hz2 := g2.size
      have HG2 := hide ((unhide HG).grown g2 hbw (unhide HSF))
      have HGR2 : Hid (w.grownBy w2 (some b)) := grown_trans (unhide HGR) g2
      have L := draw b (m' + 1) cv w2 s2 c2 (by omega)
      have HL2 := hide L
      have hr3 : (r2 : Int) ≤ 13 := by omega
      clear L s2 c2 g2 HL HG HGR hr2'
      go_wp2_with fail
      refine (unhide HL2).mono ?_
      rintro e w3 ⟨vd, ds, rfl, hd3, hdr, hod, s3, c3, g3⟩
      have hz3 := g3.size
      have hG3 := (unhide HG2).grown g3 hbw (unhide HSF)
      have hGR3 : w.grownBy w3 (some b) := grown_trans (unhide HGR2) g3
      have hR := hG3.toReads (by omega)
      have hdw : ∀ z ∈ ds, (Lit.int .i64 z).wf = true := fun z hz => wf_of_bd (by have := hdr z hz; omega)
      rw [← hd3] at hod
      have hvd := (Lay.ownInts hdw (by omega) hod).reads
      have L := specSetG u3 xs (1 + (r2 : Int)) ds vd true w3 hR hvd (wf_of_bd (by omega)) (by omega) (fun x hx => by have := unhide HV3 x hx; omega) (by omega)
      rw [setM_put (unhide HRI)] at L
      have HL3 := hide L
      have HS3 := hide s3
      have HC3 := hide c3
      have HG3 := hide hG3
      have HGR3 := hide hGR3
      have hwz : w.heap.size ≤ w3.heap.size := hGR3.size
      have HRI2 := hide (putI_rising (unhide HRI) (1 + (r2 : Int)) ds)
      have HV2 : Hid (∀ x ∈ putI xs (1 + (r2 : Int)) ds, x.vec.length = 3) := by
        intro x hx
        rcases mem_putI.1 hx with rfl | ⟨hx, -⟩
        · exact hd3
        · exact unhide HV3 x hx
      have HLN : Hid ((putI xs (1 + (r2 : Int)) ds).length ≤ xs.length + 1) := by
        show (putI xs (1 + (r2 : Int)) ds).length ≤ xs.length + 1
        rw [putI_len (unhide HRI)]
        split <;> omega
      clear L hG3 hGR3 hR hvd hod hdw hdr s3 c3 g3 HL2 HG2 HGR2
      go_wp2_with fail
      refine (unhide HL3).mono ?_
      rintro e w4 ⟨v4, rfl, ⟨rows4, bls4, hG4, hs4⟩, hb4⟩
      have HG4 := hide (hG4.lower hwz)
      have HSF4 : Hid (∀ c ∈ bls4.flatten, w.heap.size ≤ c) := fun c hc => Nat.le_trans hwz (hs4 c hc)
      have HS4 := hide ((unhide HS3).on hb4)
      have HC4 := hide ((unhide HC3).on (by omega) hb4)
      have HGR4 := hide (grown_on (unhide HGR3) hb4)
      clear hG4 hs4 hb4 HL3 HS3 HC3 HG3 HGR3
      go_wp2_with fail
      go_roundw
      case rel => exact ⟨j - 1, rows4, putI xs (1 + (r2 : Int)) ds, bls4, m' + 1 + 9, by omega, by go_num, unhide HG4, unhide HSF4, unhide HRI2, unhide HV2, by have := unhide HLN; omega, unhide HS4, by omega, unhide HC4, unhide HGR4⟩
      case measure => simp [intOf]; omega
    · have HG := hide hG
      have HSF := hide hsf
      have HS := hide hS
      have HC := hide hC
      have HGR := hide hgr
      clear hG hsf hS hC hgr hris hv3
      have hd : decide ((0 : Int) < (j : Int)) = false := by simp; omega
      go_wp2_with fail
      go_ret
      exact ⟨_, rows, xs, bls, m', rfl, unhide HG, unhide HSF, by omega, unhide HS, by omega, unhide HC, unhide HGR⟩

end Go.Proofs.Yteekfapjfpkidab
