/-
  The model's UnpackWrite: the write whose words a list is; nothing old is written.
  No condition.
-/
import Derived.Test.YtgjjmbliahhhjaaSpecUnpackPutOk
import Derived.Test.YtgjjmbliahhhjaaSpecUnpackPutBad
import Derived.Test.YtgjjmbliahhhjaaSpecUnpackOtherOk
import Derived.Test.YtgjjmbliahhhjaaSpecUnpackOtherBad
namespace Go.Proofs.Ytgjjmbliahhhjaa
open Go.RowKit

set_option maxHeartbeats 400000 in
theorem l3Unpack_len (ao : Option Addr) (n cap : Nat) (w : World) (h : n ≠ 8) :
    Calls Try.prog 38 #[.slice ao n cap] w fun e w' => ToldU w w' e zeroW false := by
  have hd : ((n : Int) != 8) = true := by rw [bne_iff_ne]; omega
  have HB : Hid (∀ o, Below w.heap.size w (w.alloc o)) := fun o => (Below.refl _ _).alloc (Nat.le_refl _) o
  go_enter Try.func38, Try.ntmps38
  go_wp2
  refine bodyPost_ret (v := .tuple #[.agg #[.int .i64 0, .int .i64 0, .slice none 0 0, .int .i64 0, .int .i64 0], .bool false]) (by simp [results, Try.results38, go_sem]) rfl ?_
  exact ⟨[.int .i64 0, .int .i64 0, .slice none 0 0, .int .i64 0, .int .i64 0], rfl, readsW (x := zeroW) ⟨[], Lay.lies_ints.2 ⟨none, 0, rfl, ⟨by simp [zeroW], by simp [zeroW]⟩, by simp [zeroW], Or.inl ⟨rfl, rfl⟩⟩, by simp⟩ rfl rfl rfl rfl, unhide HB _⟩

/-- The model's l3Unpack. -/
theorem l3Unpack (v : Value) (zs : List Int) (w : World) (h : (Lay.sl Lay.int).Reads w [v] zs) :
    Calls Try.prog 38 #[v] w fun e w' => ∃ x ok, ToldU w w' e x ok ∧ unpackR zs = if ok then ⟨0, x⟩ else ⟨5, zeroW⟩ := by
  have hi := Lay.ints_reads h
  have hi' := hi
  obtain ⟨ao, cap, rfl, -, hc⟩ := hi'
  by_cases hl : zs.length = 8
  · obtain ⟨k, i, s, q, x, y, z, c, rfl⟩ := eight hl
    obtain ⟨b, off, rfl, -⟩ := hc (by simp)
    have hcap := h.cap.2
    by_cases hk : k = 1
    · subst hk
      have hp : packD (unpackW [1, i, s, q, x, y, z, c]) = packList 1 i [x, y, z] s q := by simp [packD, unpackW]
      by_cases hf : writeFault 1 i [x, y, z] s q = 0
      · refine (l3Unpack_put_ok b off cap i s q x y z c w hi hcap hf).mono fun e w' ht => ⟨_, _, ht, ?_⟩
        rw [unpackR, hp, packList, if_pos hf]
        simp
      · refine (l3Unpack_put_bad b off cap i s q x y z c w hi hcap hf).mono fun e w' ht => ⟨_, _, ht, ?_⟩
        rw [unpackR, hp, packList, if_neg hf]
        simp
    · have hp : packD (unpackW [k, i, s, q, x, y, z, c]) = packList k i [] s q := by simp [packD, unpackW, hk]
      by_cases hf : writeFault k i [] s q = 0
      · refine (l3Unpack_other_ok b off cap k i s q x y z c w hi hk hf).mono fun e w' ht => ⟨_, _, ht, ?_⟩
        rw [unpackR, hp, packList, if_pos hf]
        simp
      · refine (l3Unpack_other_bad b off cap k i s q x y z c w hi hk hf).mono fun e w' ht => ⟨_, _, ht, ?_⟩
        rw [unpackR, hp, packList, if_neg hf]
        simp
  · refine (l3Unpack_len ao _ cap w hl).mono fun e w' ht => ⟨_, _, ht, ?_⟩
    rw [unpackR_len hl]
    simp

/-- The answer stored into the result's own block. -/
theorem storeU {w w1 : World} {x : DWrite} {cs vs : List Value} {lo hi : Nat} {o : Obj} (h : Lay.tWrite.LiesIn w1 cs x lo hi) (hlo : w.heap.size < lo) (hs : w.heap.size < w1.heap.size) (hb : Below w.heap.size w w1) :
    ∃ cs', Ending.returned (.agg (.int .i64 0 :: cs).toArray) = .returned (.agg cs'.toArray) ∧ Lay.tWriteResult.Reads ((setAll w1 w.heap.size 0 vs).alloc o) cs' ⟨0, x⟩ ∧ Below w.heap.size w ((setAll w1 w.heap.size 0 vs).alloc o) := by
  have h2 := h.ext (ext_setAll (fun q => q = w.heap.size) (Ext.refl _ w1) w.heap.size 0 vs rfl) (fun q h1 h2 h3 => by omega)
  have nb : Below (setAll w1 w.heap.size 0 vs).heap.size (setAll w1 w.heap.size 0 vs) ((setAll w1 w.heap.size 0 vs).alloc o) := (Below.refl _ _).alloc (Nat.le_refl _) _
  obtain ⟨bl, hl, -⟩ := h2.later nb
  exact ⟨_, rfl, ⟨bl, [.int .i64 0], cs, [], bl, rfl, rfl, ⟨rfl, rfl, rfl⟩, hl⟩, (below_setAll hb _ _ _ (Nat.le_refl _)).trans (nb.mono (by rw [size_setAll]; omega))⟩

set_option maxRecDepth 10000 in
set_option maxHeartbeats 1000000 in
/-- The model's UnpackWrite. -/
theorem specUnpack (v : Value) (zs : List Int) (w : World) (h : (Lay.sl Lay.int).Reads w [v] zs) :
    Calls Try.prog 18 #[v] w fun e w' => ∃ cs, e = .returned (.agg cs.toArray) ∧ Lay.tWriteResult.Reads w' cs (unpackR zs) ∧ Below w.heap.size w w' := by
  have nb : Below w.heap.size w (w.alloc (.cells #[.int .i64 0, .int .i64 0, .int .i64 0, .slice none 0 0, .int .i64 0, .int .i64 0] 38)) := (Below.refl _ _).alloc (Nat.le_refl _) _
  have bR : Box 0 #[.int .i64 0, .int .i64 0, .int .i64 0, .slice none 0 0, .int .i64 0, .int .i64 0] 38 (w.alloc (.cells #[.int .i64 0, .int .i64 0, .int .i64 0, .slice none 0 0, .int .i64 0, .int .i64 0] 38)) w.heap.size := newBox (Nat.zero_le _)
  have L := hide (l3Unpack v zs _ (h.later nb))
  have hv : ∃ ao cap, v = .slice ao zs.length cap := by obtain ⟨bl, ao, cap, e, -⟩ := h; exact ⟨ao, cap, by simpa using e⟩
  obtain ⟨ao, cap, rfl⟩ := hv
  clear h
  go_enter Try.func18, Try.ntmps18
  go_wp2_with fail
  generalize w.alloc (.cells #[.int .i64 0, .int .i64 0, .int .i64 0, .slice none 0 0, .int .i64 0, .int .i64 0] 38) = W0 at *
  refine (unhide L).mono ?_
  rintro e w1 ⟨x, ok, ⟨cs, rfl, R, hb⟩, hu⟩
  have HU := hide hu
  have hR := bR.lt
  replace bR := bR.keep hb
  have HB := hide (nb.trans (hb.mono nb.size))
  have hz := hb.size
  obtain ⟨a2, d2, rfl, -⟩ := open_Write R.reads
  have HL := hide R
  clear hb nb L hu R
  have r0 := bR.at 0 _ rfl
  have r1 := bR.at 1 _ rfl
  have r2 := bR.at 2 _ rfl
  have r3 := bR.at 3 _ rfl
  have r4 := bR.at 4 _ rfl
  have r5 := bR.at 5 _ rfl
  have rf := bR.soft
  have hR1 := bR.lt
  clear bR
  simp only [List.getElem_toArray, List.getElem_cons_zero, List.getElem_cons_succ] at r0 r1 r2 r3 r4 r5
  cases ok with
  | true =>
    go_wp2_with fail
    refine bodyPost_ret (v := .agg #[.int .i64 0, .int .i64 x.kind, .int .i64 x.id, .slice a2 x.vec.length d2, .int .i64 x.session, .int .i64 x.seq]) (by simp [results, Try.results18, go_sem, r0, r1, r2, r3, r4, r5, hR1]) rfl ?_
    rw [unhide HU, if_pos trivial]
    exact storeU (vs := [.int .i64 0, .int .i64 x.kind, .int .i64 x.id, .slice a2 x.vec.length d2, .int .i64 x.session, .int .i64 x.seq]) (unhide HL) hR hR1 (unhide HB)
  | false =>
    go_wp2_with fail
    refine bodyPost_ret (v := .agg #[.int .i64 5, .int .i64 0, .int .i64 0, .slice none 0 0, .int .i64 0, .int .i64 0]) (by simp [results, Try.results18, go_sem, r0, r1, r2, r3, r4, r5, hR1]) rfl ?_
    rw [unhide HU, if_neg (by simp)]
    exact ⟨[.int .i64 5, .int .i64 0, .int .i64 0, .slice none 0 0, .int .i64 0, .int .i64 0], rfl, (own_badW rfl (lo := 0) (hi := 0)).reads, (below_setAll (unhide HB) w.heap.size 0 [.int .i64 5, .int .i64 0, .int .i64 0, .slice none 0 0, .int .i64 0, .int .i64 0] (Nat.le_refl _)).alloc (by rw [size_setAll]; omega) _⟩

end Go.Proofs.Ytgjjmbliahhhjaa
