/-
  Texts of this proof in one: SpecPW, CutJoin, ReadText, Scope5, ReadV, ImplNum, ReadNPlain, ReadIPlain, ImplDeed, ImplWOf, ImplVerb, ImplRDeed, ImplWrF, ImplReadW.
  Their conditions stand in their theorems.
-/
import Derived.Test.YtjofcmdlcoganaaGreatDoorWq03
import Derived.Test.YtjofcmdlcoganaaGreatDoorWq02
import Derived.Scope
import Derived.WalkKit
import Derived.Test.YtjofcmdlcoganaaGreatDoorChecked
import Derived.Test.YtjofcmdlcoganaaGreatDoorWq01
import Derived.WalkMore
import Derived.Outline
import Derived.Deep.RegionHeld3

namespace Go.Proofs.YtjofcmdlcoganaaGreatDoor
open Go.RowKit

/-- The write whose text this is, as the model reads it. -/
def parseM (l : Bytes) : DWriteResult := match readM (cutS [] l) with
  | none => ⟨5, zeroW⟩
  | some x => if writeText x.kind x.id x.vec x.session x.seq = l then ⟨0, x⟩ else ⟨5, zeroW⟩

theorem tail_fault {k : Int} {zs : List Int} {a b c : Bytes} (h : tailOk k zs a b c = true) : writeFault (tailW k zs a b c).kind (tailW k zs a b c).id (tailW k zs a b c).vec (tailW k zs a b c).session (tailW k zs a b c).seq = 0 := by
  unfold tailOk at h
  simp only [Bool.and_eq_true, beq_iff_eq] at h
  exact h.2
theorem readM_fault {l : List Bytes} {x : DWrite} (h : readM l = some x) : writeFault x.kind x.id x.vec x.session x.seq = 0 := by
  unfold readM at h
  split at h
  · unfold readPut at h
    split at h
    · split at h
      · cases h
      · split at h
        · next ht => cases h; exact tail_fault ht
        · cases h
    · cases h
  · unfold readDrop at h
    split at h
    · split at h
      · next ht => cases h; exact tail_fault ht
      · cases h
    · cases h
  · cases h

/-- The answer stored into the result's own block. -/
theorem storeW {w w1 : World} {x : DWrite} {cs vs : List Value} {lo hi : Nat} (h : Lay.tWrite.LiesIn w1 cs x lo hi) (hlo : w.heap.size < lo) (hb : Below w.heap.size w w1) :
    ∃ cs', Ending.returned (.agg (.int .i64 0 :: cs).toArray) = .returned (.agg cs'.toArray) ∧ Lay.tWriteResult.Reads (setAll w1 w.heap.size 0 vs) cs' ⟨0, x⟩ ∧ Below w.heap.size w (setAll w1 w.heap.size 0 vs) := by
  have h2 := h.ext (ext_setAll (fun q => q = w.heap.size) (Ext.refl _ w1) w.heap.size 0 vs rfl) (fun q h1 h2 h3 => by omega)
  obtain ⟨bl, hl, -⟩ := h2
  exact ⟨_, rfl, ⟨bl, [.int .i64 0], cs, [], bl, rfl, rfl, ⟨rfl, rfl, rfl⟩, hl⟩, below_setAll hb _ _ _ (Nat.le_refl _)⟩

set_option maxRecDepth 10000 in
set_option maxHeartbeats 1000000 in
/-- The model's ParseWrite. -/
theorem specPW (s : ByteArray) (w : World) (hs : s.size ≤ 1048576) :
    Calls Tryz.prog 8 #[.string s] w fun e w' => ∃ cs, e = .returned (.agg cs.toArray) ∧ Lay.tWriteResult.Reads w' cs (parseM s.data.toList) ∧ Below w.heap.size w w' := by
  have nb : Below w.heap.size w (w.alloc (.cells #[.int .i64 0, .int .i64 0, .int .i64 0, .slice none 0 0, .int .i64 0, .int .i64 0] 29)) := (Below.refl _ _).alloc (Nat.le_refl _) _
  have bR : Box 0 #[.int .i64 0, .int .i64 0, .int .i64 0, .slice none 0 0, .int .i64 0, .int .i64 0] 29 (w.alloc (.cells #[.int .i64 0, .int .i64 0, .int .i64 0, .slice none 0 0, .int .i64 0, .int .i64 0] 29)) w.heap.size := newBox (Nat.zero_le _)
  have LC := hide (fun W => cutSpC s W hs)
  go_enter Tryz.func8, Tryz.ntmps8
  go_wp2_with fail
  generalize w.alloc (.cells #[.int .i64 0, .int .i64 0, .int .i64 0, .slice none 0 0, .int .i64 0, .int .i64 0] 29) = W0 at *
  refine (unhide LC _).mono ?_
  rintro e w1 ⟨v, bs, rfl, hown, hcut, -, hz, hb⟩
  have hR := bR.lt
  replace bR := bR.keep hb
  have HB := hide (nb.trans (hb.mono nb.size))
  have LR := hide (l3ReadC v bs _ w1 hown hz)
  rw [hcut] at LR
  have hz1 := hb.size
  clear hb nb LC hown hcut hz
  have HR := hide bR
  clear bR
  go_wp2_with fail
  refine (unhide LR).mono ?_
  rintro e w2 ⟨x, ok, ⟨cs, rfl, R, hb⟩, hu⟩
  have HU := hide hu
  have bR := (unhide HR).keep hb
  replace HB := hide ((unhide HB).trans (hb.mono (unhide HB).size))
  have hz2 := hb.size
  obtain ⟨a2, d2, rfl, hv⟩ := open_Write R.reads
  have HL := hide R
  have HV := hide (Lay.ints_reads hv)
  clear hb LR hu R HR hv
  cases ok with
  | false =>
    have HP : Hid (parseM s.data.toList = ⟨5, zeroW⟩) := by
      show parseM s.data.toList = ⟨5, zeroW⟩
      rw [parseM, unhide HU]
      simp
    have nb : Below w2.heap.size w2 (w2.alloc (.cells #[.int .i64 x.kind, .int .i64 x.id, .slice a2 x.vec.length d2, .int .i64 x.session, .int .i64 x.seq] 27)) := (Below.refl _ _).alloc (Nat.le_refl _) _
    replace bR := bR.keep nb
    replace HB := hide ((unhide HB).trans (nb.mono (unhide HB).size))
    have r0 := bR.at 0 _ rfl
    have r1 := bR.at 1 _ rfl
    have r2 := bR.at 2 _ rfl
    have r3 := bR.at 3 _ rfl
    have r4 := bR.at 4 _ rfl
    have r5 := bR.at 5 _ rfl
    have rf := bR.soft
    have hR1 := bR.lt
    clear bR nb HL HV HU
    simp only [List.getElem_toArray, List.getElem_cons_zero, List.getElem_cons_succ] at r0 r1 r2 r3 r4 r5
    go_wp2_with fail
    refine bodyPost_ret (v := .agg #[.int .i64 5, .int .i64 0, .int .i64 0, .slice none 0 0, .int .i64 0, .int .i64 0]) (by simp [results, Tryz.results8, go_sem, r0, r1, r2, r3, r4, r5]) rfl ?_
    rw [unhide HP]
    exact ⟨[.int .i64 5, .int .i64 0, .int .i64 0, .slice none 0 0, .int .i64 0, .int .i64 0], rfl, (own_badW rfl (lo := 0) (hi := 0)).reads, below_setAll (unhide HB) w.heap.size 0 [.int .i64 5, .int .i64 0, .int .i64 0, .slice none 0 0, .int .i64 0, .int .i64 0] (Nat.le_refl _)⟩
  | true =>
    have nb : Below w2.heap.size w2 (w2.alloc (.cells #[.int .i64 x.kind, .int .i64 x.id, .slice a2 x.vec.length d2, .int .i64 x.session, .int .i64 x.seq] 27)) := (Below.refl _ _).alloc (Nat.le_refl _) _
    have bX : Box 0 #[.int .i64 x.kind, .int .i64 x.id, .slice a2 x.vec.length d2, .int .i64 x.session, .int .i64 x.seq] 27 (w2.alloc (.cells #[.int .i64 x.kind, .int .i64 x.id, .slice a2 x.vec.length d2, .int .i64 x.session, .int .i64 x.seq] 27)) w2.heap.size := newBox (Nat.zero_le _)
    have LT := hide (l3Text w2.heap.size x.kind x.id (.slice a2 x.vec.length d2) x.session x.seq x.vec _ ⟨bX.at 0 _ rfl, bX.at 1 _ rfl, bX.at 2 _ rfl, bX.at 3 _ rfl, bX.at 4 _ rfl⟩ ((unhide HV).later nb) (readM_fault (unhide HU)))
    simp only [str] at LT
    have HL1 := hide ((unhide HL).later nb)
    replace bR := bR.keep nb
    replace HB := hide ((unhide HB).trans (nb.mono (unhide HB).size))
    have HX := hide bX
    have HR := hide bR
    clear nb bX bR HL HV
    go_wp2_with fail
    generalize w2.alloc (.cells #[.int .i64 x.kind, .int .i64 x.id, .slice a2 x.vec.length d2, .int .i64 x.session, .int .i64 x.seq] 27) = W2 at *
    refine (unhide LT).mono ?_
    rintro e w3 ⟨rfl, hb⟩
    have bX := (unhide HX).keep hb
    have bR := (unhide HR).keep hb
    have HL3 := hide ((unhide HL1).later hb)
    replace HB := hide ((unhide HB).trans (hb.mono (unhide HB).size))
    have x0 := bX.at 0 _ rfl
    have x1 := bX.at 1 _ rfl
    have x2 := bX.at 2 _ rfl
    have x3 := bX.at 3 _ rfl
    have x4 := bX.at 4 _ rfl
    have r0 := bR.at 0 _ rfl
    have r1 := bR.at 1 _ rfl
    have r2 := bR.at 2 _ rfl
    have r3 := bR.at 3 _ rfl
    have r4 := bR.at 4 _ rfl
    have r5 := bR.at 5 _ rfl
    have rf := bR.soft
    have hR1 := bR.lt
    clear hb bX bR HX HR HL1 LT
    simp only [List.getElem_toArray, List.getElem_cons_zero, List.getElem_cons_succ] at x0 x1 x2 x3 x4 r0 r1 r2 r3 r4 r5
    have HP : Hid (parseM s.data.toList = if writeText x.kind x.id x.vec x.session x.seq = s.data.toList then ⟨0, x⟩ else ⟨5, zeroW⟩) := by
      show parseM s.data.toList = _
      rw [parseM, unhide HU]
      rfl
    clear HU
    generalize writeText x.kind x.id x.vec x.session x.seq = tx at *
    by_cases heq : tx = s.data.toList
    · have e1 : (tx == s.toList) = true := by rw [toList_data]; simpa using heq
      have e2 : (tx != s.toList) = false := by simp [bne, e1]
      have HP2 : Hid (parseM s.data.toList = ⟨0, x⟩) := (unhide HP).trans (if_pos heq)
      clear HP heq
      go_wp2_with fail
      refine bodyPost_ret (v := .agg #[.int .i64 0, .int .i64 x.kind, .int .i64 x.id, .slice a2 x.vec.length d2, .int .i64 x.session, .int .i64 x.seq]) (by simp [results, Tryz.results8, go_sem, r0, r1, r2, r3, r4, r5]) rfl ?_
      rw [unhide HP2]
      exact storeW (vs := [.int .i64 0, .int .i64 x.kind, .int .i64 x.id, .slice a2 x.vec.length d2, .int .i64 x.session, .int .i64 x.seq]) (unhide HL3) (by omega) (unhide HB)
    · have e1 : (tx == s.toList) = false := by rw [toList_data, beq_eq_false_iff_ne]; exact heq
      have e2 : (tx != s.toList) = true := by simp [bne, e1]
      have HP2 : Hid (parseM s.data.toList = ⟨5, zeroW⟩) := (unhide HP).trans (if_neg heq)
      clear HP heq
      go_wp2_with fail
      refine bodyPost_ret (v := .agg #[.int .i64 5, .int .i64 0, .int .i64 0, .slice none 0 0, .int .i64 0, .int .i64 0]) (by simp [results, Tryz.results8, go_sem, r0, r1, r2, r3, r4, r5]) rfl ?_
      rw [unhide HP2]
      exact ⟨[.int .i64 5, .int .i64 0, .int .i64 0, .slice none 0 0, .int .i64 0, .int .i64 0], rfl, (own_badW rfl (lo := 0) (hi := 0)).reads, below_setAll (unhide HB) w.heap.size 0 [.int .i64 5, .int .i64 0, .int .i64 0, .slice none 0 0, .int .i64 0, .int .i64 0] (Nat.le_refl _)⟩

end Go.Proofs.YtjofcmdlcoganaaGreatDoor

namespace Go.Proofs.YtjofcmdlcoganaaGreatDoor

/-- Pieces with a blank between two. -/
def joinS : List Bytes → Bytes
  | [] => []
  | [a] => a
  | a :: b :: r => a ++ 32 :: joinS (b :: r)

theorem cutS_ne (acc l : Bytes) : cutS acc l ≠ [] := by
  induction l generalizing acc with
  | nil => simp [cutS]
  | cons c r ih =>
    rw [cutS]
    split
    · simp
    · exact ih _

theorem joinS_cons (a : Bytes) {m : List Bytes} (h : m ≠ []) : joinS (a :: m) = a ++ 32 :: joinS m := by
  cases m with
  | nil => exact absurd rfl h
  | cons b r => rfl

theorem cutS_join (acc l : Bytes) : joinS (cutS acc l) = acc ++ l := by
  induction l generalizing acc with
  | nil => simp [cutS, joinS]
  | cons c r ih =>
    rw [cutS]
    split
    · next h =>
      have hc : c = 32 := UInt8.toNat_inj.1 h
      rw [joinS_cons acc (cutS_ne [] r), ih [], hc]
      rfl
    · rw [ih]
      simp

end Go.Proofs.YtjofcmdlcoganaaGreatDoor

namespace Go.Proofs.YtjofcmdlcoganaaGreatDoor

theorem tail_parts {k : Int} {zs : List Int} {a b c : Bytes} (h : tailOk k zs a b c = true) : dec (numR a).1 = a ∧ dec (numR b).1 = b ∧ dec (numR c).1 = c ∧ writeFault k (numR a).1 zs (numR b).1 (numR c).1 = 0 := by
  unfold tailOk at h
  simp only [Bool.and_eq_true, beq_iff_eq] at h
  exact ⟨numR_true h.1.1.1, numR_true h.1.1.2, numR_true h.1.2, h.2⟩

theorem modelP_text {l : Bytes} {zs : List Int} (h : modelP l = some zs) : vecText zs = l := by
  rw [modelP_eq] at h
  cases hp : PP 3 (0, 0, 0) l with
  | none => rw [hp] at h; cases h
  | some t =>
    obtain ⟨x, y, z⟩ := t
    rw [hp] at h
    obtain rfl : [x, y, z] = zs := by simpa using h
    obtain ⟨e, bx, bY, bz⟩ := PP_some hp
    rw [vecText, if_pos (fault3_zero bx bY bz), e]
    simp [text3]

theorem readM_text {l : List Bytes} {x : DWrite} (h : readM l = some x) : writeText x.kind x.id x.vec x.session x.seq = joinS l := by
  unfold readM at h
  split at h
  · next c0 c1 c2 c3 c4 c5 =>
    unfold readPut at h
    split at h
    · next hc =>
      obtain ⟨rfl, rfl⟩ := hc
      split at h
      · cases h
      · next zs hm =>
        split at h
        · next ht =>
          cases h
          obtain ⟨e1, e2, e3, hf⟩ := tail_parts ht
          show writeText 1 (numR c1).1 zs (numR c4).1 (numR c5).1 = _
          rw [writeText, if_pos hf, writeTail, writeHead, if_pos rfl, modelP_text hm, e1, e2, e3]
          simp [joinS]
        · cases h
    · cases h
  · next c0 c1 c2 c3 c4 =>
    unfold readDrop at h
    split at h
    · next hc =>
      obtain ⟨rfl, rfl⟩ := hc
      split at h
      · next ht =>
        cases h
        obtain ⟨e1, e2, e3, hf⟩ := tail_parts ht
        show writeText 2 (numR c1).1 [] (numR c3).1 (numR c4).1 = _
        rw [writeText, if_pos hf, writeTail, writeHead, if_neg (by omega), e1, e2, e3]
        simp [joinS]
      · cases h
    · cases h
  · cases h

/-- What the model's ParseWrite tells, without its question for the text. -/
theorem parseM_eq (l : Bytes) : parseM l = match readM (cutS [] l) with | none => ⟨5, zeroW⟩ | some x => ⟨0, x⟩ := by
  unfold parseM
  cases h : readM (cutS [] l) with
  | none => rfl
  | some x =>
    have ht := readM_text h
    rw [cutS_join] at ht
    exact if_pos ht

end Go.Proofs.YtjofcmdlcoganaaGreatDoor

namespace Go.Proofs.YtjofcmdlcoganaaGreatDoor
open Go

/-- As Q; by a goto to label l: J l. -/
def jumps (J : Nat → Act → World → Prop) (Q : Exit → Act → World → Prop) : Exit → Act → World → Prop
  | .goto l, a, w => J l a w
  | e, a, w => Q e a w

theorem wp_scope_five {P : Program} {a : Act} {w : World} {Q : Exit → Act → World → Prop} {c r0 r1 r2 r3 r4 : Code} (J : Nat → Act → World → Prop) (μ : Nat → Act → World → Nat)
    (f0 : findLabel c 0 = some r0) (f1 : findLabel c 1 = some r1) (f2 : findLabel c 2 = some r2) (f3 : findLabel c 3 = some r3) (f4 : findLabel c 4 = some r4)
    (hJ : ∀ l a w, J l a w → l < 5) (first : c.wp P (jumps J Q) a w)
    (p0 : ∀ a w, J 0 a w → r0.wp P (jumps (fun l a' w' => J l a' w' ∧ μ l a' w' < μ 0 a w) Q) a w)
    (p1 : ∀ a w, J 1 a w → r1.wp P (jumps (fun l a' w' => J l a' w' ∧ μ l a' w' < μ 1 a w) Q) a w)
    (p2 : ∀ a w, J 2 a w → r2.wp P (jumps (fun l a' w' => J l a' w' ∧ μ l a' w' < μ 2 a w) Q) a w)
    (p3 : ∀ a w, J 3 a w → r3.wp P (jumps (fun l a' w' => J l a' w' ∧ μ l a' w' < μ 3 a w) Q) a w)
    (p4 : ∀ a w, J 4 a w → r4.wp P (jumps (fun l a' w' => J l a' w' ∧ μ l a' w' < μ 4 a w) Q) a w) : (Code.scope c).wp P Q a w := by
  intro b k cs
  have pass : ∀ l a w, J l a w → ∃ rest, findLabel c l = some rest ∧ rest.wp P (jumps (fun l' a' w' => J l' a' w' ∧ μ l' a' w' < μ l a w) Q) a w := by
    intro l a w h
    have hl := hJ l a w h
    rcases (show l = 0 ∨ l = 1 ∨ l = 2 ∨ l = 3 ∨ l = 4 by omega) with rfl | rfl | rfl | rfl | rfl
    · exact ⟨r0, f0, p0 a w h⟩
    · exact ⟨r1, f1, p1 a w h⟩
    · exact ⟨r2, f2, p2 a w h⟩
    · exact ⟨r3, f3, p3 a w h⟩
    · exact ⟨r4, f4, p4 a w h⟩
  have hg : ∀ l rest, findLabel c l = some rest → gotoIn l (.inScope c :: k) = some (.code rest :: .inScope c :: k) := fun l rest hf => by simp [gotoIn, hf]
  have key : ∀ n l rest a w, μ l a w = n → J l a w → findLabel c l = some rest → ∃ e a' w', Q e a' w' ∧ Arrives P (lone (b.at a (.code rest :: .inScope c :: k)) cs w) b k cs e a' w' := by
    intro n
    induction n using Nat.strongRecOn with
    | _ n ih =>
      intro l rest a w hn hj hf
      obtain ⟨rest', hf', hwp⟩ := pass l a w hj
      rw [hf] at hf'
      obtain rfl := Option.some.inj hf'
      obtain ⟨e, a₁, w₁, hq, harr⟩ := hwp b (.inScope c :: k) cs
      cases e with
      | normal => exact ⟨.normal, a₁, w₁, hq, Steps.trans harr (.one step_inScope)⟩
      | exit id => exact ⟨.exit id, a₁, w₁, hq, fun k' hk => harr k' (by simp [exitTo, hk])⟩
      | goto l' =>
        obtain ⟨hJ', hlt⟩ := hq
        obtain ⟨rest2, hf2, _⟩ := pass l' a₁ w₁ hJ'
        obtain ⟨e₂, a₂, w₂, hq₂, harr₂⟩ := ih _ (by omega) l' rest2 a₁ w₁ rfl hJ' hf2
        exact ⟨e₂, a₂, w₂, hq₂, .of_steps (harr _ (hg _ _ hf2)) harr₂⟩
      | ret => exact ⟨_, a₁, w₁, hq, harr⟩
      | panic ch => exact ⟨_, a₁, w₁, hq, harr⟩
      | outgrown => exact ⟨_, a₁, w₁, hq, harr⟩
  obtain ⟨e, a₁, w₁, hq, harr⟩ := first b (.inScope c :: k) cs
  cases e with
  | normal => exact ⟨.normal, a₁, w₁, hq, .head step_scope (Steps.trans harr (.one step_inScope))⟩
  | exit id => exact ⟨.exit id, a₁, w₁, hq, fun k' hk => .head step_scope (harr k' (by simp [exitTo, hk]))⟩
  | goto l' =>
    obtain ⟨rest2, hf2, _⟩ := pass l' a₁ w₁ hq
    obtain ⟨e₂, a₂, w₂, hq₂, harr₂⟩ := key _ l' rest2 a₁ w₁ rfl hq hf2
    exact ⟨e₂, a₂, w₂, hq₂, .of_steps (.head step_scope (harr _ (hg _ _ hf2))) harr₂⟩
  | ret => exact ⟨_, a₁, w₁, hq, .of_steps (.one step_scope) harr⟩
  | panic ch => exact ⟨_, a₁, w₁, hq, .of_steps (.one step_scope) harr⟩
  | outgrown => exact ⟨_, a₁, w₁, hq, .of_steps (.one step_scope) harr⟩

end Go.Proofs.YtjofcmdlcoganaaGreatDoor

namespace Go.Proofs.YtjofcmdlcoganaaGreatDoor
open Go.RowKit

theorem byteAt_c (s : ByteArray) (k : Nat) (w : World) (_hs : s.size ≤ 1048576) (hk : k ≤ s.size) :
    Calls Tryz.prog 80 #[.string s, .int .i64 (k : Int)] w fun e w' => e = .returned (.int .u8 (bAt s k)) ∧ w' = w := by
  by_cases h : k < s.size
  · have HB := hide (bAt_lt s k h)
    go_enter Tryz.func80, Tryz.ntmps80
    go_wp2
    go_ret
    exact ⟨by rw [unhide HB]; rfl, rfl⟩
  · have HB := hide (bAt_ge s k h)
    go_enter Tryz.func80, Tryz.ntmps80
    go_wp2
    go_ret
    exact ⟨by rw [unhide HB]; rfl, rfl⟩

theorem isDigit_c (b : Int) (w : World) :
    Calls Tryz.prog 71 #[.int .u8 b] w fun e w' => e = .returned (.bool (digB b)) ∧ w' = w := by
  by_cases h1 : 48 ≤ b
  · by_cases h2 : b ≤ 57
    · have HD : Hid (digB b = true) := by simp [Hid, digB, h1, h2]
      have hd : decide (b ≤ 57) = true := by simp [h2]
      go_enter Tryz.func71, Tryz.ntmps71
      go_wp2
      go_ret
      exact ⟨by rw [unhide HD]; rfl, rfl⟩
    · have HD : Hid (digB b = false) := by simp [Hid, digB, h2]
      have hd : decide (b ≤ 57) = false := by simp [h2]
      go_enter Tryz.func71, Tryz.ntmps71
      go_wp2
      go_ret
      exact ⟨by rw [unhide HD]; rfl, rfl⟩
  · have HD : Hid (digB b = false) := by simp [Hid, digB, h1]
    go_enter Tryz.func71, Tryz.ntmps71
    go_wp2
    go_ret
    exact ⟨by rw [unhide HD]; rfl, rfl⟩

/-- What holds at each label: part, wrong, digit, ended, last. -/
def Inv (s : ByteArray) (R : Option Tri) (l : Nat) (sg sz : Int) (p k : Nat) (t : Tri) : Prop :=
  l < 5 ∧ k ≤ s.size ∧ (l = 0 → p ≤ 2 ∧ PP (3 - p) t (rest s k) = R) ∧ (l = 1 → R = none) ∧
    (l = 2 → p ≤ 2 ∧ (sg = 1 ∨ sg = -1) ∧ (0 ≤ sz ∧ sz ≤ 1000) ∧ digB (bAt s k) = true ∧ DD p t sg sz (rest s k) = R) ∧
    (l = 3 → p ≤ 2 ∧ (sg = 1 ∨ sg = -1) ∧ (0 ≤ sz ∧ sz ≤ 1000) ∧ EE p (setAt p t (sg * sz)) (rest s k) = R) ∧ (l = 4 → fin3 t (rest s k) = R)

def Lab (s : ByteArray) (R : Option Tri) (w : World) (l : Nat) (a' : Act) (w' : World) : Prop :=
  ∃ (sg sz : Int) (p k : Nat) (x y z : Int) (u9 u10 u11 u12 u13 u14 u15 u16 u17 u18 u19 u20 u21 u22 u23 u24 u25 u26 u27 u28 u29 u30 u31 u32 u33 u34 u35 u36 u37 u38 u39 u40 u41 u42 u43 u44 u45 u46 u47 u48 u49 u50 u51 u52 u53 u54 u55 u56 u57 u58 u59 u60 u61 u62 u63 u64 : Value), a' = { tmps := #[.string s, undef, .pointer (some ⟨w.heap.size, 0, none⟩), .bool false, .pointer (some ⟨w.heap.size + 1, 0, none⟩), .int .i64 sg, .int .i64 sz, .int .i64 (p : Int), .int .i64 (k : Int), u9, u10, u11, u12, u13, u14, u15, u16, u17, u18, u19, u20, u21, u22, u23, u24, u25, u26, u27, u28, u29, u30, u31, u32, u33, u34, u35, u36, u37, u38, u39, u40, u41, u42, u43, u44, u45, u46, u47, u48, u49, u50, u51, u52, u53, u54, u55, u56, u57, u58, u59, u60, u61, u62, u63, u64], defers := [] } ∧ w' = (w.alloc (.cells #[.int .i64 0, .int .i64 0, .int .i64 0] 66)).alloc (.cells #[.int .i64 x, .int .i64 y, .int .i64 z] 66) ∧ Inv s R l sg sz p k (x, y, z)

def wt : Nat → Nat
  | 0 => 3
  | 1 => 0
  | 2 => 2
  | 3 => 1
  | _ => 0
def meas (s : ByteArray) (l : Nat) (a' : Act) (_ : World) : Nat := 4 * (s.size + 1 - (intOf (a'.tmps.getD 8 undef)).toNat) + wt l

/-- The answer: the vector and true, or nothing and false. -/
def triRes : Option Tri → Value
  | none => .tuple #[arr3 0 0 0, .bool false]
  | some (x, y, z) => .tuple #[arr3 x y z, .bool true]

theorem lab_mk {s : ByteArray} {R : Option Tri} {w : World} {l : Nat} {sg sz : Int} {p k : Nat} {x y z : Int} {u9 u10 u11 u12 u13 u14 u15 u16 u17 u18 u19 u20 u21 u22 u23 u24 u25 u26 u27 u28 u29 u30 u31 u32 u33 u34 u35 u36 u37 u38 u39 u40 u41 u42 u43 u44 u45 u46 u47 u48 u49 u50 u51 u52 u53 u54 u55 u56 u57 u58 u59 u60 u61 u62 u63 u64 : Value} (h : Inv s R l sg sz p k (x, y, z)) :
    Lab s R w l { tmps := #[.string s, undef, .pointer (some ⟨w.heap.size, 0, none⟩), .bool false, .pointer (some ⟨w.heap.size + 1, 0, none⟩), .int .i64 sg, .int .i64 sz, .int .i64 (p : Int), .int .i64 (k : Int), u9, u10, u11, u12, u13, u14, u15, u16, u17, u18, u19, u20, u21, u22, u23, u24, u25, u26, u27, u28, u29, u30, u31, u32, u33, u34, u35, u36, u37, u38, u39, u40, u41, u42, u43, u44, u45, u46, u47, u48, u49, u50, u51, u52, u53, u54, u55, u56, u57, u58, u59, u60, u61, u62, u63, u64], defers := [] } ((w.alloc (.cells #[.int .i64 0, .int .i64 0, .int .i64 0] 66)).alloc (.cells #[.int .i64 x, .int .i64 y, .int .i64 z] 66)) := ⟨sg, sz, p, k, x, y, z, _, _, _, _, _, _, _, _, _, _, _, _, _, _, _, _, _, _, _, _, _, _, _, _, _, _, _, _, _, _, _, _, _, _, _, _, _, _, _, _, _, _, _, _, _, _, _, _, _, _, _, _, _, _, _, _, rfl, rfl, h⟩

theorem inv_part {s : ByteArray} {R : Option Tri} {sg sz : Int} {p k : Nat} {t : Tri} (hk : k ≤ s.size) (hp : p ≤ 2) (h : PP (3 - p) t (rest s k) = R) : Inv s R 0 sg sz p k t :=
  ⟨by omega, hk, fun _ => ⟨hp, h⟩, fun e => by omega, fun e => by omega, fun e => by omega, fun e => by omega⟩
theorem inv_wrong {s : ByteArray} {R : Option Tri} {sg sz : Int} {p k : Nat} {t : Tri} (hk : k ≤ s.size) (h : none = R) : Inv s R 1 sg sz p k t :=
  ⟨by omega, hk, fun e => by omega, fun _ => h.symm, fun e => by omega, fun e => by omega, fun e => by omega⟩
theorem inv_digit {s : ByteArray} {R : Option Tri} {sg sz : Int} {p k : Nat} {t : Tri} (hk : k ≤ s.size) (hp : p ≤ 2) (hg : sg = 1 ∨ sg = -1) (hz : 0 ≤ sz ∧ sz ≤ 1000) (hd : digB (bAt s k) = true) (h : DD p t sg sz (rest s k) = R) : Inv s R 2 sg sz p k t :=
  ⟨by omega, hk, fun e => by omega, fun e => by omega, fun _ => ⟨hp, hg, hz, hd, h⟩, fun e => by omega, fun e => by omega⟩
theorem inv_ended {s : ByteArray} {R : Option Tri} {sg sz : Int} {p k : Nat} {t : Tri} (hk : k ≤ s.size) (hp : p ≤ 2) (hg : sg = 1 ∨ sg = -1) (hz : 0 ≤ sz ∧ sz ≤ 1000) (h : EE p (setAt p t (sg * sz)) (rest s k) = R) : Inv s R 3 sg sz p k t :=
  ⟨by omega, hk, fun e => by omega, fun e => by omega, fun e => by omega, fun _ => ⟨hp, hg, hz, h⟩, fun e => by omega⟩
theorem inv_last {s : ByteArray} {R : Option Tri} {sg sz : Int} {p k : Nat} {t : Tri} (hk : k ≤ s.size) (h : fin3 t (rest s k) = R) : Inv s R 4 sg sz p k t :=
  ⟨by omega, hk, fun e => by omega, fun e => by omega, fun e => by omega, fun e => by omega, fun _ => h⟩

theorem at_label {G J : Act → World → Prop} {a : Act} {w : World} (h : J a w) (k : ∀ a2 w2, J a2 w2 → G a2 w2) : G a w := k a w h

set_option maxRecDepth 100000 in
set_option maxHeartbeats 16000000 in
theorem readVector_c (s : ByteArray) (w : World) (hs : s.size ≤ 1048576) :
    Calls Tryz.prog 70 #[.string s] w fun e w' => e = .returned (triRes (PP 3 (0, 0, 0) (rest s 0))) ∧ Below w.heap.size w w' := by
  obtain ⟨R, hR⟩ : ∃ R, R = PP 3 (0, 0, 0) (rest s 0) := ⟨_, rfl⟩
  rw [← hR]
  have HR := hide hR
  clear hR
  go_enter Tryz.func70, Tryz.ntmps70
  go_wp2_with fail
  refine wp_scope_five (Lab s R w) (meas s) rfl rfl rfl rfl rfl ?_ ?_ ?_ ?_ ?_ ?_ ?_
  · rintro l a2 w2 ⟨sg, sz, p, k, x, y, z, -, -, -, -, -, -, -, -, -, -, -, -, -, -, -, -, -, -, -, -, -, -, -, -, -, -, -, -, -, -, -, -, -, -, -, -, -, -, -, -, -, -, -, -, -, -, -, -, -, -, -, -, -, -, -, -, -, -, hI⟩
    exact hI.1
  · go_wp2_with fail
    go_step3
    refine at_label (J := Lab s R w 0) (lab_mk (sg := 0) (sz := 0) (p := 0) (k := 0) (inv_part (by omega) (by omega) (unhide HR).symm)) ?_
    rintro a2 w2 ⟨sg, sz, p, k, x, y, z, u9, u10, u11, u12, u13, u14, u15, u16, u17, u18, u19, u20, u21, u22, u23, u24, u25, u26, u27, u28, u29, u30, u31, u32, u33, u34, u35, u36, u37, u38, u39, u40, u41, u42, u43, u44, u45, u46, u47, u48, u49, u50, u51, u52, u53, u54, u55, u56, u57, u58, u59, u60, u61, u62, u63, u64, rfl, rfl, hI⟩
    obtain ⟨-, hk, h0, -⟩ := hI
    obtain ⟨hp, h0⟩ := h0 rfl
    have HP := hide h0
    clear h0
    go_wp2_with fail
    refine (byteAt_c s k _ hs hk).mono ?_
    rintro e w2 ⟨rfl, rfl⟩
    by_cases h45 : bAt s k = 45
    · have e45 : (bAt s k == 45) = true := by rw [h45]; rfl
      have hlt := lt_of_bAt s k (by omega)
      have HU := hide ((PP_minus s k p (x, y, z) hp h45).symm.trans (unhide HP))
      have hk1 : k + 1 ≤ s.size := by omega
      clear h45
      go_wp2_with fail
      rw [show ((k : Int) + 1) = ((k + 1 : Nat) : Int) from by omega]
      refine (byteAt_c s (k + 1) _ hs hk1).mono ?_
      rintro e w2 ⟨rfl, rfl⟩
      go_wp2_with fail
      refine (isDigit_c _ _).mono ?_
      rintro e w2 ⟨rfl, rfl⟩
      cases hd : digB (bAt s (k + 1)) with
      | false =>
        have HN := hide ((UU_bad s (k + 1) p (x, y, z) (-1) hd).symm.trans (unhide HU))
        clear hd
        go_wp2_with fail
        go_step3
        exact lab_mk (inv_wrong (sg := -1) (sz := 0) (p := p) (k := k + 1) hk1 (unhide HN))
      | true =>
        have hlt := digB_lt s (k + 1) hd
        have HD := hide hd
        clear hd
        go_wp2_with fail
        refine (byteAt_c s (k + 1) _ hs hk1).mono ?_
        rintro e w2 ⟨rfl, rfl⟩
        by_cases h48 : bAt s (k + 1) = 48
        · have e48 : (bAt s (k + 1) != 48) = false := by rw [h48]; rfl
          have H48 := hide h48
          clear h48
          go_wp2_with fail
          have HN := hide ((UU_zero_neg s (k + 1) p (x, y, z) (unhide H48)).symm.trans (unhide HU))
          go_step3
          exact lab_mk (inv_wrong (sg := -1) (sz := 0) (p := p) (k := k + 1) hk1 (unhide HN))
        · have e48 : (bAt s (k + 1) != 48) = true := by rw [bne_iff_ne]; exact h48
          have HN := hide ((UU_digit s (k + 1) p (x, y, z) (-1) (unhide HD) h48).symm.trans (unhide HU))
          clear h48
          go_wp2_with fail
          go_step3
          exact lab_mk (inv_digit (sg := -1) (sz := 0) (p := p) (k := k + 1) hk1 hp (Or.inr rfl) (by omega) (unhide HD) (unhide HN))
    · have e45 : (bAt s k == 45) = false := by rw [beq_eq_false_iff_ne]; exact h45
      have HU := hide ((PP_plus s k p (x, y, z) hp h45).symm.trans (unhide HP))
      clear h45
      go_wp2_with fail
      refine (byteAt_c s (k) _ hs hk).mono ?_
      rintro e w2 ⟨rfl, rfl⟩
      go_wp2_with fail
      refine (isDigit_c _ _).mono ?_
      rintro e w2 ⟨rfl, rfl⟩
      cases hd : digB (bAt s (k)) with
      | false =>
        have HN := hide ((UU_bad s (k) p (x, y, z) 1 hd).symm.trans (unhide HU))
        clear hd
        go_wp2_with fail
        go_step3
        exact lab_mk (inv_wrong (sg := 1) (sz := 0) (p := p) (k := k) hk (unhide HN))
      | true =>
        have hlt := digB_lt s (k) hd
        have HD := hide hd
        clear hd
        go_wp2_with fail
        refine (byteAt_c s (k) _ hs hk).mono ?_
        rintro e w2 ⟨rfl, rfl⟩
        by_cases h48 : bAt s (k) = 48
        · have e48 : (bAt s (k) != 48) = false := by rw [h48]; rfl
          have H48 := hide h48
          clear h48
          go_wp2_with fail
          have HN := hide ((UU_zero s (k) p (x, y, z) (unhide H48)).symm.trans (unhide HU))
          go_step3
          rw [show (((k : Nat) : Int) + 1) = ((k + 1 : Nat) : Int) from by omega]
          exact lab_mk (inv_ended (sg := 1) (sz := 0) (p := p) (k := k + 1) (by omega) hp (Or.inl rfl) (by omega) (unhide HN))
        · have e48 : (bAt s (k) != 48) = true := by rw [bne_iff_ne]; exact h48
          have HN := hide ((UU_digit s (k) p (x, y, z) 1 (unhide HD) h48).symm.trans (unhide HU))
          clear h48
          go_wp2_with fail
          go_step3
          exact lab_mk (inv_digit (sg := 1) (sz := 0) (p := p) (k := k) hk hp (Or.inl rfl) (by omega) (unhide HD) (unhide HN))
  · rintro a2 w2 ⟨sg, sz, p, k, x, y, z, u9, u10, u11, u12, u13, u14, u15, u16, u17, u18, u19, u20, u21, u22, u23, u24, u25, u26, u27, u28, u29, u30, u31, u32, u33, u34, u35, u36, u37, u38, u39, u40, u41, u42, u43, u44, u45, u46, u47, u48, u49, u50, u51, u52, u53, u54, u55, u56, u57, u58, u59, u60, u61, u62, u63, u64, rfl, rfl, hI⟩
    obtain ⟨-, hk, h0, -⟩ := hI
    obtain ⟨hp, h0⟩ := h0 rfl
    have HP := hide h0
    clear h0
    go_wp2_with fail
    refine (byteAt_c s k _ hs hk).mono ?_
    rintro e w2 ⟨rfl, rfl⟩
    by_cases h45 : bAt s k = 45
    · have e45 : (bAt s k == 45) = true := by rw [h45]; rfl
      have hlt := lt_of_bAt s k (by omega)
      have HU := hide ((PP_minus s k p (x, y, z) hp h45).symm.trans (unhide HP))
      have hk1 : k + 1 ≤ s.size := by omega
      clear h45
      go_wp2_with fail
      rw [show ((k : Int) + 1) = ((k + 1 : Nat) : Int) from by omega]
      refine (byteAt_c s (k + 1) _ hs hk1).mono ?_
      rintro e w2 ⟨rfl, rfl⟩
      go_wp2_with fail
      refine (isDigit_c _ _).mono ?_
      rintro e w2 ⟨rfl, rfl⟩
      cases hd : digB (bAt s (k + 1)) with
      | false =>
        have HN := hide ((UU_bad s (k + 1) p (x, y, z) (-1) hd).symm.trans (unhide HU))
        clear hd
        go_wp2_with fail
        go_step3
        exact ⟨lab_mk (inv_wrong (sg := -1) (sz := 0) (p := p) (k := k + 1) hk1 (unhide HN)), by simp [meas, wt, intOf] <;> omega⟩
      | true =>
        have hlt := digB_lt s (k + 1) hd
        have HD := hide hd
        clear hd
        go_wp2_with fail
        refine (byteAt_c s (k + 1) _ hs hk1).mono ?_
        rintro e w2 ⟨rfl, rfl⟩
        by_cases h48 : bAt s (k + 1) = 48
        · have e48 : (bAt s (k + 1) != 48) = false := by rw [h48]; rfl
          have H48 := hide h48
          clear h48
          go_wp2_with fail
          have HN := hide ((UU_zero_neg s (k + 1) p (x, y, z) (unhide H48)).symm.trans (unhide HU))
          go_step3
          exact ⟨lab_mk (inv_wrong (sg := -1) (sz := 0) (p := p) (k := k + 1) hk1 (unhide HN)), by simp [meas, wt, intOf] <;> omega⟩
        · have e48 : (bAt s (k + 1) != 48) = true := by rw [bne_iff_ne]; exact h48
          have HN := hide ((UU_digit s (k + 1) p (x, y, z) (-1) (unhide HD) h48).symm.trans (unhide HU))
          clear h48
          go_wp2_with fail
          go_step3
          exact ⟨lab_mk (inv_digit (sg := -1) (sz := 0) (p := p) (k := k + 1) hk1 hp (Or.inr rfl) (by omega) (unhide HD) (unhide HN)), by simp [meas, wt, intOf] <;> omega⟩
    · have e45 : (bAt s k == 45) = false := by rw [beq_eq_false_iff_ne]; exact h45
      have HU := hide ((PP_plus s k p (x, y, z) hp h45).symm.trans (unhide HP))
      clear h45
      go_wp2_with fail
      refine (byteAt_c s (k) _ hs hk).mono ?_
      rintro e w2 ⟨rfl, rfl⟩
      go_wp2_with fail
      refine (isDigit_c _ _).mono ?_
      rintro e w2 ⟨rfl, rfl⟩
      cases hd : digB (bAt s (k)) with
      | false =>
        have HN := hide ((UU_bad s (k) p (x, y, z) 1 hd).symm.trans (unhide HU))
        clear hd
        go_wp2_with fail
        go_step3
        exact ⟨lab_mk (inv_wrong (sg := 1) (sz := 0) (p := p) (k := k) hk (unhide HN)), by simp [meas, wt, intOf] <;> omega⟩
      | true =>
        have hlt := digB_lt s (k) hd
        have HD := hide hd
        clear hd
        go_wp2_with fail
        refine (byteAt_c s (k) _ hs hk).mono ?_
        rintro e w2 ⟨rfl, rfl⟩
        by_cases h48 : bAt s (k) = 48
        · have e48 : (bAt s (k) != 48) = false := by rw [h48]; rfl
          have H48 := hide h48
          clear h48
          go_wp2_with fail
          have HN := hide ((UU_zero s (k) p (x, y, z) (unhide H48)).symm.trans (unhide HU))
          go_step3
          rw [show (((k : Nat) : Int) + 1) = ((k + 1 : Nat) : Int) from by omega]
          exact ⟨lab_mk (inv_ended (sg := 1) (sz := 0) (p := p) (k := k + 1) (by omega) hp (Or.inl rfl) (by omega) (unhide HN)), by simp [meas, wt, intOf] <;> omega⟩
        · have e48 : (bAt s (k) != 48) = true := by rw [bne_iff_ne]; exact h48
          have HN := hide ((UU_digit s (k) p (x, y, z) 1 (unhide HD) h48).symm.trans (unhide HU))
          clear h48
          go_wp2_with fail
          go_step3
          exact ⟨lab_mk (inv_digit (sg := 1) (sz := 0) (p := p) (k := k) hk hp (Or.inl rfl) (by omega) (unhide HD) (unhide HN)), by simp [meas, wt, intOf] <;> omega⟩
  · rintro a2 w2 ⟨sg, sz, p, k, x, y, z, u9, u10, u11, u12, u13, u14, u15, u16, u17, u18, u19, u20, u21, u22, u23, u24, u25, u26, u27, u28, u29, u30, u31, u32, u33, u34, u35, u36, u37, u38, u39, u40, u41, u42, u43, u44, u45, u46, u47, u48, u49, u50, u51, u52, u53, u54, u55, u56, u57, u58, u59, u60, u61, u62, u63, u64, rfl, rfl, hI⟩
    obtain ⟨-, hk, -, h0, -⟩ := hI
    have HW := hide (h0 rfl)
    clear h0
    go_wp2_with fail
    simp only [jumps]
    try rw [Exit.noGoto_ret]
    refine bodyPost_ret (v := .tuple #[arr3 0 0 0, .bool false]) (by simp [results, Tryz.results70, go_sem, arr3]) rfl ⟨by rw [unhide HW]; rfl, ?_⟩
    exact ((Below.refl _ _).alloc (Nat.le_refl _) _).alloc (by simp) _
  · rintro a2 w2 ⟨sg, sz, p, k, x, y, z, u9, u10, u11, u12, u13, u14, u15, u16, u17, u18, u19, u20, u21, u22, u23, u24, u25, u26, u27, u28, u29, u30, u31, u32, u33, u34, u35, u36, u37, u38, u39, u40, u41, u42, u43, u44, u45, u46, u47, u48, u49, u50, u51, u52, u53, u54, u55, u56, u57, u58, u59, u60, u61, u62, u63, u64, rfl, rfl, hI⟩
    obtain ⟨-, hk, -, -, h0, -⟩ := hI
    obtain ⟨hp, hg, ⟨hz1, hz2⟩, hd, h0⟩ := h0 rfl
    have HD := hide hd
    have HE := hide h0
    clear h0 hd
    obtain ⟨b1, b2⟩ : 48 ≤ bAt s k ∧ bAt s k ≤ 57 := by simpa [digB] using unhide HD
    have hlt := digB_lt s k (unhide HD)
    have hk1 : k + 1 ≤ s.size := by omega
    go_wp2_with fail
    refine (byteAt_c s k _ hs hk).mono ?_
    rintro e w2 ⟨rfl, rfl⟩
    by_cases hm : 1000 < sz * 10 + (bAt s k - 48)
    · have HN := hide ((DD_much s k p (x, y, z) sg sz (unhide HD) hm).symm.trans (unhide HE))
      go_wp2_with fail
      go_step3
      exact ⟨lab_mk (inv_wrong (sg := sg) (sz := sz * 10 + (bAt s k - 48)) (p := p) (k := k) hk (unhide HN)), by simp [meas, wt, intOf] <;> omega⟩
    · go_wp2_with fail
      rw [show ((k : Int) + 1) = ((k + 1 : Nat) : Int) from by omega]
      refine (byteAt_c s (k + 1) _ hs hk1).mono ?_
      rintro e w2 ⟨rfl, rfl⟩
      go_wp2_with fail
      refine (isDigit_c _ _).mono ?_
      rintro e w2 ⟨rfl, rfl⟩
      cases hd2 : digB (bAt s (k + 1)) with
      | true =>
        have HN := hide ((DD_more s k p (x, y, z) sg sz (unhide HD) (by omega) hd2).symm.trans (unhide HE))
        have HD2 := hide hd2
        clear hd2
        go_wp2_with fail
        go_step3
        exact ⟨lab_mk (inv_digit (sg := sg) (sz := sz * 10 + (bAt s k - 48)) (p := p) (k := k + 1) hk1 hp hg (by omega) (unhide HD2) (unhide HN)), by simp [meas, wt, intOf] <;> omega⟩
      | false =>
        have HN := hide ((DD_end s k p (x, y, z) sg sz (unhide HD) (by omega) hd2).symm.trans (unhide HE))
        clear hd2 HE
        have HE := HN
        clear HN
        go_wp2_with fail
        go_step3
        have hbv : -1000 ≤ sg * (sz * 10 + (bAt s k - 48)) ∧ sg * (sz * 10 + (bAt s k - 48)) ≤ 1000 := by rcases hg with rfl | rfl <;> omega
        obtain ⟨hb1, hb2⟩ := hbv
        rcases (show p = 0 ∨ p = 1 ∨ p = 2 by omega) with rfl | rfl | rfl
        · go_wp2_with fail
          refine (byteAt_c s (k + 1) _ hs hk1).mono ?_
          rintro e w2 ⟨rfl, rfl⟩
          by_cases h44 : bAt s (k + 1) = 44
          · have e44 : (bAt s (k + 1) != 44) = false := by rw [h44]; rfl
            have hlt4 := lt_of_bAt s (k + 1) (by omega)
            have HN := hide ((EE_comma s (k + 1) 0 (sg * (sz * 10 + (bAt s k - 48)), y, z) (by omega) h44).symm.trans (unhide HE))
            clear h44
            go_wp2_with fail
            go_step3
            first | rw [show (((k + 1 : Nat) : Int) + 1) = ((k + 1 + 1 : Nat) : Int) from by omega] | rw [show ((k : Int) + 1 + 1) = ((k + 1 + 1 : Nat) : Int) from by omega]
            exact ⟨lab_mk (inv_part (sg := sg) (sz := sz * 10 + (bAt s k - 48)) (p := 1) (k := k + 1 + 1) (by omega) (by omega) (unhide HN)), by simp [meas, wt, intOf] <;> omega⟩
          · have e44 : (bAt s (k + 1) != 44) = true := by rw [bne_iff_ne]; exact h44
            have HN := hide ((EE_wrong s (k + 1) 0 (sg * (sz * 10 + (bAt s k - 48)), y, z) (by omega) h44).symm.trans (unhide HE))
            clear h44
            go_wp2_with fail
            go_step3
            exact ⟨lab_mk (inv_wrong (sg := sg) (sz := sz * 10 + (bAt s k - 48)) (p := 1) (k := k + 1) hk1 (unhide HN)), by simp [meas, wt, intOf] <;> omega⟩
        · go_wp2_with fail
          refine (byteAt_c s (k + 1) _ hs hk1).mono ?_
          rintro e w2 ⟨rfl, rfl⟩
          by_cases h44 : bAt s (k + 1) = 44
          · have e44 : (bAt s (k + 1) != 44) = false := by rw [h44]; rfl
            have hlt4 := lt_of_bAt s (k + 1) (by omega)
            have HN := hide ((EE_comma s (k + 1) 1 (x, sg * (sz * 10 + (bAt s k - 48)), z) (by omega) h44).symm.trans (unhide HE))
            clear h44
            go_wp2_with fail
            go_step3
            first | rw [show (((k + 1 : Nat) : Int) + 1) = ((k + 1 + 1 : Nat) : Int) from by omega] | rw [show ((k : Int) + 1 + 1) = ((k + 1 + 1 : Nat) : Int) from by omega]
            exact ⟨lab_mk (inv_part (sg := sg) (sz := sz * 10 + (bAt s k - 48)) (p := 2) (k := k + 1 + 1) (by omega) (by omega) (unhide HN)), by simp [meas, wt, intOf] <;> omega⟩
          · have e44 : (bAt s (k + 1) != 44) = true := by rw [bne_iff_ne]; exact h44
            have HN := hide ((EE_wrong s (k + 1) 1 (x, sg * (sz * 10 + (bAt s k - 48)), z) (by omega) h44).symm.trans (unhide HE))
            clear h44
            go_wp2_with fail
            go_step3
            exact ⟨lab_mk (inv_wrong (sg := sg) (sz := sz * 10 + (bAt s k - 48)) (p := 2) (k := k + 1) hk1 (unhide HN)), by simp [meas, wt, intOf] <;> omega⟩
        · have HN := hide ((EE_last (x, y, sg * (sz * 10 + (bAt s k - 48))) (rest s (k + 1))).symm.trans (unhide HE))
          go_wp2_with fail
          go_step3
          exact ⟨lab_mk (inv_last (sg := sg) (sz := sz * 10 + (bAt s k - 48)) (p := 3) (k := k + 1) hk1 (unhide HN)), by simp [meas, wt, intOf] <;> omega⟩
  · rintro a2 w2 ⟨sg, sz, p, k, x, y, z, u9, u10, u11, u12, u13, u14, u15, u16, u17, u18, u19, u20, u21, u22, u23, u24, u25, u26, u27, u28, u29, u30, u31, u32, u33, u34, u35, u36, u37, u38, u39, u40, u41, u42, u43, u44, u45, u46, u47, u48, u49, u50, u51, u52, u53, u54, u55, u56, u57, u58, u59, u60, u61, u62, u63, u64, rfl, rfl, hI⟩
    obtain ⟨-, hk, -, -, -, h0, -⟩ := hI
    obtain ⟨hp, hg, ⟨hz1, hz2⟩, h0⟩ := h0 rfl
    have HE := hide h0
    clear h0
    have hbv : -1000 ≤ sg * (sz) ∧ sg * (sz) ≤ 1000 := by rcases hg with rfl | rfl <;> omega
    obtain ⟨hb1, hb2⟩ := hbv
    rcases (show p = 0 ∨ p = 1 ∨ p = 2 by omega) with rfl | rfl | rfl
    · go_wp2_with fail
      refine (byteAt_c s (k) _ hs hk).mono ?_
      rintro e w2 ⟨rfl, rfl⟩
      by_cases h44 : bAt s (k) = 44
      · have e44 : (bAt s (k) != 44) = false := by rw [h44]; rfl
        have hlt4 := lt_of_bAt s (k) (by omega)
        have HN := hide ((EE_comma s (k) 0 (sg * (sz), y, z) (by omega) h44).symm.trans (unhide HE))
        clear h44
        go_wp2_with fail
        go_step3
        first | rw [show (((k : Nat) : Int) + 1) = ((k + 1 : Nat) : Int) from by omega] | rw [show ((k : Int) + 1 + 1) = ((k + 1 + 1 : Nat) : Int) from by omega]
        exact ⟨lab_mk (inv_part (sg := sg) (sz := sz) (p := 1) (k := k + 1) (by omega) (by omega) (unhide HN)), by simp [meas, wt, intOf] <;> omega⟩
      · have e44 : (bAt s (k) != 44) = true := by rw [bne_iff_ne]; exact h44
        have HN := hide ((EE_wrong s (k) 0 (sg * (sz), y, z) (by omega) h44).symm.trans (unhide HE))
        clear h44
        go_wp2_with fail
        go_step3
        exact ⟨lab_mk (inv_wrong (sg := sg) (sz := sz) (p := 1) (k := k) hk (unhide HN)), by simp [meas, wt, intOf] <;> omega⟩
    · go_wp2_with fail
      refine (byteAt_c s (k) _ hs hk).mono ?_
      rintro e w2 ⟨rfl, rfl⟩
      by_cases h44 : bAt s (k) = 44
      · have e44 : (bAt s (k) != 44) = false := by rw [h44]; rfl
        have hlt4 := lt_of_bAt s (k) (by omega)
        have HN := hide ((EE_comma s (k) 1 (x, sg * (sz), z) (by omega) h44).symm.trans (unhide HE))
        clear h44
        go_wp2_with fail
        go_step3
        first | rw [show (((k : Nat) : Int) + 1) = ((k + 1 : Nat) : Int) from by omega] | rw [show ((k : Int) + 1 + 1) = ((k + 1 + 1 : Nat) : Int) from by omega]
        exact ⟨lab_mk (inv_part (sg := sg) (sz := sz) (p := 2) (k := k + 1) (by omega) (by omega) (unhide HN)), by simp [meas, wt, intOf] <;> omega⟩
      · have e44 : (bAt s (k) != 44) = true := by rw [bne_iff_ne]; exact h44
        have HN := hide ((EE_wrong s (k) 1 (x, sg * (sz), z) (by omega) h44).symm.trans (unhide HE))
        clear h44
        go_wp2_with fail
        go_step3
        exact ⟨lab_mk (inv_wrong (sg := sg) (sz := sz) (p := 2) (k := k) hk (unhide HN)), by simp [meas, wt, intOf] <;> omega⟩
    · have HN := hide ((EE_last (x, y, sg * (sz)) (rest s (k))).symm.trans (unhide HE))
      go_wp2_with fail
      go_step3
      exact ⟨lab_mk (inv_last (sg := sg) (sz := sz) (p := 3) (k := k) hk (unhide HN)), by simp [meas, wt, intOf] <;> omega⟩
  · rintro a2 w2 ⟨sg, sz, p, k, x, y, z, u9, u10, u11, u12, u13, u14, u15, u16, u17, u18, u19, u20, u21, u22, u23, u24, u25, u26, u27, u28, u29, u30, u31, u32, u33, u34, u35, u36, u37, u38, u39, u40, u41, u42, u43, u44, u45, u46, u47, u48, u49, u50, u51, u52, u53, u54, u55, u56, u57, u58, u59, u60, u61, u62, u63, u64, rfl, rfl, hI⟩
    obtain ⟨-, hk, -, -, -, -, h0⟩ := hI
    have HE := hide (h0 rfl)
    clear h0
    by_cases hsz : k = s.size
    · have esz : ((k : Int) == (s.size : Int)) = true := by rw [beq_iff_eq]; omega
      have HN := hide ((fin3_end s k (x, y, z) (by omega)).symm.trans (unhide HE))
      clear hsz
      go_wp2_with fail
      simp only [jumps]
      try rw [Exit.noGoto_ret]
      refine bodyPost_ret (v := .tuple #[arr3 x y z, .bool true]) (by simp [results, Tryz.results70, go_sem, arr3]) rfl ⟨by rw [← unhide HN]; rfl, ?_⟩
      exact ((Below.refl _ _).alloc (Nat.le_refl _) _).alloc (by simp) _
    · have esz : ((k : Int) == (s.size : Int)) = false := by rw [beq_eq_false_iff_ne]; omega
      have HW := hide ((fin3_more s k (x, y, z) (by omega)).symm.trans (unhide HE)).symm
      clear hsz
      go_wp2_with fail
      go_step3
      go_wp2_with fail
      simp only [jumps]
      try rw [Exit.noGoto_ret]
      refine bodyPost_ret (v := .tuple #[arr3 0 0 0, .bool false]) (by simp [results, Tryz.results70, go_sem, arr3]) rfl ⟨by rw [unhide HW]; rfl, ?_⟩
      exact ((Below.refl _ _).alloc (Nat.le_refl _) _).alloc (by simp) _

end Go.Proofs.YtjofcmdlcoganaaGreatDoor

namespace Go.Proofs.YtjofcmdlcoganaaGreatDoor
open Go.RowKit

/-- A text of at most d digits as a number. -/
def readN (d : Nat) (l : Bytes) : Int × Bool :=
  if l.length = 0 then (0, false) else if d < l.length then (0, false)
  else if 1 < l.length ∧ l.head? = some 48 then (0, false)
  else if allDig l = true then (dval 0 l, true) else (0, false)

set_option maxRecDepth 100000 in
set_option maxHeartbeats 1600000 in
theorem readNumber_c (b : ByteArray) (d : Nat) (w : World) (hs : b.size ≤ 1048576) (hd : d ≤ 4) :
    Calls Tryz.prog 45 #[.string b, .int .i64 d] w fun e w' => e = .returned (.tuple #[.int .i64 (readN d b.data.toList).1, .bool (readN d b.data.toList).2]) ∧ w' = w := by
  have hlen : b.data.toList.length = b.size := by simp
  by_cases h0 : b.size = 0
  · have HN : Hid (readN d b.data.toList = (0, false)) := by
      show readN d b.data.toList = (0, false)
      unfold readN
      rw [hlen, if_pos h0]
    have e0 : ((b.size : Int) == 0) = true := by rw [beq_iff_eq]; omega
    clear hlen h0
    go_enter Tryz.func45, Tryz.ntmps45
    go_wp2
    go_ret2
    exact ⟨by rw [unhide HN]; rfl, rfl⟩
  have e0 : ((b.size : Int) == 0) = false := by rw [beq_eq_false_iff_ne]; omega
  by_cases h1 : d < b.size
  · have HN : Hid (readN d b.data.toList = (0, false)) := by
      show readN d b.data.toList = (0, false)
      unfold readN
      rw [hlen, if_neg h0, if_pos h1]
    have e1 : decide ((d : Int) < (b.size : Int)) = true := by simp; omega
    clear hlen h0
    go_enter Tryz.func45, Tryz.ntmps45
    go_wp2
    go_ret2
    exact ⟨by rw [unhide HN]; rfl, rfl⟩
  have e1 : decide ((d : Int) < (b.size : Int)) = false := by simp; omega
  have hpos : 0 < b.size := by omega
  have hhead : b.data.toList.head? = some (b[0]'hpos) := by
    have e : b.data.toList = b[0] :: rest b 1 := rest_cons b 0 hpos
    rw [e]; rfl
  have h48 : (b[0]'hpos = 48) ↔ ((b[0]'hpos).toNat = 48) := by
    constructor
    · intro h; rw [h]; rfl
    · intro h; exact UInt8.toNat_inj.1 h
  by_cases h2 : 1 < b.size ∧ (b[0]'hpos).toNat = 48
  · have HN : Hid (readN d b.data.toList = (0, false)) := by
      show readN d b.data.toList = (0, false)
      unfold readN
      rw [hlen, if_neg h0, if_neg h1, if_pos ⟨h2.1, by rw [hhead, h48.2 h2.2]⟩]
    have e2 : decide ((1 : Int) < (b.size : Int)) = true := by simp; omega
    have e3 : (((b[0]'hpos).toNat : Int) == 48) = true := by rw [beq_iff_eq]; omega
    clear hlen h0 h2 hhead h48
    go_enter Tryz.func45, Tryz.ntmps45
    go_wp2
    go_ret2
    exact ⟨by rw [unhide HN]; rfl, rfl⟩
  have HN : Hid (∀ r, (allDig (b.data.toList.drop 0) = false → (0, false) = r) → (allDig (b.data.toList.drop 0) = true → (dval 0 (b.data.toList.drop 0), true) = r) → readN d b.data.toList = r) := by
    intro r g1 g2
    unfold readN
    rw [hlen, if_neg h0, if_neg h1, if_neg (by rintro ⟨a1, a2⟩; rw [hhead] at a2; exact h2 ⟨a1, h48.1 (Option.some.inj a2)⟩)]
    cases ha : allDig b.data.toList with
    | true => rw [if_pos rfl]; exact g2 ha
    | false => rw [if_neg (by simp)]; exact g1 ha
  have loop : ∀ (E : Hid ((decide ((1 : Int) < (b.size : Int)) = true ∧ (((b[0]'hpos).toNat : Int) == 48) = false) ∨ decide ((1 : Int) < (b.size : Int)) = false)), Calls Tryz.prog 45 #[.string b, .int .i64 d] w fun e w' => e = .returned (.tuple #[.int .i64 (readN d b.data.toList).1, .bool (readN d b.data.toList).2]) ∧ w' = w := by
    intro E
    clear hlen h2 hhead h48
    rcases unhide E with ⟨e2, e3⟩ | e2
    all_goals
      clear E
      go_enter Tryz.func45, Tryz.ntmps45
      go_wp2_with fail
      go_loop [6, 29] (fun n i => ∃ k : Nat, k ≤ b.size ∧ i = .int .i64 k ∧ n = .int .i64 (dval 0 (seg b 0 k)) ∧ allDig (seg b 0 k) = true) (fun _ i => b.size - (intOf i).toNat)
      case atStart => exact ⟨0, by omega, rfl, by rw [seg_start]; rfl, by rw [seg_start]; rfl⟩
      case round =>
        obtain ⟨k, hk, rfl, rfl, hall⟩ := hrel
        have hsl : (seg b 0 k).length ≤ 4 := by unfold seg; simp; omega
        have hdb := dval_lt _ hall hsl
        by_cases hlt : k < b.size
        · have HS := hide (seg_snoc b 0 k (by omega) hlt)
          have HA := hide hall
          have hb8 := b[k].toNat_lt
          have hbt : digB (b[k].toNat : Int) = isDig b[k] := by
            unfold digB isDig
            congr 1 <;> simp <;> omega
          cases hdg : isDig b[k] with
          | true =>
            rw [hdg] at hbt
            have hb := isDig_bd hdg
            have HD := hide hdg
            have HT := hide hbt
            obtain ⟨hb1, hb2⟩ := hb
            obtain ⟨hv1, hv2⟩ := hdb
            clear hdg hall hbt
            generalize hcc : dval 0 (seg b 0 k) = v at *
            have HV := hide hcc
            clear hcc
            go_wp2_with fail
            refine (isDigit_c (b[k].toNat : Int) w).mono ?_
            rintro e w1 ⟨rfl, rfl⟩
            rw [unhide HT]
            go_wp2_with fail
            go_round
            case rel =>
              refine ⟨k + 1, by omega, by go_num, ?_, ?_⟩
              · rw [unhide HS, dval_snoc, unhide HV]
              · rw [unhide HS, allDig_snoc, unhide HA, unhide HD]; rfl
            case measure => simp [intOf]; omega
          | false =>
            rw [hdg] at hbt
            have HT := hide hbt
            have HX := hide (unhide HN (0, false) (fun _ => rfl) (fun h => by rw [seg_bad b 0 k (by omega) hlt hdg] at h; simp at h))
            clear hdg hall HN hbt
            go_wp2_with fail
            refine (isDigit_c (b[k].toNat : Int) w).mono ?_
            rintro e w1 ⟨rfl, rfl⟩
            rw [unhide HT]
            go_wp2_with fail
            go_ret2
            exact ⟨by rw [unhide HX]; rfl, rfl⟩
        · obtain rfl : k = b.size := by omega
          rw [seg_all] at hall hdb hsl ⊢
          have HX := hide (unhide HN _ (fun h => by rw [hall] at h; simp at h) (fun _ => rfl))
          obtain ⟨hv1, hv2⟩ := hdb
          generalize dval 0 (b.data.toList.drop 0) = v at *
          clear hall HN
          go_wp2_with fail
          go_ret2
          exact ⟨by rw [unhide HX]; rfl, rfl⟩
  refine loop ?_
  show _ ∨ _
  by_cases h3 : 1 < b.size
  · exact Or.inl ⟨by simp; omega, by rw [beq_eq_false_iff_ne]; intro h; exact h2 ⟨h3, by omega⟩⟩
  · exact Or.inr (by simp; omega)

end Go.Proofs.YtjofcmdlcoganaaGreatDoor

namespace Go.Proofs.YtjofcmdlcoganaaGreatDoor

theorem readN_sound {d : Nat} {l : Bytes} {v : Int} (hd : d ≤ 4) (h : readN d l = (v, true)) : dec v = l ∧ 0 ≤ v ∧ v ≤ 9999 := by
  unfold readN at h
  split at h
  · simp at h
  next h0 =>
  split at h
  · simp at h
  next h1 =>
  split at h
  · simp at h
  next h2 =>
  split at h
  · next h3 =>
    obtain rfl : dval 0 l = v := by simpa using h
    have hb := dval_lt l h3 (by omega)
    refine ⟨?_, hb⟩
    rw [dec_pos (by omega)]
    refine decF_of 3 l _ h3 (fun e => h0 (by rw [e]; rfl)) ?_ (by omega) (by omega)
    intro c r e hr hc
    refine h2 ⟨?_, ?_⟩
    · rw [e]
      cases r with
      | nil => exact absurd rfl hr
      | cons a b => simp
    · rw [e]
      simp only [List.head?_cons, Option.some.injEq]
      exact UInt8.toNat_inj.1 hc
  · simp at h

theorem decF_short (k : Nat) : ∀ (f n : Nat), n < 10 ^ (k + 1) → (decF f n).length ≤ k + 1 := by
  induction k with
  | zero =>
    intro f n h
    cases f with
    | zero => simp [decF]
    | succ f => rw [decF, if_pos (by omega)]; simp
  | succ k ih =>
    intro f n h
    cases f with
    | zero => simp [decF]
    | succ f =>
      rw [decF]
      split
      · simp
      · have := ih f (n / 10) (by rw [Nat.pow_succ] at h; omega)
        simp
        omega

theorem readN_dec {k : Nat} {v : Int} (h1 : 1 ≤ v) (h2 : v.toNat < 10 ^ (k + 1)) (h3 : v ≤ 9999) : readN (k + 1) (dec v) = (v, true) := by
  obtain ⟨f1, f2, f3, f4⟩ := decF_facts 3 v.toNat (by omega)
  have hl := decF_short k 4 v.toNat h2
  rw [dec_pos (by omega)]
  unfold readN
  rw [if_neg (fun h => f2 (List.eq_nil_of_length_eq_zero h)), if_neg (by omega), if_neg ?_, if_pos f1, f3]
  · congr 1
    omega
  · rintro ⟨-, h⟩
    cases hc : decF 4 v.toNat with
    | nil => exact f2 hc
    | cons c r =>
      rw [hc] at h
      simp only [List.head?_cons, Option.some.injEq] at h
      exact f4 (by omega) c r hc (by rw [h]; rfl)

end Go.Proofs.YtjofcmdlcoganaaGreatDoor

namespace Go.Proofs.YtjofcmdlcoganaaGreatDoor
open Go.RowKit

def tailI (k : Int) (zs : List Int) (a b c : Bytes) : Bool := ((readN 3 a).2 && (readN 1 b).2 && (readN 3 c).2) && (writeFault k (readN 3 a).1 zs (readN 1 b).1 (readN 3 c).1 == 0)
def tailX (k : Int) (zs : List Int) (a b c : Bytes) : DWrite := ⟨k, (readN 3 a).1, zs, (readN 1 b).1, (readN 3 c).1⟩
def readI : List Bytes → Option DWrite
  | [c0, c1, c2, c3, c4, c5] => if c0 = [112, 117, 116] ∧ c3 = [98, 121] then (match PP 3 (0, 0, 0) c2 with | none => none | some t => if tailI 1 [t.1, t.2.1, t.2.2] c1 c4 c5 = true then some (tailX 1 [t.1, t.2.1, t.2.2] c1 c4 c5) else none) else none
  | [c0, c1, c2, c3, c4] => if c0 = [100, 114, 111, 112] ∧ c2 = [98, 121] then (if tailI 2 [] c1 c3 c4 = true then some (tailX 2 [] c1 c3 c4) else none) else none
  | _ => none
theorem readN_numR {d : Nat} {a : Bytes} (hd : d ≤ 4) (h : (readN d a).2 = true) (h1 : 1 ≤ (readN d a).1) (h2 : (readN d a).1 ≤ 999) : numR a = ((readN d a).1, true) := by
  obtain ⟨e, -, -⟩ := readN_sound (v := (readN d a).1) hd (by rw [← h])
  have := numR_dec (v := (readN d a).1) (by omega) (by omega)
  rwa [e] at this
theorem numR_readN {k : Nat} {a : Bytes} (h : (numR a).2 = true) (h1 : 1 ≤ (numR a).1) (h2 : (numR a).1.toNat < 10 ^ (k + 1)) (h3 : (numR a).1 ≤ 9999) : readN (k + 1) a = ((numR a).1, true) := by
  have e := numR_true h
  have := readN_dec (k := k) h1 h2 h3
  rwa [e] at this
theorem tail_same (k : Int) (zs : List Int) (a b c : Bytes) : (if tailI k zs a b c = true then some (tailX k zs a b c) else none) = (if tailOk k zs a b c = true then some (tailW k zs a b c) else none) := by
  by_cases hI : tailI k zs a b c = true
  · have h := hI
    unfold tailI at h
    simp only [Bool.and_eq_true, beq_iff_eq] at h
    obtain ⟨⟨⟨ha, hb⟩, hc⟩, hf⟩ := h
    obtain ⟨w1, w2, w3, -⟩ := writeFault_zero hf
    have ea := readN_numR (by decide) ha w1.1 w1.2
    have eb := readN_numR (by decide) hb w2.1 (by omega)
    have ec := readN_numR (by decide) hc w3.1 w3.2
    have hO : tailOk k zs a b c = true := by
      unfold tailOk
      rw [ea, eb, ec, hf]
      rfl
    rw [if_pos hI, if_pos hO, tailX, tailW, ea, eb, ec]
  · rw [if_neg hI]
    by_cases hO : tailOk k zs a b c = true
    · exfalso
      have h := hO
      unfold tailOk at h
      simp only [Bool.and_eq_true, beq_iff_eq] at h
      obtain ⟨⟨⟨ha, hb⟩, hc⟩, hf⟩ := h
      obtain ⟨w1, w2, w3, -⟩ := writeFault_zero hf
      have ea := numR_readN (k := 2) ha w1.1 (by omega) (by omega)
      have eb := numR_readN (k := 0) hb w2.1 (by omega) (by omega)
      have ec := numR_readN (k := 2) hc w3.1 (by omega) (by omega)
      apply hI
      unfold tailI
      rw [ea, eb, ec, hf]
      rfl
    · rw [if_neg hO]
theorem readI_eq (l : List Bytes) : readI l = readM l := by
  unfold readI
  split
  · rename_i c0 c1 c2 c3 c4 c5
    show _ = readPut c0 c1 c2 c3 c4 c5
    unfold readPut
    by_cases hc : c0 = [112, 117, 116] ∧ c3 = [98, 121]
    · rw [if_pos hc, if_pos hc, modelP_eq]
      cases PP 3 (0, 0, 0) c2 with
      | none => rfl
      | some t => exact tail_same 1 [t.1, t.2.1, t.2.2] c1 c4 c5
    · rw [if_neg hc, if_neg hc]
  · rename_i c0 c1 c2 c3 c4
    show _ = readDrop c0 c1 c2 c3 c4
    unfold readDrop
    by_cases hc : c0 = [100, 114, 111, 112] ∧ c2 = [98, 121]
    · rw [if_pos hc, if_pos hc]
      exact tail_same 2 [] c1 c3 c4
    · rw [if_neg hc, if_neg hc]
  · rename_i h1 h2
    unfold readM
    split
    · exact absurd rfl (h1 _ _ _ _ _ _)
    · exact absurd rfl (h2 _ _ _ _ _)
    · rfl

end Go.Proofs.YtjofcmdlcoganaaGreatDoor

namespace Go.Proofs.YtjofcmdlcoganaaGreatDoor
open Go.RowKit

/-- A put of three parts, and a drop, as deeds. -/
def putV (x y z : Int) : Value := .iface 89 (.agg #[.int .i64 x, .int .i64 y, .int .i64 z])
def dropV : Value := .iface 85 (.agg #[])
def deedV (k : Int) (zs : List Int) : Value := if k = 1 then putV (zs.getD 0 0) (zs.getD 1 0) (zs.getD 2 0) else dropV
def deedRes (k i : Int) (zs : List Int) (s q : Int) : Value := if writeFault k i zs s q = 0 then deedV k zs else .nilIface

def Bds (i s q : Int) : Prop := (1 ≤ i ∧ i ≤ 999) ∧ (1 ≤ s ∧ s ≤ 9) ∧ 1 ≤ q ∧ q ≤ 999
theorem bound_yes {i s q : Int} (h : Bds i s q) : boundB i s q = true := by
  obtain ⟨⟨a, b⟩, ⟨c, d⟩, e, f⟩ := h
  simp [boundB, a, b, c, d, e, f]
theorem bound_no {i s q : Int} (h : ¬ Bds i s q) : boundB i s q = false := by
  rw [Bool.eq_false_iff]
  intro hb
  simp only [boundB, Bool.and_eq_true, decide_eq_true_eq] at hb
  exact h ⟨hb.1, hb.2.1, hb.2.2⟩
theorem fault_out {k i s q : Int} {zs : List Int} (hk : kindB k zs.length = true) (h : ¬ Bds i s q) : writeFault k i zs s q = 3 := by
  rw [writeFault, hk, if_pos rfl, bound_no h]; rfl
theorem fault_drop {i s q : Int} (h : Bds i s q) : writeFault 2 i [] s q = 0 := by
  rw [writeFault, show kindB 2 ([] : List Int).length = true from rfl, if_pos rfl, bound_yes h]; rfl
theorem fault_in {k i s q : Int} {zs : List Int} (hk : kindB k zs.length = true) (h : Bds i s q) : writeFault k i zs s q = if k = 1 then vecFault zs else 0 := by
  rw [writeFault, hk, if_pos rfl, bound_yes h, if_pos rfl]

def ToldDeed (w w' : World) (e : Ending) (k i : Int) (zs : List Int) (s q : Int) : Prop := e = .returned (.tuple #[deedRes k i zs s q, .int .i64 (writeFault k i zs s q)]) ∧ Below w.heap.size w w'
theorem toldDeed_bad {w w' : World} {k i s q c : Int} {zs : List Int} (hc : writeFault k i zs s q = c) (h0 : c ≠ 0) (hb : Below w.heap.size w w') : ToldDeed w w' (.returned (.tuple #[.nilIface, .int .i64 c])) k i zs s q := by
  refine ⟨?_, hb⟩
  rw [deedRes, hc, if_neg h0]
theorem toldDeed_ok {w w' : World} {k i s q : Int} {zs : List Int} {v : Value} (hc : writeFault k i zs s q = 0) (hv : v = deedV k zs) (hb : Below w.heap.size w w') : ToldDeed w w' (.returned (.tuple #[v, .int .i64 0])) k i zs s q := by
  refine ⟨?_, hb⟩
  rw [deedRes, hc, if_pos rfl, hv]

theorem isIdC (n : Int) (w : World) : Calls Tryz.prog 47 #[.int .i64 n] w fun e w' => e = .returned (.bool (decide (1 ≤ n) && decide (n ≤ 999))) ∧ w' = w := by
  by_cases h1 : 1 ≤ n
  · have d1 : decide (1 ≤ n) = true := by simpa using h1
    rw [d1]
    cases d2 : decide (n ≤ 999) <;>
    · go_enter Tryz.func47, Tryz.ntmps47
      go_wp2
      go_ret
      exact ⟨rfl, rfl⟩
  · have d1 : decide (1 ≤ n) = false := by simpa using h1
    rw [d1]
    go_enter Tryz.func47, Tryz.ntmps47
    go_wp2
    go_ret
    exact ⟨rfl, rfl⟩
theorem isSessionC (n : Int) (w : World) : Calls Tryz.prog 48 #[.int .i64 n] w fun e w' => e = .returned (.bool (decide (1 ≤ n) && decide (n ≤ 9))) ∧ w' = w := by
  by_cases h1 : 1 ≤ n
  · have d1 : decide (1 ≤ n) = true := by simpa using h1
    rw [d1]
    cases d2 : decide (n ≤ 9) <;>
    · go_enter Tryz.func48, Tryz.ntmps48
      go_wp2
      go_ret
      exact ⟨rfl, rfl⟩
  · have d1 : decide (1 ≤ n) = false := by simpa using h1
    rw [d1]
    go_enter Tryz.func48, Tryz.ntmps48
    go_wp2
    go_ret
    exact ⟨rfl, rfl⟩
theorem isSeqC (n : Int) (w : World) : Calls Tryz.prog 49 #[.int .i64 n] w fun e w' => e = .returned (.bool (decide (1 ≤ n) && decide (n ≤ 999))) ∧ w' = w := by
  by_cases h1 : 1 ≤ n
  · have d1 : decide (1 ≤ n) = true := by simpa using h1
    rw [d1]
    cases d2 : decide (n ≤ 999) <;>
    · go_enter Tryz.func49, Tryz.ntmps49
      go_wp2
      go_ret
      exact ⟨rfl, rfl⟩
  · have d1 : decide (1 ≤ n) = false := by simpa using h1
    rw [d1]
    go_enter Tryz.func49, Tryz.ntmps49
    go_wp2
    go_ret
    exact ⟨rfl, rfl⟩

set_option maxHeartbeats 2000000 in
theorem deedOf_put_out (i : Int) (ao : Option Addr) (cap : Nat) (s q : Int) (zs : List Int) (w : World) (hb : ¬ Bds i s q) :
    Calls Tryz.prog 24 #[.agg #[.int .i64 1, .int .i64 i, .slice ao zs.length cap, .int .i64 s, .int .i64 q]] w fun e w' => ToldDeed w w' e 1 i zs s q := by
  have HB : Hid (∀ o, Below w.heap.size w (w.alloc o)) := fun o => (Below.refl _ _).alloc (Nat.le_refl _) o
  have HF : Hid (writeFault 1 i zs s q = 3) := fault_out rfl hb
  have hbb := bound_no hb
  unfold boundB at hbb
  clear hb
  cases dI : (decide (1 ≤ i) && decide (i ≤ 999)) with
  | false =>
    clear hbb
    go_enter Tryz.func24, Tryz.ntmps24
    go_wp2_with fail
    refine (isIdC i _).mono ?_
    rintro e w1 ⟨rfl, rfl⟩
    rw [dI]
    go_wp2_with fail
    go_ret2
    exact toldDeed_bad (unhide HF) (by omega) (unhide HB _)
  | true =>
    cases dS : (decide (1 ≤ s) && decide (s ≤ 9)) with
    | false =>
      clear hbb
      go_enter Tryz.func24, Tryz.ntmps24
      go_wp2_with fail
      refine (isIdC i _).mono ?_
      rintro e w1 ⟨rfl, rfl⟩
      rw [dI]
      go_wp2_with fail
      refine (isSessionC s _).mono ?_
      rintro e w1 ⟨rfl, rfl⟩
      rw [dS]
      go_wp2_with fail
      go_ret2
      exact toldDeed_bad (unhide HF) (by omega) (unhide HB _)
    | true =>
      have dQ : (decide (1 ≤ q) && decide (q ≤ 999)) = false := by rw [dI, dS] at hbb; simpa using hbb
      clear hbb
      go_enter Tryz.func24, Tryz.ntmps24
      go_wp2_with fail
      refine (isIdC i _).mono ?_
      rintro e w1 ⟨rfl, rfl⟩
      rw [dI]
      go_wp2_with fail
      refine (isSessionC s _).mono ?_
      rintro e w1 ⟨rfl, rfl⟩
      rw [dS]
      go_wp2_with fail
      refine (isSeqC q _).mono ?_
      rintro e w1 ⟨rfl, rfl⟩
      rw [dQ]
      go_wp2_with fail
      go_ret2
      exact toldDeed_bad (unhide HF) (by omega) (unhide HB _)

set_option maxHeartbeats 2000000 in
theorem deedOf_drop_out (i : Int) (ao : Option Addr) (cap : Nat) (s q : Int) (w : World) (hb : ¬ Bds i s q) :
    Calls Tryz.prog 24 #[.agg #[.int .i64 2, .int .i64 i, .slice ao 0 cap, .int .i64 s, .int .i64 q]] w fun e w' => ToldDeed w w' e 2 i [] s q := by
  have HB : Hid (∀ o, Below w.heap.size w (w.alloc o)) := fun o => (Below.refl _ _).alloc (Nat.le_refl _) o
  have HF : Hid (writeFault 2 i [] s q = 3) := fault_out rfl hb
  have hbb := bound_no hb
  unfold boundB at hbb
  clear hb
  cases dI : (decide (1 ≤ i) && decide (i ≤ 999)) with
  | false =>
    clear hbb
    go_enter Tryz.func24, Tryz.ntmps24
    go_wp2_with fail
    refine (isIdC i _).mono ?_
    rintro e w1 ⟨rfl, rfl⟩
    rw [dI]
    go_wp2_with fail
    go_ret2
    exact toldDeed_bad (unhide HF) (by omega) (unhide HB _)
  | true =>
    cases dS : (decide (1 ≤ s) && decide (s ≤ 9)) with
    | false =>
      clear hbb
      go_enter Tryz.func24, Tryz.ntmps24
      go_wp2_with fail
      refine (isIdC i _).mono ?_
      rintro e w1 ⟨rfl, rfl⟩
      rw [dI]
      go_wp2_with fail
      refine (isSessionC s _).mono ?_
      rintro e w1 ⟨rfl, rfl⟩
      rw [dS]
      go_wp2_with fail
      go_ret2
      exact toldDeed_bad (unhide HF) (by omega) (unhide HB _)
    | true =>
      have dQ : (decide (1 ≤ q) && decide (q ≤ 999)) = false := by rw [dI, dS] at hbb; simpa using hbb
      clear hbb
      go_enter Tryz.func24, Tryz.ntmps24
      go_wp2_with fail
      refine (isIdC i _).mono ?_
      rintro e w1 ⟨rfl, rfl⟩
      rw [dI]
      go_wp2_with fail
      refine (isSessionC s _).mono ?_
      rintro e w1 ⟨rfl, rfl⟩
      rw [dS]
      go_wp2_with fail
      refine (isSeqC q _).mono ?_
      rintro e w1 ⟨rfl, rfl⟩
      rw [dQ]
      go_wp2_with fail
      go_ret2
      exact toldDeed_bad (unhide HF) (by omega) (unhide HB _)

set_option maxHeartbeats 2000000 in
theorem deedOf_drop (i : Int) (ao : Option Addr) (cap : Nat) (s q : Int) (w : World) (hb : Bds i s q) :
    Calls Tryz.prog 24 #[.agg #[.int .i64 2, .int .i64 i, .slice ao 0 cap, .int .i64 s, .int .i64 q]] w fun e w' => ToldDeed w w' e 2 i [] s q := by
  have HB : Hid (∀ o, Below w.heap.size w (w.alloc o)) := fun o => (Below.refl _ _).alloc (Nat.le_refl _) o
  have HF : Hid (writeFault 2 i [] s q = 0) := fault_drop hb
  obtain ⟨⟨i1, i2⟩, ⟨s1, s2⟩, q1, q2⟩ := hb
  have dI : (decide (1 ≤ i) && decide (i ≤ 999)) = true := by simp [i1, i2]
  have dS : (decide (1 ≤ s) && decide (s ≤ 9)) = true := by simp [s1, s2]
  have dQ : (decide (1 ≤ q) && decide (q ≤ 999)) = true := by simp [q1, q2]
  go_enter Tryz.func24, Tryz.ntmps24
  go_wp2_with fail
  refine (isIdC i _).mono ?_
  rintro e w1 ⟨rfl, rfl⟩
  rw [dI]
  go_wp2_with fail
  refine (isSessionC s _).mono ?_
  rintro e w1 ⟨rfl, rfl⟩
  rw [dS]
  go_wp2_with fail
  refine (isSeqC q _).mono ?_
  rintro e w1 ⟨rfl, rfl⟩
  rw [dQ]
  go_wp2_with fail
  go_ret2
  exact toldDeed_ok (unhide HF) rfl (unhide HB _)

set_option maxHeartbeats 1000000 in
theorem deedOf_many (i : Int) (ao : Option Addr) (cap n : Nat) (s q : Int) (zs : List Int) (w : World) (hn : zs.length = n + 1) :
    Calls Tryz.prog 24 #[.agg #[.int .i64 2, .int .i64 i, .slice ao (n + 1) cap, .int .i64 s, .int .i64 q]] w fun e w' => ToldDeed w w' e 2 i zs s q := by
  have B0 : ∀ o, Below w.heap.size w (w.alloc o) := fun o => (Below.refl _ _).alloc (Nat.le_refl _) o
  have HB := hide B0
  have hF : writeFault 2 i zs s q = 1 := by
    have : kindB 2 zs.length = false := by simp [kindB]; omega
    rw [writeFault, this]; rfl
  have HF := hide hF
  clear B0 hF hn
  go_enter Tryz.func24, Tryz.ntmps24
  go_wp2
  go_ret2
  exact toldDeed_bad (unhide HF) (by omega) (unhide HB _)

set_option maxHeartbeats 1000000 in
theorem deedOf_none (k i : Int) (ao : Option Addr) (cap : Nat) (s q : Int) (zs : List Int) (w : World) (h1 : k ≠ 1) (h2 : k ≠ 2) :
    Calls Tryz.prog 24 #[.agg #[.int .i64 k, .int .i64 i, .slice ao zs.length cap, .int .i64 s, .int .i64 q]] w fun e w' => ToldDeed w w' e k i zs s q := by
  have B0 : ∀ o, Below w.heap.size w (w.alloc o) := fun o => (Below.refl _ _).alloc (Nat.le_refl _) o
  have HB := hide B0
  have hF : writeFault k i zs s q = 1 := by
    have : kindB k zs.length = false := by simp [kindB]; omega
    rw [writeFault, this]; rfl
  have HF := hide hF
  clear B0 hF
  go_enter Tryz.func24, Tryz.ntmps24
  go_wp2
  go_ret2
  exact toldDeed_bad (unhide HF) (by omega) (unhide HB _)

theorem vectorOf_any (v : Value) (zs : List Int) (w : World) (h : IsInts w v zs) :
    Calls Tryz.prog 50 #[v] w fun e w' => e = .returned (.tuple #[if vecFault zs = 0 then arr3 (zs.getD 0 0) (zs.getD 1 0) (zs.getD 2 0) else arr3 0 0 0, .int .i64 (vecFault zs)]) ∧ Below w.heap.size w w' := by
  by_cases hf : vecFault zs = 0
  · obtain ⟨hl, -⟩ := vecFault_zero hf
    match zs, hl with
    | [x, y, z], _ =>
      rw [if_pos hf]
      refine (vectorOf_ok v x y z w h hf).mono ?_
      rintro e w' ⟨rfl, hb⟩
      exact ⟨by rw [hf]; rfl, hb⟩
  · rw [if_neg hf]
    exact vectorOf_bad v zs w h hf

set_option maxHeartbeats 2000000 in
theorem deedOf_put (i : Int) (ao : Option Addr) (cap : Nat) (s q : Int) (zs : List Int) (w : World) (h : IsInts w (.slice ao zs.length cap) zs) (hb : Bds i s q) :
    Calls Tryz.prog 24 #[.agg #[.int .i64 1, .int .i64 i, .slice ao zs.length cap, .int .i64 s, .int .i64 q]] w fun e w' => ToldDeed w w' e 1 i zs s q := by
  have B0 : Below w.heap.size w (w.alloc (.cells #[.int .i64 1, .int .i64 i, .slice ao zs.length cap, .int .i64 s, .int .i64 q] 27)) := (Below.refl _ _).alloc (Nat.le_refl _) _
  have HB := hide B0
  have H := hide (h.later B0)
  clear h B0
  have HF : Hid (writeFault 1 i zs s q = vecFault zs) := fault_in rfl hb
  obtain ⟨⟨i1, i2⟩, ⟨s1, s2⟩, q1, q2⟩ := hb
  have dI : (decide (1 ≤ i) && decide (i ≤ 999)) = true := by simp [i1, i2]
  have dS : (decide (1 ≤ s) && decide (s ≤ 9)) = true := by simp [s1, s2]
  have dQ : (decide (1 ≤ q) && decide (q ≤ 999)) = true := by simp [q1, q2]
  go_enter Tryz.func24, Tryz.ntmps24
  go_wp2_with fail
  refine (isIdC i _).mono ?_
  rintro e w1 ⟨rfl, rfl⟩
  rw [dI]
  go_wp2_with fail
  refine (isSessionC s _).mono ?_
  rintro e w1 ⟨rfl, rfl⟩
  rw [dS]
  go_wp2_with fail
  refine (isSeqC q _).mono ?_
  rintro e w1 ⟨rfl, rfl⟩
  rw [dQ]
  go_wp2_with fail
  refine (vectorOf_any _ zs _ (unhide H)).mono ?_
  rintro e w1 ⟨rfl, hb1⟩
  have HB1 := hide ((unhide HB).trans (hb1.mono (unhide HB).size))
  have hz : w.heap.size ≤ w1.heap.size := (unhide HB1).size
  clear HB hb1 H
  generalize hV : vecFault zs = F at *
  by_cases hf : F = 0
  · subst hf
    rw [if_pos rfl]
    simp only [arr3]
    go_wp2_with fail
    go_ret2
    refine toldDeed_ok (unhide HF) ?_ ?_
    · rw [deedV, if_pos rfl]; rfl
    · exact (unhide HB1).alloc hz _
  · rw [if_neg hf]
    have hd : (F != 0) = true := by rw [bne_iff_ne]; exact hf
    have HN := hide hf
    clear hf
    simp only [arr3]
    go_wp2_with fail
    go_ret2
    exact toldDeed_bad (unhide HF) (unhide HN) ((unhide HB1).alloc hz _)

/-- deedOf of the program. -/
theorem implDeed (k i : Int) (v : Value) (s q : Int) (zs : List Int) (w : World) (h : IsInts w v zs) :
    Calls Tryz.prog 24 #[.agg #[.int .i64 k, .int .i64 i, v, .int .i64 s, .int .i64 q]] w fun e w' => ToldDeed w w' e k i zs s q := by
  have h' := h
  obtain ⟨ao, cap, rfl, -⟩ := h'
  by_cases h1 : k = 1
  · subst h1
    by_cases hb : Bds i s q
    · exact deedOf_put i ao cap s q zs w h hb
    · exact deedOf_put_out i ao cap s q zs w hb
  · by_cases h2 : k = 2
    · subst h2
      rcases Nat.eq_zero_or_pos zs.length with h0 | h0
      · obtain rfl : zs = [] := List.eq_nil_of_length_eq_zero h0
        by_cases hb : Bds i s q
        · exact deedOf_drop i ao cap s q w hb
        · exact deedOf_drop_out i ao cap s q w hb
      · obtain ⟨n, hn⟩ : ∃ n, zs.length = n + 1 := ⟨zs.length - 1, by omega⟩
        rw [hn]
        exact deedOf_many i ao cap n s q zs w hn
    · exact deedOf_none k i ao cap s q zs w h1 h2

end Go.Proofs.YtjofcmdlcoganaaGreatDoor

namespace Go.Proofs.YtjofcmdlcoganaaGreatDoor
open Go.RowKit

theorem assertDP (v : Value) (w : World) : (Instr.typeAssert (.iface 85 v) 54 89 true).run Tryz.prog w = .ok (.tuple #[.agg #[.int .i64 0, .int .i64 0, .int .i64 0], .bool false]) w := by kernel_rfl
theorem assertDD (v : Value) (w : World) : (Instr.typeAssert (.iface 85 v) 54 85 true).run Tryz.prog w = .ok (.tuple #[v, .bool true]) w := by kernel_rfl

set_option maxRecDepth 10000 in
set_option maxHeartbeats 400000 in
theorem writeOf_drop (i s q : Int) (w : World) :
    Calls Tryz.prog 46 #[dropV, .int .i64 i, .int .i64 s, .int .i64 q] w fun e w' => e = .returned (.agg #[.int .i64 2, .int .i64 i, .slice none 0 0, .int .i64 s, .int .i64 q]) ∧ Below w.heap.size w w' := by
  have a1 := assertDP
  have a2 := assertDD
  have HB : Hid (∀ o o' o'', Below w.heap.size w (((w.alloc o).alloc o').alloc o'')) := fun o o' o'' => (((Below.refl _ _).alloc (Nat.le_refl _) _).alloc (by simp) _).alloc (by simp; omega) _
  simp only [dropV] at *
  go_enter Tryz.func46, Tryz.ntmps46
  go_wp2_with fail
  refine bodyPost_ret (v := .agg #[.int .i64 2, .int .i64 i, .slice none 0 0, .int .i64 s, .int .i64 q]) (by simp [results, Tryz.results46, go_sem]) rfl ?_
  exact ⟨rfl, unhide HB _ _ _⟩

theorem assertPP (v : Value) (w : World) : (Instr.typeAssert (.iface 89 v) 54 89 true).run Tryz.prog w = .ok (.tuple #[v, .bool true]) w := by kernel_rfl

theorem listOfO (x y z : Int) (w : World) :
    Calls Tryz.prog 52 #[.agg #[.int .i64 x, .int .i64 y, .int .i64 z]] w fun e w' => ∃ a c, e = .returned (.slice a 3 c) ∧ w'.ownsRow w.heap.size 2 1 (.slice a 3 c) 3 [.int .i64 x, .int .i64 y, .int .i64 z] ∧ Below w.heap.size w w' := by
  refine (listOf3 x y z w).mono ?_
  rintro e w' ⟨rfl, rfl⟩
  exact ⟨_, _, rfl, own_new3 (W := w.alloc (.cells #[.int .i64 x, .int .i64 y, .int .i64 z] 66)) (base := w.heap.size) (T := 2) (by simp) (by simp), ((Below.refl _ _).alloc (Nat.le_refl _) _).alloc (by simp) _⟩

/-- The vector stored into the write, and the write into the result's block. -/
theorem storeO {w w1 : World} {sx : Nat} {u : Value} {xs : List Value} {B : Nat} {vs : List Value} (hsx : w.heap.size < sx) (hB : sx < B) (O : w1.ownsRow B 2 1 u 3 xs) (hb : Below w.heap.size w w1) :
    (setAll (w1.setCell ⟨sx, 2, none⟩ u) w.heap.size 0 vs).ownsRow B 2 1 u 3 xs ∧ Below w.heap.size w (setAll (w1.setCell ⟨sx, 2, none⟩ u) w.heap.size 0 vs) := by
  have h1 := own_setC (a := ⟨sx, 2, none⟩) O (by simpa using hB) u
  have h2 : Below w.heap.size w (w1.setCell ⟨sx, 2, none⟩ u) := hb.setCell (by simp; omega) _
  refine ⟨?_, below_setAll h2 _ _ _ (Nat.le_refl _)⟩
  have : ∀ (l : List Value) (i : Nat) (W : World), W.ownsRow B 2 1 u 3 xs → (setAll W w.heap.size i l).ownsRow B 2 1 u 3 xs := by
    intro l
    induction l with
    | nil => intro i W h; exact h
    | cons v l ih => intro i W h; exact ih (i + 1) _ (own_setC (a := ⟨w.heap.size, i, none⟩) h (by simp; omega) v)
  exact this vs 0 _ h1

set_option maxRecDepth 10000 in
set_option maxHeartbeats 600000 in
theorem writeOf_put (x y z i s q : Int) (w : World) :
    Calls Tryz.prog 46 #[putV x y z, .int .i64 i, .int .i64 s, .int .i64 q] w fun e w' => ∃ a c, e = .returned (.agg #[.int .i64 1, .int .i64 i, .slice a 3 c, .int .i64 s, .int .i64 q]) ∧ w'.ownsRow w.heap.size 2 1 (.slice a 3 c) 3 [.int .i64 x, .int .i64 y, .int .i64 z] ∧ Below w.heap.size w w' := by
  have a1 := assertPP
  have L := hide (fun W => listOfO x y z W)
  simp only [putV] at *
  go_enter Tryz.func46, Tryz.ntmps46
  go_wp2_with fail
  obtain ⟨W, hW⟩ : ∃ W, W = ((w.alloc (.cells #[.int .i64 0, .int .i64 0, .slice none 0 0, .int .i64 0, .int .i64 0] 27)).alloc (.cells #[.int .i64 1, .int .i64 i, .slice none 0 0, .int .i64 s, .int .i64 q] 27)).alloc (.cells #[.int .i64 x, .int .i64 y, .int .i64 z] 89) := ⟨_, rfl⟩
  have n1 : Below w.heap.size w (w.alloc (.cells #[.int .i64 0, .int .i64 0, .slice none 0 0, .int .i64 0, .int .i64 0] 27)) := (Below.refl _ _).alloc (Nat.le_refl _) _
  have bR : Box 0 #[.int .i64 0, .int .i64 0, .slice none 0 0, .int .i64 0, .int .i64 0] 27 W w.heap.size := by rw [hW]; exact ((newBox (Nat.zero_le _)).grow _).grow _
  have bX : Box 0 #[.int .i64 1, .int .i64 i, .slice none 0 0, .int .i64 s, .int .i64 q] 27 W (w.heap.size + 1) := by rw [hW]; exact (newBoxAt (by omega) (by simp)).grow _
  have HB : Hid (Below w.heap.size w W) := by rw [hW]; exact (n1.alloc (by simp) _).alloc (by simp; omega) _
  rw [← hW]
  clear hW n1
  refine (unhide L _).mono ?_
  rintro e w1 ⟨a, c, rfl, O, hb⟩
  have hsx : w.heap.size < w.heap.size + 1 := by omega
  generalize w.heap.size + 1 = sx at *
  have hX := bX.lt
  replace bR := bR.keep hb
  replace bX := bX.keep hb
  replace HB := hide ((unhide HB).trans (hb.mono (unhide HB).size))
  have x0 := bX.at 0 _ rfl
  have x1 := bX.at 1 _ rfl
  have x2 := bX.at 2 _ rfl
  have x3 := bX.at 3 _ rfl
  have x4 := bX.at 4 _ rfl
  have xf := bX.soft
  have xl := bX.lt
  have r0 := bR.at 0 _ rfl
  have r1 := bR.at 1 _ rfl
  have r2 := bR.at 2 _ rfl
  have r3 := bR.at 3 _ rfl
  have r4 := bR.at 4 _ rfl
  have rf := bR.soft
  have rl := bR.lt
  have HO := hide O
  clear bR bX hb O L
  simp only [List.getElem_toArray, List.getElem_cons_zero, List.getElem_cons_succ] at x0 x1 x2 x3 x4 r0 r1 r2 r3 r4
  go_wp2_with fail
  refine bodyPost_ret (v := .agg #[.int .i64 1, .int .i64 i, .slice a 3 c, .int .i64 s, .int .i64 q]) (by simp [results, Tryz.results46, go_sem, r0, r1, r2, r3, r4]) rfl ?_
  obtain ⟨s1, s2⟩ := storeO (vs := [.int .i64 1, .int .i64 i, .slice a 3 c, .int .i64 s, .int .i64 q]) hsx hX (unhide HO) (unhide HB)
  exact ⟨a, c, rfl, own_mono (by omega) s1, s2⟩

end Go.Proofs.YtjofcmdlcoganaaGreatDoor

namespace Go.Proofs.YtjofcmdlcoganaaGreatDoor
open Go.RowKit

theorem methPut (n : Nat) (v : Value) (w : World) : (method (n + 1) 89 v "loop.example/g00357/impl.verb").run Tryz.prog w = .ok (69, v) w := by kernel_rfl
theorem methDrop (n : Nat) (v : Value) (w : World) : (method (n + 1) 85 v "loop.example/g00357/impl.verb").run Tryz.prog w = .ok (68, v) w := by kernel_rfl
theorem verbPut (x y z : Int) (w : World) : Calls Tryz.prog 69 #[.agg #[.int .i64 x, .int .i64 y, .int .i64 z]] w fun e w' => e = .returned (.string ⟨#[112, 117, 116]⟩) ∧ Below w.heap.size w w' := by
  go_enter Tryz.func69, Tryz.ntmps69
  go_wp2_with fail
  go_ret
  exact ⟨rfl, (Below.refl _ _).alloc (Nat.le_refl _) _⟩
theorem verbDrop (w : World) : Calls Tryz.prog 68 #[.agg #[]] w fun e w' => e = .returned (.string ⟨#[100, 114, 111, 112]⟩) ∧ Below w.heap.size w w' := by
  go_enter Tryz.func68, Tryz.ntmps68
  go_wp2_with fail
  go_ret
  exact ⟨rfl, (Below.refl _ _).alloc (Nat.le_refl _) _⟩
theorem assertPut2 (v : Value) (w : World) : (Instr.typeAssert (.iface 89 v) 54 89 true).run Tryz.prog w = .ok (.tuple #[v, .bool true]) w := by kernel_rfl
theorem assertDrop2 (v : Value) (w : World) : (Instr.typeAssert (.iface 85 v) 54 89 true).run Tryz.prog w = .ok (.tuple #[.agg #[.int .i64 0, .int .i64 0, .int .i64 0], .bool false]) w := by kernel_rfl

end Go.Proofs.YtjofcmdlcoganaaGreatDoor

namespace Go.Proofs.YtjofcmdlcoganaaGreatDoor
open Go.RowKit

set_option maxRecDepth 100000 in
set_option maxHeartbeats 1000000 in
theorem readDeed_no (ao : Option Addr) (n cap : Nat) (w : World) (e2 : ((n : Int) == 2) = false) (e3 : ((n : Int) == 3) = false) :
    Calls Tryz.prog 44 #[.slice ao n cap] w fun e w' => e = .returned (.tuple #[.nilIface, .bool false]) ∧ Below w.heap.size w w' := by
  skip
  go_enter Tryz.func44, Tryz.ntmps44
  go_wp2_with fail
  refine wp_region_noPanic ?_
  refine wp_region_held_drew (S := fun w' => Below w.heap.size w w') (by kernel_rfl) (Below.refl _ _).drew (fun hHeld => ?_)
  generalize w.drew = wD at hHeld ⊢
  refine wpAnyH_take (i := 0) (oi := { dst := some 6, op := Go.Op.move (Go.Operand.tmp 0), type := 57, pos := "l03_write.go:178", after := #[], guard := none }) (v := ?va0) rfl (by kernel_rfl) (by kernel_rfl) (by kernel_rfl) (fun _ _ _ h => h) (Or.inl ⟨by rfl, ?ha0⟩) hHeld ?ra0
  case ha0 =>
    intro wS hSw
    (try dsimp only at hSw)
    go_simp
    try with_reducible rfl
  case ra0 =>
  simp only [Act.put, List.setIfInBounds_toArray, List.set_cons_zero, List.set_cons_succ]
  refine wpAnyH_take (i := 1) (oi := { dst := some 7, op := Go.Op.call { callee := Go.Callee.builtin Go.Builtin.len, args := #[Go.Operand.tmp 6], argTypes := #[57] }, type := 3, pos := "l03_write.go:178", after := #[{ on := 0, ground := Go.Ground.data }], guard := none }) (v := ?va1) rfl (by kernel_rfl) (by kernel_rfl) (by kernel_rfl) (fun _ _ _ h => h) (Or.inl ⟨by rfl, ?ha1⟩) hHeld ?ra1
  case ha1 =>
    intro wS hSw
    (try dsimp only at hSw)
    go_simp
    try with_reducible rfl
  case ra1 =>
  simp only [Act.put, List.setIfInBounds_toArray, List.set_cons_zero, List.set_cons_succ]
  refine wpAnyH_take (i := 2) (oi := { dst := some 8, op := Go.Op.binOp Go.BinOp.eql 3 (Go.Operand.tmp 7) (Go.Operand.const (Go.Value.int Go.IntKind.i64 2)) 3, type := 4, pos := "l03_write.go:178", after := #[{ on := 1, ground := Go.Ground.data }], guard := none }) (v := ?va2) rfl (by kernel_rfl) (by kernel_rfl) (by kernel_rfl) (fun _ _ _ h => h) (Or.inl ⟨by rfl, ?ha2⟩) hHeld ?ra2
  case ha2 =>
    intro wS hSw
    (try dsimp only at hSw)
    go_simp
    try with_reducible rfl
  case ra2 =>
  simp only [Act.put, List.setIfInBounds_toArray, List.set_cons_zero, List.set_cons_succ]
  refine wpAnyH_take (i := 3) (oi := { dst := some 9, op := Go.Op.move (Go.Operand.tmp 8), type := 4, pos := "l03_write.go:178", after := #[{ on := 2, ground := Go.Ground.data }], guard := none }) (v := ?va3) rfl (by kernel_rfl) (by kernel_rfl) (by kernel_rfl) (fun _ _ _ h => h) (Or.inl ⟨by rfl, ?ha3⟩) hHeld ?ra3
  case ha3 =>
    intro wS hSw
    (try dsimp only at hSw)
    go_simp
    try with_reducible rfl
  case ra3 =>
  simp only [Act.put, List.setIfInBounds_toArray, List.set_cons_zero, List.set_cons_succ]
  refine wpAnyH_take (i := 4) (oi := { dst := some 10, op := Go.Op.move (Go.Operand.tmp 0), type := 57, pos := "l03_write.go:178", after := #[{ on := 3, ground := Go.Ground.guard }], guard := some (3, true) }) (v := undef) rfl (by kernel_rfl) (by kernel_rfl) (by kernel_rfl) (fun _ _ _ h => h) (Or.inr ⟨by rfl, rfl⟩) hHeld ?_
  simp only [Act.put, List.setIfInBounds_toArray, List.set_cons_zero, List.set_cons_succ]
  refine wpAnyH_take (i := 5) (oi := { dst := some 11, op := Go.Op.indexAddr 57 (Go.Operand.tmp 10) (Go.Operand.const (Go.Value.int Go.IntKind.i64 0)), type := 0, pos := "l03_write.go:178", after := #[{ on := 4, ground := Go.Ground.data }, { on := 3, ground := Go.Ground.guard }], guard := some (3, true) }) (v := undef) rfl (by kernel_rfl) (by kernel_rfl) (by kernel_rfl) (fun _ _ _ h => h) (Or.inr ⟨by rfl, rfl⟩) hHeld ?_
  simp only [Act.put, List.setIfInBounds_toArray, List.set_cons_zero, List.set_cons_succ]
  refine wpAnyH_take (i := 6) (oi := { dst := some 12, op := Go.Op.load 9 (Go.Operand.tmp 11), type := 9, pos := "l03_write.go:178", after := #[{ on := 5, ground := Go.Ground.data }, { on := 3, ground := Go.Ground.guard }], guard := some (3, true) }) (v := undef) rfl (by kernel_rfl) (by kernel_rfl) (by kernel_rfl) (fun _ _ _ h => h) (Or.inr ⟨by rfl, rfl⟩) hHeld ?_
  simp only [Act.put, List.setIfInBounds_toArray, List.set_cons_zero, List.set_cons_succ]
  refine wpAnyH_take (i := 7) (oi := { dst := some 13, op := Go.Op.build 85 #[], type := 85, pos := "l03_write.go:178", after := #[{ on := 3, ground := Go.Ground.guard }], guard := some (3, true) }) (v := undef) rfl (by kernel_rfl) (by kernel_rfl) (by kernel_rfl) (fun _ _ _ h => h) (Or.inr ⟨by rfl, rfl⟩) hHeld ?_
  simp only [Act.put, List.setIfInBounds_toArray, List.set_cons_zero, List.set_cons_succ]
  refine wpAnyH_take (i := 8) (oi := { dst := some 14, op := Go.Op.call { callee := Go.Callee.value (Go.Operand.func 68), args := #[Go.Operand.tmp 13], argTypes := #[85] }, type := 9, pos := "l03_write.go:178", after := #[{ on := 7, ground := Go.Ground.data }, { on := 3, ground := Go.Ground.chain }, { on := 3, ground := Go.Ground.guard }], guard := some (3, true) }) (v := undef) rfl (by kernel_rfl) (by kernel_rfl) (by kernel_rfl) (fun _ _ _ h => h) (Or.inr ⟨by rfl, rfl⟩) hHeld ?_
  simp only [Act.put, List.setIfInBounds_toArray, List.set_cons_zero, List.set_cons_succ]
  refine wpAnyH_take (i := 9) (oi := { dst := some 15, op := Go.Op.binOp Go.BinOp.eql 9 (Go.Operand.tmp 12) (Go.Operand.tmp 14) 9, type := 4, pos := "l03_write.go:178", after := #[{ on := 6, ground := Go.Ground.data }, { on := 8, ground := Go.Ground.data }, { on := 3, ground := Go.Ground.guard }], guard := some (3, true) }) (v := undef) rfl (by kernel_rfl) (by kernel_rfl) (by kernel_rfl) (fun _ _ _ h => h) (Or.inr ⟨by rfl, rfl⟩) hHeld ?_
  simp only [Act.put, List.setIfInBounds_toArray, List.set_cons_zero, List.set_cons_succ]
  refine wpAnyH_take (i := 10) (oi := { dst := some 16, op := Go.Op.pick (Go.Operand.tmp 9) (Go.Operand.tmp 15) (Go.Operand.const (Go.Value.bool false)), type := 4, pos := "l03_write.go:178", after := #[{ on := 3, ground := Go.Ground.data }, { on := 9, ground := Go.Ground.data }], guard := none }) (v := ?va10) rfl (by kernel_rfl) (by kernel_rfl) (by kernel_rfl) (fun _ _ _ h => h) (Or.inl ⟨by rfl, ?ha10⟩) hHeld ?ra10
  case ha10 =>
    intro wS hSw
    (try dsimp only at hSw)
    go_simp
    try with_reducible rfl
  case ra10 =>
  simp only [Act.put, List.setIfInBounds_toArray, List.set_cons_zero, List.set_cons_succ]
  refine wpAnyH_done (by kernel_rfl) ?_ _
  refine NoPanic.normal ?_
  have HB := hide hHeld
  clear hHeld
  go_wp2_with fail
  refine wp_region_noPanic ?_
  refine wp_region_held_drew (S := fun w' => Below w.heap.size w w') (by kernel_rfl) (unhide HB).drew (fun hHeld => ?_)
  generalize wD.drew = wF at hHeld ⊢
  refine wpAnyH_take (i := 0) (oi := { dst := some 19, op := Go.Op.move (Go.Operand.tmp 0), type := 57, pos := "l03_write.go:181", after := #[], guard := none }) (v := ?vb0) rfl (by kernel_rfl) (by kernel_rfl) (by kernel_rfl) (fun _ _ _ h => h) (Or.inl ⟨by rfl, ?hb0⟩) hHeld ?rb0
  case hb0 =>
    intro wS hSw
    (try dsimp only at hSw)
    go_simp
    try with_reducible rfl
  case rb0 =>
  simp only [Act.put, List.setIfInBounds_toArray, List.set_cons_zero, List.set_cons_succ]
  refine wpAnyH_take (i := 1) (oi := { dst := some 20, op := Go.Op.call { callee := Go.Callee.builtin Go.Builtin.len, args := #[Go.Operand.tmp 19], argTypes := #[57] }, type := 3, pos := "l03_write.go:181", after := #[{ on := 0, ground := Go.Ground.data }], guard := none }) (v := ?vb1) rfl (by kernel_rfl) (by kernel_rfl) (by kernel_rfl) (fun _ _ _ h => h) (Or.inl ⟨by rfl, ?hb1⟩) hHeld ?rb1
  case hb1 =>
    intro wS hSw
    (try dsimp only at hSw)
    go_simp
    try with_reducible rfl
  case rb1 =>
  simp only [Act.put, List.setIfInBounds_toArray, List.set_cons_zero, List.set_cons_succ]
  refine wpAnyH_take (i := 2) (oi := { dst := some 21, op := Go.Op.binOp Go.BinOp.eql 3 (Go.Operand.tmp 20) (Go.Operand.const (Go.Value.int Go.IntKind.i64 3)) 3, type := 4, pos := "l03_write.go:181", after := #[{ on := 1, ground := Go.Ground.data }], guard := none }) (v := ?vb2) rfl (by kernel_rfl) (by kernel_rfl) (by kernel_rfl) (fun _ _ _ h => h) (Or.inl ⟨by rfl, ?hb2⟩) hHeld ?rb2
  case hb2 =>
    intro wS hSw
    (try dsimp only at hSw)
    go_simp
    try with_reducible rfl
  case rb2 =>
  simp only [Act.put, List.setIfInBounds_toArray, List.set_cons_zero, List.set_cons_succ]
  refine wpAnyH_take (i := 3) (oi := { dst := some 22, op := Go.Op.move (Go.Operand.tmp 21), type := 4, pos := "l03_write.go:181", after := #[{ on := 2, ground := Go.Ground.data }], guard := none }) (v := ?vb3) rfl (by kernel_rfl) (by kernel_rfl) (by kernel_rfl) (fun _ _ _ h => h) (Or.inl ⟨by rfl, ?hb3⟩) hHeld ?rb3
  case hb3 =>
    intro wS hSw
    (try dsimp only at hSw)
    go_simp
    try with_reducible rfl
  case rb3 =>
  simp only [Act.put, List.setIfInBounds_toArray, List.set_cons_zero, List.set_cons_succ]
  refine wpAnyH_take (i := 4) (oi := { dst := some 23, op := Go.Op.move (Go.Operand.tmp 0), type := 57, pos := "l03_write.go:181", after := #[{ on := 3, ground := Go.Ground.guard }], guard := some (3, true) }) (v := undef) rfl (by kernel_rfl) (by kernel_rfl) (by kernel_rfl) (fun _ _ _ h => h) (Or.inr ⟨by rfl, rfl⟩) hHeld ?_
  simp only [Act.put, List.setIfInBounds_toArray, List.set_cons_zero, List.set_cons_succ]
  refine wpAnyH_take (i := 5) (oi := { dst := some 24, op := Go.Op.indexAddr 57 (Go.Operand.tmp 23) (Go.Operand.const (Go.Value.int Go.IntKind.i64 0)), type := 0, pos := "l03_write.go:181", after := #[{ on := 4, ground := Go.Ground.data }, { on := 3, ground := Go.Ground.guard }], guard := some (3, true) }) (v := undef) rfl (by kernel_rfl) (by kernel_rfl) (by kernel_rfl) (fun _ _ _ h => h) (Or.inr ⟨by rfl, rfl⟩) hHeld ?_
  simp only [Act.put, List.setIfInBounds_toArray, List.set_cons_zero, List.set_cons_succ]
  refine wpAnyH_take (i := 6) (oi := { dst := some 25, op := Go.Op.load 9 (Go.Operand.tmp 24), type := 9, pos := "l03_write.go:181", after := #[{ on := 5, ground := Go.Ground.data }, { on := 3, ground := Go.Ground.guard }], guard := some (3, true) }) (v := undef) rfl (by kernel_rfl) (by kernel_rfl) (by kernel_rfl) (fun _ _ _ h => h) (Or.inr ⟨by rfl, rfl⟩) hHeld ?_
  simp only [Act.put, List.setIfInBounds_toArray, List.set_cons_zero, List.set_cons_succ]
  refine wpAnyH_take (i := 7) (oi := { dst := some 26, op := Go.Op.build 89 #[], type := 89, pos := "l03_write.go:181", after := #[{ on := 3, ground := Go.Ground.guard }], guard := some (3, true) }) (v := undef) rfl (by kernel_rfl) (by kernel_rfl) (by kernel_rfl) (fun _ _ _ h => h) (Or.inr ⟨by rfl, rfl⟩) hHeld ?_
  simp only [Act.put, List.setIfInBounds_toArray, List.set_cons_zero, List.set_cons_succ]
  refine wpAnyH_take (i := 8) (oi := { dst := some 27, op := Go.Op.call { callee := Go.Callee.value (Go.Operand.func 69), args := #[Go.Operand.tmp 26], argTypes := #[89] }, type := 9, pos := "l03_write.go:181", after := #[{ on := 7, ground := Go.Ground.data }, { on := 3, ground := Go.Ground.chain }, { on := 3, ground := Go.Ground.guard }], guard := some (3, true) }) (v := undef) rfl (by kernel_rfl) (by kernel_rfl) (by kernel_rfl) (fun _ _ _ h => h) (Or.inr ⟨by rfl, rfl⟩) hHeld ?_
  simp only [Act.put, List.setIfInBounds_toArray, List.set_cons_zero, List.set_cons_succ]
  refine wpAnyH_take (i := 9) (oi := { dst := some 28, op := Go.Op.binOp Go.BinOp.eql 9 (Go.Operand.tmp 25) (Go.Operand.tmp 27) 9, type := 4, pos := "l03_write.go:181", after := #[{ on := 6, ground := Go.Ground.data }, { on := 8, ground := Go.Ground.data }, { on := 3, ground := Go.Ground.guard }], guard := some (3, true) }) (v := undef) rfl (by kernel_rfl) (by kernel_rfl) (by kernel_rfl) (fun _ _ _ h => h) (Or.inr ⟨by rfl, rfl⟩) hHeld ?_
  simp only [Act.put, List.setIfInBounds_toArray, List.set_cons_zero, List.set_cons_succ]
  refine wpAnyH_take (i := 10) (oi := { dst := some 29, op := Go.Op.pick (Go.Operand.tmp 22) (Go.Operand.tmp 28) (Go.Operand.const (Go.Value.bool false)), type := 4, pos := "l03_write.go:181", after := #[{ on := 3, ground := Go.Ground.data }, { on := 9, ground := Go.Ground.data }], guard := none }) (v := ?vb10) rfl (by kernel_rfl) (by kernel_rfl) (by kernel_rfl) (fun _ _ _ h => h) (Or.inl ⟨by rfl, ?hb10⟩) hHeld ?rb10
  case hb10 =>
    intro wS hSw
    (try dsimp only at hSw)
    go_simp
    try with_reducible rfl
  case rb10 =>
  simp only [Act.put, List.setIfInBounds_toArray, List.set_cons_zero, List.set_cons_succ]
  refine wpAnyH_done (by kernel_rfl) ?_ _
  refine NoPanic.normal ?_
  have HB3 := hide hHeld
  clear hHeld
  go_wp2_with fail
  go_ret2
  exact ⟨rfl, unhide HB3⟩

set_option maxRecDepth 100000 in
set_option maxHeartbeats 1000000 in
theorem readDeed_drop (g cap : Nat) (w : World) (h0 : w.cell? ⟨g, 0, none⟩ = some (.string ⟨#[100, 114, 111, 112]⟩)) :
    Calls Tryz.prog 44 #[.slice (some ⟨g, 0, none⟩) 2 cap] w fun e w' => e = .returned (.tuple #[dropV, .bool true]) ∧ Below w.heap.size w w' := by
  simp only [dropV] at *
  go_enter Tryz.func44, Tryz.ntmps44
  go_wp2_with fail
  refine wp_region_noPanic ?_
  refine wp_region_held_drew (S := fun w' => Below w.heap.size w w') (by kernel_rfl) (Below.refl _ _).drew (fun hHeld => ?_)
  generalize w.drew = wD at hHeld ⊢
  refine wpAnyH_take (i := 0) (oi := { dst := some 6, op := Go.Op.move (Go.Operand.tmp 0), type := 57, pos := "l03_write.go:178", after := #[], guard := none }) (v := ?va0) rfl (by kernel_rfl) (by kernel_rfl) (by kernel_rfl) (fun _ _ _ h => h) (Or.inl ⟨by rfl, ?ha0⟩) hHeld ?ra0
  case ha0 =>
    intro wS hSw
    (try dsimp only at hSw)
    go_simp
    try with_reducible rfl
  case ra0 =>
  simp only [Act.put, List.setIfInBounds_toArray, List.set_cons_zero, List.set_cons_succ]
  refine wpAnyH_take (i := 1) (oi := { dst := some 7, op := Go.Op.call { callee := Go.Callee.builtin Go.Builtin.len, args := #[Go.Operand.tmp 6], argTypes := #[57] }, type := 3, pos := "l03_write.go:178", after := #[{ on := 0, ground := Go.Ground.data }], guard := none }) (v := ?va1) rfl (by kernel_rfl) (by kernel_rfl) (by kernel_rfl) (fun _ _ _ h => h) (Or.inl ⟨by rfl, ?ha1⟩) hHeld ?ra1
  case ha1 =>
    intro wS hSw
    (try dsimp only at hSw)
    go_simp
    try with_reducible rfl
  case ra1 =>
  simp only [Act.put, List.setIfInBounds_toArray, List.set_cons_zero, List.set_cons_succ]
  refine wpAnyH_take (i := 2) (oi := { dst := some 8, op := Go.Op.binOp Go.BinOp.eql 3 (Go.Operand.tmp 7) (Go.Operand.const (Go.Value.int Go.IntKind.i64 2)) 3, type := 4, pos := "l03_write.go:178", after := #[{ on := 1, ground := Go.Ground.data }], guard := none }) (v := ?va2) rfl (by kernel_rfl) (by kernel_rfl) (by kernel_rfl) (fun _ _ _ h => h) (Or.inl ⟨by rfl, ?ha2⟩) hHeld ?ra2
  case ha2 =>
    intro wS hSw
    (try dsimp only at hSw)
    go_simp
    try with_reducible rfl
  case ra2 =>
  simp only [Act.put, List.setIfInBounds_toArray, List.set_cons_zero, List.set_cons_succ]
  refine wpAnyH_take (i := 3) (oi := { dst := some 9, op := Go.Op.move (Go.Operand.tmp 8), type := 4, pos := "l03_write.go:178", after := #[{ on := 2, ground := Go.Ground.data }], guard := none }) (v := ?va3) rfl (by kernel_rfl) (by kernel_rfl) (by kernel_rfl) (fun _ _ _ h => h) (Or.inl ⟨by rfl, ?ha3⟩) hHeld ?ra3
  case ha3 =>
    intro wS hSw
    (try dsimp only at hSw)
    go_simp
    try with_reducible rfl
  case ra3 =>
  simp only [Act.put, List.setIfInBounds_toArray, List.set_cons_zero, List.set_cons_succ]
  refine wpAnyH_take (i := 4) (oi := { dst := some 10, op := Go.Op.move (Go.Operand.tmp 0), type := 57, pos := "l03_write.go:178", after := #[{ on := 3, ground := Go.Ground.guard }], guard := some (3, true) }) (v := ?va4) rfl (by kernel_rfl) (by kernel_rfl) (by kernel_rfl) (fun _ _ _ h => h) (Or.inl ⟨by rfl, ?ha4⟩) hHeld ?ra4
  case ha4 =>
    intro wS hSw
    (try dsimp only at hSw)
    go_simp
    try with_reducible rfl
  case ra4 =>
  simp only [Act.put, List.setIfInBounds_toArray, List.set_cons_zero, List.set_cons_succ]
  refine wpAnyH_take (i := 5) (oi := { dst := some 11, op := Go.Op.indexAddr 57 (Go.Operand.tmp 10) (Go.Operand.const (Go.Value.int Go.IntKind.i64 0)), type := 0, pos := "l03_write.go:178", after := #[{ on := 4, ground := Go.Ground.data }, { on := 3, ground := Go.Ground.guard }], guard := some (3, true) }) (v := ?va5) rfl (by kernel_rfl) (by kernel_rfl) (by kernel_rfl) (fun _ _ _ h => h) (Or.inl ⟨by rfl, ?ha5⟩) hHeld ?ra5
  case ha5 =>
    intro wS hSw
    (try dsimp only at hSw)
    go_simp
    try with_reducible rfl
  case ra5 =>
  simp only [Act.put, List.setIfInBounds_toArray, List.set_cons_zero, List.set_cons_succ]
  refine wpAnyH_take (i := 6) (oi := { dst := some 12, op := Go.Op.load 9 (Go.Operand.tmp 11), type := 9, pos := "l03_write.go:178", after := #[{ on := 5, ground := Go.Ground.data }, { on := 3, ground := Go.Ground.guard }], guard := some (3, true) }) (v := ?va6) rfl (by kernel_rfl) (by kernel_rfl) (by kernel_rfl) (fun _ _ _ h => h) (Or.inl ⟨by rfl, ?ha6⟩) hHeld ?ra6
  case ha6 =>
    intro wS hSw
    have y0 := cell_keep hSw h0
    clear hSw
    (try dsimp only at hSw)
    go_simp
    try with_reducible rfl
  case ra6 =>
  simp only [Act.put, List.setIfInBounds_toArray, List.set_cons_zero, List.set_cons_succ]
  refine wpAnyH_take (i := 7) (oi := { dst := some 13, op := Go.Op.build 85 #[], type := 85, pos := "l03_write.go:178", after := #[{ on := 3, ground := Go.Ground.guard }], guard := some (3, true) }) (v := ?va7) rfl (by kernel_rfl) (by kernel_rfl) (by kernel_rfl) (fun _ _ _ h => h) (Or.inl ⟨by rfl, ?ha7⟩) hHeld ?ra7
  case ha7 =>
    intro wS hSw
    (try dsimp only at hSw)
    go_simp
    try with_reducible rfl
  case ra7 =>
  simp only [Act.put, List.setIfInBounds_toArray, List.set_cons_zero, List.set_cons_succ]
  refine wpAnyH_ready (rs := [8]) (by kernel_rfl) (by simp) ?_
  refine AllReadyH.cons (o := { dst := some 14, op := Go.Op.call { callee := Go.Callee.value (Go.Operand.func 68), args := #[Go.Operand.tmp 13], argTypes := #[85] }, type := 9, pos := "l03_write.go:178", after := #[{ on := 7, ground := Go.Ground.data }, { on := 3, ground := Go.Ground.chain }, { on := 3, ground := Go.Ground.guard }], guard := some (3, true) }) rfl (fun K hK => ?_) AllReadyH.nil
  go_simp
  go_at_call 68
  refine (verbDrop _).mono ?_
  rintro e wE ⟨rfl, hbw⟩
  try go_wp2_with fail
  refine hK.out _ _ (hHeld.trans (hbw.mono hHeld.size)) (fun hHeld => ?_)
  clear hK K
  try simp only [Act.put, List.setIfInBounds_toArray, List.set_cons_zero, List.set_cons_succ]
  refine wpAnyH_take (i := 9) (oi := { dst := some 15, op := Go.Op.binOp Go.BinOp.eql 9 (Go.Operand.tmp 12) (Go.Operand.tmp 14) 9, type := 4, pos := "l03_write.go:178", after := #[{ on := 6, ground := Go.Ground.data }, { on := 8, ground := Go.Ground.data }, { on := 3, ground := Go.Ground.guard }], guard := some (3, true) }) (v := ?va9) rfl (by kernel_rfl) (by kernel_rfl) (by kernel_rfl) (fun _ _ _ h => h) (Or.inl ⟨by rfl, ?ha9⟩) hHeld ?ra9
  case ha9 =>
    intro wS hSw
    (try dsimp only at hSw)
    go_simp
    try with_reducible rfl
  case ra9 =>
  simp only [Act.put, List.setIfInBounds_toArray, List.set_cons_zero, List.set_cons_succ]
  refine wpAnyH_take (i := 10) (oi := { dst := some 16, op := Go.Op.pick (Go.Operand.tmp 9) (Go.Operand.tmp 15) (Go.Operand.const (Go.Value.bool false)), type := 4, pos := "l03_write.go:178", after := #[{ on := 3, ground := Go.Ground.data }, { on := 9, ground := Go.Ground.data }], guard := none }) (v := ?va10) rfl (by kernel_rfl) (by kernel_rfl) (by kernel_rfl) (fun _ _ _ h => h) (Or.inl ⟨by rfl, ?ha10⟩) hHeld ?ra10
  case ha10 =>
    intro wS hSw
    (try dsimp only at hSw)
    go_simp
    try with_reducible rfl
  case ra10 =>
  simp only [Act.put, List.setIfInBounds_toArray, List.set_cons_zero, List.set_cons_succ]
  refine wpAnyH_done (by kernel_rfl) ?_ _
  refine NoPanic.normal ?_
  have HB := hide hHeld
  clear hHeld
  go_wp2_with fail
  go_ret2
  exact ⟨rfl, unhide HB⟩

set_option maxRecDepth 100000 in
set_option maxHeartbeats 1000000 in
theorem readDeed_ndrop (g cap : Nat) (s : ByteArray) (w : World) (h0 : w.cell? ⟨g, 0, none⟩ = some (.string s)) (hs : (s.toList == [100, 114, 111, 112]) = false) :
    Calls Tryz.prog 44 #[.slice (some ⟨g, 0, none⟩) 2 cap] w fun e w' => e = .returned (.tuple #[.nilIface, .bool false]) ∧ Below w.heap.size w w' := by
  skip
  go_enter Tryz.func44, Tryz.ntmps44
  go_wp2_with fail
  refine wp_region_noPanic ?_
  refine wp_region_held_drew (S := fun w' => Below w.heap.size w w') (by kernel_rfl) (Below.refl _ _).drew (fun hHeld => ?_)
  generalize w.drew = wD at hHeld ⊢
  refine wpAnyH_take (i := 0) (oi := { dst := some 6, op := Go.Op.move (Go.Operand.tmp 0), type := 57, pos := "l03_write.go:178", after := #[], guard := none }) (v := ?va0) rfl (by kernel_rfl) (by kernel_rfl) (by kernel_rfl) (fun _ _ _ h => h) (Or.inl ⟨by rfl, ?ha0⟩) hHeld ?ra0
  case ha0 =>
    intro wS hSw
    (try dsimp only at hSw)
    go_simp
    try with_reducible rfl
  case ra0 =>
  simp only [Act.put, List.setIfInBounds_toArray, List.set_cons_zero, List.set_cons_succ]
  refine wpAnyH_take (i := 1) (oi := { dst := some 7, op := Go.Op.call { callee := Go.Callee.builtin Go.Builtin.len, args := #[Go.Operand.tmp 6], argTypes := #[57] }, type := 3, pos := "l03_write.go:178", after := #[{ on := 0, ground := Go.Ground.data }], guard := none }) (v := ?va1) rfl (by kernel_rfl) (by kernel_rfl) (by kernel_rfl) (fun _ _ _ h => h) (Or.inl ⟨by rfl, ?ha1⟩) hHeld ?ra1
  case ha1 =>
    intro wS hSw
    (try dsimp only at hSw)
    go_simp
    try with_reducible rfl
  case ra1 =>
  simp only [Act.put, List.setIfInBounds_toArray, List.set_cons_zero, List.set_cons_succ]
  refine wpAnyH_take (i := 2) (oi := { dst := some 8, op := Go.Op.binOp Go.BinOp.eql 3 (Go.Operand.tmp 7) (Go.Operand.const (Go.Value.int Go.IntKind.i64 2)) 3, type := 4, pos := "l03_write.go:178", after := #[{ on := 1, ground := Go.Ground.data }], guard := none }) (v := ?va2) rfl (by kernel_rfl) (by kernel_rfl) (by kernel_rfl) (fun _ _ _ h => h) (Or.inl ⟨by rfl, ?ha2⟩) hHeld ?ra2
  case ha2 =>
    intro wS hSw
    (try dsimp only at hSw)
    go_simp
    try with_reducible rfl
  case ra2 =>
  simp only [Act.put, List.setIfInBounds_toArray, List.set_cons_zero, List.set_cons_succ]
  refine wpAnyH_take (i := 3) (oi := { dst := some 9, op := Go.Op.move (Go.Operand.tmp 8), type := 4, pos := "l03_write.go:178", after := #[{ on := 2, ground := Go.Ground.data }], guard := none }) (v := ?va3) rfl (by kernel_rfl) (by kernel_rfl) (by kernel_rfl) (fun _ _ _ h => h) (Or.inl ⟨by rfl, ?ha3⟩) hHeld ?ra3
  case ha3 =>
    intro wS hSw
    (try dsimp only at hSw)
    go_simp
    try with_reducible rfl
  case ra3 =>
  simp only [Act.put, List.setIfInBounds_toArray, List.set_cons_zero, List.set_cons_succ]
  refine wpAnyH_take (i := 4) (oi := { dst := some 10, op := Go.Op.move (Go.Operand.tmp 0), type := 57, pos := "l03_write.go:178", after := #[{ on := 3, ground := Go.Ground.guard }], guard := some (3, true) }) (v := ?va4) rfl (by kernel_rfl) (by kernel_rfl) (by kernel_rfl) (fun _ _ _ h => h) (Or.inl ⟨by rfl, ?ha4⟩) hHeld ?ra4
  case ha4 =>
    intro wS hSw
    (try dsimp only at hSw)
    go_simp
    try with_reducible rfl
  case ra4 =>
  simp only [Act.put, List.setIfInBounds_toArray, List.set_cons_zero, List.set_cons_succ]
  refine wpAnyH_take (i := 5) (oi := { dst := some 11, op := Go.Op.indexAddr 57 (Go.Operand.tmp 10) (Go.Operand.const (Go.Value.int Go.IntKind.i64 0)), type := 0, pos := "l03_write.go:178", after := #[{ on := 4, ground := Go.Ground.data }, { on := 3, ground := Go.Ground.guard }], guard := some (3, true) }) (v := ?va5) rfl (by kernel_rfl) (by kernel_rfl) (by kernel_rfl) (fun _ _ _ h => h) (Or.inl ⟨by rfl, ?ha5⟩) hHeld ?ra5
  case ha5 =>
    intro wS hSw
    (try dsimp only at hSw)
    go_simp
    try with_reducible rfl
  case ra5 =>
  simp only [Act.put, List.setIfInBounds_toArray, List.set_cons_zero, List.set_cons_succ]
  refine wpAnyH_take (i := 6) (oi := { dst := some 12, op := Go.Op.load 9 (Go.Operand.tmp 11), type := 9, pos := "l03_write.go:178", after := #[{ on := 5, ground := Go.Ground.data }, { on := 3, ground := Go.Ground.guard }], guard := some (3, true) }) (v := ?va6) rfl (by kernel_rfl) (by kernel_rfl) (by kernel_rfl) (fun _ _ _ h => h) (Or.inl ⟨by rfl, ?ha6⟩) hHeld ?ra6
  case ha6 =>
    intro wS hSw
    have y0 := cell_keep hSw h0
    clear hSw
    (try dsimp only at hSw)
    go_simp
    try with_reducible rfl
  case ra6 =>
  simp only [Act.put, List.setIfInBounds_toArray, List.set_cons_zero, List.set_cons_succ]
  refine wpAnyH_take (i := 7) (oi := { dst := some 13, op := Go.Op.build 85 #[], type := 85, pos := "l03_write.go:178", after := #[{ on := 3, ground := Go.Ground.guard }], guard := some (3, true) }) (v := ?va7) rfl (by kernel_rfl) (by kernel_rfl) (by kernel_rfl) (fun _ _ _ h => h) (Or.inl ⟨by rfl, ?ha7⟩) hHeld ?ra7
  case ha7 =>
    intro wS hSw
    (try dsimp only at hSw)
    go_simp
    try with_reducible rfl
  case ra7 =>
  simp only [Act.put, List.setIfInBounds_toArray, List.set_cons_zero, List.set_cons_succ]
  refine wpAnyH_ready (rs := [8]) (by kernel_rfl) (by simp) ?_
  refine AllReadyH.cons (o := { dst := some 14, op := Go.Op.call { callee := Go.Callee.value (Go.Operand.func 68), args := #[Go.Operand.tmp 13], argTypes := #[85] }, type := 9, pos := "l03_write.go:178", after := #[{ on := 7, ground := Go.Ground.data }, { on := 3, ground := Go.Ground.chain }, { on := 3, ground := Go.Ground.guard }], guard := some (3, true) }) rfl (fun K hK => ?_) AllReadyH.nil
  go_simp
  go_at_call 68
  refine (verbDrop _).mono ?_
  rintro e wE ⟨rfl, hbw⟩
  try go_wp2_with fail
  refine hK.out _ _ (hHeld.trans (hbw.mono hHeld.size)) (fun hHeld => ?_)
  clear hK K
  try simp only [Act.put, List.setIfInBounds_toArray, List.set_cons_zero, List.set_cons_succ]
  refine wpAnyH_take (i := 9) (oi := { dst := some 15, op := Go.Op.binOp Go.BinOp.eql 9 (Go.Operand.tmp 12) (Go.Operand.tmp 14) 9, type := 4, pos := "l03_write.go:178", after := #[{ on := 6, ground := Go.Ground.data }, { on := 8, ground := Go.Ground.data }, { on := 3, ground := Go.Ground.guard }], guard := some (3, true) }) (v := ?va9) rfl (by kernel_rfl) (by kernel_rfl) (by kernel_rfl) (fun _ _ _ h => h) (Or.inl ⟨by rfl, ?ha9⟩) hHeld ?ra9
  case ha9 =>
    intro wS hSw
    (try dsimp only at hSw)
    go_simp
    try with_reducible rfl
  case ra9 =>
  simp only [Act.put, List.setIfInBounds_toArray, List.set_cons_zero, List.set_cons_succ]
  refine wpAnyH_take (i := 10) (oi := { dst := some 16, op := Go.Op.pick (Go.Operand.tmp 9) (Go.Operand.tmp 15) (Go.Operand.const (Go.Value.bool false)), type := 4, pos := "l03_write.go:178", after := #[{ on := 3, ground := Go.Ground.data }, { on := 9, ground := Go.Ground.data }], guard := none }) (v := ?va10) rfl (by kernel_rfl) (by kernel_rfl) (by kernel_rfl) (fun _ _ _ h => h) (Or.inl ⟨by rfl, ?ha10⟩) hHeld ?ra10
  case ha10 =>
    intro wS hSw
    (try dsimp only at hSw)
    go_simp
    try with_reducible rfl
  case ra10 =>
  simp only [Act.put, List.setIfInBounds_toArray, List.set_cons_zero, List.set_cons_succ]
  refine wpAnyH_done (by kernel_rfl) ?_ _
  refine NoPanic.normal ?_
  have HB := hide hHeld
  clear hHeld
  go_wp2_with fail
  refine wp_region_noPanic ?_
  refine wp_region_held_drew (S := fun w' => Below w.heap.size w w') (by kernel_rfl) (unhide HB).drew (fun hHeld => ?_)
  generalize wE.drew = wF at hHeld ⊢
  refine wpAnyH_take (i := 0) (oi := { dst := some 19, op := Go.Op.move (Go.Operand.tmp 0), type := 57, pos := "l03_write.go:181", after := #[], guard := none }) (v := ?vb0) rfl (by kernel_rfl) (by kernel_rfl) (by kernel_rfl) (fun _ _ _ h => h) (Or.inl ⟨by rfl, ?hb0⟩) hHeld ?rb0
  case hb0 =>
    intro wS hSw
    (try dsimp only at hSw)
    go_simp
    try with_reducible rfl
  case rb0 =>
  simp only [Act.put, List.setIfInBounds_toArray, List.set_cons_zero, List.set_cons_succ]
  refine wpAnyH_take (i := 1) (oi := { dst := some 20, op := Go.Op.call { callee := Go.Callee.builtin Go.Builtin.len, args := #[Go.Operand.tmp 19], argTypes := #[57] }, type := 3, pos := "l03_write.go:181", after := #[{ on := 0, ground := Go.Ground.data }], guard := none }) (v := ?vb1) rfl (by kernel_rfl) (by kernel_rfl) (by kernel_rfl) (fun _ _ _ h => h) (Or.inl ⟨by rfl, ?hb1⟩) hHeld ?rb1
  case hb1 =>
    intro wS hSw
    (try dsimp only at hSw)
    go_simp
    try with_reducible rfl
  case rb1 =>
  simp only [Act.put, List.setIfInBounds_toArray, List.set_cons_zero, List.set_cons_succ]
  refine wpAnyH_take (i := 2) (oi := { dst := some 21, op := Go.Op.binOp Go.BinOp.eql 3 (Go.Operand.tmp 20) (Go.Operand.const (Go.Value.int Go.IntKind.i64 3)) 3, type := 4, pos := "l03_write.go:181", after := #[{ on := 1, ground := Go.Ground.data }], guard := none }) (v := ?vb2) rfl (by kernel_rfl) (by kernel_rfl) (by kernel_rfl) (fun _ _ _ h => h) (Or.inl ⟨by rfl, ?hb2⟩) hHeld ?rb2
  case hb2 =>
    intro wS hSw
    (try dsimp only at hSw)
    go_simp
    try with_reducible rfl
  case rb2 =>
  simp only [Act.put, List.setIfInBounds_toArray, List.set_cons_zero, List.set_cons_succ]
  refine wpAnyH_take (i := 3) (oi := { dst := some 22, op := Go.Op.move (Go.Operand.tmp 21), type := 4, pos := "l03_write.go:181", after := #[{ on := 2, ground := Go.Ground.data }], guard := none }) (v := ?vb3) rfl (by kernel_rfl) (by kernel_rfl) (by kernel_rfl) (fun _ _ _ h => h) (Or.inl ⟨by rfl, ?hb3⟩) hHeld ?rb3
  case hb3 =>
    intro wS hSw
    (try dsimp only at hSw)
    go_simp
    try with_reducible rfl
  case rb3 =>
  simp only [Act.put, List.setIfInBounds_toArray, List.set_cons_zero, List.set_cons_succ]
  refine wpAnyH_take (i := 4) (oi := { dst := some 23, op := Go.Op.move (Go.Operand.tmp 0), type := 57, pos := "l03_write.go:181", after := #[{ on := 3, ground := Go.Ground.guard }], guard := some (3, true) }) (v := undef) rfl (by kernel_rfl) (by kernel_rfl) (by kernel_rfl) (fun _ _ _ h => h) (Or.inr ⟨by rfl, rfl⟩) hHeld ?_
  simp only [Act.put, List.setIfInBounds_toArray, List.set_cons_zero, List.set_cons_succ]
  refine wpAnyH_take (i := 5) (oi := { dst := some 24, op := Go.Op.indexAddr 57 (Go.Operand.tmp 23) (Go.Operand.const (Go.Value.int Go.IntKind.i64 0)), type := 0, pos := "l03_write.go:181", after := #[{ on := 4, ground := Go.Ground.data }, { on := 3, ground := Go.Ground.guard }], guard := some (3, true) }) (v := undef) rfl (by kernel_rfl) (by kernel_rfl) (by kernel_rfl) (fun _ _ _ h => h) (Or.inr ⟨by rfl, rfl⟩) hHeld ?_
  simp only [Act.put, List.setIfInBounds_toArray, List.set_cons_zero, List.set_cons_succ]
  refine wpAnyH_take (i := 6) (oi := { dst := some 25, op := Go.Op.load 9 (Go.Operand.tmp 24), type := 9, pos := "l03_write.go:181", after := #[{ on := 5, ground := Go.Ground.data }, { on := 3, ground := Go.Ground.guard }], guard := some (3, true) }) (v := undef) rfl (by kernel_rfl) (by kernel_rfl) (by kernel_rfl) (fun _ _ _ h => h) (Or.inr ⟨by rfl, rfl⟩) hHeld ?_
  simp only [Act.put, List.setIfInBounds_toArray, List.set_cons_zero, List.set_cons_succ]
  refine wpAnyH_take (i := 7) (oi := { dst := some 26, op := Go.Op.build 89 #[], type := 89, pos := "l03_write.go:181", after := #[{ on := 3, ground := Go.Ground.guard }], guard := some (3, true) }) (v := undef) rfl (by kernel_rfl) (by kernel_rfl) (by kernel_rfl) (fun _ _ _ h => h) (Or.inr ⟨by rfl, rfl⟩) hHeld ?_
  simp only [Act.put, List.setIfInBounds_toArray, List.set_cons_zero, List.set_cons_succ]
  refine wpAnyH_take (i := 8) (oi := { dst := some 27, op := Go.Op.call { callee := Go.Callee.value (Go.Operand.func 69), args := #[Go.Operand.tmp 26], argTypes := #[89] }, type := 9, pos := "l03_write.go:181", after := #[{ on := 7, ground := Go.Ground.data }, { on := 3, ground := Go.Ground.chain }, { on := 3, ground := Go.Ground.guard }], guard := some (3, true) }) (v := undef) rfl (by kernel_rfl) (by kernel_rfl) (by kernel_rfl) (fun _ _ _ h => h) (Or.inr ⟨by rfl, rfl⟩) hHeld ?_
  simp only [Act.put, List.setIfInBounds_toArray, List.set_cons_zero, List.set_cons_succ]
  refine wpAnyH_take (i := 9) (oi := { dst := some 28, op := Go.Op.binOp Go.BinOp.eql 9 (Go.Operand.tmp 25) (Go.Operand.tmp 27) 9, type := 4, pos := "l03_write.go:181", after := #[{ on := 6, ground := Go.Ground.data }, { on := 8, ground := Go.Ground.data }, { on := 3, ground := Go.Ground.guard }], guard := some (3, true) }) (v := undef) rfl (by kernel_rfl) (by kernel_rfl) (by kernel_rfl) (fun _ _ _ h => h) (Or.inr ⟨by rfl, rfl⟩) hHeld ?_
  simp only [Act.put, List.setIfInBounds_toArray, List.set_cons_zero, List.set_cons_succ]
  refine wpAnyH_take (i := 10) (oi := { dst := some 29, op := Go.Op.pick (Go.Operand.tmp 22) (Go.Operand.tmp 28) (Go.Operand.const (Go.Value.bool false)), type := 4, pos := "l03_write.go:181", after := #[{ on := 3, ground := Go.Ground.data }, { on := 9, ground := Go.Ground.data }], guard := none }) (v := ?vb10) rfl (by kernel_rfl) (by kernel_rfl) (by kernel_rfl) (fun _ _ _ h => h) (Or.inl ⟨by rfl, ?hb10⟩) hHeld ?rb10
  case hb10 =>
    intro wS hSw
    (try dsimp only at hSw)
    go_simp
    try with_reducible rfl
  case rb10 =>
  simp only [Act.put, List.setIfInBounds_toArray, List.set_cons_zero, List.set_cons_succ]
  refine wpAnyH_done (by kernel_rfl) ?_ _
  refine NoPanic.normal ?_
  have HB3 := hide hHeld
  clear hHeld
  go_wp2_with fail
  go_ret2
  exact ⟨rfl, unhide HB3⟩

set_option maxRecDepth 100000 in
set_option maxHeartbeats 1000000 in
theorem readDeed_nput (g cap : Nat) (s : ByteArray) (w : World) (h0 : w.cell? ⟨g, 0, none⟩ = some (.string s)) (hs : (s.toList == [112, 117, 116]) = false) :
    Calls Tryz.prog 44 #[.slice (some ⟨g, 0, none⟩) 3 cap] w fun e w' => e = .returned (.tuple #[.nilIface, .bool false]) ∧ Below w.heap.size w w' := by
  skip
  go_enter Tryz.func44, Tryz.ntmps44
  go_wp2_with fail
  refine wp_region_noPanic ?_
  refine wp_region_held_drew (S := fun w' => Below w.heap.size w w') (by kernel_rfl) (Below.refl _ _).drew (fun hHeld => ?_)
  generalize w.drew = wD at hHeld ⊢
  refine wpAnyH_take (i := 0) (oi := { dst := some 6, op := Go.Op.move (Go.Operand.tmp 0), type := 57, pos := "l03_write.go:178", after := #[], guard := none }) (v := ?va0) rfl (by kernel_rfl) (by kernel_rfl) (by kernel_rfl) (fun _ _ _ h => h) (Or.inl ⟨by rfl, ?ha0⟩) hHeld ?ra0
  case ha0 =>
    intro wS hSw
    (try dsimp only at hSw)
    go_simp
    try with_reducible rfl
  case ra0 =>
  simp only [Act.put, List.setIfInBounds_toArray, List.set_cons_zero, List.set_cons_succ]
  refine wpAnyH_take (i := 1) (oi := { dst := some 7, op := Go.Op.call { callee := Go.Callee.builtin Go.Builtin.len, args := #[Go.Operand.tmp 6], argTypes := #[57] }, type := 3, pos := "l03_write.go:178", after := #[{ on := 0, ground := Go.Ground.data }], guard := none }) (v := ?va1) rfl (by kernel_rfl) (by kernel_rfl) (by kernel_rfl) (fun _ _ _ h => h) (Or.inl ⟨by rfl, ?ha1⟩) hHeld ?ra1
  case ha1 =>
    intro wS hSw
    (try dsimp only at hSw)
    go_simp
    try with_reducible rfl
  case ra1 =>
  simp only [Act.put, List.setIfInBounds_toArray, List.set_cons_zero, List.set_cons_succ]
  refine wpAnyH_take (i := 2) (oi := { dst := some 8, op := Go.Op.binOp Go.BinOp.eql 3 (Go.Operand.tmp 7) (Go.Operand.const (Go.Value.int Go.IntKind.i64 2)) 3, type := 4, pos := "l03_write.go:178", after := #[{ on := 1, ground := Go.Ground.data }], guard := none }) (v := ?va2) rfl (by kernel_rfl) (by kernel_rfl) (by kernel_rfl) (fun _ _ _ h => h) (Or.inl ⟨by rfl, ?ha2⟩) hHeld ?ra2
  case ha2 =>
    intro wS hSw
    (try dsimp only at hSw)
    go_simp
    try with_reducible rfl
  case ra2 =>
  simp only [Act.put, List.setIfInBounds_toArray, List.set_cons_zero, List.set_cons_succ]
  refine wpAnyH_take (i := 3) (oi := { dst := some 9, op := Go.Op.move (Go.Operand.tmp 8), type := 4, pos := "l03_write.go:178", after := #[{ on := 2, ground := Go.Ground.data }], guard := none }) (v := ?va3) rfl (by kernel_rfl) (by kernel_rfl) (by kernel_rfl) (fun _ _ _ h => h) (Or.inl ⟨by rfl, ?ha3⟩) hHeld ?ra3
  case ha3 =>
    intro wS hSw
    (try dsimp only at hSw)
    go_simp
    try with_reducible rfl
  case ra3 =>
  simp only [Act.put, List.setIfInBounds_toArray, List.set_cons_zero, List.set_cons_succ]
  refine wpAnyH_take (i := 4) (oi := { dst := some 10, op := Go.Op.move (Go.Operand.tmp 0), type := 57, pos := "l03_write.go:178", after := #[{ on := 3, ground := Go.Ground.guard }], guard := some (3, true) }) (v := undef) rfl (by kernel_rfl) (by kernel_rfl) (by kernel_rfl) (fun _ _ _ h => h) (Or.inr ⟨by rfl, rfl⟩) hHeld ?_
  simp only [Act.put, List.setIfInBounds_toArray, List.set_cons_zero, List.set_cons_succ]
  refine wpAnyH_take (i := 5) (oi := { dst := some 11, op := Go.Op.indexAddr 57 (Go.Operand.tmp 10) (Go.Operand.const (Go.Value.int Go.IntKind.i64 0)), type := 0, pos := "l03_write.go:178", after := #[{ on := 4, ground := Go.Ground.data }, { on := 3, ground := Go.Ground.guard }], guard := some (3, true) }) (v := undef) rfl (by kernel_rfl) (by kernel_rfl) (by kernel_rfl) (fun _ _ _ h => h) (Or.inr ⟨by rfl, rfl⟩) hHeld ?_
  simp only [Act.put, List.setIfInBounds_toArray, List.set_cons_zero, List.set_cons_succ]
  refine wpAnyH_take (i := 6) (oi := { dst := some 12, op := Go.Op.load 9 (Go.Operand.tmp 11), type := 9, pos := "l03_write.go:178", after := #[{ on := 5, ground := Go.Ground.data }, { on := 3, ground := Go.Ground.guard }], guard := some (3, true) }) (v := undef) rfl (by kernel_rfl) (by kernel_rfl) (by kernel_rfl) (fun _ _ _ h => h) (Or.inr ⟨by rfl, rfl⟩) hHeld ?_
  simp only [Act.put, List.setIfInBounds_toArray, List.set_cons_zero, List.set_cons_succ]
  refine wpAnyH_take (i := 7) (oi := { dst := some 13, op := Go.Op.build 85 #[], type := 85, pos := "l03_write.go:178", after := #[{ on := 3, ground := Go.Ground.guard }], guard := some (3, true) }) (v := undef) rfl (by kernel_rfl) (by kernel_rfl) (by kernel_rfl) (fun _ _ _ h => h) (Or.inr ⟨by rfl, rfl⟩) hHeld ?_
  simp only [Act.put, List.setIfInBounds_toArray, List.set_cons_zero, List.set_cons_succ]
  refine wpAnyH_take (i := 8) (oi := { dst := some 14, op := Go.Op.call { callee := Go.Callee.value (Go.Operand.func 68), args := #[Go.Operand.tmp 13], argTypes := #[85] }, type := 9, pos := "l03_write.go:178", after := #[{ on := 7, ground := Go.Ground.data }, { on := 3, ground := Go.Ground.chain }, { on := 3, ground := Go.Ground.guard }], guard := some (3, true) }) (v := undef) rfl (by kernel_rfl) (by kernel_rfl) (by kernel_rfl) (fun _ _ _ h => h) (Or.inr ⟨by rfl, rfl⟩) hHeld ?_
  simp only [Act.put, List.setIfInBounds_toArray, List.set_cons_zero, List.set_cons_succ]
  refine wpAnyH_take (i := 9) (oi := { dst := some 15, op := Go.Op.binOp Go.BinOp.eql 9 (Go.Operand.tmp 12) (Go.Operand.tmp 14) 9, type := 4, pos := "l03_write.go:178", after := #[{ on := 6, ground := Go.Ground.data }, { on := 8, ground := Go.Ground.data }, { on := 3, ground := Go.Ground.guard }], guard := some (3, true) }) (v := undef) rfl (by kernel_rfl) (by kernel_rfl) (by kernel_rfl) (fun _ _ _ h => h) (Or.inr ⟨by rfl, rfl⟩) hHeld ?_
  simp only [Act.put, List.setIfInBounds_toArray, List.set_cons_zero, List.set_cons_succ]
  refine wpAnyH_take (i := 10) (oi := { dst := some 16, op := Go.Op.pick (Go.Operand.tmp 9) (Go.Operand.tmp 15) (Go.Operand.const (Go.Value.bool false)), type := 4, pos := "l03_write.go:178", after := #[{ on := 3, ground := Go.Ground.data }, { on := 9, ground := Go.Ground.data }], guard := none }) (v := ?va10) rfl (by kernel_rfl) (by kernel_rfl) (by kernel_rfl) (fun _ _ _ h => h) (Or.inl ⟨by rfl, ?ha10⟩) hHeld ?ra10
  case ha10 =>
    intro wS hSw
    (try dsimp only at hSw)
    go_simp
    try with_reducible rfl
  case ra10 =>
  simp only [Act.put, List.setIfInBounds_toArray, List.set_cons_zero, List.set_cons_succ]
  refine wpAnyH_done (by kernel_rfl) ?_ _
  refine NoPanic.normal ?_
  have HB := hide hHeld
  clear hHeld
  go_wp2_with fail
  have h0 := cell_keep (unhide HB) h0
  refine wp_region_noPanic ?_
  refine wp_region_held_drew (S := fun w' => Below wD.heap.size wD w') (by kernel_rfl) (Below.refl _ _).drew (fun hHeld => ?_)
  generalize wD.drew = wF at hHeld ⊢
  refine wpAnyH_take (i := 0) (oi := { dst := some 19, op := Go.Op.move (Go.Operand.tmp 0), type := 57, pos := "l03_write.go:181", after := #[], guard := none }) (v := ?vb0) rfl (by kernel_rfl) (by kernel_rfl) (by kernel_rfl) (fun _ _ _ h => h) (Or.inl ⟨by rfl, ?hb0⟩) hHeld ?rb0
  case hb0 =>
    intro wS hSw
    (try dsimp only at hSw)
    go_simp
    try with_reducible rfl
  case rb0 =>
  simp only [Act.put, List.setIfInBounds_toArray, List.set_cons_zero, List.set_cons_succ]
  refine wpAnyH_take (i := 1) (oi := { dst := some 20, op := Go.Op.call { callee := Go.Callee.builtin Go.Builtin.len, args := #[Go.Operand.tmp 19], argTypes := #[57] }, type := 3, pos := "l03_write.go:181", after := #[{ on := 0, ground := Go.Ground.data }], guard := none }) (v := ?vb1) rfl (by kernel_rfl) (by kernel_rfl) (by kernel_rfl) (fun _ _ _ h => h) (Or.inl ⟨by rfl, ?hb1⟩) hHeld ?rb1
  case hb1 =>
    intro wS hSw
    (try dsimp only at hSw)
    go_simp
    try with_reducible rfl
  case rb1 =>
  simp only [Act.put, List.setIfInBounds_toArray, List.set_cons_zero, List.set_cons_succ]
  refine wpAnyH_take (i := 2) (oi := { dst := some 21, op := Go.Op.binOp Go.BinOp.eql 3 (Go.Operand.tmp 20) (Go.Operand.const (Go.Value.int Go.IntKind.i64 3)) 3, type := 4, pos := "l03_write.go:181", after := #[{ on := 1, ground := Go.Ground.data }], guard := none }) (v := ?vb2) rfl (by kernel_rfl) (by kernel_rfl) (by kernel_rfl) (fun _ _ _ h => h) (Or.inl ⟨by rfl, ?hb2⟩) hHeld ?rb2
  case hb2 =>
    intro wS hSw
    (try dsimp only at hSw)
    go_simp
    try with_reducible rfl
  case rb2 =>
  simp only [Act.put, List.setIfInBounds_toArray, List.set_cons_zero, List.set_cons_succ]
  refine wpAnyH_take (i := 3) (oi := { dst := some 22, op := Go.Op.move (Go.Operand.tmp 21), type := 4, pos := "l03_write.go:181", after := #[{ on := 2, ground := Go.Ground.data }], guard := none }) (v := ?vb3) rfl (by kernel_rfl) (by kernel_rfl) (by kernel_rfl) (fun _ _ _ h => h) (Or.inl ⟨by rfl, ?hb3⟩) hHeld ?rb3
  case hb3 =>
    intro wS hSw
    (try dsimp only at hSw)
    go_simp
    try with_reducible rfl
  case rb3 =>
  simp only [Act.put, List.setIfInBounds_toArray, List.set_cons_zero, List.set_cons_succ]
  refine wpAnyH_take (i := 4) (oi := { dst := some 23, op := Go.Op.move (Go.Operand.tmp 0), type := 57, pos := "l03_write.go:181", after := #[{ on := 3, ground := Go.Ground.guard }], guard := some (3, true) }) (v := ?vb4) rfl (by kernel_rfl) (by kernel_rfl) (by kernel_rfl) (fun _ _ _ h => h) (Or.inl ⟨by rfl, ?hb4⟩) hHeld ?rb4
  case hb4 =>
    intro wS hSw
    (try dsimp only at hSw)
    go_simp
    try with_reducible rfl
  case rb4 =>
  simp only [Act.put, List.setIfInBounds_toArray, List.set_cons_zero, List.set_cons_succ]
  refine wpAnyH_take (i := 5) (oi := { dst := some 24, op := Go.Op.indexAddr 57 (Go.Operand.tmp 23) (Go.Operand.const (Go.Value.int Go.IntKind.i64 0)), type := 0, pos := "l03_write.go:181", after := #[{ on := 4, ground := Go.Ground.data }, { on := 3, ground := Go.Ground.guard }], guard := some (3, true) }) (v := ?vb5) rfl (by kernel_rfl) (by kernel_rfl) (by kernel_rfl) (fun _ _ _ h => h) (Or.inl ⟨by rfl, ?hb5⟩) hHeld ?rb5
  case hb5 =>
    intro wS hSw
    (try dsimp only at hSw)
    go_simp
    try with_reducible rfl
  case rb5 =>
  simp only [Act.put, List.setIfInBounds_toArray, List.set_cons_zero, List.set_cons_succ]
  refine wpAnyH_take (i := 6) (oi := { dst := some 25, op := Go.Op.load 9 (Go.Operand.tmp 24), type := 9, pos := "l03_write.go:181", after := #[{ on := 5, ground := Go.Ground.data }, { on := 3, ground := Go.Ground.guard }], guard := some (3, true) }) (v := ?vb6) rfl (by kernel_rfl) (by kernel_rfl) (by kernel_rfl) (fun _ _ _ h => h) (Or.inl ⟨by rfl, ?hb6⟩) hHeld ?rb6
  case hb6 =>
    intro wS hSw
    have y0 := cell_keep hSw h0
    clear hSw
    (try dsimp only at hSw)
    go_simp
    try with_reducible rfl
  case rb6 =>
  simp only [Act.put, List.setIfInBounds_toArray, List.set_cons_zero, List.set_cons_succ]
  refine wpAnyH_take (i := 7) (oi := { dst := some 26, op := Go.Op.build 89 #[], type := 89, pos := "l03_write.go:181", after := #[{ on := 3, ground := Go.Ground.guard }], guard := some (3, true) }) (v := ?vb7) rfl (by kernel_rfl) (by kernel_rfl) (by kernel_rfl) (fun _ _ _ h => h) (Or.inl ⟨by rfl, ?hb7⟩) hHeld ?rb7
  case hb7 =>
    intro wS hSw
    (try dsimp only at hSw)
    go_simp
    try with_reducible rfl
  case rb7 =>
  simp only [Act.put, List.setIfInBounds_toArray, List.set_cons_zero, List.set_cons_succ]
  refine wpAnyH_ready (rs := [8]) (by kernel_rfl) (by simp) ?_
  refine AllReadyH.cons (o := { dst := some 27, op := Go.Op.call { callee := Go.Callee.value (Go.Operand.func 69), args := #[Go.Operand.tmp 26], argTypes := #[89] }, type := 9, pos := "l03_write.go:181", after := #[{ on := 7, ground := Go.Ground.data }, { on := 3, ground := Go.Ground.chain }, { on := 3, ground := Go.Ground.guard }], guard := some (3, true) }) rfl (fun K hK => ?_) AllReadyH.nil
  go_simp
  go_at_call 69
  refine (verbPut 0 0 0 _).mono ?_
  rintro e wE ⟨rfl, hbw⟩
  try go_wp2_with fail
  refine hK.out _ _ (hHeld.trans (hbw.mono hHeld.size)) (fun hHeld => ?_)
  clear hK K
  try simp only [Act.put, List.setIfInBounds_toArray, List.set_cons_zero, List.set_cons_succ]
  refine wpAnyH_take (i := 9) (oi := { dst := some 28, op := Go.Op.binOp Go.BinOp.eql 9 (Go.Operand.tmp 25) (Go.Operand.tmp 27) 9, type := 4, pos := "l03_write.go:181", after := #[{ on := 6, ground := Go.Ground.data }, { on := 8, ground := Go.Ground.data }, { on := 3, ground := Go.Ground.guard }], guard := some (3, true) }) (v := ?vb9) rfl (by kernel_rfl) (by kernel_rfl) (by kernel_rfl) (fun _ _ _ h => h) (Or.inl ⟨by rfl, ?hb9⟩) hHeld ?rb9
  case hb9 =>
    intro wS hSw
    (try dsimp only at hSw)
    go_simp
    try with_reducible rfl
  case rb9 =>
  simp only [Act.put, List.setIfInBounds_toArray, List.set_cons_zero, List.set_cons_succ]
  refine wpAnyH_take (i := 10) (oi := { dst := some 29, op := Go.Op.pick (Go.Operand.tmp 22) (Go.Operand.tmp 28) (Go.Operand.const (Go.Value.bool false)), type := 4, pos := "l03_write.go:181", after := #[{ on := 3, ground := Go.Ground.data }, { on := 9, ground := Go.Ground.data }], guard := none }) (v := ?vb10) rfl (by kernel_rfl) (by kernel_rfl) (by kernel_rfl) (fun _ _ _ h => h) (Or.inl ⟨by rfl, ?hb10⟩) hHeld ?rb10
  case hb10 =>
    intro wS hSw
    (try dsimp only at hSw)
    go_simp
    try with_reducible rfl
  case rb10 =>
  simp only [Act.put, List.setIfInBounds_toArray, List.set_cons_zero, List.set_cons_succ]
  refine wpAnyH_done (by kernel_rfl) ?_ _
  refine NoPanic.normal ?_
  have HB3 := hide hHeld
  clear hHeld
  go_wp2_with fail
  go_ret2
  exact ⟨rfl, (unhide HB).trans ((unhide HB3).mono (unhide HB).size)⟩

/-- A deed that was read, or none. -/
def deedT : Option Tri → Value
  | none => .tuple #[putV 0 0 0, .bool false]
  | some (x, y, z) => .tuple #[putV x y z, .bool true]

set_option maxRecDepth 100000 in
set_option maxHeartbeats 1000000 in
theorem readDeed_put (g cap : Nat) (t : ByteArray) (w : World) (h0 : w.cell? ⟨g, 0, none⟩ = some (.string ⟨#[112, 117, 116]⟩)) (h2 : w.cell? ⟨g, 2, none⟩ = some (.string t)) (zt : t.size ≤ 1048576) :
    Calls Tryz.prog 44 #[.slice (some ⟨g, 0, none⟩) 3 cap] w fun e w' => e = .returned (deedT (PP 3 (0, 0, 0) (rest t 0))) ∧ Below w.heap.size w w' := by
  have L := hide (fun W => readVector_c t W zt)
  generalize PP 3 (0, 0, 0) (rest t 0) = R at *
  go_enter Tryz.func44, Tryz.ntmps44
  go_wp2_with fail
  refine wp_region_noPanic ?_
  refine wp_region_held_drew (S := fun w' => Below w.heap.size w w') (by kernel_rfl) (Below.refl _ _).drew (fun hHeld => ?_)
  generalize w.drew = wD at hHeld ⊢
  refine wpAnyH_take (i := 0) (oi := { dst := some 6, op := Go.Op.move (Go.Operand.tmp 0), type := 57, pos := "l03_write.go:178", after := #[], guard := none }) (v := ?va0) rfl (by kernel_rfl) (by kernel_rfl) (by kernel_rfl) (fun _ _ _ h => h) (Or.inl ⟨by rfl, ?ha0⟩) hHeld ?ra0
  case ha0 =>
    intro wS hSw
    (try dsimp only at hSw)
    go_simp
    try with_reducible rfl
  case ra0 =>
  simp only [Act.put, List.setIfInBounds_toArray, List.set_cons_zero, List.set_cons_succ]
  refine wpAnyH_take (i := 1) (oi := { dst := some 7, op := Go.Op.call { callee := Go.Callee.builtin Go.Builtin.len, args := #[Go.Operand.tmp 6], argTypes := #[57] }, type := 3, pos := "l03_write.go:178", after := #[{ on := 0, ground := Go.Ground.data }], guard := none }) (v := ?va1) rfl (by kernel_rfl) (by kernel_rfl) (by kernel_rfl) (fun _ _ _ h => h) (Or.inl ⟨by rfl, ?ha1⟩) hHeld ?ra1
  case ha1 =>
    intro wS hSw
    (try dsimp only at hSw)
    go_simp
    try with_reducible rfl
  case ra1 =>
  simp only [Act.put, List.setIfInBounds_toArray, List.set_cons_zero, List.set_cons_succ]
  refine wpAnyH_take (i := 2) (oi := { dst := some 8, op := Go.Op.binOp Go.BinOp.eql 3 (Go.Operand.tmp 7) (Go.Operand.const (Go.Value.int Go.IntKind.i64 2)) 3, type := 4, pos := "l03_write.go:178", after := #[{ on := 1, ground := Go.Ground.data }], guard := none }) (v := ?va2) rfl (by kernel_rfl) (by kernel_rfl) (by kernel_rfl) (fun _ _ _ h => h) (Or.inl ⟨by rfl, ?ha2⟩) hHeld ?ra2
  case ha2 =>
    intro wS hSw
    (try dsimp only at hSw)
    go_simp
    try with_reducible rfl
  case ra2 =>
  simp only [Act.put, List.setIfInBounds_toArray, List.set_cons_zero, List.set_cons_succ]
  refine wpAnyH_take (i := 3) (oi := { dst := some 9, op := Go.Op.move (Go.Operand.tmp 8), type := 4, pos := "l03_write.go:178", after := #[{ on := 2, ground := Go.Ground.data }], guard := none }) (v := ?va3) rfl (by kernel_rfl) (by kernel_rfl) (by kernel_rfl) (fun _ _ _ h => h) (Or.inl ⟨by rfl, ?ha3⟩) hHeld ?ra3
  case ha3 =>
    intro wS hSw
    (try dsimp only at hSw)
    go_simp
    try with_reducible rfl
  case ra3 =>
  simp only [Act.put, List.setIfInBounds_toArray, List.set_cons_zero, List.set_cons_succ]
  refine wpAnyH_take (i := 4) (oi := { dst := some 10, op := Go.Op.move (Go.Operand.tmp 0), type := 57, pos := "l03_write.go:178", after := #[{ on := 3, ground := Go.Ground.guard }], guard := some (3, true) }) (v := undef) rfl (by kernel_rfl) (by kernel_rfl) (by kernel_rfl) (fun _ _ _ h => h) (Or.inr ⟨by rfl, rfl⟩) hHeld ?_
  simp only [Act.put, List.setIfInBounds_toArray, List.set_cons_zero, List.set_cons_succ]
  refine wpAnyH_take (i := 5) (oi := { dst := some 11, op := Go.Op.indexAddr 57 (Go.Operand.tmp 10) (Go.Operand.const (Go.Value.int Go.IntKind.i64 0)), type := 0, pos := "l03_write.go:178", after := #[{ on := 4, ground := Go.Ground.data }, { on := 3, ground := Go.Ground.guard }], guard := some (3, true) }) (v := undef) rfl (by kernel_rfl) (by kernel_rfl) (by kernel_rfl) (fun _ _ _ h => h) (Or.inr ⟨by rfl, rfl⟩) hHeld ?_
  simp only [Act.put, List.setIfInBounds_toArray, List.set_cons_zero, List.set_cons_succ]
  refine wpAnyH_take (i := 6) (oi := { dst := some 12, op := Go.Op.load 9 (Go.Operand.tmp 11), type := 9, pos := "l03_write.go:178", after := #[{ on := 5, ground := Go.Ground.data }, { on := 3, ground := Go.Ground.guard }], guard := some (3, true) }) (v := undef) rfl (by kernel_rfl) (by kernel_rfl) (by kernel_rfl) (fun _ _ _ h => h) (Or.inr ⟨by rfl, rfl⟩) hHeld ?_
  simp only [Act.put, List.setIfInBounds_toArray, List.set_cons_zero, List.set_cons_succ]
  refine wpAnyH_take (i := 7) (oi := { dst := some 13, op := Go.Op.build 85 #[], type := 85, pos := "l03_write.go:178", after := #[{ on := 3, ground := Go.Ground.guard }], guard := some (3, true) }) (v := undef) rfl (by kernel_rfl) (by kernel_rfl) (by kernel_rfl) (fun _ _ _ h => h) (Or.inr ⟨by rfl, rfl⟩) hHeld ?_
  simp only [Act.put, List.setIfInBounds_toArray, List.set_cons_zero, List.set_cons_succ]
  refine wpAnyH_take (i := 8) (oi := { dst := some 14, op := Go.Op.call { callee := Go.Callee.value (Go.Operand.func 68), args := #[Go.Operand.tmp 13], argTypes := #[85] }, type := 9, pos := "l03_write.go:178", after := #[{ on := 7, ground := Go.Ground.data }, { on := 3, ground := Go.Ground.chain }, { on := 3, ground := Go.Ground.guard }], guard := some (3, true) }) (v := undef) rfl (by kernel_rfl) (by kernel_rfl) (by kernel_rfl) (fun _ _ _ h => h) (Or.inr ⟨by rfl, rfl⟩) hHeld ?_
  simp only [Act.put, List.setIfInBounds_toArray, List.set_cons_zero, List.set_cons_succ]
  refine wpAnyH_take (i := 9) (oi := { dst := some 15, op := Go.Op.binOp Go.BinOp.eql 9 (Go.Operand.tmp 12) (Go.Operand.tmp 14) 9, type := 4, pos := "l03_write.go:178", after := #[{ on := 6, ground := Go.Ground.data }, { on := 8, ground := Go.Ground.data }, { on := 3, ground := Go.Ground.guard }], guard := some (3, true) }) (v := undef) rfl (by kernel_rfl) (by kernel_rfl) (by kernel_rfl) (fun _ _ _ h => h) (Or.inr ⟨by rfl, rfl⟩) hHeld ?_
  simp only [Act.put, List.setIfInBounds_toArray, List.set_cons_zero, List.set_cons_succ]
  refine wpAnyH_take (i := 10) (oi := { dst := some 16, op := Go.Op.pick (Go.Operand.tmp 9) (Go.Operand.tmp 15) (Go.Operand.const (Go.Value.bool false)), type := 4, pos := "l03_write.go:178", after := #[{ on := 3, ground := Go.Ground.data }, { on := 9, ground := Go.Ground.data }], guard := none }) (v := ?va10) rfl (by kernel_rfl) (by kernel_rfl) (by kernel_rfl) (fun _ _ _ h => h) (Or.inl ⟨by rfl, ?ha10⟩) hHeld ?ra10
  case ha10 =>
    intro wS hSw
    (try dsimp only at hSw)
    go_simp
    try with_reducible rfl
  case ra10 =>
  simp only [Act.put, List.setIfInBounds_toArray, List.set_cons_zero, List.set_cons_succ]
  refine wpAnyH_done (by kernel_rfl) ?_ _
  refine NoPanic.normal ?_
  have HB := hide hHeld
  clear hHeld
  go_wp2_with fail
  replace h0 := cell_keep (unhide HB) h0
  replace h2 := cell_keep (unhide HB) h2
  refine wp_region_noPanic ?_
  refine wp_region_held_drew (S := fun w' => Below wD.heap.size wD w') (by kernel_rfl) (Below.refl _ _).drew (fun hHeld => ?_)
  generalize wD.drew = wF at hHeld ⊢
  refine wpAnyH_take (i := 0) (oi := { dst := some 19, op := Go.Op.move (Go.Operand.tmp 0), type := 57, pos := "l03_write.go:181", after := #[], guard := none }) (v := ?vb0) rfl (by kernel_rfl) (by kernel_rfl) (by kernel_rfl) (fun _ _ _ h => h) (Or.inl ⟨by rfl, ?hb0⟩) hHeld ?rb0
  case hb0 =>
    intro wS hSw
    (try dsimp only at hSw)
    go_simp
    try with_reducible rfl
  case rb0 =>
  simp only [Act.put, List.setIfInBounds_toArray, List.set_cons_zero, List.set_cons_succ]
  refine wpAnyH_take (i := 1) (oi := { dst := some 20, op := Go.Op.call { callee := Go.Callee.builtin Go.Builtin.len, args := #[Go.Operand.tmp 19], argTypes := #[57] }, type := 3, pos := "l03_write.go:181", after := #[{ on := 0, ground := Go.Ground.data }], guard := none }) (v := ?vb1) rfl (by kernel_rfl) (by kernel_rfl) (by kernel_rfl) (fun _ _ _ h => h) (Or.inl ⟨by rfl, ?hb1⟩) hHeld ?rb1
  case hb1 =>
    intro wS hSw
    (try dsimp only at hSw)
    go_simp
    try with_reducible rfl
  case rb1 =>
  simp only [Act.put, List.setIfInBounds_toArray, List.set_cons_zero, List.set_cons_succ]
  refine wpAnyH_take (i := 2) (oi := { dst := some 21, op := Go.Op.binOp Go.BinOp.eql 3 (Go.Operand.tmp 20) (Go.Operand.const (Go.Value.int Go.IntKind.i64 3)) 3, type := 4, pos := "l03_write.go:181", after := #[{ on := 1, ground := Go.Ground.data }], guard := none }) (v := ?vb2) rfl (by kernel_rfl) (by kernel_rfl) (by kernel_rfl) (fun _ _ _ h => h) (Or.inl ⟨by rfl, ?hb2⟩) hHeld ?rb2
  case hb2 =>
    intro wS hSw
    (try dsimp only at hSw)
    go_simp
    try with_reducible rfl
  case rb2 =>
  simp only [Act.put, List.setIfInBounds_toArray, List.set_cons_zero, List.set_cons_succ]
  refine wpAnyH_take (i := 3) (oi := { dst := some 22, op := Go.Op.move (Go.Operand.tmp 21), type := 4, pos := "l03_write.go:181", after := #[{ on := 2, ground := Go.Ground.data }], guard := none }) (v := ?vb3) rfl (by kernel_rfl) (by kernel_rfl) (by kernel_rfl) (fun _ _ _ h => h) (Or.inl ⟨by rfl, ?hb3⟩) hHeld ?rb3
  case hb3 =>
    intro wS hSw
    (try dsimp only at hSw)
    go_simp
    try with_reducible rfl
  case rb3 =>
  simp only [Act.put, List.setIfInBounds_toArray, List.set_cons_zero, List.set_cons_succ]
  refine wpAnyH_take (i := 4) (oi := { dst := some 23, op := Go.Op.move (Go.Operand.tmp 0), type := 57, pos := "l03_write.go:181", after := #[{ on := 3, ground := Go.Ground.guard }], guard := some (3, true) }) (v := ?vb4) rfl (by kernel_rfl) (by kernel_rfl) (by kernel_rfl) (fun _ _ _ h => h) (Or.inl ⟨by rfl, ?hb4⟩) hHeld ?rb4
  case hb4 =>
    intro wS hSw
    (try dsimp only at hSw)
    go_simp
    try with_reducible rfl
  case rb4 =>
  simp only [Act.put, List.setIfInBounds_toArray, List.set_cons_zero, List.set_cons_succ]
  refine wpAnyH_take (i := 5) (oi := { dst := some 24, op := Go.Op.indexAddr 57 (Go.Operand.tmp 23) (Go.Operand.const (Go.Value.int Go.IntKind.i64 0)), type := 0, pos := "l03_write.go:181", after := #[{ on := 4, ground := Go.Ground.data }, { on := 3, ground := Go.Ground.guard }], guard := some (3, true) }) (v := ?vb5) rfl (by kernel_rfl) (by kernel_rfl) (by kernel_rfl) (fun _ _ _ h => h) (Or.inl ⟨by rfl, ?hb5⟩) hHeld ?rb5
  case hb5 =>
    intro wS hSw
    (try dsimp only at hSw)
    go_simp
    try with_reducible rfl
  case rb5 =>
  simp only [Act.put, List.setIfInBounds_toArray, List.set_cons_zero, List.set_cons_succ]
  refine wpAnyH_take (i := 6) (oi := { dst := some 25, op := Go.Op.load 9 (Go.Operand.tmp 24), type := 9, pos := "l03_write.go:181", after := #[{ on := 5, ground := Go.Ground.data }, { on := 3, ground := Go.Ground.guard }], guard := some (3, true) }) (v := ?vb6) rfl (by kernel_rfl) (by kernel_rfl) (by kernel_rfl) (fun _ _ _ h => h) (Or.inl ⟨by rfl, ?hb6⟩) hHeld ?rb6
  case hb6 =>
    intro wS hSw
    have y0 := cell_keep hSw h0
    clear hSw
    (try dsimp only at hSw)
    go_simp
    try with_reducible rfl
  case rb6 =>
  simp only [Act.put, List.setIfInBounds_toArray, List.set_cons_zero, List.set_cons_succ]
  refine wpAnyH_take (i := 7) (oi := { dst := some 26, op := Go.Op.build 89 #[], type := 89, pos := "l03_write.go:181", after := #[{ on := 3, ground := Go.Ground.guard }], guard := some (3, true) }) (v := ?vb7) rfl (by kernel_rfl) (by kernel_rfl) (by kernel_rfl) (fun _ _ _ h => h) (Or.inl ⟨by rfl, ?hb7⟩) hHeld ?rb7
  case hb7 =>
    intro wS hSw
    (try dsimp only at hSw)
    go_simp
    try with_reducible rfl
  case rb7 =>
  simp only [Act.put, List.setIfInBounds_toArray, List.set_cons_zero, List.set_cons_succ]
  refine wpAnyH_ready (rs := [8]) (by kernel_rfl) (by simp) ?_
  refine AllReadyH.cons (o := { dst := some 27, op := Go.Op.call { callee := Go.Callee.value (Go.Operand.func 69), args := #[Go.Operand.tmp 26], argTypes := #[89] }, type := 9, pos := "l03_write.go:181", after := #[{ on := 7, ground := Go.Ground.data }, { on := 3, ground := Go.Ground.chain }, { on := 3, ground := Go.Ground.guard }], guard := some (3, true) }) rfl (fun K hK => ?_) AllReadyH.nil
  go_simp
  go_at_call 69
  refine (verbPut 0 0 0 _).mono ?_
  rintro e wE ⟨rfl, hbw⟩
  try go_wp2_with fail
  refine hK.out _ _ (hHeld.trans (hbw.mono hHeld.size)) (fun hHeld => ?_)
  clear hK K
  try simp only [Act.put, List.setIfInBounds_toArray, List.set_cons_zero, List.set_cons_succ]
  refine wpAnyH_take (i := 9) (oi := { dst := some 28, op := Go.Op.binOp Go.BinOp.eql 9 (Go.Operand.tmp 25) (Go.Operand.tmp 27) 9, type := 4, pos := "l03_write.go:181", after := #[{ on := 6, ground := Go.Ground.data }, { on := 8, ground := Go.Ground.data }, { on := 3, ground := Go.Ground.guard }], guard := some (3, true) }) (v := ?vb9) rfl (by kernel_rfl) (by kernel_rfl) (by kernel_rfl) (fun _ _ _ h => h) (Or.inl ⟨by rfl, ?hb9⟩) hHeld ?rb9
  case hb9 =>
    intro wS hSw
    (try dsimp only at hSw)
    go_simp
    try with_reducible rfl
  case rb9 =>
  simp only [Act.put, List.setIfInBounds_toArray, List.set_cons_zero, List.set_cons_succ]
  refine wpAnyH_take (i := 10) (oi := { dst := some 29, op := Go.Op.pick (Go.Operand.tmp 22) (Go.Operand.tmp 28) (Go.Operand.const (Go.Value.bool false)), type := 4, pos := "l03_write.go:181", after := #[{ on := 3, ground := Go.Ground.data }, { on := 9, ground := Go.Ground.data }], guard := none }) (v := ?vb10) rfl (by kernel_rfl) (by kernel_rfl) (by kernel_rfl) (fun _ _ _ h => h) (Or.inl ⟨by rfl, ?hb10⟩) hHeld ?rb10
  case hb10 =>
    intro wS hSw
    (try dsimp only at hSw)
    go_simp
    try with_reducible rfl
  case rb10 =>
  simp only [Act.put, List.setIfInBounds_toArray, List.set_cons_zero, List.set_cons_succ]
  refine wpAnyH_done (by kernel_rfl) ?_ _
  refine NoPanic.normal ?_
  replace h2 := cell_keep hHeld h2
  replace HB := hide ((unhide HB).trans (hHeld.mono (unhide HB).size))
  clear hHeld h0 hbw
  go_wp2_with fail
  refine (unhide L _).mono ?_
  rintro e w5 ⟨rfl, hb⟩
  replace HB := hide ((unhide HB).trans (hb.mono (unhide HB).size))
  clear hb L h2
  have HZ : Hid (∀ o, Below w.heap.size w (w5.alloc o)) := fun o => (unhide HB).alloc (unhide HB).size _
  rcases R with _ | ⟨x, y, z⟩
  · simp only [triRes, arr3]
    go_wp2_with fail
    go_ret2
    exact ⟨rfl, unhide HZ _⟩
  · simp only [triRes, arr3]
    go_wp2_with fail
    go_ret2
    exact ⟨rfl, unhide HZ _⟩

end Go.Proofs.YtjofcmdlcoganaaGreatDoor

namespace Go.Proofs.YtjofcmdlcoganaaGreatDoor
open Go.RowKit

/-- WriteFault of the program. -/
theorem implWriteFault (k i : Int) (v : Value) (s q : Int) (zs : List Int) (w : World) (h : IsInts w v zs) :
    Calls Tryz.prog 16 #[.agg #[.int .i64 k, .int .i64 i, v, .int .i64 s, .int .i64 q]] w fun e w' => e = .returned (.int .i64 (writeFault k i zs s q)) ∧ Below w.heap.size w w' := by
  have h' := h
  obtain ⟨ao, cap, rfl, -⟩ := h'
  have B0 : Below w.heap.size w (w.alloc (.cells #[.int .i64 k, .int .i64 i, .slice ao zs.length cap, .int .i64 s, .int .i64 q] 27)) := (Below.refl _ _).alloc (Nat.le_refl _) _
  have L := hide (implDeed k i (.slice ao zs.length cap) s q zs _ (h.later B0))
  have HB := hide B0
  clear B0 h
  go_enter Tryz.func16, Tryz.ntmps16
  go_wp2_with fail
  refine (unhide L).mono ?_
  rintro e w1 ⟨rfl, hb1⟩
  have HB1 := hide ((unhide HB).trans (hb1.mono (unhide HB).size))
  clear hb1 HB L
  go_wp2_with fail
  go_ret
  exact ⟨rfl, unhide HB1⟩

end Go.Proofs.YtjofcmdlcoganaaGreatDoor

namespace Go.Proofs.YtjofcmdlcoganaaGreatDoor
open Go.RowKit

set_option maxRecDepth 100000 in
set_option maxHeartbeats 4000000 in
theorem readW_0 (s : ByteArray)  (l : List Bytes) (w : World) (hsp : ∀ W : World, W = w.alloc (.cells #[.int .i64 0, .int .i64 0, .slice none 0 0, .int .i64 0, .int .i64 0] 27) → Calls Tryz.prog 43 #[.string s, .string ⟨#[32]⟩] W fun e w' => e = .returned (.slice (some ⟨W.heap.size, 0, none⟩) 0 0) ∧ w' = W.alloc (.cells #[] 9)) (hl : readI l = none) :
    Calls Tryz.prog 23 #[.string s] w fun e w' => ∃ (k i : Int) (a : Option Addr) (n c : Nat) (ss q : Int) (ok : Bool), e = .returned (.tuple #[.agg #[.int .i64 k, .int .i64 i, .slice a n c, .int .i64 ss, .int .i64 q], .bool ok]) ∧ (ok = true → ∃ x, readI l = some x ∧ Lay.tWrite.OwnIn w' [.int .i64 k, .int .i64 i, .slice a n c, .int .i64 ss, .int .i64 q] x w.heap.size w'.heap.size) ∧ (ok = false → readI l = none) ∧ Below w.heap.size w w' := by
  have nb : Below w.heap.size w (w.alloc (.cells #[.int .i64 0, .int .i64 0, .slice none 0 0, .int .i64 0, .int .i64 0] 27)) := (Below.refl _ _).alloc (Nat.le_refl _) _
  have bR0 : Box 0 #[.int .i64 0, .int .i64 0, .slice none 0 0, .int .i64 0, .int .i64 0] 27 (w.alloc (.cells #[.int .i64 0, .int .i64 0, .slice none 0 0, .int .i64 0, .int .i64 0] 27)) w.heap.size := newBox (Nat.zero_le _)
  have hs0 : (w.alloc (.cells #[.int .i64 0, .int .i64 0, .slice none 0 0, .int .i64 0, .int .i64 0] 27)).heap.size = w.heap.size + 1 := by simp
  have HSP := hide (hsp _ rfl)
  clear hsp
  go_enter Tryz.func23, Tryz.ntmps23
  go_wp2_with fail
  generalize w.alloc (.cells #[.int .i64 0, .int .i64 0, .slice none 0 0, .int .i64 0, .int .i64 0] 27) = w1 at *
  refine (unhide HSP).mono ?_
  rintro e w2 ⟨rfl, hw2⟩
  have nb2 : Below w1.heap.size w1 w2 := by rw [hw2]; exact (Below.refl _ _).alloc (Nat.le_refl _) _
  have bS : Box 0 #[] 9 w2 w1.heap.size := by rw [hw2]; exact newBox (Nat.zero_le _)
  have bR := bR0.keep nb2
  have HB2 := hide (nb.trans (nb2.mono nb.size))
  have hlt2 := bS.lt
  rw [hs0] at *
  clear hw2 nb nb2 bR0 HSP
  have z0 : w2.cell? ⟨w.heap.size, 0, none⟩ = some (.int .i64 0) := bR.at 0 _ rfl
  have z1 : w2.cell? ⟨w.heap.size, 1, none⟩ = some (.int .i64 0) := bR.at 1 _ rfl
  have z2 : w2.cell? ⟨w.heap.size, 2, none⟩ = some (.slice none 0 0) := bR.at 2 _ rfl
  have z3 : w2.cell? ⟨w.heap.size, 3, none⟩ = some (.int .i64 0) := bR.at 3 _ rfl
  have z4 : w2.cell? ⟨w.heap.size, 4, none⟩ = some (.int .i64 0) := bR.at 4 _ rfl
  have f0 := bR.soft 0
  have f1 := bR.soft 1
  have f2 := bR.soft 2
  have f3 := bR.soft 3
  have f4 := bR.soft 4
  have lR := bR.lt
  clear bS bR
  go_wp2_with fail
  refine bodyPost_ret (v := .tuple #[.agg #[.int .i64 0, .int .i64 0, .slice none 0 0, .int .i64 0, .int .i64 0], .bool false]) (by simp [results, Tryz.results23, go_sem, z0, z1, z2, z3, z4]) rfl ?_
  exact ⟨_, _, _, _, _, _, _, false, rfl, (fun h => by cases h), fun _ => hl, ((((((unhide HB2).setCell (by simp) _).setCell (by simp) _).setCell (by simp) _).setCell (by simp) _).setCell (by simp) _)⟩

set_option maxRecDepth 100000 in
set_option maxHeartbeats 4000000 in
theorem readW_1 (s : ByteArray) (b0 : ByteArray) (l : List Bytes) (w : World) (hsp : ∀ W : World, W = w.alloc (.cells #[.int .i64 0, .int .i64 0, .slice none 0 0, .int .i64 0, .int .i64 0] 27) → Calls Tryz.prog 43 #[.string s, .string ⟨#[32]⟩] W fun e w' => e = .returned (.slice (some ⟨W.heap.size, 0, none⟩) 1 1) ∧ w' = W.alloc (.cells #[.string b0] 9)) (hl : readI l = none) :
    Calls Tryz.prog 23 #[.string s] w fun e w' => ∃ (k i : Int) (a : Option Addr) (n c : Nat) (ss q : Int) (ok : Bool), e = .returned (.tuple #[.agg #[.int .i64 k, .int .i64 i, .slice a n c, .int .i64 ss, .int .i64 q], .bool ok]) ∧ (ok = true → ∃ x, readI l = some x ∧ Lay.tWrite.OwnIn w' [.int .i64 k, .int .i64 i, .slice a n c, .int .i64 ss, .int .i64 q] x w.heap.size w'.heap.size) ∧ (ok = false → readI l = none) ∧ Below w.heap.size w w' := by
  have nb : Below w.heap.size w (w.alloc (.cells #[.int .i64 0, .int .i64 0, .slice none 0 0, .int .i64 0, .int .i64 0] 27)) := (Below.refl _ _).alloc (Nat.le_refl _) _
  have bR0 : Box 0 #[.int .i64 0, .int .i64 0, .slice none 0 0, .int .i64 0, .int .i64 0] 27 (w.alloc (.cells #[.int .i64 0, .int .i64 0, .slice none 0 0, .int .i64 0, .int .i64 0] 27)) w.heap.size := newBox (Nat.zero_le _)
  have hs0 : (w.alloc (.cells #[.int .i64 0, .int .i64 0, .slice none 0 0, .int .i64 0, .int .i64 0] 27)).heap.size = w.heap.size + 1 := by simp
  have HSP := hide (hsp _ rfl)
  clear hsp
  go_enter Tryz.func23, Tryz.ntmps23
  go_wp2_with fail
  generalize w.alloc (.cells #[.int .i64 0, .int .i64 0, .slice none 0 0, .int .i64 0, .int .i64 0] 27) = w1 at *
  refine (unhide HSP).mono ?_
  rintro e w2 ⟨rfl, hw2⟩
  have nb2 : Below w1.heap.size w1 w2 := by rw [hw2]; exact (Below.refl _ _).alloc (Nat.le_refl _) _
  have bS : Box 0 #[.string b0] 9 w2 w1.heap.size := by rw [hw2]; exact newBox (Nat.zero_le _)
  have bR := bR0.keep nb2
  have HB2 := hide (nb.trans (nb2.mono nb.size))
  have hlt2 := bS.lt
  rw [hs0] at *
  clear hw2 nb nb2 bR0 HSP
  have z0 : w2.cell? ⟨w.heap.size, 0, none⟩ = some (.int .i64 0) := bR.at 0 _ rfl
  have z1 : w2.cell? ⟨w.heap.size, 1, none⟩ = some (.int .i64 0) := bR.at 1 _ rfl
  have z2 : w2.cell? ⟨w.heap.size, 2, none⟩ = some (.slice none 0 0) := bR.at 2 _ rfl
  have z3 : w2.cell? ⟨w.heap.size, 3, none⟩ = some (.int .i64 0) := bR.at 3 _ rfl
  have z4 : w2.cell? ⟨w.heap.size, 4, none⟩ = some (.int .i64 0) := bR.at 4 _ rfl
  have f0 := bR.soft 0
  have f1 := bR.soft 1
  have f2 := bR.soft 2
  have f3 := bR.soft 3
  have f4 := bR.soft 4
  have lR := bR.lt
  clear bS bR
  go_wp2_with fail
  refine bodyPost_ret (v := .tuple #[.agg #[.int .i64 0, .int .i64 0, .slice none 0 0, .int .i64 0, .int .i64 0], .bool false]) (by simp [results, Tryz.results23, go_sem, z0, z1, z2, z3, z4]) rfl ?_
  exact ⟨_, _, _, _, _, _, _, false, rfl, (fun h => by cases h), fun _ => hl, ((((((unhide HB2).setCell (by simp) _).setCell (by simp) _).setCell (by simp) _).setCell (by simp) _).setCell (by simp) _)⟩

set_option maxRecDepth 100000 in
set_option maxHeartbeats 4000000 in
theorem readW_2 (s : ByteArray) (b0 b1 : ByteArray) (l : List Bytes) (w : World) (hsp : ∀ W : World, W = w.alloc (.cells #[.int .i64 0, .int .i64 0, .slice none 0 0, .int .i64 0, .int .i64 0] 27) → Calls Tryz.prog 43 #[.string s, .string ⟨#[32]⟩] W fun e w' => e = .returned (.slice (some ⟨W.heap.size, 0, none⟩) 2 2) ∧ w' = W.alloc (.cells #[.string b0, .string b1] 9)) (hl : readI l = none) :
    Calls Tryz.prog 23 #[.string s] w fun e w' => ∃ (k i : Int) (a : Option Addr) (n c : Nat) (ss q : Int) (ok : Bool), e = .returned (.tuple #[.agg #[.int .i64 k, .int .i64 i, .slice a n c, .int .i64 ss, .int .i64 q], .bool ok]) ∧ (ok = true → ∃ x, readI l = some x ∧ Lay.tWrite.OwnIn w' [.int .i64 k, .int .i64 i, .slice a n c, .int .i64 ss, .int .i64 q] x w.heap.size w'.heap.size) ∧ (ok = false → readI l = none) ∧ Below w.heap.size w w' := by
  have nb : Below w.heap.size w (w.alloc (.cells #[.int .i64 0, .int .i64 0, .slice none 0 0, .int .i64 0, .int .i64 0] 27)) := (Below.refl _ _).alloc (Nat.le_refl _) _
  have bR0 : Box 0 #[.int .i64 0, .int .i64 0, .slice none 0 0, .int .i64 0, .int .i64 0] 27 (w.alloc (.cells #[.int .i64 0, .int .i64 0, .slice none 0 0, .int .i64 0, .int .i64 0] 27)) w.heap.size := newBox (Nat.zero_le _)
  have hs0 : (w.alloc (.cells #[.int .i64 0, .int .i64 0, .slice none 0 0, .int .i64 0, .int .i64 0] 27)).heap.size = w.heap.size + 1 := by simp
  have HSP := hide (hsp _ rfl)
  clear hsp
  go_enter Tryz.func23, Tryz.ntmps23
  go_wp2_with fail
  generalize w.alloc (.cells #[.int .i64 0, .int .i64 0, .slice none 0 0, .int .i64 0, .int .i64 0] 27) = w1 at *
  refine (unhide HSP).mono ?_
  rintro e w2 ⟨rfl, hw2⟩
  have nb2 : Below w1.heap.size w1 w2 := by rw [hw2]; exact (Below.refl _ _).alloc (Nat.le_refl _) _
  have bS : Box 0 #[.string b0, .string b1] 9 w2 w1.heap.size := by rw [hw2]; exact newBox (Nat.zero_le _)
  have bR := bR0.keep nb2
  have HB2 := hide (nb.trans (nb2.mono nb.size))
  have hlt2 := bS.lt
  rw [hs0] at *
  clear hw2 nb nb2 bR0 HSP
  have z0 : w2.cell? ⟨w.heap.size, 0, none⟩ = some (.int .i64 0) := bR.at 0 _ rfl
  have z1 : w2.cell? ⟨w.heap.size, 1, none⟩ = some (.int .i64 0) := bR.at 1 _ rfl
  have z2 : w2.cell? ⟨w.heap.size, 2, none⟩ = some (.slice none 0 0) := bR.at 2 _ rfl
  have z3 : w2.cell? ⟨w.heap.size, 3, none⟩ = some (.int .i64 0) := bR.at 3 _ rfl
  have z4 : w2.cell? ⟨w.heap.size, 4, none⟩ = some (.int .i64 0) := bR.at 4 _ rfl
  have f0 := bR.soft 0
  have f1 := bR.soft 1
  have f2 := bR.soft 2
  have f3 := bR.soft 3
  have f4 := bR.soft 4
  have lR := bR.lt
  clear bS bR
  go_wp2_with fail
  refine bodyPost_ret (v := .tuple #[.agg #[.int .i64 0, .int .i64 0, .slice none 0 0, .int .i64 0, .int .i64 0], .bool false]) (by simp [results, Tryz.results23, go_sem, z0, z1, z2, z3, z4]) rfl ?_
  exact ⟨_, _, _, _, _, _, _, false, rfl, (fun h => by cases h), fun _ => hl, ((((((unhide HB2).setCell (by simp) _).setCell (by simp) _).setCell (by simp) _).setCell (by simp) _).setCell (by simp) _)⟩

set_option maxRecDepth 100000 in
set_option maxHeartbeats 4000000 in
theorem readW_nby (s : ByteArray) (bs : List ByteArray) (m : Nat) (t : ByteArray) (l : List Bytes) (w : World) (hsp : ∀ W : World, W = w.alloc (.cells #[.int .i64 0, .int .i64 0, .slice none 0 0, .int .i64 0, .int .i64 0] 27) → Calls Tryz.prog 43 #[.string s, .string ⟨#[32]⟩] W fun e w' => e = .returned (.slice (some ⟨W.heap.size, 0, none⟩) (m + 3) (m + 3)) ∧ w' = W.alloc (.cells (bs.map Value.string).toArray 9)) (hl : readI l = none) (hm : m ≤ 10000000) (ht : bs[m]? = some t) (hn : t.data.toList ≠ [98, 121]) :
    Calls Tryz.prog 23 #[.string s] w fun e w' => ∃ (k i : Int) (a : Option Addr) (n c : Nat) (ss q : Int) (ok : Bool), e = .returned (.tuple #[.agg #[.int .i64 k, .int .i64 i, .slice a n c, .int .i64 ss, .int .i64 q], .bool ok]) ∧ (ok = true → ∃ x, readI l = some x ∧ Lay.tWrite.OwnIn w' [.int .i64 k, .int .i64 i, .slice a n c, .int .i64 ss, .int .i64 q] x w.heap.size w'.heap.size) ∧ (ok = false → readI l = none) ∧ Below w.heap.size w w' := by
  have nb : Below w.heap.size w (w.alloc (.cells #[.int .i64 0, .int .i64 0, .slice none 0 0, .int .i64 0, .int .i64 0] 27)) := (Below.refl _ _).alloc (Nat.le_refl _) _
  have bR0 : Box 0 #[.int .i64 0, .int .i64 0, .slice none 0 0, .int .i64 0, .int .i64 0] 27 (w.alloc (.cells #[.int .i64 0, .int .i64 0, .slice none 0 0, .int .i64 0, .int .i64 0] 27)) w.heap.size := newBox (Nat.zero_le _)
  have hs0 : (w.alloc (.cells #[.int .i64 0, .int .i64 0, .slice none 0 0, .int .i64 0, .int .i64 0] 27)).heap.size = w.heap.size + 1 := by simp
  have HSP := hide (hsp _ rfl)
  clear hsp
  go_enter Tryz.func23, Tryz.ntmps23
  go_wp2_with fail
  generalize w.alloc (.cells #[.int .i64 0, .int .i64 0, .slice none 0 0, .int .i64 0, .int .i64 0] 27) = w1 at *
  refine (unhide HSP).mono ?_
  rintro e w2 ⟨rfl, hw2⟩
  have nb2 : Below w1.heap.size w1 w2 := by rw [hw2]; exact (Below.refl _ _).alloc (Nat.le_refl _) _
  have bS : Box 0 (bs.map Value.string).toArray 9 w2 w1.heap.size := by rw [hw2]; exact newBox (Nat.zero_le _)
  have bR := bR0.keep nb2
  have HB2 := hide (nb.trans (nb2.mono nb.size))
  have hlt2 := bS.lt
  rw [hs0] at *
  clear hw2 nb nb2 bR0 HSP
  have z0 : w2.cell? ⟨w.heap.size, 0, none⟩ = some (.int .i64 0) := bR.at 0 _ rfl
  have z1 : w2.cell? ⟨w.heap.size, 1, none⟩ = some (.int .i64 0) := bR.at 1 _ rfl
  have z2 : w2.cell? ⟨w.heap.size, 2, none⟩ = some (.slice none 0 0) := bR.at 2 _ rfl
  have z3 : w2.cell? ⟨w.heap.size, 3, none⟩ = some (.int .i64 0) := bR.at 3 _ rfl
  have z4 : w2.cell? ⟨w.heap.size, 4, none⟩ = some (.int .i64 0) := bR.at 4 _ rfl
  have f0 := bR.soft 0
  have f1 := bR.soft 1
  have f2 := bR.soft 2
  have f3 := bR.soft 3
  have f4 := bR.soft 4
  have lR := bR.lt
  have hc : w2.cell? ⟨w.heap.size + 1, m, none⟩ = some (.string t) := bS.at m _ (by simp [ht])
  have g1 : IntKind.i64.wrap ((m : Int) + 3 - 3) = (m : Int) := by rw [IntKind.wrap_i64]; omega
  have g2 : IntKind.i64.wrap (m : Int) = (m : Int) := by rw [IntKind.wrap_i64]; omega
  have g3 : decide ((m : Int) < 0) = false := decide_eq_false (by omega)
  have g4 : (0 : Int) ≤ (m : Int) := by omega
  have g5 : (m : Int) < (m : Int) + 3 := by omega
  have hne : t.toList ≠ [98, 121] := by rw [toList_data]; exact hn
  have e1 : (t.toList == [98, 121]) = false := by simpa using hne
  have e2 : (t.toList != [98, 121]) = true := by simpa using hne
  clear bS bR ht hn
  go_wp2_with fail
  refine bodyPost_ret (v := .tuple #[.agg #[.int .i64 0, .int .i64 0, .slice none 0 0, .int .i64 0, .int .i64 0], .bool false]) (by simp [results, Tryz.results23, go_sem, z0, z1, z2, z3, z4]) rfl ?_
  exact ⟨_, _, _, _, _, _, _, false, rfl, (fun h => by cases h), fun _ => hl, ((((((unhide HB2).setCell (by simp) _).setCell (by simp) _).setCell (by simp) _).setCell (by simp) _).setCell (by simp) _)⟩

set_option maxRecDepth 100000 in
set_option maxHeartbeats 4000000 in
theorem readW_dno (s : ByteArray) (bs : List ByteArray) (m : Nat) (l : List Bytes) (w : World) (hsp : ∀ W : World, W = w.alloc (.cells #[.int .i64 0, .int .i64 0, .slice none 0 0, .int .i64 0, .int .i64 0] 27) → Calls Tryz.prog 43 #[.string s, .string ⟨#[32]⟩] W fun e w' => e = .returned (.slice (some ⟨W.heap.size, 0, none⟩) (m + 3) (m + 3)) ∧ w' = W.alloc (.cells (bs.map Value.string).toArray 9)) (hl : readI l = none) (hm : m ≤ 10000000) (ht : bs[m]? = some ⟨#[98, 121]⟩) (hd : ∀ W, Box 0 (bs.map Value.string).toArray 9 W (w.heap.size + 1) → Calls Tryz.prog 44 #[.slice (some ⟨w.heap.size + 1, 0, none⟩) m (m + 3)] W fun e w' => ∃ dv, e = .returned (.tuple #[dv, .bool false]) ∧ Below W.heap.size W w') :
    Calls Tryz.prog 23 #[.string s] w fun e w' => ∃ (k i : Int) (a : Option Addr) (n c : Nat) (ss q : Int) (ok : Bool), e = .returned (.tuple #[.agg #[.int .i64 k, .int .i64 i, .slice a n c, .int .i64 ss, .int .i64 q], .bool ok]) ∧ (ok = true → ∃ x, readI l = some x ∧ Lay.tWrite.OwnIn w' [.int .i64 k, .int .i64 i, .slice a n c, .int .i64 ss, .int .i64 q] x w.heap.size w'.heap.size) ∧ (ok = false → readI l = none) ∧ Below w.heap.size w w' := by
  have nb : Below w.heap.size w (w.alloc (.cells #[.int .i64 0, .int .i64 0, .slice none 0 0, .int .i64 0, .int .i64 0] 27)) := (Below.refl _ _).alloc (Nat.le_refl _) _
  have bR0 : Box 0 #[.int .i64 0, .int .i64 0, .slice none 0 0, .int .i64 0, .int .i64 0] 27 (w.alloc (.cells #[.int .i64 0, .int .i64 0, .slice none 0 0, .int .i64 0, .int .i64 0] 27)) w.heap.size := newBox (Nat.zero_le _)
  have hs0 : (w.alloc (.cells #[.int .i64 0, .int .i64 0, .slice none 0 0, .int .i64 0, .int .i64 0] 27)).heap.size = w.heap.size + 1 := by simp
  have HSP := hide (hsp _ rfl)
  clear hsp
  go_enter Tryz.func23, Tryz.ntmps23
  go_wp2_with fail
  generalize w.alloc (.cells #[.int .i64 0, .int .i64 0, .slice none 0 0, .int .i64 0, .int .i64 0] 27) = w1 at *
  refine (unhide HSP).mono ?_
  rintro e w2 ⟨rfl, hw2⟩
  have nb2 : Below w1.heap.size w1 w2 := by rw [hw2]; exact (Below.refl _ _).alloc (Nat.le_refl _) _
  have bS : Box 0 (bs.map Value.string).toArray 9 w2 w1.heap.size := by rw [hw2]; exact newBox (Nat.zero_le _)
  have bR := bR0.keep nb2
  have HB2 := hide (nb.trans (nb2.mono nb.size))
  have hlt2 := bS.lt
  rw [hs0] at *
  clear hw2 nb nb2 bR0 HSP
  have hc : w2.cell? ⟨w.heap.size + 1, m, none⟩ = some (.string ⟨#[98, 121]⟩) := bS.at m _ (by simp [ht])
  have g1 : IntKind.i64.wrap ((m : Int) + 3 - 3) = (m : Int) := by rw [IntKind.wrap_i64]; omega
  have g2 : IntKind.i64.wrap (m : Int) = (m : Int) := by rw [IntKind.wrap_i64]; omega
  have g3 : decide ((m : Int) < 0) = false := decide_eq_false (by omega)
  have g4 : (0 : Int) ≤ (m : Int) := by omega
  have g5 : (m : Int) < (m : Int) + 3 := by omega
  have g6 : (m : Int) ≤ (m : Int) + 3 := by omega
  have HD := hide (hd w2 bS)
  have HR := hide bR
  clear bS bR ht hd
  go_wp2_with fail
  refine (unhide HD).mono ?_
  rintro e w3 ⟨dv, rfl, hb3⟩
  have bR := (unhide HR).keep hb3
  replace HB2 := hide ((unhide HB2).trans (hb3.mono (unhide HB2).size))
  have z0 : w3.cell? ⟨w.heap.size, 0, none⟩ = some (.int .i64 0) := bR.at 0 _ rfl
  have z1 : w3.cell? ⟨w.heap.size, 1, none⟩ = some (.int .i64 0) := bR.at 1 _ rfl
  have z2 : w3.cell? ⟨w.heap.size, 2, none⟩ = some (.slice none 0 0) := bR.at 2 _ rfl
  have z3 : w3.cell? ⟨w.heap.size, 3, none⟩ = some (.int .i64 0) := bR.at 3 _ rfl
  have z4 : w3.cell? ⟨w.heap.size, 4, none⟩ = some (.int .i64 0) := bR.at 4 _ rfl
  have f0 := bR.soft 0
  have f1 := bR.soft 1
  have f2 := bR.soft 2
  have f3 := bR.soft 3
  have f4 := bR.soft 4
  have lR := bR.lt
  clear bR HR HD hb3 hc
  go_wp2_with fail
  refine bodyPost_ret (v := .tuple #[.agg #[.int .i64 0, .int .i64 0, .slice none 0 0, .int .i64 0, .int .i64 0], .bool false]) (by simp [results, Tryz.results23, go_sem, z0, z1, z2, z3, z4]) rfl ?_
  exact ⟨_, _, _, _, _, _, _, false, rfl, (fun h => by cases h), fun _ => hl, ((((((unhide HB2).setCell (by simp) _).setCell (by simp) _).setCell (by simp) _).setCell (by simp) _).setCell (by simp) _)⟩

end Go.Proofs.YtjofcmdlcoganaaGreatDoor
