/-
  Texts of this proof in one: DrawMany11, Chance, DrawSM11, LayNetResult, LayIntResult, WrBox, InB, InC, Fault, WrFault, WrZero, ApplyPlain, SessPlain, SamePlain, NetPlain, NetsPlain, Big, SpecNode9, SpecMsgF, SpecNetF, AppInts, SpecIntsB, SpecInts.
  Their conditions stand in their theorems.
-/
import Derived.Test.YtkmfkaljdngigaaGreatDoorNq01
import Derived.Deep.RegionHeld3
import Derived.Test.YtkmfkaljdngigaaGreatDoorChecked
import Derived.BigQuiet
import Derived.Deep.QuietTactic
import Derived.WalkSmall
import Derived.Deep.CutRange
import Derived.Maps.AppendAt

namespace Go.Proofs.YtkmfkaljdngigaaGreatDoor
open Go.RowKit

theorem grown_lowM {a b c : World} {s : Option Nat} (h : a.grownBy b s) (k : Below a.heap.size b c) : a.grownBy c s :=
  ⟨k.os.trans h.os, k.tape.trans h.tape, k.output.trans h.output, Nat.le_trans h.size k.size, fun i hi hn => (k.block i hi).trans (h.block i hi hn)⟩
theorem flat_snocM {bls : List (List Nat)} {bl : List Nat} {P : Nat → Prop} (h : ∀ c ∈ bls.flatten, P c) (h2 : ∀ c ∈ bl, P c) : ∀ c ∈ (bls ++ [bl]).flatten, P c := by
  intro c hc
  rw [List.flatten_append] at hc
  rcases List.mem_append.1 hc with hc | hc
  · exact h c hc
  · exact h2 c (by simpa using hc)
theorem made_flatM (row : List Value) (n : Nat) (h0 : 0 < row.length) : (madeCells row.toArray (n * row.length)).toList = (List.replicate n row).flatten := by
  have hl : (List.replicate n row).flatten.length = n * row.length := by simp
  apply List.ext_getElem?
  intro i
  by_cases hi : i < n * row.length
  · have hm := Nat.mod_lt i h0
    have hj : i / row.length < n := (Nat.div_lt_iff_lt_mul h0).2 hi
    have e := Lay.flat_at (rows := List.replicate n row) (n := row.length) (fun r hr => by rw [List.eq_of_mem_replicate hr]) (i / row.length) (i % row.length) (by simpa using hj) hm
    rw [Nat.div_add_mod' i row.length] at e
    rw [e]
    simp [madeCells, hi, hm]
  · rw [List.getElem?_eq_none (by simp [madeCells]; omega), List.getElem?_eq_none (by omega)]
theorem made41 : (madeCells #[.int .i64 0, .int .i64 0, .int .i64 0, .int .i64 0, .int .i64 0, .int .i64 0, .int .i64 0, .slice none 0 0, .int .i64 0, .int .i64 0] 410).toList = (List.replicate 41 [.int .i64 0, .int .i64 0, .int .i64 0, .int .i64 0, .int .i64 0, .int .i64 0, .int .i64 0, .slice none 0 0, .int .i64 0, .int .i64 0]).flatten := made_flatM [.int .i64 0, .int .i64 0, .int .i64 0, .int .i64 0, .int .i64 0, .int .i64 0, .int .i64 0, .slice none 0 0, .int .i64 0, .int .i64 0] 41 (by decide)
def zeroM : DMsg := ⟨0, 0, 0, 0, 0, ⟨0, 0, [], 0, 0⟩⟩
theorem zeroMsg_lies (w : World) : Lay.tMsg.lies w [.int .i64 0, .int .i64 0, .int .i64 0, .int .i64 0, .int .i64 0, .int .i64 0, .int .i64 0, .slice none 0 0, .int .i64 0, .int .i64 0] zeroM [] :=
  lies_Msg.2 ⟨none, 0, [], rfl, rfl, by decide, by decide, by decide, by decide, by decide, by decide, by decide, Lay.lies_ints.2 ⟨none, 0, rfl, by simp [zeroM], by simp [zeroM], Or.inl ⟨rfl, rfl⟩⟩, by decide, by decide⟩
theorem grow41 {w : World} {base : Nat} {v : Value} (h : w.ownsRow base 29 10 v 41 (madeCells #[.int .i64 0, .int .i64 0, .int .i64 0, .int .i64 0, .int .i64 0, .int .i64 0, .int .i64 0, .slice none 0 0, .int .i64 0, .int .i64 0] 410).toList) : Grow Lay.tMsg w base 29 v (List.replicate 41 [.int .i64 0, .int .i64 0, .int .i64 0, .int .i64 0, .int .i64 0, .int .i64 0, .int .i64 0, .slice none 0 0, .int .i64 0, .int .i64 0]) (List.replicate 41 zeroM) (List.replicate 41 []) := by
  rw [made41] at h
  refine ⟨by rw [List.length_replicate]; exact h, by rw [List.length_replicate, List.length_replicate], by rw [List.length_replicate, List.length_replicate], fun j h1 h2 h3 => ?_, ?_⟩
  · rw [List.getElem_replicate, List.getElem_replicate, List.getElem_replicate]
    exact zeroMsg_lies w
  · intro b hb
    obtain ⟨l, h1, h2⟩ := List.mem_flatten.1 hb
    rw [List.eq_of_mem_replicate h1] at h2
    simp at h2
def ManyPost (b m : Nat) (cv : Value) (w : World) (e : Ending) (w' : World) : Prop :=
  ∃ (v : Value) (rows : List (List Value)) (xs : List DMsg) (bls : List (List Nat)) (m' : Nat), e = .returned v ∧ Grow Lay.tMsg w' w.heap.size 29 v rows xs bls ∧ (∀ c ∈ bls.flatten, w.heap.size ≤ c) ∧ xs.length ≤ 41 ∧ SrcAt w' b cv m' ∧ m' ≤ m + 2000 ∧ IsCode b w' cv ∧ w.grownBy w' (some b)
set_option maxRecDepth 10000 in
set_option maxHeartbeats 4000000 in
theorem drawMany (b m : Nat) (cv : Value) (w : World) (hs : SrcAt w b cv m) (hc : IsCode b w cv) (hm : m ≤ 100000) :
    Calls Tryz.prog 15 #[.pointer (some ⟨b, 0, none⟩)] w (ManyPost b m cv w) := by
  have hbw := hs.lt
  have nb : Below w.heap.size w (w.alloc (.cells #[] 29)) := (Below.refl w.heap.size w).alloc (Nat.le_refl _) (.cells #[] 29)
  have G0 : Grow Lay.tMsg (w.alloc (.cells #[] 29)) w.heap.size 29 (.slice (some ⟨w.heap.size, 0, none⟩) 0 0) [] [] [] := Grow.nil (World.ownsRow_lit w #[] 0 (Nat.le_refl _) (Nat.zero_le _) rfl)
  have L := next b m cv 8 (w.alloc (.cells #[] 29)) (hs.onW nb) (hc.onW (Nat.le_of_lt hbw) nb) (by omega) (by omega) (by omega)
  have HL := hide L
  have HG := hide G0
  have HN := hide nb
  clear L G0 nb hs hc
  go_enter Tryz.func15, Tryz.ntmps15
  go_wp2_with fail
  refine (unhide HL).mono ?_
  rintro e w1 ⟨r, rfl, hr, s1, c1, g1⟩
  have hr2 : r ≤ 8 := by omega
  have HG1 := hide ((unhide HG).grown g1 hbw (by simp))
  have HS1 := hide s1
  have HC1 := hide c1
  have HGR1 : Hid (w.grownBy w1 (some b)) := ⟨g1.os.trans (unhide HN).os, g1.tape.trans (unhide HN).tape, g1.output.trans (unhide HN).output, Nat.le_trans (unhide HN).size g1.size, fun i hi hn => (g1.block i (Nat.lt_of_lt_of_le hi (unhide HN).size) hn).trans ((unhide HN).block i hi)⟩
  clear s1 c1 g1 HL HG HN hr
  go_wp2_with fail
  go_loopw [3, 4] (fun v kk wr => ∃ (j : Nat) (rows : List (List Value)) (xs : List DMsg) (bls : List (List Nat)) (m' : Nat), j ≤ 8 ∧ kk = .int .i64 j ∧ Grow Lay.tMsg wr w.heap.size 29 v rows xs bls ∧ (∀ c ∈ bls.flatten, w.heap.size ≤ c) ∧ xs.length + j ≤ 8 ∧
      SrcAt wr b cv m' ∧ m' + 110 * j ≤ m + 1 + 880 ∧ IsCode b wr cv ∧ w.grownBy wr (some b)) (fun _ kk _ => (intOf kk).toNat)
  case atStart => exact ⟨r, [], [], [], m + 1, hr2, rfl, unhide HG1, by simp, by simp; exact hr2, unhide HS1, by omega, unhide HC1, unhide HGR1⟩
  case round =>
    obtain ⟨j, rows, xs, bls, m', hj, rfl, hG, hsf, hlen, hS, hm', hC, hgr⟩ := hrel
    clear HG1 HS1 HC1 HGR1
    by_cases hlt : 0 < j
    · have HL := hide (drawMsg b m' cv wr hS hC (by omega))
      have HG := hide hG
      have HSF := hide hsf
      have HGR := hide hgr
      have d1 : decide ((0 : Int) < (j : Int)) = true := by simp; omega
      have hwr := hgr.size
      clear hG hsf hS hC hgr
      go_wp2_with fail
      refine (unhide HL).mono ?_
      rintro e w3 ⟨cs, x, bl, m3, rfl, hl, hbl, s3, hm3, c3, g3⟩
      have hG := (unhide HG).grown g3 hbw (unhide HSF)
      have hoff : ∀ c ∈ bl, u3.ownBlock ≠ some c := fun c hc e => by
        have h1 := hbl c hc
        have h2 := ((unhide HG).own.lt c e).2
        omega
      have HSF2 : Hid (∀ c ∈ (bls ++ [bl]).flatten, w.heap.size ≤ c) := flat_snocM (unhide HSF) (fun c hc => Nat.le_trans hwr (hbl c hc).1)
      have HS := hide s3
      have HC := hide c3
      have HGR3 := hide (grown_trans (unhide HGR) g3)
      have HZ : Hid (w.heap.size ≤ w3.heap.size) := Nat.le_trans hwr g3.size
      obtain ⟨a2, d2, bv, rfl, rfl, -⟩ := lies_Msg.1 hl
      clear s3 c3 g3 HL HG HSF HGR hbl
      go_wp2_with (at_builtin; refine wpList_append_Msg hG hl hoff rfl _ _ rfl rfl rfl (by omega) (unhide HZ) ?_)
      intro g cap w5 hG5 hb5 hE5 hg5 hz5 hor5
      have HG5 := hide hG5
      have HS5 : Hid (SrcAt w5 b cv m3) := (hb5.block b hbw).trans (unhide HS)
      have HC5 := hide ((unhide HC).later (hb5.mono (Nat.le_of_lt hbw)))
      have HGR5 := hide (grown_lowM (unhide HGR3) hb5)
      clear hG hl hoff hG5 hb5 hE5 hg5 hz5 hor5 HS HC HGR3
      go_wp2_with fail
      go_roundw
      case rel => exact ⟨j - 1, _, _, _, m3, by omega, by go_num, unhide HG5, unhide HSF2, by simp; omega, unhide HS5, by omega, unhide HC5, unhide HGR5⟩
      case measure => simp [intOf]; omega
    · obtain rfl : j = 0 := by omega
      have HL := hide (next b m' cv 14 wr hS hC (by omega) (by omega) (by omega))
      have HG := hide hG
      have HSF := hide hsf
      have HGR := hide hgr
      have hwr0 := hgr.size
      clear hG hsf hS hC hgr
      go_wp2_with fail
      refine (unhide HL).mono ?_
      rintro e w2 ⟨q, rfl, hq, s2, c2, g2⟩
      replace HG := hide ((unhide HG).grown g2 hbw (unhide HSF))
      replace HGR := hide (grown_trans (unhide HGR) g2)
      have hwr : w.heap.size ≤ w2.heap.size := Nat.le_trans hwr0 g2.size
      have HS := hide s2
      have HC := hide c2
      clear s2 c2 g2 HL hq hwr0
      by_cases h0 : q = 0
      · subst h0
        have HL := hide (bentMsg b (m' + 1) cv w2 (unhide HS) (unhide HC) (by omega))
        clear HS HC
        go_wp2_with fail
        refine (unhide HL).mono ?_
        rintro e w3 ⟨cs, x, bl, m3, rfl, hl, hbl, s3, hm3, c3, g3⟩
        have hG := (unhide HG).grown g3 hbw (unhide HSF)
        have hoff : ∀ c ∈ bl, u3.ownBlock ≠ some c := fun c hc e => by
          have h1 := hbl c hc
          have h2 := ((unhide HG).own.lt c e).2
          omega
        have HSF2 : Hid (∀ c ∈ (bls ++ [bl]).flatten, w.heap.size ≤ c) := flat_snocM (unhide HSF) (fun c hc => Nat.le_trans hwr (hbl c hc).1)
        have HS := hide s3
        have HC := hide c3
        have HGR3 := hide (grown_trans (unhide HGR) g3)
        have HZ : Hid (w.heap.size ≤ w3.heap.size) := Nat.le_trans hwr g3.size
        obtain ⟨a2, d2, bv, rfl, rfl, -⟩ := lies_Msg.1 hl
        clear s3 c3 g3 HL HG HSF HGR hbl
        go_wp2_with (at_builtin; refine wpList_append_Msg hG hl hoff rfl _ _ rfl rfl rfl (by omega) (unhide HZ) ?_)
        intro g cap w5 hG5 hb5 hE5 hg5 hz5 hor5
        have HG5 := hide hG5
        have HS5 : Hid (SrcAt w5 b cv m3) := (hb5.block b hbw).trans (unhide HS)
        have HC5 := hide ((unhide HC).later (hb5.mono (Nat.le_of_lt hbw)))
        have HGR5 := hide (grown_lowM (unhide HGR3) hb5)
        clear hG hl hoff hG5 hb5 hE5 hg5 hz5 hor5 HS HC HGR3
        go_wp2_with fail
        go_ret
        exact ⟨_, _, _, _, m3, rfl, unhide HG5, unhide HSF2, by simp; omega, unhide HS5, by omega, unhide HC5, unhide HGR5⟩
      · by_cases h1 : q = 1
        · subst h1
          obtain ⟨i0, hi, hz0, hz1, hz2⟩ := info_parts infoAppMsg
          clear HG HSF
          go_wp2_with (at_make; refine wpList_make_full _ rfl _ _ 24 rfl w.heap.size 29 i0 _ 10 Tryz.underlying24 hi hz0 hz1 _ _ _ _ 41 rfl rfl rfl rfl ?c1 ?c2 ?c3 ?_)
          case c1 => omega
          case c2 => unfold maxLen; omega
          case c3 => omega
          intro w4 o4 g4
          have HG4 := hide (grow41 o4)
          have HB4 : Hid (Below w2.heap.size w2 w4) := (Below.refl _ _).grown g4 (Nat.le_refl _) (by simp)
          clear o4 g4 hi hz0 hz1 hz2
          have HS4 : Hid (SrcAt w4 b cv (m' + 1)) := (unhide HS).onW (unhide HB4)
          have HC4 : Hid (IsCode b w4 cv) := (unhide HC).onW (Nat.le_of_lt (unhide HS).lt) (unhide HB4)
          have HGR4 := hide (grown_lowM (unhide HGR) ((unhide HB4).mono hwr))
          clear HS HC HGR HB4
          go_wp2_with fail
          go_ret
          exact ⟨_, _, _, _, m' + 1, rfl, unhide HG4, by intro c hc; obtain ⟨l, h1, h2⟩ := List.mem_flatten.1 hc; rw [List.eq_of_mem_replicate h1] at h2; simp at h2, by rw [List.length_replicate]; omega, unhide HS4, by omega, unhide HC4, unhide HGR4⟩
        · have d0 : ((q : Int) == 0) = false := by rw [beq_eq_false_iff_ne]; omega
          have d1 : ((q : Int) == 1) = false := by rw [beq_eq_false_iff_ne]; omega
          go_wp2_with fail
          go_ret
          exact ⟨_, _, _, _, m' + 1, rfl, unhide HG, unhide HSF, by omega, unhide HS, by omega, unhide HC, unhide HGR⟩
end Go.Proofs.YtkmfkaljdngigaaGreatDoor

namespace Go.Proofs.YtkmfkaljdngigaaGreatDoor
open Go.RowKit

theorem chance5 (b m : Nat) (cv : Value) (w : World) (hs : SrcAt w b cv m) (hc : IsCode b w cv) (hm : m ≤ 100000000) (n : Int) (hn : 1 ≤ n) (hn2 : n ≤ 200) :
    Calls Tryz.prog 16 #[.pointer (some ⟨b, 0, none⟩), .int .i64 n] w fun e w' => ∃ r : Bool, e = .returned (.bool r) ∧ SrcAt w' b cv (m + 1) ∧ IsCode b w' cv ∧ w.grownBy w' (some b) := by
  have HL := hide (next b m cv n w hs hc (by omega) hn (by omega))
  clear hs hc
  go_enter Tryz.func16, Tryz.ntmps16
  go_wp2_with fail
  refine (unhide HL).mono ?_
  rintro e w1 ⟨r, rfl, hr, s1, c1, g1⟩
  have HS := hide s1
  have HC := hide c1
  have HG := hide g1
  clear s1 c1 g1 HL
  go_wp2_with fail
  go_ret
  exact ⟨_, rfl, unhide HS, unhide HC, unhide HG⟩
end Go.Proofs.YtkmfkaljdngigaaGreatDoor

namespace Go.Proofs.YtkmfkaljdngigaaGreatDoor
open Go.RowKit

theorem isCode_up11 {w w' : World} {cv : Value} (h : IsCode w.heap.size w cv) (hb : Below w.heap.size w w') : IsCode (w.heap.size + 1) w' cv := by
  obtain ⟨ao, len, cap, rfl, hl, h1⟩ := h.later hb
  refine ⟨ao, len, cap, rfl, hl, fun hp => ?_⟩
  obtain ⟨b, off, e, hB, hc⟩ := h1 hp
  exact ⟨b, off, e, by omega, hc⟩
theorem lies_elem {α : Type} {A : Lay α} {w : World} {b off cap lo hi k : Nat} {xs : List α} (h : (Lay.sl A).LiesIn w [.slice (some ⟨b, off, none⟩) xs.length cap] xs lo hi) (hk : k < xs.length) : ∃ row, (∀ m, m < A.n → w.cell? ⟨b, off + k * A.n + m, none⟩ = row[m]?) ∧ A.LiesIn w row xs[k] lo hi ∧ b < w.heap.size ∧ lo ≤ b := by
  obtain ⟨bl, ⟨ao, cp, e, hbig, hcase⟩, hlt⟩ := h
  simp only [List.cons.injEq, Value.slice.injEq, and_true, true_and] at e
  obtain ⟨rfl, rfl⟩ := e
  rcases hcase with ⟨rfl, rfl⟩ | ⟨b2, off2, rows, bls, e2, hb, rfl, hr, hl, hj⟩
  · simp at hk
  · simp only [Option.some.injEq, Addr.mk.injEq, and_true] at e2
    obtain ⟨rfl, rfl⟩ := e2
    have q := hj k hk (by omega) (by omega)
    exact ⟨rows[k], q.1, ⟨bls[k], q.2, fun c hc => hlt c (List.mem_cons_of_mem _ (List.mem_flatten.2 ⟨_, List.getElem_mem _, hc⟩))⟩, hb, (hlt b (by simp)).1⟩
set_option maxRecDepth 100000 in
set_option maxHeartbeats 4000000 in
theorem drawSM (ao : Option Addr) (len cap : Nat) (w : World) (hc : IsCode w.heap.size w (.slice ao len cap)) :
    Calls Tryz.prog 5 #[.slice ao len cap] w fun e w' => ∃ (v : Value) (xs : List DMsg) (cs : List Value) (x : DMsg), e = .returned (.tuple #[v, .agg cs.toArray]) ∧ (Lay.sl Lay.tMsg).Reads w' [v] xs ∧ Lay.tMsg.Reads w' cs x ∧ xs.length ≤ 41 ∧ Below w.heap.size w w' := by
  obtain ⟨cv, hcv⟩ : ∃ cv, cv = Value.slice ao len cap := ⟨_, rfl⟩
  have nb : Below w.heap.size w ((w.alloc (.cells #[.int .i64 0, .int .i64 0, .int .i64 0, .int .i64 0, .int .i64 0, .int .i64 0, .int .i64 0, .slice none 0 0, .int .i64 0, .int .i64 0] 29)).alloc (.cells #[.slice ao len cap, .int .i64 0] 76)) := ((Below.refl _ _).alloc (Nat.le_refl _) _).alloc (by simp) _
  have bR : Box 0 #[.int .i64 0, .int .i64 0, .int .i64 0, .int .i64 0, .int .i64 0, .int .i64 0, .int .i64 0, .slice none 0 0, .int .i64 0, .int .i64 0] 29 ((w.alloc (.cells #[.int .i64 0, .int .i64 0, .int .i64 0, .int .i64 0, .int .i64 0, .int .i64 0, .int .i64 0, .slice none 0 0, .int .i64 0, .int .i64 0] 29)).alloc (.cells #[.slice ao len cap, .int .i64 0] 76)) w.heap.size := (newBox (Nat.zero_le _)).grow _
  have LS := hide (source ao len cap (w.alloc (.cells #[.int .i64 0, .int .i64 0, .int .i64 0, .int .i64 0, .int .i64 0, .int .i64 0, .int .i64 0, .slice none 0 0, .int .i64 0, .int .i64 0] 29)))
  have hS : SrcAt ((w.alloc (.cells #[.int .i64 0, .int .i64 0, .int .i64 0, .int .i64 0, .int .i64 0, .int .i64 0, .int .i64 0, .slice none 0 0, .int .i64 0, .int .i64 0] 29)).alloc (.cells #[.slice ao len cap, .int .i64 0] 76)) (w.heap.size + 1) cv 0 := by
    rw [hcv]
    have := src_new (w.alloc (.cells #[.int .i64 0, .int .i64 0, .int .i64 0, .int .i64 0, .int .i64 0, .int .i64 0, .int .i64 0, .slice none 0 0, .int .i64 0, .int .i64 0] 29)) (.slice ao len cap)
    simpa using this
  have hC : IsCode (w.heap.size + 1) ((w.alloc (.cells #[.int .i64 0, .int .i64 0, .int .i64 0, .int .i64 0, .int .i64 0, .int .i64 0, .int .i64 0, .slice none 0 0, .int .i64 0, .int .i64 0] 29)).alloc (.cells #[.slice ao len cap, .int .i64 0] 76)) cv := by
    rw [hcv]
    exact isCode_up11 hc nb
  have hz : w.heap.size + 1 < ((w.alloc (.cells #[.int .i64 0, .int .i64 0, .int .i64 0, .int .i64 0, .int .i64 0, .int .i64 0, .int .i64 0, .slice none 0 0, .int .i64 0, .int .i64 0] 29)).alloc (.cells #[.slice ao len cap, .int .i64 0] 76)).heap.size := by simp
  have HB := hide nb
  have HR := hide bR
  have HS := hide hS
  have HC := hide hC
  clear nb bR hS hC hc
  go_enter Tryz.func5, Tryz.ntmps5
  go_wp2_with fail
  refine (unhide LS).mono ?_
  rintro e W1 ⟨rfl, hW1⟩
  subst hW1
  generalize (w.alloc (.cells #[.int .i64 0, .int .i64 0, .int .i64 0, .int .i64 0, .int .i64 0, .int .i64 0, .int .i64 0, .slice none 0 0, .int .i64 0, .int .i64 0] 29)).alloc (.cells #[.slice ao len cap, .int .i64 0] 76) = W1 at *
  have L := hide (drawMany (w.heap.size + 1) 0 cv W1 (unhide HS) (unhide HC) (by omega))
  have hzw : (w.alloc (.cells #[.int .i64 0, .int .i64 0, .int .i64 0, .int .i64 0, .int .i64 0, .int .i64 0, .int .i64 0, .slice none 0 0, .int .i64 0, .int .i64 0] 29)).heap.size = w.heap.size + 1 := by simp
  rw [hzw]
  clear LS HS HC hcv hzw
  go_wp2_with fail
  refine (unhide L).mono ?_
  rintro e W2 ⟨v, rows, xs, bls, m2, rfl, hG, hsf, hlen, s2, hm2, c2, g2⟩
  have hz2 : W1.heap.size ≤ W2.heap.size := g2.size
  have hLI := hG.toLies (by omega) hsf
  have hLI2 : (Lay.sl Lay.tMsg).LiesIn W2 [v] xs (w.heap.size + 2) W2.heap.size := hLI.mono (by omega) (Nat.le_refl _)
  replace HR := hide ((unhide HR).ext (ext_grown g2) (by omega))
  have hB2 := (unhide HB).grown g2 (unhide HB).size (fun k hk => by simp at hk; omega)
  replace HB := hide hB2
  have HLI := hide hLI2
  have HS := hide s2
  have HC := hide c2
  clear L hG hsf hLI hLI2 hB2 s2 c2 g2
  have hbent : ∀ (W3 : World) (m3 : Nat), m3 ≤ 3000 → (Lay.sl Lay.tMsg).LiesIn W3 [v] xs (w.heap.size + 2) W3.heap.size → Box 0 #[.int .i64 0, .int .i64 0, .int .i64 0, .int .i64 0, .int .i64 0, .int .i64 0, .int .i64 0, .slice none 0 0, .int .i64 0, .int .i64 0] 29 W3 w.heap.size → Below w.heap.size w W3 → SrcAt W3 (w.heap.size + 1) cv m3 → IsCode (w.heap.size + 1) W3 cv →
      Calls Tryz.prog 17 #[.pointer (some ⟨w.heap.size + 1, 0, none⟩)] W3 fun e w' => ∃ (a : Option Addr) (d : Nat) (x : DMsg), e = .returned (.agg #[.int .i64 x.kind, .int .i64 x.epoch, .int .i64 x.src, .int .i64 x.dst, .int .i64 x.index, .int .i64 x.write.kind, .int .i64 x.write.id, .slice a x.write.vec.length d, .int .i64 x.write.session, .int .i64 x.write.seq]) ∧ Lay.tMsg.LiesIn w' [.int .i64 x.kind, .int .i64 x.epoch, .int .i64 x.src, .int .i64 x.dst, .int .i64 x.index, .int .i64 x.write.kind, .int .i64 x.write.id, .slice a x.write.vec.length d, .int .i64 x.write.session, .int .i64 x.write.seq] x (w.heap.size + 2) w'.heap.size ∧ (Lay.sl Lay.tMsg).LiesIn w' [v] xs (w.heap.size + 2) w'.heap.size ∧ Box 0 #[.int .i64 0, .int .i64 0, .int .i64 0, .int .i64 0, .int .i64 0, .int .i64 0, .int .i64 0, .slice none 0 0, .int .i64 0, .int .i64 0] 29 w' w.heap.size ∧ Below w.heap.size w w' := by
    intro W3 m3 hm3 h1 h2 h3 h4 h5
    refine (bentMsg (w.heap.size + 1) m3 cv W3 h4 h5 (by omega)).mono ?_
    rintro e w' ⟨cs, x, bl, m', rfl, hl, hbl, -, -, -, g⟩
    have hs3 : w.heap.size + 1 < W3.heap.size := h4.lt
    have hl2 := hl
    obtain ⟨a, d, b7, rfl, -⟩ := lies_Msg.1 hl2
    exact ⟨a, d, x, rfl, ⟨bl, hl, fun c hc => by have := hbl c hc; omega⟩, (h1.ext (ext_grown g) (fun k q1 q2 q3 => by omega)).mono (Nat.le_refl _) g.size, h2.ext (ext_grown g) (by omega), h3.grown g h3.size (fun k hk => by simp at hk; omega)⟩
  obtain ⟨av, cp, rfl⟩ := open_sl (unhide HLI).reads
  by_cases hp : 0 < xs.length
  · have hd0 : decide ((0 : Int) < (xs.length : Int)) = true := by simp; omega
    have L := hide (chance5 (w.heap.size + 1) m2 cv W2 (unhide HS) (unhide HC) (by omega) 4 (by omega) (by omega))
    go_wp2_with fail
    refine (unhide L).mono ?_
    rintro e W4 ⟨r, rfl, s4, c4, g4⟩
    have hs2 : w.heap.size + 1 < W2.heap.size := (unhide HS).lt
    replace HLI := hide (((unhide HLI).ext (ext_grown g4) (fun k q1 q2 q3 => by omega)).mono (Nat.le_refl _) g4.size)
    replace HR := hide ((unhide HR).ext (ext_grown g4) (by omega))
    replace HB := hide ((unhide HB).grown g4 (unhide HB).size (fun k hk => by simp at hk; omega))
    replace HS := hide s4
    replace HC := hide c4
    clear s4 c4 g4 L
    cases r
    · have L := hide (hbent W4 (m2 + 1) (by omega) (unhide HLI) (unhide HR) (unhide HB) (unhide HS) (unhide HC))
      clear hbent HS HC HLI HR HB
      go_wp2_with fail
      refine (unhide L).mono ?_
      rintro e W5 ⟨a, d, x, rfl, hXX, hLL, hRR, hBB⟩
      have hF : Ext (fun q => q = w.heap.size) W5 (setAll W5 w.heap.size 0 [.int .i64 x.kind, .int .i64 x.epoch, .int .i64 x.src, .int .i64 x.dst, .int .i64 x.index, .int .i64 x.write.kind, .int .i64 x.write.id, .slice a x.write.vec.length d, .int .i64 x.write.session, .int .i64 x.write.seq]) := ext_setAll _ (Ext.refl _ _) _ _ _ rfl
      have HXL := hide (hLL.ext hF (fun q h1 h2 e => by omega)).reads
      have HRL := hide (hXX.ext hF (fun q h1 h2 e => by omega)).reads
      have HBF := hide (hBB.trans (hF.below hBB.size (fun q hq e => by omega)))
      have z0 : W5.cell? ⟨w.heap.size, 0, none⟩ = some (.int .i64 0) := hRR.at 0 _ rfl
      have z1 : W5.cell? ⟨w.heap.size, 1, none⟩ = some (.int .i64 0) := hRR.at 1 _ rfl
      have z2 : W5.cell? ⟨w.heap.size, 2, none⟩ = some (.int .i64 0) := hRR.at 2 _ rfl
      have z3 : W5.cell? ⟨w.heap.size, 3, none⟩ = some (.int .i64 0) := hRR.at 3 _ rfl
      have z4 : W5.cell? ⟨w.heap.size, 4, none⟩ = some (.int .i64 0) := hRR.at 4 _ rfl
      have z5 : W5.cell? ⟨w.heap.size, 5, none⟩ = some (.int .i64 0) := hRR.at 5 _ rfl
      have z6 : W5.cell? ⟨w.heap.size, 6, none⟩ = some (.int .i64 0) := hRR.at 6 _ rfl
      have z7 : W5.cell? ⟨w.heap.size, 7, none⟩ = some (.slice none 0 0) := hRR.at 7 _ rfl
      have z8 : W5.cell? ⟨w.heap.size, 8, none⟩ = some (.int .i64 0) := hRR.at 8 _ rfl
      have z9 : W5.cell? ⟨w.heap.size, 9, none⟩ = some (.int .i64 0) := hRR.at 9 _ rfl
      have ff := hRR.soft
      have l0 := hRR.lt
      clear hF hXX hLL hRR hBB L
      go_wp2_with fail
      refine bodyPost_ret (v := .tuple #[.slice av xs.length cp, .agg #[.int .i64 x.kind, .int .i64 x.epoch, .int .i64 x.src, .int .i64 x.dst, .int .i64 x.index, .int .i64 x.write.kind, .int .i64 x.write.id, .slice a x.write.vec.length d, .int .i64 x.write.session, .int .i64 x.write.seq]]) (by simp [results, Tryz.results5, go_sem, z0, z1, z2, z3, z4, z5, z6, z7, z8, z9]) rfl ?_
      exact ⟨_, _, _, x, rfl, unhide HXL, unhide HRL, hlen, unhide HBF⟩
    · obtain ⟨g, off, rfl, -⟩ := Lay.sl_addr (unhide HLI).reads hp
      obtain ⟨row, hcell, hRL, hgl, hglo⟩ := lies_elem (unhide HLI) hp
      obtain ⟨a, d, rfl, -⟩ := open_Msg hRL.reads
      have hD : Ext (fun q => q = w.heap.size) W4 W4.drew := ⟨rfl, rfl, rfl, Nat.le_refl _, fun _ _ _ => rfl⟩
      have hF : Ext (fun q => q = w.heap.size) W4 (setAll W4.drew w.heap.size 0 [.int .i64 (xs[0]).kind, .int .i64 (xs[0]).epoch, .int .i64 (xs[0]).src, .int .i64 (xs[0]).dst, .int .i64 (xs[0]).index, .int .i64 (xs[0]).write.kind, .int .i64 (xs[0]).write.id, .slice a (xs[0]).write.vec.length d, .int .i64 (xs[0]).write.session, .int .i64 (xs[0]).write.seq]) := ext_setAll _ hD _ _ _ rfl
      have HXL := hide ((unhide HLI).ext hF (fun q h1 h2 e => by omega)).reads
      have HRL := hide (hRL.ext hF (fun q h1 h2 e => by omega)).reads
      have HBF := hide ((unhide HB).trans (hF.below (unhide HB).size (fun q hq e => by omega)))
      have hgne : ¬ g = w.heap.size := by omega
      clear hF hD
      have y0 : W4.cell? ⟨g, off, none⟩ = some (.int .i64 (xs[0]).kind) := by have q := hcell 0 (by decide); simpa using q
      have y1 : W4.cell? ⟨g, off + 1, none⟩ = some (.int .i64 (xs[0]).epoch) := by have q := hcell 1 (by decide); simpa using q
      have y2 : W4.cell? ⟨g, off + 2, none⟩ = some (.int .i64 (xs[0]).src) := by have q := hcell 2 (by decide); simpa using q
      have y3 : W4.cell? ⟨g, off + 3, none⟩ = some (.int .i64 (xs[0]).dst) := by have q := hcell 3 (by decide); simpa using q
      have y4 : W4.cell? ⟨g, off + 4, none⟩ = some (.int .i64 (xs[0]).index) := by have q := hcell 4 (by decide); simpa using q
      have y5 : W4.cell? ⟨g, off + 5, none⟩ = some (.int .i64 (xs[0]).write.kind) := by have q := hcell 5 (by decide); simpa using q
      have y6 : W4.cell? ⟨g, off + 6, none⟩ = some (.int .i64 (xs[0]).write.id) := by have q := hcell 6 (by decide); simpa using q
      have y7 : W4.cell? ⟨g, off + 7, none⟩ = some (.slice a (xs[0]).write.vec.length d) := by have q := hcell 7 (by decide); simpa using q
      have y8 : W4.cell? ⟨g, off + 8, none⟩ = some (.int .i64 (xs[0]).write.session) := by have q := hcell 8 (by decide); simpa using q
      have y9 : W4.cell? ⟨g, off + 9, none⟩ = some (.int .i64 (xs[0]).write.seq) := by have q := hcell 9 (by decide); simpa using q
      clear hcell
      generalize xs[0] = x at *
      have z0 : W4.drew.cell? ⟨w.heap.size, 0, none⟩ = some (.int .i64 0) := (Box.drew (unhide HR)).at 0 _ rfl
      have z1 : W4.drew.cell? ⟨w.heap.size, 1, none⟩ = some (.int .i64 0) := (Box.drew (unhide HR)).at 1 _ rfl
      have z2 : W4.drew.cell? ⟨w.heap.size, 2, none⟩ = some (.int .i64 0) := (Box.drew (unhide HR)).at 2 _ rfl
      have z3 : W4.drew.cell? ⟨w.heap.size, 3, none⟩ = some (.int .i64 0) := (Box.drew (unhide HR)).at 3 _ rfl
      have z4 : W4.drew.cell? ⟨w.heap.size, 4, none⟩ = some (.int .i64 0) := (Box.drew (unhide HR)).at 4 _ rfl
      have z5 : W4.drew.cell? ⟨w.heap.size, 5, none⟩ = some (.int .i64 0) := (Box.drew (unhide HR)).at 5 _ rfl
      have z6 : W4.drew.cell? ⟨w.heap.size, 6, none⟩ = some (.int .i64 0) := (Box.drew (unhide HR)).at 6 _ rfl
      have z7 : W4.drew.cell? ⟨w.heap.size, 7, none⟩ = some (.slice none 0 0) := (Box.drew (unhide HR)).at 7 _ rfl
      have z8 : W4.drew.cell? ⟨w.heap.size, 8, none⟩ = some (.int .i64 0) := (Box.drew (unhide HR)).at 8 _ rfl
      have z9 : W4.drew.cell? ⟨w.heap.size, 9, none⟩ = some (.int .i64 0) := (Box.drew (unhide HR)).at 9 _ rfl
      have ff := (Box.drew (unhide HR)).soft
      have l0 := (Box.drew (unhide HR)).lt
      clear hbent HS HC HLI HR HB hRL
      go_upto_region 4 with fail
      refine wp_region_noPanic ?_
      refine wp_region_held_drew (S := fun w' => Ext (fun q => q = w.heap.size) W4 w') (by kernel_rfl) ⟨rfl, rfl, rfl, Nat.le_refl _, fun _ _ _ => rfl⟩ (fun hHeld => ?_)
      generalize W4.drew = wD at hHeld z0 z1 z2 z3 z4 z5 z6 z7 z8 z9 ff l0 HXL HRL HBF ⊢
      refine wpAnyH_take (i := 0) (oi := { dst := some 17, op := Go.Op.move (Go.Operand.tmp 5), type := 24, pos := "l11_net.go:163", after := #[], guard := none }) (v := ?vs0_1) rfl (by kernel_rfl) (by kernel_rfl) (by kernel_rfl) (fun _ _ _ h => h) (Or.inl ⟨by rfl, ?hs0_1⟩) hHeld ?rs0_1
      case hs0_1 =>
        intro wS hSw
        (try dsimp only at hSw)
        go_simp
        try with_reducible rfl
      case rs0_1 =>
      simp only [Act.put, List.setIfInBounds_toArray, List.set_cons_zero, List.set_cons_succ]
      refine wpAnyH_take (i := 1) (oi := { dst := some 18, op := Go.Op.move (Go.Operand.tmp 5), type := 24, pos := "l11_net.go:163", after := #[{ on := 4, ground := Go.Ground.gcOnly Go.Departure.lateStores }], guard := none }) (v := ?vs1_2) rfl (by kernel_rfl) (by kernel_rfl) (by kernel_rfl) (fun _ _ _ h => h) (Or.inl ⟨by rfl, ?hs1_2⟩) hHeld ?rs1_2
      case hs1_2 =>
        intro wS hSw
        (try dsimp only at hSw)
        go_simp
        try with_reducible rfl
      case rs1_2 =>
      simp only [Act.put, List.setIfInBounds_toArray, List.set_cons_zero, List.set_cons_succ]
      refine wpAnyH_take (i := 2) (oi := { dst := some 19, op := Go.Op.indexAddr 24 (Go.Operand.tmp 18) (Go.Operand.const (Go.Value.int Go.IntKind.i64 0)), type := 0, pos := "l11_net.go:163", after := #[{ on := 1, ground := Go.Ground.data }, { on := 4, ground := Go.Ground.gcOnly Go.Departure.lateStores }], guard := none }) (v := ?vs2_3) rfl (by kernel_rfl) (by kernel_rfl) (by kernel_rfl) (fun _ _ _ h => h) (Or.inl ⟨by rfl, ?hs2_3⟩) hHeld ?rs2_3
      case hs2_3 =>
        intro wS hSw
        clear hSw
        have q1 : (0 : Int) < (xs.length : Int) := by omega
        (try dsimp only at hSw)
        go_simp
        try with_reducible rfl
      case rs2_3 =>
      simp only [Act.put, List.setIfInBounds_toArray, List.set_cons_zero, List.set_cons_succ]
      refine wpAnyH_take (i := 3) (oi := { dst := some 20, op := Go.Op.load 29 (Go.Operand.tmp 19), type := 29, pos := "l11_net.go:163", after := #[{ on := 2, ground := Go.Ground.data }, { on := 4, ground := Go.Ground.gcOnly Go.Departure.lateStores }], guard := none }) (v := ?vs3_4) rfl (by kernel_rfl) (by kernel_rfl) (by kernel_rfl) (fun _ _ _ h => h) (Or.inl ⟨by rfl, ?hs3_4⟩) hHeld ?rs3_4
      case hs3_4 =>
        intro wS hSw
        have k0 : wS.cell? ⟨g, off, none⟩ = some (.int .i64 x.kind) := (cell_of_heap (hSw.block g hgl hgne) _).trans y0
        have k1 : wS.cell? ⟨g, off + 1, none⟩ = some (.int .i64 x.epoch) := (cell_of_heap (hSw.block g hgl hgne) _).trans y1
        have k2 : wS.cell? ⟨g, off + 2, none⟩ = some (.int .i64 x.src) := (cell_of_heap (hSw.block g hgl hgne) _).trans y2
        have k3 : wS.cell? ⟨g, off + 3, none⟩ = some (.int .i64 x.dst) := (cell_of_heap (hSw.block g hgl hgne) _).trans y3
        have k4 : wS.cell? ⟨g, off + 4, none⟩ = some (.int .i64 x.index) := (cell_of_heap (hSw.block g hgl hgne) _).trans y4
        have k5 : wS.cell? ⟨g, off + 5, none⟩ = some (.int .i64 x.write.kind) := (cell_of_heap (hSw.block g hgl hgne) _).trans y5
        have k6 : wS.cell? ⟨g, off + 6, none⟩ = some (.int .i64 x.write.id) := (cell_of_heap (hSw.block g hgl hgne) _).trans y6
        have k7 : wS.cell? ⟨g, off + 7, none⟩ = some (.slice a x.write.vec.length d) := (cell_of_heap (hSw.block g hgl hgne) _).trans y7
        have k8 : wS.cell? ⟨g, off + 8, none⟩ = some (.int .i64 x.write.session) := (cell_of_heap (hSw.block g hgl hgne) _).trans y8
        have k9 : wS.cell? ⟨g, off + 9, none⟩ = some (.int .i64 x.write.seq) := (cell_of_heap (hSw.block g hgl hgne) _).trans y9
        clear hSw
        (try dsimp only at hSw)
        go_simp
        try with_reducible rfl
      case rs3_4 =>
      simp only [Act.put, List.setIfInBounds_toArray, List.set_cons_zero, List.set_cons_succ]
      refine wpAnyH_take (i := 4) (oi := { dst := some 2, op := Go.Op.assign (Go.Operand.tmp 17), type := 24, pos := "l11_net.go:163", after := #[{ on := 0, ground := Go.Ground.data }, { on := 0, ground := Go.Ground.phase }, { on := 1, ground := Go.Ground.textOnly Go.Departure.lateStores }, { on := 2, ground := Go.Ground.textOnly Go.Departure.lateStores }, { on := 3, ground := Go.Ground.textOnly Go.Departure.lateStores }], guard := none }) (v := ?vs4_5) rfl (by kernel_rfl) (by kernel_rfl) (by kernel_rfl) (fun _ _ _ h => h) (Or.inl ⟨by rfl, ?hs4_5⟩) hHeld ?rs4_5
      case hs4_5 =>
        intro wS hSw
        (try dsimp only at hSw)
        go_simp
        try with_reducible rfl
      case rs4_5 =>
      simp only [Act.put, List.setIfInBounds_toArray, List.set_cons_zero, List.set_cons_succ]
      refine wpAnyH_ready (rs := [5]) (by kernel_rfl) (by simp) ?_
      refine AllReadyH.cons (o := { dst := none, op := Go.Op.store 29 (Go.Operand.tmp 3) (Go.Operand.tmp 20), type := 0, pos := "l11_net.go:163", after := #[{ on := 3, ground := Go.Ground.data }, { on := 4, ground := Go.Ground.chain }, { on := 0, ground := Go.Ground.phase }, { on := 1, ground := Go.Ground.phase }, { on := 2, ground := Go.Ground.phase }, { on := 3, ground := Go.Ground.phase }, { on := 4, ground := Go.Ground.phase }], guard := none }) rfl (fun K hK => ?_) AllReadyH.nil
      go_simp
      try go_wp2_with fail
      refine hK.out _ _ (ext_setAll _ hHeld w.heap.size 0 [.int .i64 x.kind, .int .i64 x.epoch, .int .i64 x.src, .int .i64 x.dst, .int .i64 x.index, .int .i64 x.write.kind, .int .i64 x.write.id, .slice a x.write.vec.length d, .int .i64 x.write.session, .int .i64 x.write.seq] rfl) (fun hHeld => ?_)
      clear hK K
      try simp only [Act.put, List.setIfInBounds_toArray, List.set_cons_zero, List.set_cons_succ]
      refine wpAnyH_done (by kernel_rfl) ?_ _
      refine NoPanic.normal ?_
      clear hHeld
      go_wp2_with fail
      refine bodyPost_ret (v := .tuple #[.slice (some ⟨g, off, none⟩) xs.length cp, .agg #[.int .i64 x.kind, .int .i64 x.epoch, .int .i64 x.src, .int .i64 x.dst, .int .i64 x.index, .int .i64 x.write.kind, .int .i64 x.write.id, .slice a x.write.vec.length d, .int .i64 x.write.session, .int .i64 x.write.seq]]) (by simp [results, Tryz.results5, go_sem, z0, z1, z2, z3, z4, z5, z6, z7, z8, z9]) rfl ?_
      exact ⟨_, xs, _, x, rfl, unhide HXL, unhide HRL, hlen, unhide HBF⟩
  · obtain rfl : xs = [] := List.eq_nil_of_length_eq_zero (by omega)
    have L := hide (hbent W2 m2 (by omega) (unhide HLI) (unhide HR) (unhide HB) (unhide HS) (unhide HC))
    clear hbent HS HC HLI HR HB hp
    go_wp2_with fail
    refine (unhide L).mono ?_
    rintro e W5 ⟨a, d, x, rfl, hXX, hLL, hRR, hBB⟩
    have hF : Ext (fun q => q = w.heap.size) W5 (setAll W5 w.heap.size 0 [.int .i64 x.kind, .int .i64 x.epoch, .int .i64 x.src, .int .i64 x.dst, .int .i64 x.index, .int .i64 x.write.kind, .int .i64 x.write.id, .slice a x.write.vec.length d, .int .i64 x.write.session, .int .i64 x.write.seq]) := ext_setAll _ (Ext.refl _ _) _ _ _ rfl
    have HXL := hide (hLL.ext hF (fun q h1 h2 e => by omega)).reads
    have HRL := hide (hXX.ext hF (fun q h1 h2 e => by omega)).reads
    have HBF := hide (hBB.trans (hF.below hBB.size (fun q hq e => by omega)))
    have z0 : W5.cell? ⟨w.heap.size, 0, none⟩ = some (.int .i64 0) := hRR.at 0 _ rfl
    have z1 : W5.cell? ⟨w.heap.size, 1, none⟩ = some (.int .i64 0) := hRR.at 1 _ rfl
    have z2 : W5.cell? ⟨w.heap.size, 2, none⟩ = some (.int .i64 0) := hRR.at 2 _ rfl
    have z3 : W5.cell? ⟨w.heap.size, 3, none⟩ = some (.int .i64 0) := hRR.at 3 _ rfl
    have z4 : W5.cell? ⟨w.heap.size, 4, none⟩ = some (.int .i64 0) := hRR.at 4 _ rfl
    have z5 : W5.cell? ⟨w.heap.size, 5, none⟩ = some (.int .i64 0) := hRR.at 5 _ rfl
    have z6 : W5.cell? ⟨w.heap.size, 6, none⟩ = some (.int .i64 0) := hRR.at 6 _ rfl
    have z7 : W5.cell? ⟨w.heap.size, 7, none⟩ = some (.slice none 0 0) := hRR.at 7 _ rfl
    have z8 : W5.cell? ⟨w.heap.size, 8, none⟩ = some (.int .i64 0) := hRR.at 8 _ rfl
    have z9 : W5.cell? ⟨w.heap.size, 9, none⟩ = some (.int .i64 0) := hRR.at 9 _ rfl
    have ff := hRR.soft
    have l0 := hRR.lt
    clear hF hXX hLL hRR hBB L
    go_wp2_with fail
    refine bodyPost_ret (v := .tuple #[.slice av 0 cp, .agg #[.int .i64 x.kind, .int .i64 x.epoch, .int .i64 x.src, .int .i64 x.dst, .int .i64 x.index, .int .i64 x.write.kind, .int .i64 x.write.id, .slice a x.write.vec.length d, .int .i64 x.write.session, .int .i64 x.write.seq]]) (by simp [results, Tryz.results5, go_sem, z0, z1, z2, z3, z4, z5, z6, z7, z8, z9]) rfl ?_
    exact ⟨_, _, _, x, rfl, unhide HXL, unhide HRL, by simp, unhide HBF⟩
end Go.Proofs.YtkmfkaljdngigaaGreatDoor

namespace Go.Proofs.YtkmfkaljdngigaaGreatDoor
open Go.RowKit

structure DNetResult where
  code : Int
  msgs : List DMsg

def Lay.tNetResult : Lay DNetResult := Lay.via (Lay.pair Lay.int (Lay.sl Lay.tMsg)) (fun x => (x.code, x.msgs)) (fun p => ⟨p.1, p.2⟩)

theorem lies_NetResult {w : World} {cs : List Value} {x : DNetResult} {bl : List Nat} : Lay.tNetResult.lies w cs x bl ↔ ∃ (a1 : Option Addr) (d1 : Nat) (b1 : List Nat), cs = [.int .i64 x.code, .slice a1 x.msgs.length d1] ∧ bl = b1 ∧ (Lit.int .i64 x.code).wf = true ∧ (Lay.sl Lay.tMsg).lies w [.slice a1 x.msgs.length d1] x.msgs b1 := by
  constructor
  · intro h
    obtain ⟨c0_, r0_, e0_, s0_, rfl, rfl, h0, h1⟩ := h
    obtain ⟨rfl, w0, rfl⟩ := h0
    have k1 := h1
    obtain ⟨a1, d1, rfl, -⟩ := k1
    exact ⟨a1, d1, s0_, by simp, by simp, w0, h1⟩
  · rintro ⟨a1, d1, b1, rfl, hbl, w0, l1⟩
    rw [hbl]
    exact ⟨[.int .i64 x.code], [.slice a1 x.msgs.length d1], [], b1, rfl, by simp, ⟨rfl, w0, rfl⟩, l1⟩

theorem open_NetResult {w : World} {cs : List Value} {x : DNetResult} (h : Lay.tNetResult.Reads w cs x) : ∃ (a1 : Option Addr) (d1 : Nat), cs = [.int .i64 x.code, .slice a1 x.msgs.length d1] ∧ (Lay.sl Lay.tMsg).Reads w [.slice a1 x.msgs.length d1] x.msgs := by
  obtain ⟨bl, h⟩ := h
  obtain ⟨a1, d1, b1, rfl, -, w0, l1⟩ := lies_NetResult.1 h
  exact ⟨a1, d1, rfl, ⟨_, l1⟩⟩

end Go.Proofs.YtkmfkaljdngigaaGreatDoor

namespace Go.Proofs.YtkmfkaljdngigaaGreatDoor
open Go.RowKit

structure DIntResult where
  code : Int
  value : Int

def Lay.tIntResult : Lay DIntResult := Lay.via (Lay.pair Lay.int Lay.int) (fun x => (x.code, x.value)) (fun p => ⟨p.1, p.2⟩)

theorem lies_IntResult {w : World} {cs : List Value} {x : DIntResult} {bl : List Nat} : Lay.tIntResult.lies w cs x bl ↔ cs = [.int .i64 x.code, .int .i64 x.value] ∧ bl = [] ∧ (Lit.int .i64 x.code).wf = true ∧ (Lit.int .i64 x.value).wf = true := by
  constructor
  · intro h
    obtain ⟨c0_, r0_, e0_, s0_, rfl, rfl, h0, h1⟩ := h
    obtain ⟨rfl, w0, rfl⟩ := h0
    obtain ⟨rfl, w1, rfl⟩ := h1
    exact ⟨by simp, by simp, w0, w1⟩
  · rintro ⟨rfl, hbl, w0, w1⟩
    rw [hbl]
    exact ⟨[.int .i64 x.code], [.int .i64 x.value], [], [], rfl, by simp, ⟨rfl, w0, rfl⟩, ⟨rfl, w1, rfl⟩⟩

end Go.Proofs.YtkmfkaljdngigaaGreatDoor

namespace Go.Proofs.YtkmfkaljdngigaaGreatDoor
open Go.RowKit

theorem Box.five {lo : Nat} {x0 x1 x2 x3 x4 : Value} {T : TypeId} {W : World} {s : Nat} (h : Box lo #[x0, x1, x2, x3, x4] T W s) :
    (W.cell? ⟨s, 0, none⟩ = some x0 ∧ W.cell? ⟨s, 1, none⟩ = some x1 ∧ W.cell? ⟨s, 2, none⟩ = some x2 ∧ W.cell? ⟨s, 3, none⟩ = some x3 ∧ W.cell? ⟨s, 4, none⟩ = some x4) ∧ (∀ o, W.frozen? ⟨s, o, none⟩ = false) ∧ s < W.heap.size := by
  refine ⟨⟨?_, ?_, ?_, ?_, ?_⟩, fun o => ?_, h.lt⟩
  all_goals first | simp [World.cell?, h.2] | simp [World.frozen?, h.2]
theorem Box.alloc {lo : Nat} {cs : Array Value} {T : TypeId} {W : World} {s : Nat} (h : Box lo cs T W s) (o : Obj) : Box lo cs T (W.alloc o) s := ⟨h.1, (Below.heap_alloc W o s h.lt).trans h.2⟩

end Go.Proofs.YtkmfkaljdngigaaGreatDoor

namespace Go.Proofs.YtkmfkaljdngigaaGreatDoor
open Go.RowKit

theorem inC (v lo hi : Int) (w : World) :
    Calls Tryz.prog 52 #[.int .i64 v, .int .i64 lo, .int .i64 hi] w fun e w' => e = .returned (.bool (decide (lo ≤ v) && decide (v ≤ hi))) ∧ w' = w := by
  by_cases h1 : lo ≤ v
  · have d1 : decide (lo ≤ v) = true := by simpa using h1
    rw [d1]
    cases d2 : decide (v ≤ hi) <;>
    · go_enter Tryz.func52, Tryz.ntmps52
      go_wp2_with fail
      go_ret
      exact ⟨rfl, rfl⟩
  · have d1 : decide (lo ≤ v) = false := by simpa using h1
    rw [d1]
    go_enter Tryz.func52, Tryz.ntmps52
    go_wp2_with fail
    go_ret
    exact ⟨rfl, rfl⟩
theorem idC (x : Int) (w : World) : Calls Tryz.prog 78 #[.int .i64 x] w fun e w' => e = .returned (.bool (decide (1 ≤ x) && decide (x ≤ 999))) ∧ w' = w := by
  go_enter Tryz.func78, Tryz.ntmps78
  go_wp2_with fail
  refine (inC x 1 999 _).mono ?_
  rintro e w1 ⟨rfl, rfl⟩
  go_wp2_with fail
  go_ret
  exact ⟨rfl, rfl⟩

end Go.Proofs.YtkmfkaljdngigaaGreatDoor

namespace Go.Proofs.YtkmfkaljdngigaaGreatDoor
open Go.RowKit

theorem sessionC (x : Int) (w : World) : Calls Tryz.prog 79 #[.int .i64 x] w fun e w' => e = .returned (.bool (decide (1 ≤ x) && decide (x ≤ 9))) ∧ w' = w := by
  go_enter Tryz.func79, Tryz.ntmps79
  go_wp2_with fail
  refine (inC x 1 9 _).mono ?_
  rintro e w1 ⟨rfl, rfl⟩
  go_wp2_with fail
  go_ret
  exact ⟨rfl, rfl⟩

end Go.Proofs.YtkmfkaljdngigaaGreatDoor

namespace Go.Proofs.YtkmfkaljdngigaaGreatDoor
open Go.RowKit

set_option maxHeartbeats 400000 in
theorem implFault_len (ao : Option Addr) (n cap : Nat) (w : World) (h : n ≠ 3) :
    Calls Tryz.prog 107 #[.slice ao n cap] w fun e w' => e = .returned (.int .i64 1) ∧ w' = w := by
  have h3 : ((n : Int) != 3) = true := by rw [bne_iff_ne]; omega
  go_enter Tryz.func107, Tryz.ntmps107
  go_wp2
  go_ret
  exact ⟨rfl, rfl⟩

set_option maxHeartbeats 400000 in
theorem implFault_three (b off cap : Nat) (zs : List Int) (w : World) (h : zs.length = 3) (hc : ∀ j, j < 3 → w.cell? ⟨b, off + j, none⟩ = some (.int .i64 (zs.getD j 0))) :
    Calls Tryz.prog 107 #[.slice (some ⟨b, off, none⟩) 3 cap] w fun e w' => e = .returned (.int .i64 (vecFault zs)) ∧ w' = w := by
  go_enter Tryz.func107, Tryz.ntmps107
  go_wp2
  go_loop [10] (fun i => ∃ k : Nat, k ≤ 3 ∧ i = .int .i64 k ∧ ∀ j, j < k → partB (zs.getD j 0) = true) (fun i => 3 - (intOf i).toNat)
  case atStart => exact ⟨0, Nat.zero_le _, rfl, fun j hj => by omega⟩
  case round =>
    obtain ⟨k, hk, rfl, hg⟩ := hrel
    have HG : Hid (∀ j, j < k → partB (zs.getD j 0) = true) := hg
    have HL : Hid (zs.length = 3) := h
    clear hg h
    by_cases hlt : k < 3
    · have hcx : w.cell? ⟨b, off + k, none⟩ = some (.int .i64 (zs.getD k 0)) := hc k hlt
      obtain ⟨z, hz⟩ : ∃ z, z = zs.getD k 0 := ⟨_, rfl⟩
      rw [← hz] at hcx
      have HZ : Hid (z = zs.getD k 0) := hz
      clear hz hc
      cases hp : partB z with
      | true =>
        have hb := partB_true hp
        have HP : Hid (partB z = true) := hp
        clear hp
        obtain ⟨hb1, hb2⟩ := hb
        go_wp2
        go_round
        case rel =>
          refine ⟨k + 1, by omega, by go_num, fun j hj => ?_⟩
          by_cases hjk : j < k
          · exact HG.out j hjk
          · rw [show j = k by omega, ← HZ.out]; exact HP.out
        case measure => simp [intOf]; omega
      | false =>
        have HV : Hid (vecFault zs = 3) := vecFault_bad HL.out k hlt (by rw [← HZ.out]; exact hp)
        have hb := partB_false hp
        clear hp
        rcases hb with hb | hb
        · go_wp2
          go_ret
          exact ⟨by rw [HV.out]; rfl, rfl⟩
        · have hb1 : -1000 ≤ z := by omega
          have hd : decide (z ≤ 1000) = false := by simp; omega
          go_wp2
          go_ret
          exact ⟨by rw [HV.out]; rfl, rfl⟩
    · have HV : Hid (vecFault zs = 0) := vecFault_ok HL.out (fun j hj => HG.out j (by omega))
      go_wp2
      go_ret
      exact ⟨by rw [HV.out]; rfl, rfl⟩

set_option maxHeartbeats 400000 in
theorem modelFault_len (ao : Option Addr) (n cap : Nat) (w : World) (h : n ≠ 3) :
    Calls Tryz.prog 80 #[.slice ao n cap] w fun e w' => e = .returned (.int .i64 1) ∧ w' = w := by
  have h3 : ((n : Int) != 3) = true := by rw [bne_iff_ne]; omega
  go_enter Tryz.func80, Tryz.ntmps80
  go_wp2
  go_ret
  exact ⟨rfl, rfl⟩

set_option maxHeartbeats 400000 in
theorem modelFault_three (b off cap : Nat) (zs : List Int) (w : World) (h : zs.length = 3) (hc : ∀ j, j < 3 → w.cell? ⟨b, off + j, none⟩ = some (.int .i64 (zs.getD j 0))) :
    Calls Tryz.prog 80 #[.slice (some ⟨b, off, none⟩) 3 cap] w fun e w' => e = .returned (.int .i64 (vecFault zs)) ∧ w' = w := by
  go_enter Tryz.func80, Tryz.ntmps80
  go_wp2
  go_loop [3] (fun i => ∃ k : Nat, k ≤ 3 ∧ i = .int .i64 k ∧ ∀ j, j < k → partB (zs.getD j 0) = true) (fun i => 3 - (intOf i).toNat)
  case atStart => exact ⟨0, Nat.zero_le _, rfl, fun j hj => by omega⟩
  case round =>
    obtain ⟨k, hk, rfl, hg⟩ := hrel
    have HG : Hid (∀ j, j < k → partB (zs.getD j 0) = true) := hg
    have HL : Hid (zs.length = 3) := h
    clear hg h
    by_cases hlt : k < 3
    · have hcx : w.cell? ⟨b, off + k, none⟩ = some (.int .i64 (zs.getD k 0)) := hc k hlt
      obtain ⟨z, hz⟩ : ∃ z, z = zs.getD k 0 := ⟨_, rfl⟩
      rw [← hz] at hcx
      have HZ : Hid (z = zs.getD k 0) := hz
      clear hz hc
      cases hp : partB z with
      | true =>
        have hb := partB_true hp
        have HP : Hid (partB z = true) := hp
        clear hp
        obtain ⟨hb1, hb2⟩ := hb
        go_wp2
        go_round
        case rel =>
          refine ⟨k + 1, by omega, by go_num, fun j hj => ?_⟩
          by_cases hjk : j < k
          · exact HG.out j hjk
          · rw [show j = k by omega, ← HZ.out]; exact HP.out
        case measure => simp [intOf]; omega
      | false =>
        have HV : Hid (vecFault zs = 3) := vecFault_bad HL.out k hlt (by rw [← HZ.out]; exact hp)
        have hb := partB_false hp
        clear hp
        rcases hb with hb | hb
        · go_wp2
          go_ret
          exact ⟨by rw [HV.out]; rfl, rfl⟩
        · have hb1 : -1000 ≤ z := by omega
          have hd : decide (z ≤ 1000) = false := by simp; omega
          go_wp2
          go_ret
          exact ⟨by rw [HV.out]; rfl, rfl⟩
    · have HV : Hid (vecFault zs = 0) := vecFault_ok HL.out (fun j hj => HG.out j (by omega))
      go_wp2
      go_ret
      exact ⟨by rw [HV.out]; rfl, rfl⟩


/-- VecFault of the program. -/
theorem implFault (v : Value) (zs : List Int) (w : World) (h : IsInts w v zs) :
    Calls Tryz.prog 107 #[v] w fun e w' => e = .returned (.int .i64 (vecFault zs)) ∧ w' = w := by
  obtain ⟨ao, cap, rfl, hwf, hc⟩ := h
  by_cases h3 : zs.length = 3
  · obtain ⟨b, off, rfl, hc1⟩ := hc (by omega)
    rw [h3] at hc1 ⊢
    exact implFault_three b off cap zs w h3 hc1
  · rw [vecFault_len h3]
    exact implFault_len ao zs.length cap w h3

/-- VecFault of the model. -/
theorem modelFault (v : Value) (zs : List Int) (w : World) (h : IsInts w v zs) :
    Calls Tryz.prog 80 #[v] w fun e w' => e = .returned (.int .i64 (vecFault zs)) ∧ w' = w := by
  obtain ⟨ao, cap, rfl, hwf, hc⟩ := h
  by_cases h3 : zs.length = 3
  · obtain ⟨b, off, rfl, hc1⟩ := hc (by omega)
    rw [h3] at hc1 ⊢
    exact modelFault_three b off cap zs w h3 hc1
  · rw [vecFault_len h3]
    exact modelFault_len ao zs.length cap w h3

end Go.Proofs.YtkmfkaljdngigaaGreatDoor

namespace Go.Proofs.YtkmfkaljdngigaaGreatDoor
open Go.RowKit

def kindB (k : Int) (n : Nat) : Bool := (decide (1 ≤ k) && decide (k ≤ 2)) && !(k == 2 && decide (0 < (n : Int)))
def boundB (i s q : Int) : Bool := (decide (1 ≤ i) && decide (i ≤ 999)) && ((decide (1 ≤ s) && decide (s ≤ 9)) && (decide (1 ≤ q) && decide (q ≤ 999)))
/-- What is wrong with a write. -/
def writeFault (k i : Int) (zs : List Int) (s q : Int) : Int :=
  if kindB k zs.length then (if boundB i s q then (if k = 1 then vecFault zs else 0) else 3) else 1

/-- The write that the pointer b points at. -/
def WriteAt (w : World) (b : Nat) (k i : Int) (v : Value) (s q : Int) : Prop :=
  w.cell? ⟨b, 0, none⟩ = some (.int .i64 k) ∧ w.cell? ⟨b, 1, none⟩ = some (.int .i64 i) ∧ w.cell? ⟨b, 2, none⟩ = some v ∧ w.cell? ⟨b, 3, none⟩ = some (.int .i64 s) ∧ w.cell? ⟨b, 4, none⟩ = some (.int .i64 q)
theorem WriteAt.later {w w' : World} {b : Nat} {k i s q : Int} {v : Value} (h : WriteAt w b k i v s q) (hb : Below w.heap.size w w') : WriteAt w' b k i v s q :=
  ⟨cell_keep hb h.1, cell_keep hb h.2.1, cell_keep hb h.2.2.1, cell_keep hb h.2.2.2.1, cell_keep hb h.2.2.2.2⟩

/-- The write at an element's place. -/
def WriteAtO (w : World) (b o : Nat) (k i : Int) (v : Value) (s q : Int) : Prop :=
  w.cell? ⟨b, o, none⟩ = some (.int .i64 k) ∧ w.cell? ⟨b, o + 1, none⟩ = some (.int .i64 i) ∧ w.cell? ⟨b, o + 2, none⟩ = some v ∧ w.cell? ⟨b, o + 3, none⟩ = some (.int .i64 s) ∧ w.cell? ⟨b, o + 4, none⟩ = some (.int .i64 q)

set_option maxRecDepth 100000 in
set_option maxHeartbeats 1000000 in
theorem l3FaultO (b o : Nat) (k i : Int) (v : Value) (s q : Int) (zs : List Int) (w : World) (hc : WriteAtO w b o k i v s q) (h : IsInts w v zs) :
    Calls Tryz.prog 54 #[.pointer (some ⟨b, o, none⟩)] w fun e w' => e = .returned (.int .i64 (writeFault k i zs s q)) ∧ w' = w := by
  have hv : ∃ a c, v = .slice a zs.length c := by obtain ⟨a, c, h, -⟩ := h; exact ⟨a, c, h⟩
  obtain ⟨av, cv, rfl⟩ := hv
  obtain ⟨c0, c1, c2, c3, c4⟩ := hc
  have HH := hide h
  clear h
  generalize hF : writeFault k i zs s q = F
  have HF := hide hF
  clear hF
  cases d1 : (decide (1 ≤ k) && decide (k ≤ 2)) with
  | false =>
    have hE : F = 1 := by rw [← unhide HF, writeFault, kindB, d1]; rfl
    subst hE
    go_enter Tryz.func54, Tryz.ntmps54
    go_wp2_with fail
    refine (inC k 1 2 _).mono ?_
    rintro e w1 ⟨rfl, rfl⟩
    rw [d1]
    go_wp2_with fail
    go_ret
    exact ⟨rfl, rfl⟩
  | true =>
    have hk : k = 1 ∨ k = 2 := by
      simp only [Bool.and_eq_true, decide_eq_true_eq] at d1
      omega
    clear d1
    rcases hk with rfl | rfl
    · have hK : kindB 1 zs.length = true := rfl
      cases dI : (decide (1 ≤ i) && decide (i ≤ 999)) with
      | false =>
        have hE : F = 3 := by rw [← unhide HF, writeFault, hK, if_pos rfl, boundB, dI]; rfl
        subst hE
        go_enter Tryz.func54, Tryz.ntmps54
        go_wp2_with fail
        refine (inC 1 1 2 _).mono ?_
        rintro e w1 ⟨rfl, rfl⟩
        go_wp2_with fail
        refine (idC i _).mono ?_
        rintro e w1 ⟨rfl, rfl⟩
        rw [dI]
        go_wp2_with fail
        go_ret
        exact ⟨rfl, rfl⟩
      | true =>
        cases dS : (decide (1 ≤ s) && decide (s ≤ 9)) with
        | false =>
          have hE : F = 3 := by rw [← unhide HF, writeFault, hK, if_pos rfl, boundB, dI, dS]; rfl
          subst hE
          go_enter Tryz.func54, Tryz.ntmps54
          go_wp2_with fail
          refine (inC 1 1 2 _).mono ?_
          rintro e w1 ⟨rfl, rfl⟩
          go_wp2_with fail
          refine (idC i _).mono ?_
          rintro e w1 ⟨rfl, rfl⟩
          rw [dI]
          go_wp2_with fail
          refine (sessionC s _).mono ?_
          rintro e w1 ⟨rfl, rfl⟩
          rw [dS]
          go_wp2_with fail
          go_ret
          exact ⟨rfl, rfl⟩
        | true =>
          cases dQ : (decide (1 ≤ q) && decide (q ≤ 999)) with
          | false =>
            have hE : F = 3 := by rw [← unhide HF, writeFault, hK, if_pos rfl, boundB, dI, dS, dQ]; rfl
            subst hE
            go_enter Tryz.func54, Tryz.ntmps54
            go_wp2_with fail
            refine (inC 1 1 2 _).mono ?_
            rintro e w1 ⟨rfl, rfl⟩
            go_wp2_with fail
            refine (idC i _).mono ?_
            rintro e w1 ⟨rfl, rfl⟩
            rw [dI]
            go_wp2_with fail
            refine (sessionC s _).mono ?_
            rintro e w1 ⟨rfl, rfl⟩
            rw [dS]
            go_wp2_with fail
            refine (inC q 1 999 _).mono ?_
            rintro e w1 ⟨rfl, rfl⟩
            rw [dQ]
            go_wp2_with fail
            go_ret
            exact ⟨rfl, rfl⟩
          | true =>
            have hE : F = vecFault zs := by rw [← unhide HF, writeFault, hK, if_pos rfl, boundB, dI, dS, dQ]; rfl
            subst hE
            go_enter Tryz.func54, Tryz.ntmps54
            go_wp2_with fail
            refine (inC 1 1 2 _).mono ?_
            rintro e w1 ⟨rfl, rfl⟩
            go_wp2_with fail
            refine (idC i _).mono ?_
            rintro e w1 ⟨rfl, rfl⟩
            rw [dI]
            go_wp2_with fail
            refine (sessionC s _).mono ?_
            rintro e w1 ⟨rfl, rfl⟩
            rw [dS]
            go_wp2_with fail
            refine (inC q 1 999 _).mono ?_
            rintro e w1 ⟨rfl, rfl⟩
            rw [dQ]
            go_wp2_with fail
            refine (modelFault _ zs _ (unhide HH)).mono ?_
            rintro e w1 ⟨rfl, rfl⟩
            go_wp2_with fail
            go_ret
            exact ⟨rfl, rfl⟩
    · by_cases hz : zs.length = 0
      · obtain rfl : zs = [] := List.eq_nil_of_length_eq_zero hz
        have hK : kindB 2 ([] : List Int).length = true := rfl
        simp only [List.length_nil] at c2 hK
        clear hz
        cases dI : (decide (1 ≤ i) && decide (i ≤ 999)) with
        | false =>
          have hE : F = 3 := by rw [← unhide HF, writeFault, show kindB 2 ([] : List Int).length = true from rfl, if_pos rfl, boundB, dI]; rfl
          subst hE
          go_enter Tryz.func54, Tryz.ntmps54
          go_wp2_with fail
          refine (inC 2 1 2 _).mono ?_
          rintro e w1 ⟨rfl, rfl⟩
          go_wp2_with fail
          refine (idC i _).mono ?_
          rintro e w1 ⟨rfl, rfl⟩
          rw [dI]
          go_wp2_with fail
          go_ret
          exact ⟨rfl, rfl⟩
        | true =>
          cases dS : (decide (1 ≤ s) && decide (s ≤ 9)) with
          | false =>
            have hE : F = 3 := by rw [← unhide HF, writeFault, show kindB 2 ([] : List Int).length = true from rfl, if_pos rfl, boundB, dI, dS]; rfl
            subst hE
            go_enter Tryz.func54, Tryz.ntmps54
            go_wp2_with fail
            refine (inC 2 1 2 _).mono ?_
            rintro e w1 ⟨rfl, rfl⟩
            go_wp2_with fail
            refine (idC i _).mono ?_
            rintro e w1 ⟨rfl, rfl⟩
            rw [dI]
            go_wp2_with fail
            refine (sessionC s _).mono ?_
            rintro e w1 ⟨rfl, rfl⟩
            rw [dS]
            go_wp2_with fail
            go_ret
            exact ⟨rfl, rfl⟩
          | true =>
            cases dQ : (decide (1 ≤ q) && decide (q ≤ 999)) with
            | false =>
              have hE : F = 3 := by rw [← unhide HF, writeFault, show kindB 2 ([] : List Int).length = true from rfl, if_pos rfl, boundB, dI, dS, dQ]; rfl
              subst hE
              go_enter Tryz.func54, Tryz.ntmps54
              go_wp2_with fail
              refine (inC 2 1 2 _).mono ?_
              rintro e w1 ⟨rfl, rfl⟩
              go_wp2_with fail
              refine (idC i _).mono ?_
              rintro e w1 ⟨rfl, rfl⟩
              rw [dI]
              go_wp2_with fail
              refine (sessionC s _).mono ?_
              rintro e w1 ⟨rfl, rfl⟩
              rw [dS]
              go_wp2_with fail
              refine (inC q 1 999 _).mono ?_
              rintro e w1 ⟨rfl, rfl⟩
              rw [dQ]
              go_wp2_with fail
              go_ret
              exact ⟨rfl, rfl⟩
            | true =>
              have hE : F = 0 := by rw [← unhide HF, writeFault, show kindB 2 ([] : List Int).length = true from rfl, if_pos rfl, boundB, dI, dS, dQ]; rfl
              subst hE
              go_enter Tryz.func54, Tryz.ntmps54
              go_wp2_with fail
              refine (inC 2 1 2 _).mono ?_
              rintro e w1 ⟨rfl, rfl⟩
              go_wp2_with fail
              refine (idC i _).mono ?_
              rintro e w1 ⟨rfl, rfl⟩
              rw [dI]
              go_wp2_with fail
              refine (sessionC s _).mono ?_
              rintro e w1 ⟨rfl, rfl⟩
              rw [dS]
              go_wp2_with fail
              refine (inC q 1 999 _).mono ?_
              rintro e w1 ⟨rfl, rfl⟩
              rw [dQ]
              go_wp2_with fail
              go_ret
              exact ⟨rfl, rfl⟩
      · have hE : F = 1 := by
          have : kindB 2 zs.length = false := by simp [kindB]; omega
          rw [← unhide HF, writeFault, this]; rfl
        subst hE
        obtain ⟨m, hm⟩ : ∃ m, zs.length = m + 1 := ⟨zs.length - 1, by omega⟩
        rw [hm] at c2
        clear hz hm
        go_enter Tryz.func54, Tryz.ntmps54
        go_wp2_with fail
        refine (inC 2 1 2 _).mono ?_
        rintro e w1 ⟨rfl, rfl⟩
        go_wp2_with fail
        go_ret
        exact ⟨rfl, rfl⟩

theorem l3Fault (b : Nat) (k i : Int) (v : Value) (s q : Int) (zs : List Int) (w : World) (hc : WriteAt w b k i v s q) (h : IsInts w v zs) :
    Calls Tryz.prog 54 #[.pointer (some ⟨b, 0, none⟩)] w fun e w' => e = .returned (.int .i64 (writeFault k i zs s q)) ∧ w' = w :=
  l3FaultO b 0 k i v s q zs w hc h

end Go.Proofs.YtkmfkaljdngigaaGreatDoor

namespace Go.Proofs.YtkmfkaljdngigaaGreatDoor
open Go.RowKit

/-- A write without a fault. -/
theorem writeFault_zero {k i s q : Int} {zs : List Int} (h : writeFault k i zs s q = 0) : (1 ≤ i ∧ i ≤ 999) ∧ (1 ≤ s ∧ s ≤ 9) ∧ (1 ≤ q ∧ q ≤ 999) ∧ ((k = 1 ∧ vecFault zs = 0) ∨ (k = 2 ∧ zs = [])) := by
  unfold writeFault at h
  split at h
  · next hk =>
    split at h
    · next hb =>
      simp only [kindB, Bool.and_eq_true, decide_eq_true_eq, Bool.not_eq_true', Bool.and_eq_false_iff] at hk
      simp only [boundB, Bool.and_eq_true, decide_eq_true_eq] at hb
      refine ⟨hb.1, hb.2.1, hb.2.2, ?_⟩
      by_cases h1 : k = 1
      · rw [if_pos h1] at h
        exact Or.inl ⟨h1, h⟩
      · have h2 : k = 2 := by omega
        refine Or.inr ⟨h2, ?_⟩
        rcases hk.2 with h3 | h3
        · simp [h2] at h3
        · simp at h3
          exact h3
    · omega
  · omega

end Go.Proofs.YtkmfkaljdngigaaGreatDoor

namespace Go.Proofs.YtkmfkaljdngigaaGreatDoor
open Go.RowKit

def wF (x : DWrite) : Int := writeFault x.kind x.id x.vec x.session x.seq
def applyI (xs : List DItem) (x : DWrite) : List DItem := if x.kind = 2 then dropI xs x.id else if roomB xs x.id then putI xs x.id x.vec else xs
def ofI (ws : List DWrite) : List DItem := ws.foldl applyI []
def wsFrom : List DWrite → Int
  | [] => 0
  | x :: xs => if wF x = 0 then wsFrom xs else wF x
def writesF (ws : List DWrite) : Int := if 200 < ws.length then 2 else wsFrom ws
def applyR (xs : List DItem) (x : DWrite) : DTableResult := if tableFault xs = 0 then (if wF x = 0 then ⟨0, applyI xs x⟩ else ⟨wF x, []⟩) else ⟨tableFault xs, []⟩
def tableOfR (ws : List DWrite) : DTableResult := if writesF ws = 0 then ⟨0, ofI ws⟩ else ⟨writesF ws, []⟩

theorem idB_of {z : Int} (h : 1 ≤ z ∧ z ≤ 999) : idB z = true := by simp only [idB, Bool.and_eq_true, decide_eq_true_eq]; exact h
theorem right_apply {xs : List DItem} (h : Right xs) {x : DWrite} (hx : wF x = 0) : Right (applyI xs x) := by
  obtain ⟨hi, -, -, hk⟩ := writeFault_zero hx
  unfold applyI
  split
  · exact right_drop h _
  · rename_i h2
    split
    · rename_i hr
      rcases hk with ⟨-, hv⟩ | ⟨hk, -⟩
      · exact right_put h (idB_of hi) hv (room_true hr)
      · exact absurd hk h2
    · exact h
theorem ofI_snoc (ws : List DWrite) (k : Nat) (h : k < ws.length) : ofI (ws.take (k + 1)) = applyI (ofI (ws.take k)) ws[k] := by
  rw [ofI, List.take_succ_eq_append_getElem h, List.foldl_append]
  rfl
theorem right_of_writes (ws : List DWrite) (h : ∀ x ∈ ws, wF x = 0) : Right (ofI ws) := by
  have : ∀ (ys : List DWrite) (xs : List DItem), Right xs → (∀ x ∈ ys, wF x = 0) → Right (ys.foldl applyI xs) := by
    intro ys
    induction ys with
    | nil => intro xs hx _; exact hx
    | cons y ys ih =>
      intro xs hx hy
      exact ih _ (right_apply hx (hy y (by simp))) fun x hx => hy x (List.mem_cons_of_mem _ hx)
  exact this ws [] right_nil h
theorem wsFrom_at (ws : List DWrite) (k : Nat) (h : k < ws.length) (hz : ∀ j (hj : j < ws.length), j < k → wF ws[j] = 0) (hn : wF ws[k] ≠ 0) : wsFrom ws = wF ws[k] := by
  induction ws generalizing k with
  | nil => simp at h
  | cons x xs ih =>
    match k with
    | 0 => rw [wsFrom, if_neg (by simpa using hn)]; rfl
    | k + 1 =>
      have h0 : wF x = 0 := hz 0 (by simp) (by omega)
      rw [wsFrom, if_pos h0]
      exact ih k (by simpa using h) (fun j hj hjk => hz (j + 1) (by simpa using hj) (by omega)) (by simpa using hn)
theorem wsFrom_all (ws : List DWrite) (hz : ∀ j (hj : j < ws.length), wF ws[j] = 0) : wsFrom ws = 0 := by
  induction ws with
  | nil => rfl
  | cons x xs ih =>
    have h0 : wF x = 0 := hz 0 (by simp)
    rw [wsFrom, if_pos h0]
    exact ih fun j hj => hz (j + 1) (by simpa using hj)
theorem wsFrom_zero {ws : List DWrite} (h : wsFrom ws = 0) : ∀ x ∈ ws, wF x = 0 := by
  induction ws with
  | nil => simp
  | cons x xs ih =>
    rw [wsFrom] at h
    by_cases h0 : wF x = 0
    · rw [if_pos h0] at h
      intro y hy
      rcases List.mem_cons.1 hy with rfl | hy
      · exact h0
      · exact ih h y hy
    · rw [if_neg h0] at h; exact absurd h h0
theorem writesF_zero {ws : List DWrite} (h : writesF ws = 0) : ws.length ≤ 200 ∧ ∀ x ∈ ws, wF x = 0 := by
  unfold writesF at h
  by_cases hn : 200 < ws.length
  · rw [if_pos hn] at h; cases h
  · rw [if_neg hn] at h; exact ⟨by omega, wsFrom_zero h⟩
theorem wF_vals (x : DWrite) : 0 ≤ wF x ∧ wF x ≤ 3 := by
  have hv := vecFault_vals x.vec
  unfold wF writeFault
  split
  · split
    · split
      · exact hv
      · decide
    · decide
  · decide
theorem wF_wf (x : DWrite) : (Lit.int .i64 (wF x)).wf = true := wf_of_bd (by have := wF_vals x; omega)
theorem wsFrom_vals (ws : List DWrite) : 0 ≤ wsFrom ws ∧ wsFrom ws ≤ 3 := by
  induction ws with
  | nil => decide
  | cons x xs ih =>
    rw [wsFrom]
    split
    · exact ih
    · exact wF_vals x
theorem writesF_wf (ws : List DWrite) : (Lit.int .i64 (writesF ws)).wf = true := by
  have := wsFrom_vals ws
  unfold writesF
  split
  · decide
  · exact wf_of_bd (by omega)

end Go.Proofs.YtkmfkaljdngigaaGreatDoor

namespace Go.Proofs.YtkmfkaljdngigaaGreatDoor
open Go.RowKit

def ofB (s : Int) (x : DWrite) : Bool := decide (x.session = s)
def sameB (s q : Int) (x : DWrite) : Bool := decide (x.session = s) && decide (x.seq = q)
/-- The greatest number of a session. -/
def lastI (ws : List DWrite) (s : Int) : Int := ws.foldl (fun n x => if x.session = s then max n x.seq else n) 0
/-- How many writes there are up to the first one of a session and number; 0: there is none. -/
def seenFrom (s q : Int) : Nat → List DWrite → Nat
  | _, [] => 0
  | n, x :: xs => if x.session = s ∧ x.seq = q then n + 1 else seenFrom s q (n + 1) xs
def seenI (ws : List DWrite) (s q : Int) : Nat := seenFrom s q 0 ws
/-- Of each session the numbers rise. -/
def onceB : List DWrite → List DWrite → Bool
  | _, [] => true
  | pre, x :: xs => decide (lastI pre x.session < x.seq) && onceB (pre ++ [x]) xs
def askedF (ws : List DWrite) (s : Int) : Int := if writesF ws = 0 then (if 1 ≤ s ∧ s ≤ 9 then 0 else 3) else writesF ws

theorem lastI_nil (s : Int) : lastI [] s = 0 := rfl
theorem lastI_snoc (ws : List DWrite) (x : DWrite) (s : Int) : lastI (ws ++ [x]) s = if x.session = s then max (lastI ws s) x.seq else lastI ws s := by
  simp [lastI]
theorem lastI_take (ws : List DWrite) (k : Nat) (h : k < ws.length) (s : Int) : lastI (ws.take (k + 1)) s = if ws[k].session = s then max (lastI (ws.take k) s) ws[k].seq else lastI (ws.take k) s := by
  rw [List.take_succ_eq_append_getElem h, lastI_snoc]
theorem seenFrom_snoc (s q : Int) (x : DWrite) : ∀ (ws : List DWrite) (n : Nat), seenFrom s q n (ws ++ [x]) = if seenFrom s q n ws = 0 then (if x.session = s ∧ x.seq = q then n + ws.length + 1 else 0) else seenFrom s q n ws
  | [], n => by simp [seenFrom]
  | y :: ws, n => by
    rw [List.cons_append, seenFrom, seenFrom]
    by_cases h : y.session = s ∧ y.seq = q
    · rw [if_pos h, if_pos h, if_neg (by omega)]
    · rw [if_neg h, if_neg h, seenFrom_snoc s q x ws (n + 1)]
      simp only [List.length_cons]
      rw [show n + 1 + ws.length + 1 = n + (ws.length + 1) + 1 by omega]
theorem seenI_snoc (ws : List DWrite) (x : DWrite) (s q : Int) : seenI (ws ++ [x]) s q = if seenI ws s q = 0 then (if x.session = s ∧ x.seq = q then ws.length + 1 else 0) else seenI ws s q := by
  have := seenFrom_snoc s q x ws 0
  rw [Nat.zero_add] at this
  exact this
theorem seenI_le (ws : List DWrite) (s q : Int) : seenI ws s q ≤ ws.length := by
  have : ∀ (ws : List DWrite) (n : Nat), seenFrom s q n ws ≤ n + ws.length := by
    intro ws
    induction ws with
    | nil => intro n; simp [seenFrom]
    | cons x xs ih =>
      intro n
      rw [seenFrom]
      split
      · simp only [List.length_cons]; omega
      · have := ih (n + 1)
        simp only [List.length_cons]
        omega
  have := this ws 0
  rw [Nat.zero_add] at this
  exact this
theorem seenFrom_at (s q : Int) : ∀ (ws : List DWrite) (n k : Nat) (h : k < ws.length), (∀ j (hj : j < ws.length), j < k → ¬ (ws[j].session = s ∧ ws[j].seq = q)) → (ws[k].session = s ∧ ws[k].seq = q) → seenFrom s q n ws = n + k + 1
  | [], _, _, h, _, _ => by simp at h
  | x :: xs, n, 0, _, _, hk => by rw [seenFrom, if_pos (by simpa using hk)]
  | x :: xs, n, k + 1, h, hn, hk => by
    have h0 := hn 0 (by simp) (by omega)
    rw [seenFrom, if_neg (by simpa using h0), seenFrom_at s q xs (n + 1) k (by simpa using h) (fun j hj hjk => by have := hn (j + 1) (by simpa using hj) (by omega); simpa using this) (by simpa using hk)]
    omega
theorem seenI_at {s q : Int} {ws : List DWrite} {k : Nat} (h : k < ws.length) (hn : ∀ j (hj : j < ws.length), j < k → ¬ (ws[j].session = s ∧ ws[j].seq = q)) (hk : ws[k].session = s ∧ ws[k].seq = q) : seenI ws s q = k + 1 := by
  have := seenFrom_at s q ws 0 k h hn hk
  rw [Nat.zero_add] at this
  exact this
theorem seenI_none {s q : Int} {ws : List DWrite} (hn : ∀ j (hj : j < ws.length), ¬ (ws[j].session = s ∧ ws[j].seq = q)) : seenI ws s q = 0 := by
  have : ∀ (ws : List DWrite) (n : Nat), (∀ j (hj : j < ws.length), ¬ (ws[j].session = s ∧ ws[j].seq = q)) → seenFrom s q n ws = 0 := by
    intro ws
    induction ws with
    | nil => intro n _; rfl
    | cons x xs ih =>
      intro n hn
      have h0 := hn 0 (by simp)
      rw [seenFrom, if_neg (by simpa using h0)]
      exact ih (n + 1) fun j hj => by have := hn (j + 1) (by simpa using hj); simpa using this
  exact this ws 0 hn
theorem seenI_zero {ws : List DWrite} {s q : Int} (h : seenI ws s q = 0) : ∀ x ∈ ws, ¬ (x.session = s ∧ x.seq = q) := by
  have : ∀ (ws : List DWrite) (n : Nat), seenFrom s q n ws = 0 → ∀ x ∈ ws, ¬ (x.session = s ∧ x.seq = q) := by
    intro ws
    induction ws with
    | nil => intro n _ x hx; simp at hx
    | cons y xs ih =>
      intro n h x hx
      rw [seenFrom] at h
      split at h
      · omega
      · rename_i hy
        rcases List.mem_cons.1 hx with rfl | hx
        · exact hy
        · exact ih (n + 1) h x hx
  exact this ws 0 h
theorem lastI_nonneg (ws : List DWrite) (s : Int) : 0 ≤ lastI ws s := by
  have : ∀ (ws : List DWrite) (n : Int), 0 ≤ n → 0 ≤ ws.foldl (fun n x => if x.session = s then max n x.seq else n) n := by
    intro ws
    induction ws with
    | nil => intro n h; exact h
    | cons x xs ih =>
      intro n h
      rw [List.foldl_cons]
      apply ih
      split <;> omega
  exact this ws 0 (Int.le_refl _)
theorem lastI_le (ws : List DWrite) (s : Int) (h : ∀ x ∈ ws, x.seq ≤ 999) : lastI ws s ≤ 999 := by
  have : ∀ (ws : List DWrite) (n : Int), n ≤ 999 → (∀ x ∈ ws, x.seq ≤ 999) → ws.foldl (fun n x => if x.session = s then max n x.seq else n) n ≤ 999 := by
    intro ws
    induction ws with
    | nil => intro n h _; exact h
    | cons x xs ih =>
      intro n h hx
      rw [List.foldl_cons]
      apply ih
      · have := hx x (by simp)
        split <;> omega
      · intro y hy; exact hx y (List.mem_cons_of_mem _ hy)
  exact this ws 0 (by omega) h
theorem onceB_at : ∀ (ws pre : List DWrite) (k : Nat) (h : k < ws.length), (ws[k]).seq ≤ lastI (pre ++ ws.take k) (ws[k]).session → onceB pre ws = false
  | [], _, _, h, _ => by simp at h
  | x :: xs, pre, 0, _, hk => by
    have : ¬ (lastI pre x.session < x.seq) := by simpa using hk
    simp [onceB, this]
  | x :: xs, pre, k + 1, h, hk => by
    rw [onceB, onceB_at xs (pre ++ [x]) k (by simpa using h) (by simpa using hk), Bool.and_false]
theorem onceB_all : ∀ (ws pre : List DWrite), (∀ k (h : k < ws.length), lastI (pre ++ ws.take k) (ws[k]).session < (ws[k]).seq) → onceB pre ws = true
  | [], _, _ => rfl
  | x :: xs, pre, h => by
    have h0 := h 0 (by simp)
    rw [onceB, onceB_all xs (pre ++ [x]) fun k hk => by have := h (k + 1) (by simpa using hk); simpa using this]
    simpa using h0
def onceR (ws : List DWrite) : Bool := decide (writesF ws = 0) && onceB [] ws
theorem wF_seq {x : DWrite} (h : wF x = 0) : 1 ≤ x.session ∧ x.session ≤ 9 ∧ 1 ≤ x.seq ∧ x.seq ≤ 999 := by
  obtain ⟨-, h1, h2, -⟩ := writeFault_zero h
  exact ⟨h1.1, h1.2, h2.1, h2.2⟩

end Go.Proofs.YtkmfkaljdngigaaGreatDoor

namespace Go.Proofs.YtkmfkaljdngigaaGreatDoor
open Go.RowKit

def sameW (x y : DWrite) : Bool := x.kind == y.kind && (x.id == y.id && (x.session == y.session && (x.seq == y.seq && decide (x.vec = y.vec))))
def sameWs : List DWrite → List DWrite → Bool
  | [], [] => true
  | x :: xs, y :: ys => sameW x y && sameWs xs ys
  | _, _ => false
theorem sameWs_len {xs ys : List DWrite} (h : xs.length ≠ ys.length) : sameWs xs ys = false := by
  induction xs generalizing ys with
  | nil => match ys, h with | y :: ys, _ => rfl
  | cons x xs ih =>
    match ys, h with
    | [], _ => rfl
    | y :: ys, h => rw [sameWs, ih (by simpa using h), Bool.and_false]
theorem sameWs_at {xs ys : List DWrite} (k : Nat) (h1 : k < xs.length) (h2 : k < ys.length) (h : sameW xs[k] ys[k] = false) : sameWs xs ys = false := by
  induction xs generalizing ys k with
  | nil => simp at h1
  | cons x xs ih =>
    match ys, k with
    | y :: ys, 0 => rw [sameWs, show sameW x y = false by simpa using h, Bool.false_and]
    | y :: ys, k + 1 => rw [sameWs, ih k (by simpa using h1) (by simpa using h2) (by simpa using h), Bool.and_false]
theorem sameWs_all {xs ys : List DWrite} (hl : xs.length = ys.length) (h : ∀ k (h1 : k < xs.length) (h2 : k < ys.length), sameW xs[k] ys[k] = true) : sameWs xs ys = true := by
  induction xs generalizing ys with
  | nil => match ys, hl with | [], _ => rfl
  | cons x xs ih =>
    match ys, hl with
    | y :: ys, hl =>
      rw [sameWs, show sameW x y = true from h 0 (by simp) (by simp), ih (by simpa using hl) fun k h1 h2 => h (k + 1) (by simpa using h1) (by simpa using h2), Bool.true_and]
theorem sameWs_refl_self (x : DWrite) : sameW x x = true := by simp [sameW]

end Go.Proofs.YtkmfkaljdngigaaGreatDoor

namespace Go.Proofs.YtkmfkaljdngigaaGreatDoor
open Go.RowKit

/-- A write that is none. -/
def noW (y : DWrite) : Prop := y.kind = 0 ∧ y.id = 0 ∧ y.session = 0 ∧ y.seq = 0 ∧ y.vec.length = 0
instance (y : DWrite) : Decidable (noW y) := by unfold noW; infer_instance
def msgFault (x : DMsg) : Int :=
  if ¬ (1 ≤ x.kind ∧ x.kind ≤ 2) ∨ x.src = x.dst ∨ (x.kind = 2 ∧ ¬ noW x.write) then 1
  else if ¬ (1 ≤ x.epoch ∧ x.epoch ≤ 999) ∨ ¬ (1 ≤ x.src ∧ x.src ≤ 5) ∨ ¬ (1 ≤ x.dst ∧ x.dst ≤ 5) ∨ ¬ (0 ≤ x.index ∧ x.index ≤ 40) ∨ (x.kind ≠ 2 ∧ x.index = 0) then 3
  else if x.kind = 2 then 0 else wF x.write
def msgsFrom : List DMsg → Int
  | [] => 0
  | x :: xs => if msgFault x = 0 then msgsFrom xs else msgFault x
def netFault (xs : List DMsg) : Int := if 40 < xs.length then 2 else msgsFrom xs
def sameM (x y : DMsg) : Bool := x.kind == y.kind && x.epoch == y.epoch && x.src == y.src && x.dst == y.dst && x.index == y.index && sameW x.write y.write
def badNet (c : Int) : DNetResult := ⟨c, []⟩
def sendM (xs : List DMsg) (x : DMsg) : DNetResult :=
  if xs.any (fun y => sameM y x) then ⟨0, xs⟩ else if 40 ≤ xs.length then badNet 2 else ⟨0, xs ++ [x]⟩
def sendR (xs : List DMsg) (x : DMsg) : DNetResult :=
  if netFault xs = 0 then (if msgFault x = 0 then sendM xs x else badNet (msgFault x)) else badNet (netFault xs)
def dropMR (xs : List DMsg) (i : Int) : DNetResult :=
  if netFault xs = 0 then (if 0 ≤ i ∧ i ≤ xs.length - 1 then ⟨0, xs.take i.toNat ++ xs.drop (i.toNat + 1)⟩ else badNet 3) else badNet (netFault xs)
def countM (xs : List DMsg) (z : Int) : Nat := (xs.filter fun y => y.dst == z).length
def countR (xs : List DMsg) (z : Int) : DIntResult := if netFault xs = 0 then ⟨0, countM xs z⟩ else ⟨netFault xs, 0⟩

theorem msgFault_vals (x : DMsg) : 0 ≤ msgFault x ∧ msgFault x ≤ 6 := by
  have := wF_vals x.write
  unfold msgFault
  split
  · omega
  · split
    · omega
    · split
      · omega
      · omega
theorem msgsFrom_vals : ∀ xs : List DMsg, 0 ≤ msgsFrom xs ∧ msgsFrom xs ≤ 6
  | [] => by simp [msgsFrom]
  | x :: xs => by
    rw [msgsFrom]
    split
    · exact msgsFrom_vals xs
    · exact msgFault_vals x
theorem netFault_vals (xs : List DMsg) : 0 ≤ netFault xs ∧ netFault xs ≤ 6 := by
  unfold netFault
  split
  · omega
  · exact msgsFrom_vals xs
theorem msgsFrom_zero : ∀ {xs : List DMsg}, msgsFrom xs = 0 → ∀ x ∈ xs, msgFault x = 0
  | [], _, _, h => by cases h
  | x :: xs, h, y, hy => by
    rw [msgsFrom] at h
    by_cases h1 : msgFault x = 0
    · rw [if_pos h1] at h
      rcases List.mem_cons.1 hy with rfl | hy
      · exact h1
      · exact msgsFrom_zero h y hy
    · rw [if_neg h1] at h
      exact absurd h h1
theorem msgsFrom_all : ∀ {xs : List DMsg}, (∀ x ∈ xs, msgFault x = 0) → msgsFrom xs = 0
  | [], _ => rfl
  | x :: xs, h => by
    rw [msgsFrom, if_pos (h x (by simp))]
    exact msgsFrom_all fun y hy => h y (List.mem_cons_of_mem _ hy)
theorem msgsFrom_at : ∀ {xs : List DMsg} {k : Nat} (hk : k < xs.length), (∀ j (hj : j < k), msgFault xs[j] = 0) → msgFault xs[k] ≠ 0 → msgsFrom xs = msgFault xs[k]
  | x :: xs, 0, hk, _, h => by
    have h1 : msgFault x ≠ 0 := h
    rw [msgsFrom, if_neg h1]
    rfl
  | x :: xs, k + 1, hk, hb, h => by
    have h1 : msgFault x = 0 := hb 0 (by omega)
    rw [msgsFrom, if_pos h1]
    exact msgsFrom_at (xs := xs) (k := k) (by simpa using hk) (fun j hj => hb (j + 1) (by omega)) h
end Go.Proofs.YtkmfkaljdngigaaGreatDoor

namespace Go.Proofs.YtkmfkaljdngigaaGreatDoor
open Go.RowKit

theorem sameW_refl (y : DWrite) : sameW y y = true := by simp [sameW]
theorem sameM_refl (x : DMsg) : sameM x x = true := by simp [sameM, sameW_refl]
theorem netFault_zero {xs : List DMsg} (h : netFault xs = 0) : xs.length ≤ 40 ∧ ∀ x ∈ xs, msgFault x = 0 := by
  unfold netFault at h
  split at h
  · simp at h
  · exact ⟨by omega, msgsFrom_zero h⟩
theorem netFault_ok {xs : List DMsg} (h : xs.length ≤ 40) (h2 : ∀ x ∈ xs, msgFault x = 0) : netFault xs = 0 := by
  rw [netFault, if_neg (by omega)]
  exact msgsFrom_all h2
theorem countM_le (xs : List DMsg) (z : Int) : countM xs z ≤ xs.length := List.length_filter_le _ _
theorem sendM_there {xs : List DMsg} {x : DMsg} (h : xs.any (fun y => sameM y x) = true) : sendM xs x = ⟨0, xs⟩ := by rw [sendM, if_pos h]
theorem sendM_new {xs : List DMsg} {x : DMsg} (h : xs.any (fun y => sameM y x) = false) (hl : xs.length < 40) : sendM xs x = ⟨0, xs ++ [x]⟩ := by rw [sendM, if_neg (by simp [h]), if_neg (by omega)]
theorem sendM_full {xs : List DMsg} {x : DMsg} (h : xs.any (fun y => sameM y x) = false) (hl : 40 ≤ xs.length) : sendM xs x = badNet 2 := by rw [sendM, if_neg (by simp [h]), if_pos hl]
theorem sendR_net {xs : List DMsg} {x : DMsg} (h : netFault xs ≠ 0) : sendR xs x = badNet (netFault xs) := by rw [sendR, if_neg h]
theorem sendR_msg {xs : List DMsg} {x : DMsg} (h : netFault xs = 0) (h2 : msgFault x ≠ 0) : sendR xs x = badNet (msgFault x) := by rw [sendR, if_pos h, if_neg h2]
theorem sendR_ok {xs : List DMsg} {x : DMsg} (h : netFault xs = 0) (h2 : msgFault x = 0) : sendR xs x = sendM xs x := by rw [sendR, if_pos h, if_pos h2]
/-- What holds behind a message that was sent. -/
structure Nets (xs : List DMsg) (x : DMsg) (ys : List DMsg) : Prop where
  nf : netFault xs = 0
  mf : msgFault x = 0
  send : sendR xs x = ⟨0, ys⟩
  again : sendR ys x = ⟨0, ys⟩
  yf : netFault ys = 0
  pos : 1 ≤ ys.length
  few : ys.length ≤ 40
  le : xs.length ≤ ys.length
  ca : countR xs x.dst = ⟨0, (countM xs x.dst : Nat)⟩
  cb : countR ys x.dst = ⟨0, (countM ys x.dst : Nat)⟩
  cd : countM ys x.dst = countM xs x.dst + (ys.length - xs.length)
  drop : dropMR ys ((ys.length : Int) - 1) = ⟨0, ys.take (ys.length - 1)⟩
theorem dropMR_last {ys : List DMsg} (h : netFault ys = 0) (hp : 1 ≤ ys.length) : dropMR ys ((ys.length : Int) - 1) = ⟨0, ys.take (ys.length - 1)⟩ := by
  have e : ((ys.length : Int) - 1).toNat = ys.length - 1 := by omega
  rw [dropMR, if_pos h, if_pos (by omega), e, List.drop_eq_nil_of_le (by omega), List.append_nil]
theorem nets_plain {xs : List DMsg} {x : DMsg} (h : (sendR xs x).code = 0) : ∃ ys, Nets xs x ys := by
  by_cases hn : netFault xs = 0
  · by_cases hm : msgFault x = 0
    · obtain ⟨hl, hall⟩ := netFault_zero hn
      cases ha : xs.any (fun y => sameM y x)
      · by_cases hf : xs.length < 40
        · have hyf : netFault (xs ++ [x]) = 0 := netFault_ok (by simp; omega) fun y hy => by
            rcases List.mem_append.1 hy with hy | hy
            · exact hall y hy
            · rw [List.mem_singleton.1 hy]; exact hm
          have hag : (xs ++ [x]).any (fun y => sameM y x) = true := by simp [sameM_refl]
          refine ⟨xs ++ [x], hn, hm, by rw [sendR_ok hn hm, sendM_new ha hf], by rw [sendR_ok hyf hm, sendM_there hag], hyf, by simp, by simp; omega, by simp, by rw [countR, if_pos hn], by rw [countR, if_pos hyf], ?_, dropMR_last hyf (by simp)⟩
          simp [countM, List.filter_append]
        · rw [sendR_ok hn hm, sendM_full ha (by omega)] at h
          simp [badNet] at h
      · have hp : 1 ≤ xs.length := by
          cases xs with
          | nil => simp at ha
          | cons y ys => simp
        exact ⟨xs, hn, hm, by rw [sendR_ok hn hm, sendM_there ha], by rw [sendR_ok hn hm, sendM_there ha], hn, hp, hl, Nat.le_refl _, by rw [countR, if_pos hn], by rw [countR, if_pos hn], by omega, dropMR_last hn hp⟩
    · rw [sendR_msg hn hm] at h
      exact absurd h hm
  · rw [sendR_net hn] at h
    exact absurd h hn
end Go.Proofs.YtkmfkaljdngigaaGreatDoor

namespace Go.Proofs.YtkmfkaljdngigaaGreatDoor
open Go.RowKit

theorem big_no (ao : Option Addr) (len cap : Nat) (w : World) (hn : len ≤ 1048576) :
    Calls Tryz.prog 4 #[.slice ao len cap] w fun e w' => e = .returned (.bool false) ∧ w' = w := by
  have hd : decide (1048576 < (len : Int)) = false := by simp; omega
  go_enter Tryz.func4, Tryz.ntmps4
  go_wp2
  go_ret
  exact ⟨rfl, rfl⟩

theorem big_yes (ao : Option Addr) (len cap : Nat) (w : World) (hn : 1048576 < len) :
    Calls Tryz.prog 4 #[.slice ao len cap] w fun e w' => e = .returned (.bool true) ∧ w' = w := by
  have hd : decide (1048576 < (len : Int)) = true := by simp; omega
  go_enter Tryz.func4, Tryz.ntmps4
  go_wp2
  go_ret
  exact ⟨rfl, rfl⟩

/-- A function that computes: what it answers wherever w1 stands. -/
def Tells (P : Program) (f : Nat) (args : Array Value) (w1 : World) (v : Value) : Prop :=
  ∀ W, Below w1.heap.size w1 W → Calls P f args W fun e w' => e = .returned v ∧ Below W.heap.size W w'

theorem below_step {w1 W W' : World} (h : Below w1.heap.size w1 W) (k : Below W.heap.size W W') : Below w1.heap.size w1 W' := h.trans (k.mono h.size)

end Go.Proofs.YtkmfkaljdngigaaGreatDoor

namespace Go.Proofs.YtkmfkaljdngigaaGreatDoor
open Go.RowKit

theorem node10C (x : Int) (w : World) : Calls Tryz.prog 53 #[.int .i64 x] w fun e w' => e = .returned (.bool (decide (1 ≤ x) && decide (x ≤ 5))) ∧ w' = w := by
  go_enter Tryz.func53, Tryz.ntmps53
  go_wp2_with fail
  refine (inC x 1 5 _).mono ?_
  rintro e w1 ⟨rfl, rfl⟩
  go_wp2_with fail
  go_ret
  exact ⟨rfl, rfl⟩

end Go.Proofs.YtkmfkaljdngigaaGreatDoor

namespace Go.Proofs.YtkmfkaljdngigaaGreatDoor
open Go.RowKit

/-- A message at a place. -/
def MsgAt (w : World) (b o : Nat) (x : DMsg) (v : Value) : Prop :=
  w.cell? ⟨b, o, none⟩ = some (.int .i64 x.kind) ∧ w.cell? ⟨b, o + 1, none⟩ = some (.int .i64 x.epoch) ∧ w.cell? ⟨b, o + 2, none⟩ = some (.int .i64 x.src) ∧ w.cell? ⟨b, o + 3, none⟩ = some (.int .i64 x.dst) ∧ w.cell? ⟨b, o + 4, none⟩ = some (.int .i64 x.index) ∧ w.cell? ⟨b, o + 5, none⟩ = some (.int .i64 x.write.kind) ∧ w.cell? ⟨b, o + 5 + 1, none⟩ = some (.int .i64 x.write.id) ∧ w.cell? ⟨b, o + 5 + 2, none⟩ = some (v) ∧ w.cell? ⟨b, o + 5 + 3, none⟩ = some (.int .i64 x.write.session) ∧ w.cell? ⟨b, o + 5 + 4, none⟩ = some (.int .i64 x.write.seq)
theorem MsgAt.later {w w' : World} {b o : Nat} {x : DMsg} {v : Value} (h : MsgAt w b o x v) (hb : Below w.heap.size w w') : MsgAt w' b o x v := by
  obtain ⟨c0, c1, c2, c3, c4, c5, c6, c7, c8, c9⟩ := h
  have hl := World.block_lt_of_cell? _ _ c0
  exact ⟨(hb.cell (p := ⟨b, o, none⟩) hl).trans c0, (hb.cell (p := ⟨b, o + 1, none⟩) hl).trans c1, (hb.cell (p := ⟨b, o + 2, none⟩) hl).trans c2, (hb.cell (p := ⟨b, o + 3, none⟩) hl).trans c3, (hb.cell (p := ⟨b, o + 4, none⟩) hl).trans c4, (hb.cell (p := ⟨b, o + 5, none⟩) hl).trans c5, (hb.cell (p := ⟨b, o + 5 + 1, none⟩) hl).trans c6, (hb.cell (p := ⟨b, o + 5 + 2, none⟩) hl).trans c7, (hb.cell (p := ⟨b, o + 5 + 3, none⟩) hl).trans c8, (hb.cell (p := ⟨b, o + 5 + 4, none⟩) hl).trans c9⟩
theorem noW_f0 {y : DWrite} (h : (y.kind == 0) = false) : decide (noW y) = false := by
  rw [decide_eq_false_iff_not]; intro q; rw [q.1] at h; simp at h
theorem noW_f1 {y : DWrite} (h : (y.id == 0) = false) : decide (noW y) = false := by
  rw [decide_eq_false_iff_not]; intro q; rw [q.2.1] at h; simp at h
theorem noW_f2 {y : DWrite} (h : (y.session == 0) = false) : decide (noW y) = false := by
  rw [decide_eq_false_iff_not]; intro q; rw [q.2.2.1] at h; simp at h
theorem noW_f3 {y : DWrite} (h : (y.seq == 0) = false) : decide (noW y) = false := by
  rw [decide_eq_false_iff_not]; intro q; rw [q.2.2.2.1] at h; simp at h
theorem noW_f4 {y : DWrite} (h : ((y.vec.length : Int) == 0) = false) : decide (noW y) = false := by
  rw [decide_eq_false_iff_not]; intro q; rw [q.2.2.2.2] at h; simp at h
theorem noW_t {y : DWrite} (h0 : (y.kind == 0) = true) (h1 : (y.id == 0) = true) (h2 : (y.session == 0) = true) (h3 : (y.seq == 0) = true) (h4 : ((y.vec.length : Int) == 0) = true) : decide (noW y) = true := by
  rw [decide_eq_true_iff]
  simp only [beq_iff_eq] at h0 h1 h2 h3 h4
  exact ⟨h0, h1, h2, h3, by omega⟩
theorem mf_kind {x : DMsg} (h : (decide (1 ≤ x.kind) && decide (x.kind ≤ 2)) = false) : msgFault x = 1 := by
  rw [msgFault, if_pos (Or.inl (by simpa using h))]
theorem mf_self {x : DMsg} (h : (x.src == x.dst) = true) : msgFault x = 1 := by
  rw [msgFault, if_pos (Or.inr (Or.inl (beq_iff_eq.1 h)))]
theorem mf_ack {x : DMsg} (h : (x.kind == 2) = true) (h2 : decide (noW x.write) = false) : msgFault x = 1 := by
  rw [msgFault, if_pos (Or.inr (Or.inr ⟨beq_iff_eq.1 h, decide_eq_false_iff_not.1 h2⟩))]
def mfRest (x : DMsg) : Int := if ¬ (1 ≤ x.epoch ∧ x.epoch ≤ 999) ∨ ¬ (1 ≤ x.src ∧ x.src ≤ 5) ∨ ¬ (1 ≤ x.dst ∧ x.dst ≤ 5) ∨ ¬ (0 ≤ x.index ∧ x.index ≤ 40) ∨ (x.kind ≠ 2 ∧ x.index = 0) then 3
  else if x.kind = 2 then 0 else wF x.write
theorem mf_rest1 {x : DMsg} (h : (decide (1 ≤ x.kind) && decide (x.kind ≤ 2)) = true) (h1 : (x.src == x.dst) = false) (h2 : (x.kind == 2) = false) : msgFault x = mfRest x := by
  rw [msgFault, if_neg, mfRest]
  simp at h h1 h2
  rintro (q | q | q)
  · exact q h
  · exact h1 q
  · exact h2 q.1
theorem mf_rest2 {x : DMsg} (h : (decide (1 ≤ x.kind) && decide (x.kind ≤ 2)) = true) (h1 : (x.src == x.dst) = false) (h2 : decide (noW x.write) = true) : msgFault x = mfRest x := by
  rw [msgFault, if_neg, mfRest]
  simp at h h1 h2
  rintro (q | q | q)
  · exact q h
  · exact h1 q
  · exact q.2 h2
theorem mr_epoch {x : DMsg} (h : (decide (1 ≤ x.epoch) && decide (x.epoch ≤ 999)) = false) : mfRest x = 3 := by
  rw [mfRest, if_pos (Or.inl (by simpa using h))]
theorem mr_src {x : DMsg} (h : (decide (1 ≤ x.src) && decide (x.src ≤ 5)) = false) : mfRest x = 3 := by
  rw [mfRest, if_pos (Or.inr (Or.inl (by simpa using h)))]
theorem mr_dst {x : DMsg} (h : (decide (1 ≤ x.dst) && decide (x.dst ≤ 5)) = false) : mfRest x = 3 := by
  rw [mfRest, if_pos (Or.inr (Or.inr (Or.inl (by simpa using h))))]
theorem mr_index {x : DMsg} (h : (decide (0 ≤ x.index) && decide (x.index ≤ 40)) = false) : mfRest x = 3 := by
  rw [mfRest, if_pos (Or.inr (Or.inr (Or.inr (Or.inl (by simpa using h)))))]
theorem mr_zero {x : DMsg} (h : (x.kind == 2) = false) (h2 : (x.index == 0) = true) : mfRest x = 3 := by
  rw [mfRest, if_pos (Or.inr (Or.inr (Or.inr (Or.inr ⟨by simpa using h, by simpa using h2⟩))))]
theorem mr_ok {x : DMsg} (h0 : (decide (1 ≤ x.epoch) && decide (x.epoch ≤ 999)) = true) (h1 : (decide (1 ≤ x.src) && decide (x.src ≤ 5)) = true) (h2 : (decide (1 ≤ x.dst) && decide (x.dst ≤ 5)) = true) (h3 : (decide (0 ≤ x.index) && decide (x.index ≤ 40)) = true) (h4 : (x.kind == 2) = true ∨ (x.index == 0) = false) : mfRest x = if x.kind = 2 then 0 else wF x.write := by
  rw [mfRest, if_neg]
  simp at h0 h1 h2 h3 h4
  rintro (q | q | q | q | q)
  · exact q h0
  · exact q h1
  · exact q h2
  · exact q h3
  · rcases h4 with h4 | h4
    · exact q.1 h4
    · exact h4 q.2

theorem write_vec {w : World} {y : DWrite} {a : Option Addr} {d : Nat} (h : Lay.tWrite.Reads w [.int .i64 y.kind, .int .i64 y.id, .slice a y.vec.length d, .int .i64 y.session, .int .i64 y.seq] y) : (Lay.sl Lay.int).Reads w [.slice a y.vec.length d] y.vec := by
  obtain ⟨a2, d2, e, R⟩ := open_Write h
  simp only [List.cons.injEq, Value.slice.injEq, and_true, true_and] at e
  obtain ⟨rfl, rfl⟩ := e
  exact R
theorem msgAt_box {w : World} {g : Nat} {x : DMsg} {a : Option Addr} {d : Nat} (h : Box 0 #[.int .i64 x.kind, .int .i64 x.epoch, .int .i64 x.src, .int .i64 x.dst, .int .i64 x.index, .int .i64 x.write.kind, .int .i64 x.write.id, .slice a x.write.vec.length d, .int .i64 x.write.session, .int .i64 x.write.seq] 29 w g) : MsgAt w g 0 x (.slice a x.write.vec.length d) :=
  ⟨h.at 0 _ rfl, h.at 1 _ rfl, h.at 2 _ rfl, h.at 3 _ rfl, h.at 4 _ rfl, h.at 5 _ rfl, h.at 6 _ rfl, h.at 7 _ rfl, h.at 8 _ rfl, h.at 9 _ rfl⟩

set_option maxRecDepth 10000 in
set_option maxHeartbeats 2000000 in
theorem l11MsgC (b o : Nat) (a : Option Addr) (d : Nat) (x : DMsg) (w : World) (hM : MsgAt w b o x (.slice a x.write.vec.length d)) (R : (Lay.sl Lay.int).Reads w [.slice a x.write.vec.length d] x.write.vec) :
    Calls Tryz.prog 22 #[.pointer (some ⟨b, o, none⟩)] w fun e w' => e = .returned (.int .i64 (msgFault x)) ∧ Below w.heap.size w w' := by
  have hbig := R.big
  have H := hide R
  have HM := hide hM
  obtain ⟨c0, c1, c2, c3, c4, c5, c6, c7, c8, c9⟩ := hM
  have hb := World.block_lt_of_cell? _ _ c0
  clear R
  go_enter Tryz.func22, Tryz.ntmps22
  go_upto_region 2 with fail
  go_cut [4] from 10 to 48 (fun s4 wx => s4 = .bool (decide (noW x.write)) ∧ wx = w)
  case first =>
    cases e0 : (x.write.kind == 0)
    · have HF := hide (noW_f0 e0)
      go_wp2_with fail
      go_meet
      exact ⟨by rw [unhide HF], rfl⟩
    · cases e1 : (x.write.id == 0)
      · have HF := hide (noW_f1 e1)
        go_wp2_with fail
        go_meet
        exact ⟨by rw [unhide HF], rfl⟩
      · cases e2 : (x.write.session == 0)
        · have HF := hide (noW_f2 e2)
          go_wp2_with fail
          go_meet
          exact ⟨by rw [unhide HF], rfl⟩
        · cases e3 : (x.write.seq == 0)
          · have HF := hide (noW_f3 e3)
            go_wp2_with fail
            go_meet
            exact ⟨by rw [unhide HF], rfl⟩
          · cases e4 : ((x.write.vec.length : Int) == 0)
            · have HF := hide (noW_f4 e4)
              go_wp2_with fail
              go_meet
              exact ⟨by rw [unhide HF], rfl⟩
            · have HF := hide (noW_t e0 e1 e2 e3 e4)
              go_wp2_with fail
              go_meet
              exact ⟨by rw [unhide HF], rfl⟩
  case rest =>
    obtain ⟨rfl, hwc⟩ := hcut
    subst hwc
    cases d1 : (decide (1 ≤ x.kind) && decide (x.kind ≤ 2))
    · have HF := hide (mf_kind d1)
      go_upto_region 3 with fail
      refine wp_region_noPanic ?_
      refine wp_region_held_drew (S := fun w' => Below wc.heap.size wc w') (by kernel_rfl) (Below.refl _ _).drew (fun hHeld => ?_)
      generalize wc.drew = wD at hHeld ⊢
      refine wpAnyH_take (i := 0) (oi := { dst := some 49, op := Go.Op.move (Go.Operand.tmp 0), type := 54, pos := "l11_net.go:10", after := #[], guard := none }) (v := ?va0_1) rfl (by kernel_rfl) (by kernel_rfl) (by kernel_rfl) (fun _ _ _ h => h) (Or.inl ⟨by rfl, ?ha0_1⟩) hHeld ?ra0_1
      case ha0_1 =>
        intro wS hSw
        (try dsimp only at hSw)
        go_simp
        try with_reducible rfl
      case ra0_1 =>
      simp only [Act.put, List.setIfInBounds_toArray, List.set_cons_zero, List.set_cons_succ]
      refine wpAnyH_take (i := 1) (oi := { dst := some 50, op := Go.Op.nilCheck (Go.Operand.tmp 49), type := 0, pos := "l11_net.go:10", after := #[{ on := 0, ground := Go.Ground.data }], guard := none }) (v := ?va1_2) rfl (by kernel_rfl) (by kernel_rfl) (by kernel_rfl) (fun _ _ _ h => h) (Or.inl ⟨by rfl, ?ha1_2⟩) hHeld ?ra1_2
      case ha1_2 =>
        intro wS hSw
        (try dsimp only at hSw)
        go_simp
        try with_reducible rfl
      case ra1_2 =>
      simp only [Act.put, List.setIfInBounds_toArray, List.set_cons_zero, List.set_cons_succ]
      refine wpAnyH_take (i := 2) (oi := { dst := some 51, op := Go.Op.fieldAddr 29 (Go.Operand.tmp 50) 0, type := 0, pos := "l11_net.go:10", after := #[{ on := 1, ground := Go.Ground.data }], guard := none }) (v := ?va2_3) rfl (by kernel_rfl) (by kernel_rfl) (by kernel_rfl) (fun _ _ _ h => h) (Or.inl ⟨by rfl, ?ha2_3⟩) hHeld ?ra2_3
      case ha2_3 =>
        intro wS hSw
        (try dsimp only at hSw)
        go_simp
        try with_reducible rfl
      case ra2_3 =>
      simp only [Act.put, List.setIfInBounds_toArray, List.set_cons_zero, List.set_cons_succ]
      refine wpAnyH_take (i := 3) (oi := { dst := some 52, op := Go.Op.load 2 (Go.Operand.tmp 51), type := 2, pos := "l11_net.go:10", after := #[{ on := 2, ground := Go.Ground.data }], guard := none }) (v := ?va3_4) rfl (by kernel_rfl) (by kernel_rfl) (by kernel_rfl) (fun _ _ _ h => h) (Or.inl ⟨by rfl, ?ha3_4⟩) hHeld ?ra3_4
      case ha3_4 =>
        intro wS hSw
        have q0 := (hSw.cell (p := ⟨b, o, none⟩) hb).trans c0
        clear hSw
        (try dsimp only at hSw)
        go_simp
        try with_reducible rfl
      case ra3_4 =>
      simp only [Act.put, List.setIfInBounds_toArray, List.set_cons_zero, List.set_cons_succ]
      refine wpAnyH_ready (rs := [4]) (by kernel_rfl) (by simp) ?_
      refine AllReadyH.cons (o := { dst := some 53, op := Go.Op.call { callee := Go.Callee.value (Go.Operand.func 52), args := #[Go.Operand.tmp 52, Go.Operand.const (Go.Value.int Go.IntKind.i64 1), Go.Operand.const (Go.Value.int Go.IntKind.i64 2)], argTypes := #[2, 2, 2] }, type := 4, pos := "l11_net.go:10", after := #[{ on := 3, ground := Go.Ground.data }], guard := none }) rfl (fun K hK => ?_) AllReadyH.nil
      go_simp
      go_at_call 52
      refine (inC x.kind 1 2 _).mono ?_
      rintro e w1 ⟨rfl, h1⟩
      subst w1
      rw [d1]
      try go_wp2_with fail
      refine hK.out _ _ hHeld (fun hHeld => ?_)
      clear hK K
      try simp only [Act.put, List.setIfInBounds_toArray, List.set_cons_zero, List.set_cons_succ]
      refine wpAnyH_take (i := 5) (oi := { dst := some 54, op := Go.Op.unOp Go.UnOp.not 4 (Go.Operand.tmp 53), type := 4, pos := "l11_net.go:10", after := #[{ on := 4, ground := Go.Ground.data }], guard := none }) (v := ?va5_5) rfl (by kernel_rfl) (by kernel_rfl) (by kernel_rfl) (fun _ _ _ h => h) (Or.inl ⟨by rfl, ?ha5_5⟩) hHeld ?ra5_5
      case ha5_5 =>
        intro wS hSw
        (try dsimp only at hSw)
        go_simp
        try with_reducible rfl
      case ra5_5 =>
      simp only [Act.put, List.setIfInBounds_toArray, List.set_cons_zero, List.set_cons_succ]
      refine wpAnyH_take (i := 6) (oi := { dst := some 55, op := Go.Op.move (Go.Operand.tmp 54), type := 4, pos := "l11_net.go:10", after := #[{ on := 5, ground := Go.Ground.data }, { on := 4, ground := Go.Ground.chain }], guard := none }) (v := ?va6_6) rfl (by kernel_rfl) (by kernel_rfl) (by kernel_rfl) (fun _ _ _ h => h) (Or.inl ⟨by rfl, ?ha6_6⟩) hHeld ?ra6_6
      case ha6_6 =>
        intro wS hSw
        (try dsimp only at hSw)
        go_simp
        try with_reducible rfl
      case ra6_6 =>
      simp only [Act.put, List.setIfInBounds_toArray, List.set_cons_zero, List.set_cons_succ]
      refine wpAnyH_take (i := 7) (oi := { dst := some 56, op := Go.Op.move (Go.Operand.tmp 0), type := 54, pos := "l11_net.go:10", after := #[{ on := 6, ground := Go.Ground.guard }], guard := some (6, false) }) (v := undef) rfl (by kernel_rfl) (by kernel_rfl) (by kernel_rfl) (fun _ _ _ h => h) (Or.inr ⟨by rfl, rfl⟩) hHeld ?_
      simp only [Act.put, List.setIfInBounds_toArray, List.set_cons_zero, List.set_cons_succ]
      refine wpAnyH_take (i := 8) (oi := { dst := some 57, op := Go.Op.nilCheck (Go.Operand.tmp 56), type := 0, pos := "l11_net.go:10", after := #[{ on := 7, ground := Go.Ground.data }, { on := 6, ground := Go.Ground.guard }], guard := some (6, false) }) (v := undef) rfl (by kernel_rfl) (by kernel_rfl) (by kernel_rfl) (fun _ _ _ h => h) (Or.inr ⟨by rfl, rfl⟩) hHeld ?_
      simp only [Act.put, List.setIfInBounds_toArray, List.set_cons_zero, List.set_cons_succ]
      refine wpAnyH_take (i := 9) (oi := { dst := some 58, op := Go.Op.fieldAddr 29 (Go.Operand.tmp 57) 2, type := 0, pos := "l11_net.go:10", after := #[{ on := 8, ground := Go.Ground.data }, { on := 6, ground := Go.Ground.guard }], guard := some (6, false) }) (v := undef) rfl (by kernel_rfl) (by kernel_rfl) (by kernel_rfl) (fun _ _ _ h => h) (Or.inr ⟨by rfl, rfl⟩) hHeld ?_
      simp only [Act.put, List.setIfInBounds_toArray, List.set_cons_zero, List.set_cons_succ]
      refine wpAnyH_take (i := 10) (oi := { dst := some 59, op := Go.Op.load 2 (Go.Operand.tmp 58), type := 2, pos := "l11_net.go:10", after := #[{ on := 9, ground := Go.Ground.data }, { on := 6, ground := Go.Ground.guard }], guard := some (6, false) }) (v := undef) rfl (by kernel_rfl) (by kernel_rfl) (by kernel_rfl) (fun _ _ _ h => h) (Or.inr ⟨by rfl, rfl⟩) hHeld ?_
      simp only [Act.put, List.setIfInBounds_toArray, List.set_cons_zero, List.set_cons_succ]
      refine wpAnyH_take (i := 11) (oi := { dst := some 60, op := Go.Op.move (Go.Operand.tmp 0), type := 54, pos := "l11_net.go:10", after := #[{ on := 6, ground := Go.Ground.guard }], guard := some (6, false) }) (v := undef) rfl (by kernel_rfl) (by kernel_rfl) (by kernel_rfl) (fun _ _ _ h => h) (Or.inr ⟨by rfl, rfl⟩) hHeld ?_
      simp only [Act.put, List.setIfInBounds_toArray, List.set_cons_zero, List.set_cons_succ]
      refine wpAnyH_take (i := 12) (oi := { dst := some 61, op := Go.Op.nilCheck (Go.Operand.tmp 60), type := 0, pos := "l11_net.go:10", after := #[{ on := 11, ground := Go.Ground.data }, { on := 6, ground := Go.Ground.guard }], guard := some (6, false) }) (v := undef) rfl (by kernel_rfl) (by kernel_rfl) (by kernel_rfl) (fun _ _ _ h => h) (Or.inr ⟨by rfl, rfl⟩) hHeld ?_
      simp only [Act.put, List.setIfInBounds_toArray, List.set_cons_zero, List.set_cons_succ]
      refine wpAnyH_take (i := 13) (oi := { dst := some 62, op := Go.Op.fieldAddr 29 (Go.Operand.tmp 61) 3, type := 0, pos := "l11_net.go:10", after := #[{ on := 12, ground := Go.Ground.data }, { on := 6, ground := Go.Ground.guard }], guard := some (6, false) }) (v := undef) rfl (by kernel_rfl) (by kernel_rfl) (by kernel_rfl) (fun _ _ _ h => h) (Or.inr ⟨by rfl, rfl⟩) hHeld ?_
      simp only [Act.put, List.setIfInBounds_toArray, List.set_cons_zero, List.set_cons_succ]
      refine wpAnyH_take (i := 14) (oi := { dst := some 63, op := Go.Op.load 2 (Go.Operand.tmp 62), type := 2, pos := "l11_net.go:10", after := #[{ on := 13, ground := Go.Ground.data }, { on := 6, ground := Go.Ground.guard }], guard := some (6, false) }) (v := undef) rfl (by kernel_rfl) (by kernel_rfl) (by kernel_rfl) (fun _ _ _ h => h) (Or.inr ⟨by rfl, rfl⟩) hHeld ?_
      simp only [Act.put, List.setIfInBounds_toArray, List.set_cons_zero, List.set_cons_succ]
      refine wpAnyH_take (i := 15) (oi := { dst := some 64, op := Go.Op.binOp Go.BinOp.eql 2 (Go.Operand.tmp 59) (Go.Operand.tmp 63) 2, type := 4, pos := "l11_net.go:10", after := #[{ on := 10, ground := Go.Ground.data }, { on := 14, ground := Go.Ground.data }, { on := 6, ground := Go.Ground.guard }], guard := some (6, false) }) (v := undef) rfl (by kernel_rfl) (by kernel_rfl) (by kernel_rfl) (fun _ _ _ h => h) (Or.inr ⟨by rfl, rfl⟩) hHeld ?_
      simp only [Act.put, List.setIfInBounds_toArray, List.set_cons_zero, List.set_cons_succ]
      refine wpAnyH_take (i := 16) (oi := { dst := some 65, op := Go.Op.pick (Go.Operand.tmp 55) (Go.Operand.const (Go.Value.bool true)) (Go.Operand.tmp 64), type := 4, pos := "l11_net.go:10", after := #[{ on := 6, ground := Go.Ground.data }, { on := 15, ground := Go.Ground.data }], guard := none }) (v := ?va16_16) rfl (by kernel_rfl) (by kernel_rfl) (by kernel_rfl) (fun _ _ _ h => h) (Or.inl ⟨by rfl, ?ha16_16⟩) hHeld ?ra16_16
      case ha16_16 =>
        intro wS hSw
        (try dsimp only at hSw)
        go_simp
        try with_reducible rfl
      case ra16_16 =>
      simp only [Act.put, List.setIfInBounds_toArray, List.set_cons_zero, List.set_cons_succ]
      refine wpAnyH_take (i := 17) (oi := { dst := some 66, op := Go.Op.move (Go.Operand.tmp 65), type := 4, pos := "l11_net.go:10", after := #[{ on := 16, ground := Go.Ground.data }, { on := 6, ground := Go.Ground.chain }], guard := none }) (v := ?va17_17) rfl (by kernel_rfl) (by kernel_rfl) (by kernel_rfl) (fun _ _ _ h => h) (Or.inl ⟨by rfl, ?ha17_17⟩) hHeld ?ra17_17
      case ha17_17 =>
        intro wS hSw
        (try dsimp only at hSw)
        go_simp
        try with_reducible rfl
      case ra17_17 =>
      simp only [Act.put, List.setIfInBounds_toArray, List.set_cons_zero, List.set_cons_succ]
      refine wpAnyH_take (i := 18) (oi := { dst := some 67, op := Go.Op.move (Go.Operand.tmp 3), type := 4, pos := "l11_net.go:10", after := #[{ on := 17, ground := Go.Ground.guard }], guard := some (17, false) }) (v := undef) rfl (by kernel_rfl) (by kernel_rfl) (by kernel_rfl) (fun _ _ _ h => h) (Or.inr ⟨by rfl, rfl⟩) hHeld ?_
      simp only [Act.put, List.setIfInBounds_toArray, List.set_cons_zero, List.set_cons_succ]
      refine wpAnyH_take (i := 19) (oi := { dst := some 68, op := Go.Op.move (Go.Operand.tmp 67), type := 4, pos := "l11_net.go:10", after := #[{ on := 18, ground := Go.Ground.data }, { on := 17, ground := Go.Ground.chain }, { on := 17, ground := Go.Ground.guard }], guard := some (17, false) }) (v := undef) rfl (by kernel_rfl) (by kernel_rfl) (by kernel_rfl) (fun _ _ _ h => h) (Or.inr ⟨by rfl, rfl⟩) hHeld ?_
      simp only [Act.put, List.setIfInBounds_toArray, List.set_cons_zero, List.set_cons_succ]
      refine wpAnyH_take (i := 20) (oi := { dst := some 69, op := Go.Op.move (Go.Operand.tmp 4), type := 4, pos := "l11_net.go:10", after := #[{ on := 19, ground := Go.Ground.guard }], guard := some (19, true) }) (v := undef) rfl (by kernel_rfl) (by kernel_rfl) (by kernel_rfl) (fun _ _ _ h => h) (Or.inr ⟨by rfl, rfl⟩) hHeld ?_
      simp only [Act.put, List.setIfInBounds_toArray, List.set_cons_zero, List.set_cons_succ]
      refine wpAnyH_take (i := 21) (oi := { dst := some 70, op := Go.Op.unOp Go.UnOp.not 4 (Go.Operand.tmp 69), type := 4, pos := "l11_net.go:10", after := #[{ on := 20, ground := Go.Ground.data }, { on := 19, ground := Go.Ground.guard }], guard := some (19, true) }) (v := undef) rfl (by kernel_rfl) (by kernel_rfl) (by kernel_rfl) (fun _ _ _ h => h) (Or.inr ⟨by rfl, rfl⟩) hHeld ?_
      simp only [Act.put, List.setIfInBounds_toArray, List.set_cons_zero, List.set_cons_succ]
      refine wpAnyH_take (i := 22) (oi := { dst := some 71, op := Go.Op.pick (Go.Operand.tmp 68) (Go.Operand.tmp 70) (Go.Operand.const (Go.Value.bool false)), type := 4, pos := "l11_net.go:10", after := #[{ on := 19, ground := Go.Ground.data }, { on := 21, ground := Go.Ground.data }, { on := 17, ground := Go.Ground.guard }], guard := some (17, false) }) (v := undef) rfl (by kernel_rfl) (by kernel_rfl) (by kernel_rfl) (fun _ _ _ h => h) (Or.inr ⟨by rfl, rfl⟩) hHeld ?_
      simp only [Act.put, List.setIfInBounds_toArray, List.set_cons_zero, List.set_cons_succ]
      refine wpAnyH_take (i := 23) (oi := { dst := some 72, op := Go.Op.pick (Go.Operand.tmp 66) (Go.Operand.const (Go.Value.bool true)) (Go.Operand.tmp 71), type := 4, pos := "l11_net.go:10", after := #[{ on := 17, ground := Go.Ground.data }, { on := 22, ground := Go.Ground.data }], guard := none }) (v := ?va23_23) rfl (by kernel_rfl) (by kernel_rfl) (by kernel_rfl) (fun _ _ _ h => h) (Or.inl ⟨by rfl, ?ha23_23⟩) hHeld ?ra23_23
      case ha23_23 =>
        intro wS hSw
        (try dsimp only at hSw)
        go_simp
        try with_reducible rfl
      case ra23_23 =>
      simp only [Act.put, List.setIfInBounds_toArray, List.set_cons_zero, List.set_cons_succ]
      refine wpAnyH_done (by kernel_rfl) ?_ _
      refine NoPanic.normal ?_
      have HB9 := hide hHeld
      clear hHeld
      go_wp2_with fail
      go_ret
      exact ⟨by rw [unhide HF]; rfl, unhide HB9⟩
    · cases e1 : (x.src == x.dst)
      · cases e2 : (x.kind == 2)
        · have HRS := hide (mf_rest1 d1 e1 e2)
          go_upto_region 3 with fail
          refine wp_region_noPanic ?_
          refine wp_region_held_drew (S := fun w' => Below wc.heap.size wc w') (by kernel_rfl) (Below.refl _ _).drew (fun hHeld => ?_)
          generalize wc.drew = wD at hHeld ⊢
          refine wpAnyH_take (i := 0) (oi := { dst := some 49, op := Go.Op.move (Go.Operand.tmp 0), type := 54, pos := "l11_net.go:10", after := #[], guard := none }) (v := ?vc0_1) rfl (by kernel_rfl) (by kernel_rfl) (by kernel_rfl) (fun _ _ _ h => h) (Or.inl ⟨by rfl, ?hc0_1⟩) hHeld ?rc0_1
          case hc0_1 =>
            intro wS hSw
            (try dsimp only at hSw)
            go_simp
            try with_reducible rfl
          case rc0_1 =>
          simp only [Act.put, List.setIfInBounds_toArray, List.set_cons_zero, List.set_cons_succ]
          refine wpAnyH_take (i := 1) (oi := { dst := some 50, op := Go.Op.nilCheck (Go.Operand.tmp 49), type := 0, pos := "l11_net.go:10", after := #[{ on := 0, ground := Go.Ground.data }], guard := none }) (v := ?vc1_2) rfl (by kernel_rfl) (by kernel_rfl) (by kernel_rfl) (fun _ _ _ h => h) (Or.inl ⟨by rfl, ?hc1_2⟩) hHeld ?rc1_2
          case hc1_2 =>
            intro wS hSw
            (try dsimp only at hSw)
            go_simp
            try with_reducible rfl
          case rc1_2 =>
          simp only [Act.put, List.setIfInBounds_toArray, List.set_cons_zero, List.set_cons_succ]
          refine wpAnyH_take (i := 2) (oi := { dst := some 51, op := Go.Op.fieldAddr 29 (Go.Operand.tmp 50) 0, type := 0, pos := "l11_net.go:10", after := #[{ on := 1, ground := Go.Ground.data }], guard := none }) (v := ?vc2_3) rfl (by kernel_rfl) (by kernel_rfl) (by kernel_rfl) (fun _ _ _ h => h) (Or.inl ⟨by rfl, ?hc2_3⟩) hHeld ?rc2_3
          case hc2_3 =>
            intro wS hSw
            (try dsimp only at hSw)
            go_simp
            try with_reducible rfl
          case rc2_3 =>
          simp only [Act.put, List.setIfInBounds_toArray, List.set_cons_zero, List.set_cons_succ]
          refine wpAnyH_take (i := 3) (oi := { dst := some 52, op := Go.Op.load 2 (Go.Operand.tmp 51), type := 2, pos := "l11_net.go:10", after := #[{ on := 2, ground := Go.Ground.data }], guard := none }) (v := ?vc3_4) rfl (by kernel_rfl) (by kernel_rfl) (by kernel_rfl) (fun _ _ _ h => h) (Or.inl ⟨by rfl, ?hc3_4⟩) hHeld ?rc3_4
          case hc3_4 =>
            intro wS hSw
            have q0 := (hSw.cell (p := ⟨b, o, none⟩) hb).trans c0
            clear hSw
            (try dsimp only at hSw)
            go_simp
            try with_reducible rfl
          case rc3_4 =>
          simp only [Act.put, List.setIfInBounds_toArray, List.set_cons_zero, List.set_cons_succ]
          refine wpAnyH_ready (rs := [4]) (by kernel_rfl) (by simp) ?_
          refine AllReadyH.cons (o := { dst := some 53, op := Go.Op.call { callee := Go.Callee.value (Go.Operand.func 52), args := #[Go.Operand.tmp 52, Go.Operand.const (Go.Value.int Go.IntKind.i64 1), Go.Operand.const (Go.Value.int Go.IntKind.i64 2)], argTypes := #[2, 2, 2] }, type := 4, pos := "l11_net.go:10", after := #[{ on := 3, ground := Go.Ground.data }], guard := none }) rfl (fun K hK => ?_) AllReadyH.nil
          go_simp
          go_at_call 52
          refine (inC x.kind 1 2 _).mono ?_
          rintro e w1 ⟨rfl, h1⟩
          subst w1
          rw [d1]
          try go_wp2_with fail
          refine hK.out _ _ hHeld (fun hHeld => ?_)
          clear hK K
          try simp only [Act.put, List.setIfInBounds_toArray, List.set_cons_zero, List.set_cons_succ]
          refine wpAnyH_take (i := 5) (oi := { dst := some 54, op := Go.Op.unOp Go.UnOp.not 4 (Go.Operand.tmp 53), type := 4, pos := "l11_net.go:10", after := #[{ on := 4, ground := Go.Ground.data }], guard := none }) (v := ?vc5_5) rfl (by kernel_rfl) (by kernel_rfl) (by kernel_rfl) (fun _ _ _ h => h) (Or.inl ⟨by rfl, ?hc5_5⟩) hHeld ?rc5_5
          case hc5_5 =>
            intro wS hSw
            (try dsimp only at hSw)
            go_simp
            try with_reducible rfl
          case rc5_5 =>
          simp only [Act.put, List.setIfInBounds_toArray, List.set_cons_zero, List.set_cons_succ]
          refine wpAnyH_take (i := 6) (oi := { dst := some 55, op := Go.Op.move (Go.Operand.tmp 54), type := 4, pos := "l11_net.go:10", after := #[{ on := 5, ground := Go.Ground.data }, { on := 4, ground := Go.Ground.chain }], guard := none }) (v := ?vc6_6) rfl (by kernel_rfl) (by kernel_rfl) (by kernel_rfl) (fun _ _ _ h => h) (Or.inl ⟨by rfl, ?hc6_6⟩) hHeld ?rc6_6
          case hc6_6 =>
            intro wS hSw
            (try dsimp only at hSw)
            go_simp
            try with_reducible rfl
          case rc6_6 =>
          simp only [Act.put, List.setIfInBounds_toArray, List.set_cons_zero, List.set_cons_succ]
          refine wpAnyH_take (i := 7) (oi := { dst := some 56, op := Go.Op.move (Go.Operand.tmp 0), type := 54, pos := "l11_net.go:10", after := #[{ on := 6, ground := Go.Ground.guard }], guard := some (6, false) }) (v := ?vc7_7) rfl (by kernel_rfl) (by kernel_rfl) (by kernel_rfl) (fun _ _ _ h => h) (Or.inl ⟨by rfl, ?hc7_7⟩) hHeld ?rc7_7
          case hc7_7 =>
            intro wS hSw
            (try dsimp only at hSw)
            go_simp
            try with_reducible rfl
          case rc7_7 =>
          simp only [Act.put, List.setIfInBounds_toArray, List.set_cons_zero, List.set_cons_succ]
          refine wpAnyH_take (i := 8) (oi := { dst := some 57, op := Go.Op.nilCheck (Go.Operand.tmp 56), type := 0, pos := "l11_net.go:10", after := #[{ on := 7, ground := Go.Ground.data }, { on := 6, ground := Go.Ground.guard }], guard := some (6, false) }) (v := ?vc8_8) rfl (by kernel_rfl) (by kernel_rfl) (by kernel_rfl) (fun _ _ _ h => h) (Or.inl ⟨by rfl, ?hc8_8⟩) hHeld ?rc8_8
          case hc8_8 =>
            intro wS hSw
            (try dsimp only at hSw)
            go_simp
            try with_reducible rfl
          case rc8_8 =>
          simp only [Act.put, List.setIfInBounds_toArray, List.set_cons_zero, List.set_cons_succ]
          refine wpAnyH_take (i := 9) (oi := { dst := some 58, op := Go.Op.fieldAddr 29 (Go.Operand.tmp 57) 2, type := 0, pos := "l11_net.go:10", after := #[{ on := 8, ground := Go.Ground.data }, { on := 6, ground := Go.Ground.guard }], guard := some (6, false) }) (v := ?vc9_9) rfl (by kernel_rfl) (by kernel_rfl) (by kernel_rfl) (fun _ _ _ h => h) (Or.inl ⟨by rfl, ?hc9_9⟩) hHeld ?rc9_9
          case hc9_9 =>
            intro wS hSw
            (try dsimp only at hSw)
            go_simp
            try with_reducible rfl
          case rc9_9 =>
          simp only [Act.put, List.setIfInBounds_toArray, List.set_cons_zero, List.set_cons_succ]
          refine wpAnyH_take (i := 10) (oi := { dst := some 59, op := Go.Op.load 2 (Go.Operand.tmp 58), type := 2, pos := "l11_net.go:10", after := #[{ on := 9, ground := Go.Ground.data }, { on := 6, ground := Go.Ground.guard }], guard := some (6, false) }) (v := ?vc10_10) rfl (by kernel_rfl) (by kernel_rfl) (by kernel_rfl) (fun _ _ _ h => h) (Or.inl ⟨by rfl, ?hc10_10⟩) hHeld ?rc10_10
          case hc10_10 =>
            intro wS hSw
            have q2 := (hSw.cell (p := ⟨b, o + 2, none⟩) hb).trans c2
            clear hSw
            (try dsimp only at hSw)
            go_simp
            try with_reducible rfl
          case rc10_10 =>
          simp only [Act.put, List.setIfInBounds_toArray, List.set_cons_zero, List.set_cons_succ]
          refine wpAnyH_take (i := 11) (oi := { dst := some 60, op := Go.Op.move (Go.Operand.tmp 0), type := 54, pos := "l11_net.go:10", after := #[{ on := 6, ground := Go.Ground.guard }], guard := some (6, false) }) (v := ?vc11_11) rfl (by kernel_rfl) (by kernel_rfl) (by kernel_rfl) (fun _ _ _ h => h) (Or.inl ⟨by rfl, ?hc11_11⟩) hHeld ?rc11_11
          case hc11_11 =>
            intro wS hSw
            (try dsimp only at hSw)
            go_simp
            try with_reducible rfl
          case rc11_11 =>
          simp only [Act.put, List.setIfInBounds_toArray, List.set_cons_zero, List.set_cons_succ]
          refine wpAnyH_take (i := 12) (oi := { dst := some 61, op := Go.Op.nilCheck (Go.Operand.tmp 60), type := 0, pos := "l11_net.go:10", after := #[{ on := 11, ground := Go.Ground.data }, { on := 6, ground := Go.Ground.guard }], guard := some (6, false) }) (v := ?vc12_12) rfl (by kernel_rfl) (by kernel_rfl) (by kernel_rfl) (fun _ _ _ h => h) (Or.inl ⟨by rfl, ?hc12_12⟩) hHeld ?rc12_12
          case hc12_12 =>
            intro wS hSw
            (try dsimp only at hSw)
            go_simp
            try with_reducible rfl
          case rc12_12 =>
          simp only [Act.put, List.setIfInBounds_toArray, List.set_cons_zero, List.set_cons_succ]
          refine wpAnyH_take (i := 13) (oi := { dst := some 62, op := Go.Op.fieldAddr 29 (Go.Operand.tmp 61) 3, type := 0, pos := "l11_net.go:10", after := #[{ on := 12, ground := Go.Ground.data }, { on := 6, ground := Go.Ground.guard }], guard := some (6, false) }) (v := ?vc13_13) rfl (by kernel_rfl) (by kernel_rfl) (by kernel_rfl) (fun _ _ _ h => h) (Or.inl ⟨by rfl, ?hc13_13⟩) hHeld ?rc13_13
          case hc13_13 =>
            intro wS hSw
            (try dsimp only at hSw)
            go_simp
            try with_reducible rfl
          case rc13_13 =>
          simp only [Act.put, List.setIfInBounds_toArray, List.set_cons_zero, List.set_cons_succ]
          refine wpAnyH_take (i := 14) (oi := { dst := some 63, op := Go.Op.load 2 (Go.Operand.tmp 62), type := 2, pos := "l11_net.go:10", after := #[{ on := 13, ground := Go.Ground.data }, { on := 6, ground := Go.Ground.guard }], guard := some (6, false) }) (v := ?vc14_14) rfl (by kernel_rfl) (by kernel_rfl) (by kernel_rfl) (fun _ _ _ h => h) (Or.inl ⟨by rfl, ?hc14_14⟩) hHeld ?rc14_14
          case hc14_14 =>
            intro wS hSw
            have q3 := (hSw.cell (p := ⟨b, o + 3, none⟩) hb).trans c3
            clear hSw
            (try dsimp only at hSw)
            go_simp
            try with_reducible rfl
          case rc14_14 =>
          simp only [Act.put, List.setIfInBounds_toArray, List.set_cons_zero, List.set_cons_succ]
          refine wpAnyH_take (i := 15) (oi := { dst := some 64, op := Go.Op.binOp Go.BinOp.eql 2 (Go.Operand.tmp 59) (Go.Operand.tmp 63) 2, type := 4, pos := "l11_net.go:10", after := #[{ on := 10, ground := Go.Ground.data }, { on := 14, ground := Go.Ground.data }, { on := 6, ground := Go.Ground.guard }], guard := some (6, false) }) (v := ?vc15_15) rfl (by kernel_rfl) (by kernel_rfl) (by kernel_rfl) (fun _ _ _ h => h) (Or.inl ⟨by rfl, ?hc15_15⟩) hHeld ?rc15_15
          case hc15_15 =>
            intro wS hSw
            (try dsimp only at hSw)
            go_simp
            try with_reducible rfl
          case rc15_15 =>
          simp only [Act.put, List.setIfInBounds_toArray, List.set_cons_zero, List.set_cons_succ]
          refine wpAnyH_take (i := 16) (oi := { dst := some 65, op := Go.Op.pick (Go.Operand.tmp 55) (Go.Operand.const (Go.Value.bool true)) (Go.Operand.tmp 64), type := 4, pos := "l11_net.go:10", after := #[{ on := 6, ground := Go.Ground.data }, { on := 15, ground := Go.Ground.data }], guard := none }) (v := ?vc16_16) rfl (by kernel_rfl) (by kernel_rfl) (by kernel_rfl) (fun _ _ _ h => h) (Or.inl ⟨by rfl, ?hc16_16⟩) hHeld ?rc16_16
          case hc16_16 =>
            intro wS hSw
            (try dsimp only at hSw)
            go_simp
            try with_reducible rfl
          case rc16_16 =>
          simp only [Act.put, List.setIfInBounds_toArray, List.set_cons_zero, List.set_cons_succ]
          refine wpAnyH_take (i := 17) (oi := { dst := some 66, op := Go.Op.move (Go.Operand.tmp 65), type := 4, pos := "l11_net.go:10", after := #[{ on := 16, ground := Go.Ground.data }, { on := 6, ground := Go.Ground.chain }], guard := none }) (v := ?vc17_17) rfl (by kernel_rfl) (by kernel_rfl) (by kernel_rfl) (fun _ _ _ h => h) (Or.inl ⟨by rfl, ?hc17_17⟩) hHeld ?rc17_17
          case hc17_17 =>
            intro wS hSw
            (try dsimp only at hSw)
            go_simp
            try with_reducible rfl
          case rc17_17 =>
          simp only [Act.put, List.setIfInBounds_toArray, List.set_cons_zero, List.set_cons_succ]
          refine wpAnyH_take (i := 18) (oi := { dst := some 67, op := Go.Op.move (Go.Operand.tmp 3), type := 4, pos := "l11_net.go:10", after := #[{ on := 17, ground := Go.Ground.guard }], guard := some (17, false) }) (v := ?vc18_18) rfl (by kernel_rfl) (by kernel_rfl) (by kernel_rfl) (fun _ _ _ h => h) (Or.inl ⟨by rfl, ?hc18_18⟩) hHeld ?rc18_18
          case hc18_18 =>
            intro wS hSw
            (try dsimp only at hSw)
            go_simp
            try with_reducible rfl
          case rc18_18 =>
          simp only [Act.put, List.setIfInBounds_toArray, List.set_cons_zero, List.set_cons_succ]
          refine wpAnyH_take (i := 19) (oi := { dst := some 68, op := Go.Op.move (Go.Operand.tmp 67), type := 4, pos := "l11_net.go:10", after := #[{ on := 18, ground := Go.Ground.data }, { on := 17, ground := Go.Ground.chain }, { on := 17, ground := Go.Ground.guard }], guard := some (17, false) }) (v := ?vc19_19) rfl (by kernel_rfl) (by kernel_rfl) (by kernel_rfl) (fun _ _ _ h => h) (Or.inl ⟨by rfl, ?hc19_19⟩) hHeld ?rc19_19
          case hc19_19 =>
            intro wS hSw
            (try dsimp only at hSw)
            go_simp
            try with_reducible rfl
          case rc19_19 =>
          simp only [Act.put, List.setIfInBounds_toArray, List.set_cons_zero, List.set_cons_succ]
          refine wpAnyH_take (i := 20) (oi := { dst := some 69, op := Go.Op.move (Go.Operand.tmp 4), type := 4, pos := "l11_net.go:10", after := #[{ on := 19, ground := Go.Ground.guard }], guard := some (19, true) }) (v := undef) rfl (by kernel_rfl) (by kernel_rfl) (by kernel_rfl) (fun _ _ _ h => h) (Or.inr ⟨by rfl, rfl⟩) hHeld ?_
          simp only [Act.put, List.setIfInBounds_toArray, List.set_cons_zero, List.set_cons_succ]
          refine wpAnyH_take (i := 21) (oi := { dst := some 70, op := Go.Op.unOp Go.UnOp.not 4 (Go.Operand.tmp 69), type := 4, pos := "l11_net.go:10", after := #[{ on := 20, ground := Go.Ground.data }, { on := 19, ground := Go.Ground.guard }], guard := some (19, true) }) (v := undef) rfl (by kernel_rfl) (by kernel_rfl) (by kernel_rfl) (fun _ _ _ h => h) (Or.inr ⟨by rfl, rfl⟩) hHeld ?_
          simp only [Act.put, List.setIfInBounds_toArray, List.set_cons_zero, List.set_cons_succ]
          refine wpAnyH_take (i := 22) (oi := { dst := some 71, op := Go.Op.pick (Go.Operand.tmp 68) (Go.Operand.tmp 70) (Go.Operand.const (Go.Value.bool false)), type := 4, pos := "l11_net.go:10", after := #[{ on := 19, ground := Go.Ground.data }, { on := 21, ground := Go.Ground.data }, { on := 17, ground := Go.Ground.guard }], guard := some (17, false) }) (v := ?vc22_22) rfl (by kernel_rfl) (by kernel_rfl) (by kernel_rfl) (fun _ _ _ h => h) (Or.inl ⟨by rfl, ?hc22_22⟩) hHeld ?rc22_22
          case hc22_22 =>
            intro wS hSw
            (try dsimp only at hSw)
            go_simp
            try with_reducible rfl
          case rc22_22 =>
          simp only [Act.put, List.setIfInBounds_toArray, List.set_cons_zero, List.set_cons_succ]
          refine wpAnyH_take (i := 23) (oi := { dst := some 72, op := Go.Op.pick (Go.Operand.tmp 66) (Go.Operand.const (Go.Value.bool true)) (Go.Operand.tmp 71), type := 4, pos := "l11_net.go:10", after := #[{ on := 17, ground := Go.Ground.data }, { on := 22, ground := Go.Ground.data }], guard := none }) (v := ?vc23_23) rfl (by kernel_rfl) (by kernel_rfl) (by kernel_rfl) (fun _ _ _ h => h) (Or.inl ⟨by rfl, ?hc23_23⟩) hHeld ?rc23_23
          case hc23_23 =>
            intro wS hSw
            (try dsimp only at hSw)
            go_simp
            try with_reducible rfl
          case rc23_23 =>
          simp only [Act.put, List.setIfInBounds_toArray, List.set_cons_zero, List.set_cons_succ]
          refine wpAnyH_done (by kernel_rfl) ?_ _
          refine NoPanic.normal ?_
          have HB9 := hHeld
          clear hHeld
          have c0 : wD.cell? ⟨b, o, none⟩ = some (.int .i64 x.kind) := (HB9.cell (p := ⟨b, o, none⟩) hb).trans c0
          have c1 : wD.cell? ⟨b, o + 1, none⟩ = some (.int .i64 x.epoch) := (HB9.cell (p := ⟨b, o + 1, none⟩) hb).trans c1
          have c2 : wD.cell? ⟨b, o + 2, none⟩ = some (.int .i64 x.src) := (HB9.cell (p := ⟨b, o + 2, none⟩) hb).trans c2
          have c3 : wD.cell? ⟨b, o + 3, none⟩ = some (.int .i64 x.dst) := (HB9.cell (p := ⟨b, o + 3, none⟩) hb).trans c3
          have c4 : wD.cell? ⟨b, o + 4, none⟩ = some (.int .i64 x.index) := (HB9.cell (p := ⟨b, o + 4, none⟩) hb).trans c4
          have c5 : wD.cell? ⟨b, o + 5, none⟩ = some (.int .i64 x.write.kind) := (HB9.cell (p := ⟨b, o + 5, none⟩) hb).trans c5
          have c6 : wD.cell? ⟨b, o + 5 + 1, none⟩ = some (.int .i64 x.write.id) := (HB9.cell (p := ⟨b, o + 5 + 1, none⟩) hb).trans c6
          have c7 : wD.cell? ⟨b, o + 5 + 2, none⟩ = some (.slice a x.write.vec.length d) := (HB9.cell (p := ⟨b, o + 5 + 2, none⟩) hb).trans c7
          have c8 : wD.cell? ⟨b, o + 5 + 3, none⟩ = some (.int .i64 x.write.session) := (HB9.cell (p := ⟨b, o + 5 + 3, none⟩) hb).trans c8
          have c9 : wD.cell? ⟨b, o + 5 + 4, none⟩ = some (.int .i64 x.write.seq) := (HB9.cell (p := ⟨b, o + 5 + 4, none⟩) hb).trans c9
          have HWD := hide ((unhide H).later HB9)
          replace hb : b < wD.heap.size := Nat.lt_of_lt_of_le hb HB9.size
          replace HB9 := hide HB9
          go_wp2_with fail
          refine (inC x.epoch 1 999 wD).mono ?_
          rintro e w1 ⟨rfl, h1⟩
          subst w1
          cases d10 : (decide (1 ≤ x.epoch) && decide (x.epoch ≤ 999))
          · have HF := hide ((unhide HRS).trans (mr_epoch d10))
            clear d10
            go_wp2_with fail
            go_ret
            exact ⟨by rw [unhide HF]; rfl, unhide HB9⟩
          · skip
            go_wp2_with fail
            refine (node10C x.src wD).mono ?_
            rintro e w1 ⟨rfl, h1⟩
            subst w1
            cases d12 : (decide (1 ≤ x.src) && decide (x.src ≤ 5))
            · have HF := hide ((unhide HRS).trans (mr_src d12))
              clear d12
              go_wp2_with fail
              go_ret
              exact ⟨by rw [unhide HF]; rfl, unhide HB9⟩
            · skip
              go_wp2_with fail
              refine (node10C x.dst wD).mono ?_
              rintro e w1 ⟨rfl, h1⟩
              subst w1
              cases d14 : (decide (1 ≤ x.dst) && decide (x.dst ≤ 5))
              · have HF := hide ((unhide HRS).trans (mr_dst d14))
                clear d14
                go_wp2_with fail
                go_ret
                exact ⟨by rw [unhide HF]; rfl, unhide HB9⟩
              · skip
                go_wp2_with fail
                refine (inC x.index 0 40 wD).mono ?_
                rintro e w1 ⟨rfl, h1⟩
                subst w1
                cases d16 : (decide (0 ≤ x.index) && decide (x.index ≤ 40))
                · have HF := hide ((unhide HRS).trans (mr_index d16))
                  clear d16
                  go_wp2_with fail
                  go_ret
                  exact ⟨by rw [unhide HF]; rfl, unhide HB9⟩
                · skip
                  cases e5 : (x.index == 0)
                  · have HF : Hid (msgFault x = wF x.write) := (unhide HRS).trans ((mr_ok d10 d12 d14 d16 (Or.inr e5)).trans (if_neg (by simpa using e2)))
                    clear d10 d12 d14 d16
                    go_wp2_with fail
                    refine (l3FaultO b (o + 5) x.write.kind x.write.id _ x.write.session x.write.seq x.write.vec wD ⟨c5, c6, c7, c8, c9⟩ (Lay.ints_reads (unhide HWD))).mono ?_
                    rintro e w1 ⟨rfl, h1⟩
                    subst w1
                    go_wp2_with fail
                    go_ret
                    exact ⟨by rw [unhide HF]; rfl, unhide HB9⟩
                  · have HF : Hid (msgFault x = 3) := (unhide HRS).trans (mr_zero e2 e5)
                    clear d10 d12 d14 d16
                    go_wp2_with fail
                    go_ret
                    exact ⟨by rw [unhide HF]; rfl, unhide HB9⟩
        · cases e3 : decide (noW x.write)
          · have HF := hide (mf_ack e2 e3)
            go_upto_region 3 with fail
            refine wp_region_noPanic ?_
            refine wp_region_held_drew (S := fun w' => Below wc.heap.size wc w') (by kernel_rfl) (Below.refl _ _).drew (fun hHeld => ?_)
            generalize wc.drew = wD at hHeld ⊢
            refine wpAnyH_take (i := 0) (oi := { dst := some 49, op := Go.Op.move (Go.Operand.tmp 0), type := 54, pos := "l11_net.go:10", after := #[], guard := none }) (v := ?vd0_1) rfl (by kernel_rfl) (by kernel_rfl) (by kernel_rfl) (fun _ _ _ h => h) (Or.inl ⟨by rfl, ?hd0_1⟩) hHeld ?rd0_1
            case hd0_1 =>
              intro wS hSw
              (try dsimp only at hSw)
              go_simp
              try with_reducible rfl
            case rd0_1 =>
            simp only [Act.put, List.setIfInBounds_toArray, List.set_cons_zero, List.set_cons_succ]
            refine wpAnyH_take (i := 1) (oi := { dst := some 50, op := Go.Op.nilCheck (Go.Operand.tmp 49), type := 0, pos := "l11_net.go:10", after := #[{ on := 0, ground := Go.Ground.data }], guard := none }) (v := ?vd1_2) rfl (by kernel_rfl) (by kernel_rfl) (by kernel_rfl) (fun _ _ _ h => h) (Or.inl ⟨by rfl, ?hd1_2⟩) hHeld ?rd1_2
            case hd1_2 =>
              intro wS hSw
              (try dsimp only at hSw)
              go_simp
              try with_reducible rfl
            case rd1_2 =>
            simp only [Act.put, List.setIfInBounds_toArray, List.set_cons_zero, List.set_cons_succ]
            refine wpAnyH_take (i := 2) (oi := { dst := some 51, op := Go.Op.fieldAddr 29 (Go.Operand.tmp 50) 0, type := 0, pos := "l11_net.go:10", after := #[{ on := 1, ground := Go.Ground.data }], guard := none }) (v := ?vd2_3) rfl (by kernel_rfl) (by kernel_rfl) (by kernel_rfl) (fun _ _ _ h => h) (Or.inl ⟨by rfl, ?hd2_3⟩) hHeld ?rd2_3
            case hd2_3 =>
              intro wS hSw
              (try dsimp only at hSw)
              go_simp
              try with_reducible rfl
            case rd2_3 =>
            simp only [Act.put, List.setIfInBounds_toArray, List.set_cons_zero, List.set_cons_succ]
            refine wpAnyH_take (i := 3) (oi := { dst := some 52, op := Go.Op.load 2 (Go.Operand.tmp 51), type := 2, pos := "l11_net.go:10", after := #[{ on := 2, ground := Go.Ground.data }], guard := none }) (v := ?vd3_4) rfl (by kernel_rfl) (by kernel_rfl) (by kernel_rfl) (fun _ _ _ h => h) (Or.inl ⟨by rfl, ?hd3_4⟩) hHeld ?rd3_4
            case hd3_4 =>
              intro wS hSw
              have q0 := (hSw.cell (p := ⟨b, o, none⟩) hb).trans c0
              clear hSw
              (try dsimp only at hSw)
              go_simp
              try with_reducible rfl
            case rd3_4 =>
            simp only [Act.put, List.setIfInBounds_toArray, List.set_cons_zero, List.set_cons_succ]
            refine wpAnyH_ready (rs := [4]) (by kernel_rfl) (by simp) ?_
            refine AllReadyH.cons (o := { dst := some 53, op := Go.Op.call { callee := Go.Callee.value (Go.Operand.func 52), args := #[Go.Operand.tmp 52, Go.Operand.const (Go.Value.int Go.IntKind.i64 1), Go.Operand.const (Go.Value.int Go.IntKind.i64 2)], argTypes := #[2, 2, 2] }, type := 4, pos := "l11_net.go:10", after := #[{ on := 3, ground := Go.Ground.data }], guard := none }) rfl (fun K hK => ?_) AllReadyH.nil
            go_simp
            go_at_call 52
            refine (inC x.kind 1 2 _).mono ?_
            rintro e w1 ⟨rfl, h1⟩
            subst w1
            rw [d1]
            try go_wp2_with fail
            refine hK.out _ _ hHeld (fun hHeld => ?_)
            clear hK K
            try simp only [Act.put, List.setIfInBounds_toArray, List.set_cons_zero, List.set_cons_succ]
            refine wpAnyH_take (i := 5) (oi := { dst := some 54, op := Go.Op.unOp Go.UnOp.not 4 (Go.Operand.tmp 53), type := 4, pos := "l11_net.go:10", after := #[{ on := 4, ground := Go.Ground.data }], guard := none }) (v := ?vd5_5) rfl (by kernel_rfl) (by kernel_rfl) (by kernel_rfl) (fun _ _ _ h => h) (Or.inl ⟨by rfl, ?hd5_5⟩) hHeld ?rd5_5
            case hd5_5 =>
              intro wS hSw
              (try dsimp only at hSw)
              go_simp
              try with_reducible rfl
            case rd5_5 =>
            simp only [Act.put, List.setIfInBounds_toArray, List.set_cons_zero, List.set_cons_succ]
            refine wpAnyH_take (i := 6) (oi := { dst := some 55, op := Go.Op.move (Go.Operand.tmp 54), type := 4, pos := "l11_net.go:10", after := #[{ on := 5, ground := Go.Ground.data }, { on := 4, ground := Go.Ground.chain }], guard := none }) (v := ?vd6_6) rfl (by kernel_rfl) (by kernel_rfl) (by kernel_rfl) (fun _ _ _ h => h) (Or.inl ⟨by rfl, ?hd6_6⟩) hHeld ?rd6_6
            case hd6_6 =>
              intro wS hSw
              (try dsimp only at hSw)
              go_simp
              try with_reducible rfl
            case rd6_6 =>
            simp only [Act.put, List.setIfInBounds_toArray, List.set_cons_zero, List.set_cons_succ]
            refine wpAnyH_take (i := 7) (oi := { dst := some 56, op := Go.Op.move (Go.Operand.tmp 0), type := 54, pos := "l11_net.go:10", after := #[{ on := 6, ground := Go.Ground.guard }], guard := some (6, false) }) (v := ?vd7_7) rfl (by kernel_rfl) (by kernel_rfl) (by kernel_rfl) (fun _ _ _ h => h) (Or.inl ⟨by rfl, ?hd7_7⟩) hHeld ?rd7_7
            case hd7_7 =>
              intro wS hSw
              (try dsimp only at hSw)
              go_simp
              try with_reducible rfl
            case rd7_7 =>
            simp only [Act.put, List.setIfInBounds_toArray, List.set_cons_zero, List.set_cons_succ]
            refine wpAnyH_take (i := 8) (oi := { dst := some 57, op := Go.Op.nilCheck (Go.Operand.tmp 56), type := 0, pos := "l11_net.go:10", after := #[{ on := 7, ground := Go.Ground.data }, { on := 6, ground := Go.Ground.guard }], guard := some (6, false) }) (v := ?vd8_8) rfl (by kernel_rfl) (by kernel_rfl) (by kernel_rfl) (fun _ _ _ h => h) (Or.inl ⟨by rfl, ?hd8_8⟩) hHeld ?rd8_8
            case hd8_8 =>
              intro wS hSw
              (try dsimp only at hSw)
              go_simp
              try with_reducible rfl
            case rd8_8 =>
            simp only [Act.put, List.setIfInBounds_toArray, List.set_cons_zero, List.set_cons_succ]
            refine wpAnyH_take (i := 9) (oi := { dst := some 58, op := Go.Op.fieldAddr 29 (Go.Operand.tmp 57) 2, type := 0, pos := "l11_net.go:10", after := #[{ on := 8, ground := Go.Ground.data }, { on := 6, ground := Go.Ground.guard }], guard := some (6, false) }) (v := ?vd9_9) rfl (by kernel_rfl) (by kernel_rfl) (by kernel_rfl) (fun _ _ _ h => h) (Or.inl ⟨by rfl, ?hd9_9⟩) hHeld ?rd9_9
            case hd9_9 =>
              intro wS hSw
              (try dsimp only at hSw)
              go_simp
              try with_reducible rfl
            case rd9_9 =>
            simp only [Act.put, List.setIfInBounds_toArray, List.set_cons_zero, List.set_cons_succ]
            refine wpAnyH_take (i := 10) (oi := { dst := some 59, op := Go.Op.load 2 (Go.Operand.tmp 58), type := 2, pos := "l11_net.go:10", after := #[{ on := 9, ground := Go.Ground.data }, { on := 6, ground := Go.Ground.guard }], guard := some (6, false) }) (v := ?vd10_10) rfl (by kernel_rfl) (by kernel_rfl) (by kernel_rfl) (fun _ _ _ h => h) (Or.inl ⟨by rfl, ?hd10_10⟩) hHeld ?rd10_10
            case hd10_10 =>
              intro wS hSw
              have q2 := (hSw.cell (p := ⟨b, o + 2, none⟩) hb).trans c2
              clear hSw
              (try dsimp only at hSw)
              go_simp
              try with_reducible rfl
            case rd10_10 =>
            simp only [Act.put, List.setIfInBounds_toArray, List.set_cons_zero, List.set_cons_succ]
            refine wpAnyH_take (i := 11) (oi := { dst := some 60, op := Go.Op.move (Go.Operand.tmp 0), type := 54, pos := "l11_net.go:10", after := #[{ on := 6, ground := Go.Ground.guard }], guard := some (6, false) }) (v := ?vd11_11) rfl (by kernel_rfl) (by kernel_rfl) (by kernel_rfl) (fun _ _ _ h => h) (Or.inl ⟨by rfl, ?hd11_11⟩) hHeld ?rd11_11
            case hd11_11 =>
              intro wS hSw
              (try dsimp only at hSw)
              go_simp
              try with_reducible rfl
            case rd11_11 =>
            simp only [Act.put, List.setIfInBounds_toArray, List.set_cons_zero, List.set_cons_succ]
            refine wpAnyH_take (i := 12) (oi := { dst := some 61, op := Go.Op.nilCheck (Go.Operand.tmp 60), type := 0, pos := "l11_net.go:10", after := #[{ on := 11, ground := Go.Ground.data }, { on := 6, ground := Go.Ground.guard }], guard := some (6, false) }) (v := ?vd12_12) rfl (by kernel_rfl) (by kernel_rfl) (by kernel_rfl) (fun _ _ _ h => h) (Or.inl ⟨by rfl, ?hd12_12⟩) hHeld ?rd12_12
            case hd12_12 =>
              intro wS hSw
              (try dsimp only at hSw)
              go_simp
              try with_reducible rfl
            case rd12_12 =>
            simp only [Act.put, List.setIfInBounds_toArray, List.set_cons_zero, List.set_cons_succ]
            refine wpAnyH_take (i := 13) (oi := { dst := some 62, op := Go.Op.fieldAddr 29 (Go.Operand.tmp 61) 3, type := 0, pos := "l11_net.go:10", after := #[{ on := 12, ground := Go.Ground.data }, { on := 6, ground := Go.Ground.guard }], guard := some (6, false) }) (v := ?vd13_13) rfl (by kernel_rfl) (by kernel_rfl) (by kernel_rfl) (fun _ _ _ h => h) (Or.inl ⟨by rfl, ?hd13_13⟩) hHeld ?rd13_13
            case hd13_13 =>
              intro wS hSw
              (try dsimp only at hSw)
              go_simp
              try with_reducible rfl
            case rd13_13 =>
            simp only [Act.put, List.setIfInBounds_toArray, List.set_cons_zero, List.set_cons_succ]
            refine wpAnyH_take (i := 14) (oi := { dst := some 63, op := Go.Op.load 2 (Go.Operand.tmp 62), type := 2, pos := "l11_net.go:10", after := #[{ on := 13, ground := Go.Ground.data }, { on := 6, ground := Go.Ground.guard }], guard := some (6, false) }) (v := ?vd14_14) rfl (by kernel_rfl) (by kernel_rfl) (by kernel_rfl) (fun _ _ _ h => h) (Or.inl ⟨by rfl, ?hd14_14⟩) hHeld ?rd14_14
            case hd14_14 =>
              intro wS hSw
              have q3 := (hSw.cell (p := ⟨b, o + 3, none⟩) hb).trans c3
              clear hSw
              (try dsimp only at hSw)
              go_simp
              try with_reducible rfl
            case rd14_14 =>
            simp only [Act.put, List.setIfInBounds_toArray, List.set_cons_zero, List.set_cons_succ]
            refine wpAnyH_take (i := 15) (oi := { dst := some 64, op := Go.Op.binOp Go.BinOp.eql 2 (Go.Operand.tmp 59) (Go.Operand.tmp 63) 2, type := 4, pos := "l11_net.go:10", after := #[{ on := 10, ground := Go.Ground.data }, { on := 14, ground := Go.Ground.data }, { on := 6, ground := Go.Ground.guard }], guard := some (6, false) }) (v := ?vd15_15) rfl (by kernel_rfl) (by kernel_rfl) (by kernel_rfl) (fun _ _ _ h => h) (Or.inl ⟨by rfl, ?hd15_15⟩) hHeld ?rd15_15
            case hd15_15 =>
              intro wS hSw
              (try dsimp only at hSw)
              go_simp
              try with_reducible rfl
            case rd15_15 =>
            simp only [Act.put, List.setIfInBounds_toArray, List.set_cons_zero, List.set_cons_succ]
            refine wpAnyH_take (i := 16) (oi := { dst := some 65, op := Go.Op.pick (Go.Operand.tmp 55) (Go.Operand.const (Go.Value.bool true)) (Go.Operand.tmp 64), type := 4, pos := "l11_net.go:10", after := #[{ on := 6, ground := Go.Ground.data }, { on := 15, ground := Go.Ground.data }], guard := none }) (v := ?vd16_16) rfl (by kernel_rfl) (by kernel_rfl) (by kernel_rfl) (fun _ _ _ h => h) (Or.inl ⟨by rfl, ?hd16_16⟩) hHeld ?rd16_16
            case hd16_16 =>
              intro wS hSw
              (try dsimp only at hSw)
              go_simp
              try with_reducible rfl
            case rd16_16 =>
            simp only [Act.put, List.setIfInBounds_toArray, List.set_cons_zero, List.set_cons_succ]
            refine wpAnyH_take (i := 17) (oi := { dst := some 66, op := Go.Op.move (Go.Operand.tmp 65), type := 4, pos := "l11_net.go:10", after := #[{ on := 16, ground := Go.Ground.data }, { on := 6, ground := Go.Ground.chain }], guard := none }) (v := ?vd17_17) rfl (by kernel_rfl) (by kernel_rfl) (by kernel_rfl) (fun _ _ _ h => h) (Or.inl ⟨by rfl, ?hd17_17⟩) hHeld ?rd17_17
            case hd17_17 =>
              intro wS hSw
              (try dsimp only at hSw)
              go_simp
              try with_reducible rfl
            case rd17_17 =>
            simp only [Act.put, List.setIfInBounds_toArray, List.set_cons_zero, List.set_cons_succ]
            refine wpAnyH_take (i := 18) (oi := { dst := some 67, op := Go.Op.move (Go.Operand.tmp 3), type := 4, pos := "l11_net.go:10", after := #[{ on := 17, ground := Go.Ground.guard }], guard := some (17, false) }) (v := ?vd18_18) rfl (by kernel_rfl) (by kernel_rfl) (by kernel_rfl) (fun _ _ _ h => h) (Or.inl ⟨by rfl, ?hd18_18⟩) hHeld ?rd18_18
            case hd18_18 =>
              intro wS hSw
              (try dsimp only at hSw)
              go_simp
              try with_reducible rfl
            case rd18_18 =>
            simp only [Act.put, List.setIfInBounds_toArray, List.set_cons_zero, List.set_cons_succ]
            refine wpAnyH_take (i := 19) (oi := { dst := some 68, op := Go.Op.move (Go.Operand.tmp 67), type := 4, pos := "l11_net.go:10", after := #[{ on := 18, ground := Go.Ground.data }, { on := 17, ground := Go.Ground.chain }, { on := 17, ground := Go.Ground.guard }], guard := some (17, false) }) (v := ?vd19_19) rfl (by kernel_rfl) (by kernel_rfl) (by kernel_rfl) (fun _ _ _ h => h) (Or.inl ⟨by rfl, ?hd19_19⟩) hHeld ?rd19_19
            case hd19_19 =>
              intro wS hSw
              (try dsimp only at hSw)
              go_simp
              try with_reducible rfl
            case rd19_19 =>
            simp only [Act.put, List.setIfInBounds_toArray, List.set_cons_zero, List.set_cons_succ]
            refine wpAnyH_take (i := 20) (oi := { dst := some 69, op := Go.Op.move (Go.Operand.tmp 4), type := 4, pos := "l11_net.go:10", after := #[{ on := 19, ground := Go.Ground.guard }], guard := some (19, true) }) (v := ?vd20_20) rfl (by kernel_rfl) (by kernel_rfl) (by kernel_rfl) (fun _ _ _ h => h) (Or.inl ⟨by rfl, ?hd20_20⟩) hHeld ?rd20_20
            case hd20_20 =>
              intro wS hSw
              (try dsimp only at hSw)
              go_simp
              try with_reducible rfl
            case rd20_20 =>
            simp only [Act.put, List.setIfInBounds_toArray, List.set_cons_zero, List.set_cons_succ]
            refine wpAnyH_take (i := 21) (oi := { dst := some 70, op := Go.Op.unOp Go.UnOp.not 4 (Go.Operand.tmp 69), type := 4, pos := "l11_net.go:10", after := #[{ on := 20, ground := Go.Ground.data }, { on := 19, ground := Go.Ground.guard }], guard := some (19, true) }) (v := ?vd21_21) rfl (by kernel_rfl) (by kernel_rfl) (by kernel_rfl) (fun _ _ _ h => h) (Or.inl ⟨by rfl, ?hd21_21⟩) hHeld ?rd21_21
            case hd21_21 =>
              intro wS hSw
              (try dsimp only at hSw)
              go_simp
              try with_reducible rfl
            case rd21_21 =>
            simp only [Act.put, List.setIfInBounds_toArray, List.set_cons_zero, List.set_cons_succ]
            refine wpAnyH_take (i := 22) (oi := { dst := some 71, op := Go.Op.pick (Go.Operand.tmp 68) (Go.Operand.tmp 70) (Go.Operand.const (Go.Value.bool false)), type := 4, pos := "l11_net.go:10", after := #[{ on := 19, ground := Go.Ground.data }, { on := 21, ground := Go.Ground.data }, { on := 17, ground := Go.Ground.guard }], guard := some (17, false) }) (v := ?vd22_22) rfl (by kernel_rfl) (by kernel_rfl) (by kernel_rfl) (fun _ _ _ h => h) (Or.inl ⟨by rfl, ?hd22_22⟩) hHeld ?rd22_22
            case hd22_22 =>
              intro wS hSw
              (try dsimp only at hSw)
              go_simp
              try with_reducible rfl
            case rd22_22 =>
            simp only [Act.put, List.setIfInBounds_toArray, List.set_cons_zero, List.set_cons_succ]
            refine wpAnyH_take (i := 23) (oi := { dst := some 72, op := Go.Op.pick (Go.Operand.tmp 66) (Go.Operand.const (Go.Value.bool true)) (Go.Operand.tmp 71), type := 4, pos := "l11_net.go:10", after := #[{ on := 17, ground := Go.Ground.data }, { on := 22, ground := Go.Ground.data }], guard := none }) (v := ?vd23_23) rfl (by kernel_rfl) (by kernel_rfl) (by kernel_rfl) (fun _ _ _ h => h) (Or.inl ⟨by rfl, ?hd23_23⟩) hHeld ?rd23_23
            case hd23_23 =>
              intro wS hSw
              (try dsimp only at hSw)
              go_simp
              try with_reducible rfl
            case rd23_23 =>
            simp only [Act.put, List.setIfInBounds_toArray, List.set_cons_zero, List.set_cons_succ]
            refine wpAnyH_done (by kernel_rfl) ?_ _
            refine NoPanic.normal ?_
            have HB9 := hide hHeld
            clear hHeld
            go_wp2_with fail
            go_ret
            exact ⟨by rw [unhide HF]; rfl, unhide HB9⟩
          · have HRS := hide (mf_rest2 d1 e1 e3)
            go_upto_region 3 with fail
            refine wp_region_noPanic ?_
            refine wp_region_held_drew (S := fun w' => Below wc.heap.size wc w') (by kernel_rfl) (Below.refl _ _).drew (fun hHeld => ?_)
            generalize wc.drew = wD at hHeld ⊢
            refine wpAnyH_take (i := 0) (oi := { dst := some 49, op := Go.Op.move (Go.Operand.tmp 0), type := 54, pos := "l11_net.go:10", after := #[], guard := none }) (v := ?ve0_1) rfl (by kernel_rfl) (by kernel_rfl) (by kernel_rfl) (fun _ _ _ h => h) (Or.inl ⟨by rfl, ?he0_1⟩) hHeld ?re0_1
            case he0_1 =>
              intro wS hSw
              (try dsimp only at hSw)
              go_simp
              try with_reducible rfl
            case re0_1 =>
            simp only [Act.put, List.setIfInBounds_toArray, List.set_cons_zero, List.set_cons_succ]
            refine wpAnyH_take (i := 1) (oi := { dst := some 50, op := Go.Op.nilCheck (Go.Operand.tmp 49), type := 0, pos := "l11_net.go:10", after := #[{ on := 0, ground := Go.Ground.data }], guard := none }) (v := ?ve1_2) rfl (by kernel_rfl) (by kernel_rfl) (by kernel_rfl) (fun _ _ _ h => h) (Or.inl ⟨by rfl, ?he1_2⟩) hHeld ?re1_2
            case he1_2 =>
              intro wS hSw
              (try dsimp only at hSw)
              go_simp
              try with_reducible rfl
            case re1_2 =>
            simp only [Act.put, List.setIfInBounds_toArray, List.set_cons_zero, List.set_cons_succ]
            refine wpAnyH_take (i := 2) (oi := { dst := some 51, op := Go.Op.fieldAddr 29 (Go.Operand.tmp 50) 0, type := 0, pos := "l11_net.go:10", after := #[{ on := 1, ground := Go.Ground.data }], guard := none }) (v := ?ve2_3) rfl (by kernel_rfl) (by kernel_rfl) (by kernel_rfl) (fun _ _ _ h => h) (Or.inl ⟨by rfl, ?he2_3⟩) hHeld ?re2_3
            case he2_3 =>
              intro wS hSw
              (try dsimp only at hSw)
              go_simp
              try with_reducible rfl
            case re2_3 =>
            simp only [Act.put, List.setIfInBounds_toArray, List.set_cons_zero, List.set_cons_succ]
            refine wpAnyH_take (i := 3) (oi := { dst := some 52, op := Go.Op.load 2 (Go.Operand.tmp 51), type := 2, pos := "l11_net.go:10", after := #[{ on := 2, ground := Go.Ground.data }], guard := none }) (v := ?ve3_4) rfl (by kernel_rfl) (by kernel_rfl) (by kernel_rfl) (fun _ _ _ h => h) (Or.inl ⟨by rfl, ?he3_4⟩) hHeld ?re3_4
            case he3_4 =>
              intro wS hSw
              have q0 := (hSw.cell (p := ⟨b, o, none⟩) hb).trans c0
              clear hSw
              (try dsimp only at hSw)
              go_simp
              try with_reducible rfl
            case re3_4 =>
            simp only [Act.put, List.setIfInBounds_toArray, List.set_cons_zero, List.set_cons_succ]
            refine wpAnyH_ready (rs := [4]) (by kernel_rfl) (by simp) ?_
            refine AllReadyH.cons (o := { dst := some 53, op := Go.Op.call { callee := Go.Callee.value (Go.Operand.func 52), args := #[Go.Operand.tmp 52, Go.Operand.const (Go.Value.int Go.IntKind.i64 1), Go.Operand.const (Go.Value.int Go.IntKind.i64 2)], argTypes := #[2, 2, 2] }, type := 4, pos := "l11_net.go:10", after := #[{ on := 3, ground := Go.Ground.data }], guard := none }) rfl (fun K hK => ?_) AllReadyH.nil
            go_simp
            go_at_call 52
            refine (inC x.kind 1 2 _).mono ?_
            rintro e w1 ⟨rfl, h1⟩
            subst w1
            rw [d1]
            try go_wp2_with fail
            refine hK.out _ _ hHeld (fun hHeld => ?_)
            clear hK K
            try simp only [Act.put, List.setIfInBounds_toArray, List.set_cons_zero, List.set_cons_succ]
            refine wpAnyH_take (i := 5) (oi := { dst := some 54, op := Go.Op.unOp Go.UnOp.not 4 (Go.Operand.tmp 53), type := 4, pos := "l11_net.go:10", after := #[{ on := 4, ground := Go.Ground.data }], guard := none }) (v := ?ve5_5) rfl (by kernel_rfl) (by kernel_rfl) (by kernel_rfl) (fun _ _ _ h => h) (Or.inl ⟨by rfl, ?he5_5⟩) hHeld ?re5_5
            case he5_5 =>
              intro wS hSw
              (try dsimp only at hSw)
              go_simp
              try with_reducible rfl
            case re5_5 =>
            simp only [Act.put, List.setIfInBounds_toArray, List.set_cons_zero, List.set_cons_succ]
            refine wpAnyH_take (i := 6) (oi := { dst := some 55, op := Go.Op.move (Go.Operand.tmp 54), type := 4, pos := "l11_net.go:10", after := #[{ on := 5, ground := Go.Ground.data }, { on := 4, ground := Go.Ground.chain }], guard := none }) (v := ?ve6_6) rfl (by kernel_rfl) (by kernel_rfl) (by kernel_rfl) (fun _ _ _ h => h) (Or.inl ⟨by rfl, ?he6_6⟩) hHeld ?re6_6
            case he6_6 =>
              intro wS hSw
              (try dsimp only at hSw)
              go_simp
              try with_reducible rfl
            case re6_6 =>
            simp only [Act.put, List.setIfInBounds_toArray, List.set_cons_zero, List.set_cons_succ]
            refine wpAnyH_take (i := 7) (oi := { dst := some 56, op := Go.Op.move (Go.Operand.tmp 0), type := 54, pos := "l11_net.go:10", after := #[{ on := 6, ground := Go.Ground.guard }], guard := some (6, false) }) (v := ?ve7_7) rfl (by kernel_rfl) (by kernel_rfl) (by kernel_rfl) (fun _ _ _ h => h) (Or.inl ⟨by rfl, ?he7_7⟩) hHeld ?re7_7
            case he7_7 =>
              intro wS hSw
              (try dsimp only at hSw)
              go_simp
              try with_reducible rfl
            case re7_7 =>
            simp only [Act.put, List.setIfInBounds_toArray, List.set_cons_zero, List.set_cons_succ]
            refine wpAnyH_take (i := 8) (oi := { dst := some 57, op := Go.Op.nilCheck (Go.Operand.tmp 56), type := 0, pos := "l11_net.go:10", after := #[{ on := 7, ground := Go.Ground.data }, { on := 6, ground := Go.Ground.guard }], guard := some (6, false) }) (v := ?ve8_8) rfl (by kernel_rfl) (by kernel_rfl) (by kernel_rfl) (fun _ _ _ h => h) (Or.inl ⟨by rfl, ?he8_8⟩) hHeld ?re8_8
            case he8_8 =>
              intro wS hSw
              (try dsimp only at hSw)
              go_simp
              try with_reducible rfl
            case re8_8 =>
            simp only [Act.put, List.setIfInBounds_toArray, List.set_cons_zero, List.set_cons_succ]
            refine wpAnyH_take (i := 9) (oi := { dst := some 58, op := Go.Op.fieldAddr 29 (Go.Operand.tmp 57) 2, type := 0, pos := "l11_net.go:10", after := #[{ on := 8, ground := Go.Ground.data }, { on := 6, ground := Go.Ground.guard }], guard := some (6, false) }) (v := ?ve9_9) rfl (by kernel_rfl) (by kernel_rfl) (by kernel_rfl) (fun _ _ _ h => h) (Or.inl ⟨by rfl, ?he9_9⟩) hHeld ?re9_9
            case he9_9 =>
              intro wS hSw
              (try dsimp only at hSw)
              go_simp
              try with_reducible rfl
            case re9_9 =>
            simp only [Act.put, List.setIfInBounds_toArray, List.set_cons_zero, List.set_cons_succ]
            refine wpAnyH_take (i := 10) (oi := { dst := some 59, op := Go.Op.load 2 (Go.Operand.tmp 58), type := 2, pos := "l11_net.go:10", after := #[{ on := 9, ground := Go.Ground.data }, { on := 6, ground := Go.Ground.guard }], guard := some (6, false) }) (v := ?ve10_10) rfl (by kernel_rfl) (by kernel_rfl) (by kernel_rfl) (fun _ _ _ h => h) (Or.inl ⟨by rfl, ?he10_10⟩) hHeld ?re10_10
            case he10_10 =>
              intro wS hSw
              have q2 := (hSw.cell (p := ⟨b, o + 2, none⟩) hb).trans c2
              clear hSw
              (try dsimp only at hSw)
              go_simp
              try with_reducible rfl
            case re10_10 =>
            simp only [Act.put, List.setIfInBounds_toArray, List.set_cons_zero, List.set_cons_succ]
            refine wpAnyH_take (i := 11) (oi := { dst := some 60, op := Go.Op.move (Go.Operand.tmp 0), type := 54, pos := "l11_net.go:10", after := #[{ on := 6, ground := Go.Ground.guard }], guard := some (6, false) }) (v := ?ve11_11) rfl (by kernel_rfl) (by kernel_rfl) (by kernel_rfl) (fun _ _ _ h => h) (Or.inl ⟨by rfl, ?he11_11⟩) hHeld ?re11_11
            case he11_11 =>
              intro wS hSw
              (try dsimp only at hSw)
              go_simp
              try with_reducible rfl
            case re11_11 =>
            simp only [Act.put, List.setIfInBounds_toArray, List.set_cons_zero, List.set_cons_succ]
            refine wpAnyH_take (i := 12) (oi := { dst := some 61, op := Go.Op.nilCheck (Go.Operand.tmp 60), type := 0, pos := "l11_net.go:10", after := #[{ on := 11, ground := Go.Ground.data }, { on := 6, ground := Go.Ground.guard }], guard := some (6, false) }) (v := ?ve12_12) rfl (by kernel_rfl) (by kernel_rfl) (by kernel_rfl) (fun _ _ _ h => h) (Or.inl ⟨by rfl, ?he12_12⟩) hHeld ?re12_12
            case he12_12 =>
              intro wS hSw
              (try dsimp only at hSw)
              go_simp
              try with_reducible rfl
            case re12_12 =>
            simp only [Act.put, List.setIfInBounds_toArray, List.set_cons_zero, List.set_cons_succ]
            refine wpAnyH_take (i := 13) (oi := { dst := some 62, op := Go.Op.fieldAddr 29 (Go.Operand.tmp 61) 3, type := 0, pos := "l11_net.go:10", after := #[{ on := 12, ground := Go.Ground.data }, { on := 6, ground := Go.Ground.guard }], guard := some (6, false) }) (v := ?ve13_13) rfl (by kernel_rfl) (by kernel_rfl) (by kernel_rfl) (fun _ _ _ h => h) (Or.inl ⟨by rfl, ?he13_13⟩) hHeld ?re13_13
            case he13_13 =>
              intro wS hSw
              (try dsimp only at hSw)
              go_simp
              try with_reducible rfl
            case re13_13 =>
            simp only [Act.put, List.setIfInBounds_toArray, List.set_cons_zero, List.set_cons_succ]
            refine wpAnyH_take (i := 14) (oi := { dst := some 63, op := Go.Op.load 2 (Go.Operand.tmp 62), type := 2, pos := "l11_net.go:10", after := #[{ on := 13, ground := Go.Ground.data }, { on := 6, ground := Go.Ground.guard }], guard := some (6, false) }) (v := ?ve14_14) rfl (by kernel_rfl) (by kernel_rfl) (by kernel_rfl) (fun _ _ _ h => h) (Or.inl ⟨by rfl, ?he14_14⟩) hHeld ?re14_14
            case he14_14 =>
              intro wS hSw
              have q3 := (hSw.cell (p := ⟨b, o + 3, none⟩) hb).trans c3
              clear hSw
              (try dsimp only at hSw)
              go_simp
              try with_reducible rfl
            case re14_14 =>
            simp only [Act.put, List.setIfInBounds_toArray, List.set_cons_zero, List.set_cons_succ]
            refine wpAnyH_take (i := 15) (oi := { dst := some 64, op := Go.Op.binOp Go.BinOp.eql 2 (Go.Operand.tmp 59) (Go.Operand.tmp 63) 2, type := 4, pos := "l11_net.go:10", after := #[{ on := 10, ground := Go.Ground.data }, { on := 14, ground := Go.Ground.data }, { on := 6, ground := Go.Ground.guard }], guard := some (6, false) }) (v := ?ve15_15) rfl (by kernel_rfl) (by kernel_rfl) (by kernel_rfl) (fun _ _ _ h => h) (Or.inl ⟨by rfl, ?he15_15⟩) hHeld ?re15_15
            case he15_15 =>
              intro wS hSw
              (try dsimp only at hSw)
              go_simp
              try with_reducible rfl
            case re15_15 =>
            simp only [Act.put, List.setIfInBounds_toArray, List.set_cons_zero, List.set_cons_succ]
            refine wpAnyH_take (i := 16) (oi := { dst := some 65, op := Go.Op.pick (Go.Operand.tmp 55) (Go.Operand.const (Go.Value.bool true)) (Go.Operand.tmp 64), type := 4, pos := "l11_net.go:10", after := #[{ on := 6, ground := Go.Ground.data }, { on := 15, ground := Go.Ground.data }], guard := none }) (v := ?ve16_16) rfl (by kernel_rfl) (by kernel_rfl) (by kernel_rfl) (fun _ _ _ h => h) (Or.inl ⟨by rfl, ?he16_16⟩) hHeld ?re16_16
            case he16_16 =>
              intro wS hSw
              (try dsimp only at hSw)
              go_simp
              try with_reducible rfl
            case re16_16 =>
            simp only [Act.put, List.setIfInBounds_toArray, List.set_cons_zero, List.set_cons_succ]
            refine wpAnyH_take (i := 17) (oi := { dst := some 66, op := Go.Op.move (Go.Operand.tmp 65), type := 4, pos := "l11_net.go:10", after := #[{ on := 16, ground := Go.Ground.data }, { on := 6, ground := Go.Ground.chain }], guard := none }) (v := ?ve17_17) rfl (by kernel_rfl) (by kernel_rfl) (by kernel_rfl) (fun _ _ _ h => h) (Or.inl ⟨by rfl, ?he17_17⟩) hHeld ?re17_17
            case he17_17 =>
              intro wS hSw
              (try dsimp only at hSw)
              go_simp
              try with_reducible rfl
            case re17_17 =>
            simp only [Act.put, List.setIfInBounds_toArray, List.set_cons_zero, List.set_cons_succ]
            refine wpAnyH_take (i := 18) (oi := { dst := some 67, op := Go.Op.move (Go.Operand.tmp 3), type := 4, pos := "l11_net.go:10", after := #[{ on := 17, ground := Go.Ground.guard }], guard := some (17, false) }) (v := ?ve18_18) rfl (by kernel_rfl) (by kernel_rfl) (by kernel_rfl) (fun _ _ _ h => h) (Or.inl ⟨by rfl, ?he18_18⟩) hHeld ?re18_18
            case he18_18 =>
              intro wS hSw
              (try dsimp only at hSw)
              go_simp
              try with_reducible rfl
            case re18_18 =>
            simp only [Act.put, List.setIfInBounds_toArray, List.set_cons_zero, List.set_cons_succ]
            refine wpAnyH_take (i := 19) (oi := { dst := some 68, op := Go.Op.move (Go.Operand.tmp 67), type := 4, pos := "l11_net.go:10", after := #[{ on := 18, ground := Go.Ground.data }, { on := 17, ground := Go.Ground.chain }, { on := 17, ground := Go.Ground.guard }], guard := some (17, false) }) (v := ?ve19_19) rfl (by kernel_rfl) (by kernel_rfl) (by kernel_rfl) (fun _ _ _ h => h) (Or.inl ⟨by rfl, ?he19_19⟩) hHeld ?re19_19
            case he19_19 =>
              intro wS hSw
              (try dsimp only at hSw)
              go_simp
              try with_reducible rfl
            case re19_19 =>
            simp only [Act.put, List.setIfInBounds_toArray, List.set_cons_zero, List.set_cons_succ]
            refine wpAnyH_take (i := 20) (oi := { dst := some 69, op := Go.Op.move (Go.Operand.tmp 4), type := 4, pos := "l11_net.go:10", after := #[{ on := 19, ground := Go.Ground.guard }], guard := some (19, true) }) (v := ?ve20_20) rfl (by kernel_rfl) (by kernel_rfl) (by kernel_rfl) (fun _ _ _ h => h) (Or.inl ⟨by rfl, ?he20_20⟩) hHeld ?re20_20
            case he20_20 =>
              intro wS hSw
              (try dsimp only at hSw)
              go_simp
              try with_reducible rfl
            case re20_20 =>
            simp only [Act.put, List.setIfInBounds_toArray, List.set_cons_zero, List.set_cons_succ]
            refine wpAnyH_take (i := 21) (oi := { dst := some 70, op := Go.Op.unOp Go.UnOp.not 4 (Go.Operand.tmp 69), type := 4, pos := "l11_net.go:10", after := #[{ on := 20, ground := Go.Ground.data }, { on := 19, ground := Go.Ground.guard }], guard := some (19, true) }) (v := ?ve21_21) rfl (by kernel_rfl) (by kernel_rfl) (by kernel_rfl) (fun _ _ _ h => h) (Or.inl ⟨by rfl, ?he21_21⟩) hHeld ?re21_21
            case he21_21 =>
              intro wS hSw
              (try dsimp only at hSw)
              go_simp
              try with_reducible rfl
            case re21_21 =>
            simp only [Act.put, List.setIfInBounds_toArray, List.set_cons_zero, List.set_cons_succ]
            refine wpAnyH_take (i := 22) (oi := { dst := some 71, op := Go.Op.pick (Go.Operand.tmp 68) (Go.Operand.tmp 70) (Go.Operand.const (Go.Value.bool false)), type := 4, pos := "l11_net.go:10", after := #[{ on := 19, ground := Go.Ground.data }, { on := 21, ground := Go.Ground.data }, { on := 17, ground := Go.Ground.guard }], guard := some (17, false) }) (v := ?ve22_22) rfl (by kernel_rfl) (by kernel_rfl) (by kernel_rfl) (fun _ _ _ h => h) (Or.inl ⟨by rfl, ?he22_22⟩) hHeld ?re22_22
            case he22_22 =>
              intro wS hSw
              (try dsimp only at hSw)
              go_simp
              try with_reducible rfl
            case re22_22 =>
            simp only [Act.put, List.setIfInBounds_toArray, List.set_cons_zero, List.set_cons_succ]
            refine wpAnyH_take (i := 23) (oi := { dst := some 72, op := Go.Op.pick (Go.Operand.tmp 66) (Go.Operand.const (Go.Value.bool true)) (Go.Operand.tmp 71), type := 4, pos := "l11_net.go:10", after := #[{ on := 17, ground := Go.Ground.data }, { on := 22, ground := Go.Ground.data }], guard := none }) (v := ?ve23_23) rfl (by kernel_rfl) (by kernel_rfl) (by kernel_rfl) (fun _ _ _ h => h) (Or.inl ⟨by rfl, ?he23_23⟩) hHeld ?re23_23
            case he23_23 =>
              intro wS hSw
              (try dsimp only at hSw)
              go_simp
              try with_reducible rfl
            case re23_23 =>
            simp only [Act.put, List.setIfInBounds_toArray, List.set_cons_zero, List.set_cons_succ]
            refine wpAnyH_done (by kernel_rfl) ?_ _
            refine NoPanic.normal ?_
            have HB9 := hHeld
            clear hHeld
            have c0 : wD.cell? ⟨b, o, none⟩ = some (.int .i64 x.kind) := (HB9.cell (p := ⟨b, o, none⟩) hb).trans c0
            have c1 : wD.cell? ⟨b, o + 1, none⟩ = some (.int .i64 x.epoch) := (HB9.cell (p := ⟨b, o + 1, none⟩) hb).trans c1
            have c2 : wD.cell? ⟨b, o + 2, none⟩ = some (.int .i64 x.src) := (HB9.cell (p := ⟨b, o + 2, none⟩) hb).trans c2
            have c3 : wD.cell? ⟨b, o + 3, none⟩ = some (.int .i64 x.dst) := (HB9.cell (p := ⟨b, o + 3, none⟩) hb).trans c3
            have c4 : wD.cell? ⟨b, o + 4, none⟩ = some (.int .i64 x.index) := (HB9.cell (p := ⟨b, o + 4, none⟩) hb).trans c4
            have c5 : wD.cell? ⟨b, o + 5, none⟩ = some (.int .i64 x.write.kind) := (HB9.cell (p := ⟨b, o + 5, none⟩) hb).trans c5
            have c6 : wD.cell? ⟨b, o + 5 + 1, none⟩ = some (.int .i64 x.write.id) := (HB9.cell (p := ⟨b, o + 5 + 1, none⟩) hb).trans c6
            have c7 : wD.cell? ⟨b, o + 5 + 2, none⟩ = some (.slice a x.write.vec.length d) := (HB9.cell (p := ⟨b, o + 5 + 2, none⟩) hb).trans c7
            have c8 : wD.cell? ⟨b, o + 5 + 3, none⟩ = some (.int .i64 x.write.session) := (HB9.cell (p := ⟨b, o + 5 + 3, none⟩) hb).trans c8
            have c9 : wD.cell? ⟨b, o + 5 + 4, none⟩ = some (.int .i64 x.write.seq) := (HB9.cell (p := ⟨b, o + 5 + 4, none⟩) hb).trans c9
            have HWD := hide ((unhide H).later HB9)
            replace hb : b < wD.heap.size := Nat.lt_of_lt_of_le hb HB9.size
            replace HB9 := hide HB9
            go_wp2_with fail
            refine (inC x.epoch 1 999 wD).mono ?_
            rintro e w1 ⟨rfl, h1⟩
            subst w1
            cases d12 : (decide (1 ≤ x.epoch) && decide (x.epoch ≤ 999))
            · have HF := hide ((unhide HRS).trans (mr_epoch d12))
              clear d12
              go_wp2_with fail
              go_ret
              exact ⟨by rw [unhide HF]; rfl, unhide HB9⟩
            · skip
              go_wp2_with fail
              refine (node10C x.src wD).mono ?_
              rintro e w1 ⟨rfl, h1⟩
              subst w1
              cases d14 : (decide (1 ≤ x.src) && decide (x.src ≤ 5))
              · have HF := hide ((unhide HRS).trans (mr_src d14))
                clear d14
                go_wp2_with fail
                go_ret
                exact ⟨by rw [unhide HF]; rfl, unhide HB9⟩
              · skip
                go_wp2_with fail
                refine (node10C x.dst wD).mono ?_
                rintro e w1 ⟨rfl, h1⟩
                subst w1
                cases d16 : (decide (1 ≤ x.dst) && decide (x.dst ≤ 5))
                · have HF := hide ((unhide HRS).trans (mr_dst d16))
                  clear d16
                  go_wp2_with fail
                  go_ret
                  exact ⟨by rw [unhide HF]; rfl, unhide HB9⟩
                · skip
                  go_wp2_with fail
                  refine (inC x.index 0 40 wD).mono ?_
                  rintro e w1 ⟨rfl, h1⟩
                  subst w1
                  cases d18 : (decide (0 ≤ x.index) && decide (x.index ≤ 40))
                  · have HF := hide ((unhide HRS).trans (mr_index d18))
                    clear d18
                    go_wp2_with fail
                    go_ret
                    exact ⟨by rw [unhide HF]; rfl, unhide HB9⟩
                  · skip
                    have HF : Hid (msgFault x = 0) := (unhide HRS).trans ((mr_ok d12 d14 d16 d18 (Or.inl e2)).trans (if_pos (beq_iff_eq.1 e2)))
                    clear d12 d14 d16 d18
                    go_wp2_with fail
                    go_ret
                    exact ⟨by rw [unhide HF]; rfl, unhide HB9⟩
      · have HF := hide (mf_self e1)
        go_upto_region 3 with fail
        refine wp_region_noPanic ?_
        refine wp_region_held_drew (S := fun w' => Below wc.heap.size wc w') (by kernel_rfl) (Below.refl _ _).drew (fun hHeld => ?_)
        generalize wc.drew = wD at hHeld ⊢
        refine wpAnyH_take (i := 0) (oi := { dst := some 49, op := Go.Op.move (Go.Operand.tmp 0), type := 54, pos := "l11_net.go:10", after := #[], guard := none }) (v := ?vb0_1) rfl (by kernel_rfl) (by kernel_rfl) (by kernel_rfl) (fun _ _ _ h => h) (Or.inl ⟨by rfl, ?hb0_1⟩) hHeld ?rb0_1
        case hb0_1 =>
          intro wS hSw
          (try dsimp only at hSw)
          go_simp
          try with_reducible rfl
        case rb0_1 =>
        simp only [Act.put, List.setIfInBounds_toArray, List.set_cons_zero, List.set_cons_succ]
        refine wpAnyH_take (i := 1) (oi := { dst := some 50, op := Go.Op.nilCheck (Go.Operand.tmp 49), type := 0, pos := "l11_net.go:10", after := #[{ on := 0, ground := Go.Ground.data }], guard := none }) (v := ?vb1_2) rfl (by kernel_rfl) (by kernel_rfl) (by kernel_rfl) (fun _ _ _ h => h) (Or.inl ⟨by rfl, ?hb1_2⟩) hHeld ?rb1_2
        case hb1_2 =>
          intro wS hSw
          (try dsimp only at hSw)
          go_simp
          try with_reducible rfl
        case rb1_2 =>
        simp only [Act.put, List.setIfInBounds_toArray, List.set_cons_zero, List.set_cons_succ]
        refine wpAnyH_take (i := 2) (oi := { dst := some 51, op := Go.Op.fieldAddr 29 (Go.Operand.tmp 50) 0, type := 0, pos := "l11_net.go:10", after := #[{ on := 1, ground := Go.Ground.data }], guard := none }) (v := ?vb2_3) rfl (by kernel_rfl) (by kernel_rfl) (by kernel_rfl) (fun _ _ _ h => h) (Or.inl ⟨by rfl, ?hb2_3⟩) hHeld ?rb2_3
        case hb2_3 =>
          intro wS hSw
          (try dsimp only at hSw)
          go_simp
          try with_reducible rfl
        case rb2_3 =>
        simp only [Act.put, List.setIfInBounds_toArray, List.set_cons_zero, List.set_cons_succ]
        refine wpAnyH_take (i := 3) (oi := { dst := some 52, op := Go.Op.load 2 (Go.Operand.tmp 51), type := 2, pos := "l11_net.go:10", after := #[{ on := 2, ground := Go.Ground.data }], guard := none }) (v := ?vb3_4) rfl (by kernel_rfl) (by kernel_rfl) (by kernel_rfl) (fun _ _ _ h => h) (Or.inl ⟨by rfl, ?hb3_4⟩) hHeld ?rb3_4
        case hb3_4 =>
          intro wS hSw
          have q0 := (hSw.cell (p := ⟨b, o, none⟩) hb).trans c0
          clear hSw
          (try dsimp only at hSw)
          go_simp
          try with_reducible rfl
        case rb3_4 =>
        simp only [Act.put, List.setIfInBounds_toArray, List.set_cons_zero, List.set_cons_succ]
        refine wpAnyH_ready (rs := [4]) (by kernel_rfl) (by simp) ?_
        refine AllReadyH.cons (o := { dst := some 53, op := Go.Op.call { callee := Go.Callee.value (Go.Operand.func 52), args := #[Go.Operand.tmp 52, Go.Operand.const (Go.Value.int Go.IntKind.i64 1), Go.Operand.const (Go.Value.int Go.IntKind.i64 2)], argTypes := #[2, 2, 2] }, type := 4, pos := "l11_net.go:10", after := #[{ on := 3, ground := Go.Ground.data }], guard := none }) rfl (fun K hK => ?_) AllReadyH.nil
        go_simp
        go_at_call 52
        refine (inC x.kind 1 2 _).mono ?_
        rintro e w1 ⟨rfl, h1⟩
        subst w1
        rw [d1]
        try go_wp2_with fail
        refine hK.out _ _ hHeld (fun hHeld => ?_)
        clear hK K
        try simp only [Act.put, List.setIfInBounds_toArray, List.set_cons_zero, List.set_cons_succ]
        refine wpAnyH_take (i := 5) (oi := { dst := some 54, op := Go.Op.unOp Go.UnOp.not 4 (Go.Operand.tmp 53), type := 4, pos := "l11_net.go:10", after := #[{ on := 4, ground := Go.Ground.data }], guard := none }) (v := ?vb5_5) rfl (by kernel_rfl) (by kernel_rfl) (by kernel_rfl) (fun _ _ _ h => h) (Or.inl ⟨by rfl, ?hb5_5⟩) hHeld ?rb5_5
        case hb5_5 =>
          intro wS hSw
          (try dsimp only at hSw)
          go_simp
          try with_reducible rfl
        case rb5_5 =>
        simp only [Act.put, List.setIfInBounds_toArray, List.set_cons_zero, List.set_cons_succ]
        refine wpAnyH_take (i := 6) (oi := { dst := some 55, op := Go.Op.move (Go.Operand.tmp 54), type := 4, pos := "l11_net.go:10", after := #[{ on := 5, ground := Go.Ground.data }, { on := 4, ground := Go.Ground.chain }], guard := none }) (v := ?vb6_6) rfl (by kernel_rfl) (by kernel_rfl) (by kernel_rfl) (fun _ _ _ h => h) (Or.inl ⟨by rfl, ?hb6_6⟩) hHeld ?rb6_6
        case hb6_6 =>
          intro wS hSw
          (try dsimp only at hSw)
          go_simp
          try with_reducible rfl
        case rb6_6 =>
        simp only [Act.put, List.setIfInBounds_toArray, List.set_cons_zero, List.set_cons_succ]
        refine wpAnyH_take (i := 7) (oi := { dst := some 56, op := Go.Op.move (Go.Operand.tmp 0), type := 54, pos := "l11_net.go:10", after := #[{ on := 6, ground := Go.Ground.guard }], guard := some (6, false) }) (v := ?vb7_7) rfl (by kernel_rfl) (by kernel_rfl) (by kernel_rfl) (fun _ _ _ h => h) (Or.inl ⟨by rfl, ?hb7_7⟩) hHeld ?rb7_7
        case hb7_7 =>
          intro wS hSw
          (try dsimp only at hSw)
          go_simp
          try with_reducible rfl
        case rb7_7 =>
        simp only [Act.put, List.setIfInBounds_toArray, List.set_cons_zero, List.set_cons_succ]
        refine wpAnyH_take (i := 8) (oi := { dst := some 57, op := Go.Op.nilCheck (Go.Operand.tmp 56), type := 0, pos := "l11_net.go:10", after := #[{ on := 7, ground := Go.Ground.data }, { on := 6, ground := Go.Ground.guard }], guard := some (6, false) }) (v := ?vb8_8) rfl (by kernel_rfl) (by kernel_rfl) (by kernel_rfl) (fun _ _ _ h => h) (Or.inl ⟨by rfl, ?hb8_8⟩) hHeld ?rb8_8
        case hb8_8 =>
          intro wS hSw
          (try dsimp only at hSw)
          go_simp
          try with_reducible rfl
        case rb8_8 =>
        simp only [Act.put, List.setIfInBounds_toArray, List.set_cons_zero, List.set_cons_succ]
        refine wpAnyH_take (i := 9) (oi := { dst := some 58, op := Go.Op.fieldAddr 29 (Go.Operand.tmp 57) 2, type := 0, pos := "l11_net.go:10", after := #[{ on := 8, ground := Go.Ground.data }, { on := 6, ground := Go.Ground.guard }], guard := some (6, false) }) (v := ?vb9_9) rfl (by kernel_rfl) (by kernel_rfl) (by kernel_rfl) (fun _ _ _ h => h) (Or.inl ⟨by rfl, ?hb9_9⟩) hHeld ?rb9_9
        case hb9_9 =>
          intro wS hSw
          (try dsimp only at hSw)
          go_simp
          try with_reducible rfl
        case rb9_9 =>
        simp only [Act.put, List.setIfInBounds_toArray, List.set_cons_zero, List.set_cons_succ]
        refine wpAnyH_take (i := 10) (oi := { dst := some 59, op := Go.Op.load 2 (Go.Operand.tmp 58), type := 2, pos := "l11_net.go:10", after := #[{ on := 9, ground := Go.Ground.data }, { on := 6, ground := Go.Ground.guard }], guard := some (6, false) }) (v := ?vb10_10) rfl (by kernel_rfl) (by kernel_rfl) (by kernel_rfl) (fun _ _ _ h => h) (Or.inl ⟨by rfl, ?hb10_10⟩) hHeld ?rb10_10
        case hb10_10 =>
          intro wS hSw
          have q2 := (hSw.cell (p := ⟨b, o + 2, none⟩) hb).trans c2
          clear hSw
          (try dsimp only at hSw)
          go_simp
          try with_reducible rfl
        case rb10_10 =>
        simp only [Act.put, List.setIfInBounds_toArray, List.set_cons_zero, List.set_cons_succ]
        refine wpAnyH_take (i := 11) (oi := { dst := some 60, op := Go.Op.move (Go.Operand.tmp 0), type := 54, pos := "l11_net.go:10", after := #[{ on := 6, ground := Go.Ground.guard }], guard := some (6, false) }) (v := ?vb11_11) rfl (by kernel_rfl) (by kernel_rfl) (by kernel_rfl) (fun _ _ _ h => h) (Or.inl ⟨by rfl, ?hb11_11⟩) hHeld ?rb11_11
        case hb11_11 =>
          intro wS hSw
          (try dsimp only at hSw)
          go_simp
          try with_reducible rfl
        case rb11_11 =>
        simp only [Act.put, List.setIfInBounds_toArray, List.set_cons_zero, List.set_cons_succ]
        refine wpAnyH_take (i := 12) (oi := { dst := some 61, op := Go.Op.nilCheck (Go.Operand.tmp 60), type := 0, pos := "l11_net.go:10", after := #[{ on := 11, ground := Go.Ground.data }, { on := 6, ground := Go.Ground.guard }], guard := some (6, false) }) (v := ?vb12_12) rfl (by kernel_rfl) (by kernel_rfl) (by kernel_rfl) (fun _ _ _ h => h) (Or.inl ⟨by rfl, ?hb12_12⟩) hHeld ?rb12_12
        case hb12_12 =>
          intro wS hSw
          (try dsimp only at hSw)
          go_simp
          try with_reducible rfl
        case rb12_12 =>
        simp only [Act.put, List.setIfInBounds_toArray, List.set_cons_zero, List.set_cons_succ]
        refine wpAnyH_take (i := 13) (oi := { dst := some 62, op := Go.Op.fieldAddr 29 (Go.Operand.tmp 61) 3, type := 0, pos := "l11_net.go:10", after := #[{ on := 12, ground := Go.Ground.data }, { on := 6, ground := Go.Ground.guard }], guard := some (6, false) }) (v := ?vb13_13) rfl (by kernel_rfl) (by kernel_rfl) (by kernel_rfl) (fun _ _ _ h => h) (Or.inl ⟨by rfl, ?hb13_13⟩) hHeld ?rb13_13
        case hb13_13 =>
          intro wS hSw
          (try dsimp only at hSw)
          go_simp
          try with_reducible rfl
        case rb13_13 =>
        simp only [Act.put, List.setIfInBounds_toArray, List.set_cons_zero, List.set_cons_succ]
        refine wpAnyH_take (i := 14) (oi := { dst := some 63, op := Go.Op.load 2 (Go.Operand.tmp 62), type := 2, pos := "l11_net.go:10", after := #[{ on := 13, ground := Go.Ground.data }, { on := 6, ground := Go.Ground.guard }], guard := some (6, false) }) (v := ?vb14_14) rfl (by kernel_rfl) (by kernel_rfl) (by kernel_rfl) (fun _ _ _ h => h) (Or.inl ⟨by rfl, ?hb14_14⟩) hHeld ?rb14_14
        case hb14_14 =>
          intro wS hSw
          have q3 := (hSw.cell (p := ⟨b, o + 3, none⟩) hb).trans c3
          clear hSw
          (try dsimp only at hSw)
          go_simp
          try with_reducible rfl
        case rb14_14 =>
        simp only [Act.put, List.setIfInBounds_toArray, List.set_cons_zero, List.set_cons_succ]
        refine wpAnyH_take (i := 15) (oi := { dst := some 64, op := Go.Op.binOp Go.BinOp.eql 2 (Go.Operand.tmp 59) (Go.Operand.tmp 63) 2, type := 4, pos := "l11_net.go:10", after := #[{ on := 10, ground := Go.Ground.data }, { on := 14, ground := Go.Ground.data }, { on := 6, ground := Go.Ground.guard }], guard := some (6, false) }) (v := ?vb15_15) rfl (by kernel_rfl) (by kernel_rfl) (by kernel_rfl) (fun _ _ _ h => h) (Or.inl ⟨by rfl, ?hb15_15⟩) hHeld ?rb15_15
        case hb15_15 =>
          intro wS hSw
          (try dsimp only at hSw)
          go_simp
          try with_reducible rfl
        case rb15_15 =>
        simp only [Act.put, List.setIfInBounds_toArray, List.set_cons_zero, List.set_cons_succ]
        refine wpAnyH_take (i := 16) (oi := { dst := some 65, op := Go.Op.pick (Go.Operand.tmp 55) (Go.Operand.const (Go.Value.bool true)) (Go.Operand.tmp 64), type := 4, pos := "l11_net.go:10", after := #[{ on := 6, ground := Go.Ground.data }, { on := 15, ground := Go.Ground.data }], guard := none }) (v := ?vb16_16) rfl (by kernel_rfl) (by kernel_rfl) (by kernel_rfl) (fun _ _ _ h => h) (Or.inl ⟨by rfl, ?hb16_16⟩) hHeld ?rb16_16
        case hb16_16 =>
          intro wS hSw
          (try dsimp only at hSw)
          go_simp
          try with_reducible rfl
        case rb16_16 =>
        simp only [Act.put, List.setIfInBounds_toArray, List.set_cons_zero, List.set_cons_succ]
        refine wpAnyH_take (i := 17) (oi := { dst := some 66, op := Go.Op.move (Go.Operand.tmp 65), type := 4, pos := "l11_net.go:10", after := #[{ on := 16, ground := Go.Ground.data }, { on := 6, ground := Go.Ground.chain }], guard := none }) (v := ?vb17_17) rfl (by kernel_rfl) (by kernel_rfl) (by kernel_rfl) (fun _ _ _ h => h) (Or.inl ⟨by rfl, ?hb17_17⟩) hHeld ?rb17_17
        case hb17_17 =>
          intro wS hSw
          (try dsimp only at hSw)
          go_simp
          try with_reducible rfl
        case rb17_17 =>
        simp only [Act.put, List.setIfInBounds_toArray, List.set_cons_zero, List.set_cons_succ]
        refine wpAnyH_take (i := 18) (oi := { dst := some 67, op := Go.Op.move (Go.Operand.tmp 3), type := 4, pos := "l11_net.go:10", after := #[{ on := 17, ground := Go.Ground.guard }], guard := some (17, false) }) (v := undef) rfl (by kernel_rfl) (by kernel_rfl) (by kernel_rfl) (fun _ _ _ h => h) (Or.inr ⟨by rfl, rfl⟩) hHeld ?_
        simp only [Act.put, List.setIfInBounds_toArray, List.set_cons_zero, List.set_cons_succ]
        refine wpAnyH_take (i := 19) (oi := { dst := some 68, op := Go.Op.move (Go.Operand.tmp 67), type := 4, pos := "l11_net.go:10", after := #[{ on := 18, ground := Go.Ground.data }, { on := 17, ground := Go.Ground.chain }, { on := 17, ground := Go.Ground.guard }], guard := some (17, false) }) (v := undef) rfl (by kernel_rfl) (by kernel_rfl) (by kernel_rfl) (fun _ _ _ h => h) (Or.inr ⟨by rfl, rfl⟩) hHeld ?_
        simp only [Act.put, List.setIfInBounds_toArray, List.set_cons_zero, List.set_cons_succ]
        refine wpAnyH_take (i := 20) (oi := { dst := some 69, op := Go.Op.move (Go.Operand.tmp 4), type := 4, pos := "l11_net.go:10", after := #[{ on := 19, ground := Go.Ground.guard }], guard := some (19, true) }) (v := undef) rfl (by kernel_rfl) (by kernel_rfl) (by kernel_rfl) (fun _ _ _ h => h) (Or.inr ⟨by rfl, rfl⟩) hHeld ?_
        simp only [Act.put, List.setIfInBounds_toArray, List.set_cons_zero, List.set_cons_succ]
        refine wpAnyH_take (i := 21) (oi := { dst := some 70, op := Go.Op.unOp Go.UnOp.not 4 (Go.Operand.tmp 69), type := 4, pos := "l11_net.go:10", after := #[{ on := 20, ground := Go.Ground.data }, { on := 19, ground := Go.Ground.guard }], guard := some (19, true) }) (v := undef) rfl (by kernel_rfl) (by kernel_rfl) (by kernel_rfl) (fun _ _ _ h => h) (Or.inr ⟨by rfl, rfl⟩) hHeld ?_
        simp only [Act.put, List.setIfInBounds_toArray, List.set_cons_zero, List.set_cons_succ]
        refine wpAnyH_take (i := 22) (oi := { dst := some 71, op := Go.Op.pick (Go.Operand.tmp 68) (Go.Operand.tmp 70) (Go.Operand.const (Go.Value.bool false)), type := 4, pos := "l11_net.go:10", after := #[{ on := 19, ground := Go.Ground.data }, { on := 21, ground := Go.Ground.data }, { on := 17, ground := Go.Ground.guard }], guard := some (17, false) }) (v := undef) rfl (by kernel_rfl) (by kernel_rfl) (by kernel_rfl) (fun _ _ _ h => h) (Or.inr ⟨by rfl, rfl⟩) hHeld ?_
        simp only [Act.put, List.setIfInBounds_toArray, List.set_cons_zero, List.set_cons_succ]
        refine wpAnyH_take (i := 23) (oi := { dst := some 72, op := Go.Op.pick (Go.Operand.tmp 66) (Go.Operand.const (Go.Value.bool true)) (Go.Operand.tmp 71), type := 4, pos := "l11_net.go:10", after := #[{ on := 17, ground := Go.Ground.data }, { on := 22, ground := Go.Ground.data }], guard := none }) (v := ?vb23_23) rfl (by kernel_rfl) (by kernel_rfl) (by kernel_rfl) (fun _ _ _ h => h) (Or.inl ⟨by rfl, ?hb23_23⟩) hHeld ?rb23_23
        case hb23_23 =>
          intro wS hSw
          (try dsimp only at hSw)
          go_simp
          try with_reducible rfl
        case rb23_23 =>
        simp only [Act.put, List.setIfInBounds_toArray, List.set_cons_zero, List.set_cons_succ]
        refine wpAnyH_done (by kernel_rfl) ?_ _
        refine NoPanic.normal ?_
        have HB9 := hide hHeld
        clear hHeld
        go_wp2_with fail
        go_ret
        exact ⟨by rw [unhide HF]; rfl, unhide HB9⟩

end Go.Proofs.YtkmfkaljdngigaaGreatDoor

namespace Go.Proofs.YtkmfkaljdngigaaGreatDoor
open Go.RowKit

/-- A message of a list, at its place. -/
theorem msg_row {w : World} {b off cap : Nat} {xs : List DMsg} (h : (Lay.sl Lay.tMsg).Reads w [.slice (some ⟨b, off, none⟩) xs.length cap] xs) {k : Nat} (hk : k < xs.length) : ∃ a d, MsgAt w b (off + k * 10) xs[k] (.slice a xs[k].write.vec.length d) ∧ (Lay.sl Lay.int).Reads w [.slice a xs[k].write.vec.length d] xs[k].write.vec := by
  obtain ⟨row, hc, hr⟩ := Lay.row_at h hk
  obtain ⟨a, d, rfl, R⟩ := open_Msg hr
  exact ⟨a, d, ⟨hc 0 (by decide), hc 1 (by decide), hc 2 (by decide), hc 3 (by decide), hc 4 (by decide), hc 5 (by decide), hc 6 (by decide), hc 7 (by decide), hc 8 (by decide), hc 9 (by decide)⟩, write_vec R⟩
theorem nf_many {xs : List DMsg} (h : 40 < xs.length) : netFault xs = 2 := by rw [netFault, if_pos h]
theorem nf_few {xs : List DMsg} (h : ¬ 40 < xs.length) : netFault xs = msgsFrom xs := by rw [netFault, if_neg h]

set_option maxRecDepth 10000 in
set_option maxHeartbeats 1000000 in
theorem l11FaultC (v : Value) (xs : List DMsg) (w : World) (h : (Lay.sl Lay.tMsg).Reads w [v] xs) :
    Calls Tryz.prog 21 #[v] w fun e w' => e = .returned (.int .i64 (netFault xs)) ∧ Below w.heap.size w w' := by
  obtain ⟨ao, cap, rfl⟩ := open_sl h
  have hbig := h.big
  have H := hide h
  clear h
  by_cases h40 : 40 < xs.length
  · have HF := hide (nf_many h40)
    have hd : decide ((40 : Int) < (xs.length : Int)) = true := by simp; omega
    go_enter Tryz.func21, Tryz.ntmps21
    go_wp2_with fail
    go_ret
    exact ⟨by rw [unhide HF]; rfl, Below.refl _ _⟩
  · have HF := hide (nf_few h40)
    have hd : decide ((40 : Int) < (xs.length : Int)) = false := by simp; omega
    go_enter Tryz.func21, Tryz.ntmps21
    go_wp2_with fail
    clear hd
    go_loopw [3] (fun i wr => ∃ k : Nat, k ≤ xs.length ∧ i = .int .i64 k ∧ (∀ j (hj : j < xs.length), j < k → msgFault xs[j] = 0) ∧ Below w.heap.size w wr) (fun i _ => xs.length - (intOf i).toNat)
    case atStart => exact ⟨0, Nat.zero_le _, rfl, fun j _ hj => by omega, Below.refl _ _⟩
    case round =>
      obtain ⟨k, hk, rfl, hz, hB⟩ := hrel
      by_cases hlt : k < xs.length
      · obtain ⟨b, off, rfl, hbl⟩ := Lay.sl_addr (unhide H) (by omega)
        obtain ⟨a, d, hM, R⟩ := msg_row ((unhide H).later hB) hlt
        have HL := hide (l11MsgC b (off + k * 10) a d xs[k] wr hM R)
        have hbr : b < wr.heap.size := Nat.lt_of_lt_of_le hbl hB.size
        have hdl : decide ((k : Int) < (xs.length : Int)) = true := by simp; omega
        have HB := hide hB
        have HAT : Hid (msgFault xs[k] ≠ 0 → msgsFrom xs = msgFault xs[k]) := fun q => msgsFrom_at hlt (fun j hj => hz j (by omega) hj) q
        have HZ2 : Hid (msgFault xs[k] = 0 → ∀ j (hj : j < xs.length), j < k + 1 → msgFault xs[j] = 0) := by
          intro h0 j hj hjk
          by_cases hjk2 : j < k
          · exact hz j hj hjk2
          · obtain rfl : j = k := by omega
            exact h0
        clear hz hM R hB
        generalize msgFault xs[k] = f at *
        go_wp2_with fail
        refine (unhide HL).mono ?_
        rintro e w2 ⟨rfl, hb⟩
        have HB2 := hide ((unhide HB).trans (hb.mono (unhide HB).size))
        clear hb HL HB
        by_cases hf : f = 0
        · have HZ3 := hide (unhide HZ2 hf)
          subst hf
          clear HZ2 HAT
          go_wp2_with fail
          go_roundw
          case rel => exact ⟨k + 1, by omega, by go_num, unhide HZ3, unhide HB2⟩
          case measure => simp [intOf]; omega
        · have HA := hide ((unhide HF).trans (unhide HAT hf))
          have hd : (f != 0) = true := by simpa using hf
          clear HZ2 HAT hf
          go_wp2_with fail
          go_ret
          exact ⟨by rw [unhide HA]; rfl, unhide HB2⟩
      · obtain rfl : k = xs.length := by omega
        have hdl : decide ((xs.length : Int) < (xs.length : Int)) = false := by simp
        have HA := hide ((unhide HF).trans (msgsFrom_all fun x hx => by obtain ⟨j, hj, rfl⟩ := List.getElem_of_mem hx; exact hz j hj hj))
        have HB := hide hB
        clear hB hz
        go_wp2_with fail
        go_ret
        exact ⟨by rw [unhide HA]; rfl, unhide HB⟩

end Go.Proofs.YtkmfkaljdngigaaGreatDoor

namespace Go.Proofs.YtkmfkaljdngigaaGreatDoor
open Go.RowKit

theorem append_noneI {P : Program} (t ty e : TypeId) (i : TypeInfo) (ht : P.underlying t = some (.slice e)) (hi : P.info? e = some i) (bo : Option Addr) (n cap c : Nat) (hn : n ≤ cap) (w : World) :
    (Builtin.append_ #[t, t] ty #[.slice bo n cap, .slice none 0 c]).run P w = (Builtin.append_ #[t, t] ty #[.slice bo n cap, .slice (some ⟨0, 0, none⟩) 0 c]).run P w := by
  simp [Builtin.append_, run_underlying ht, sizeOf, typeInfo, hi, Builtin.lenOf, hn, Builtin.firstCells, loadCells, loadCellsFrom]

theorem IsInts.news {w : World} {b off cap : Nat} {zs : List Int} (h : IsInts w (.slice (some ⟨b, off, none⟩) zs.length cap) zs) (hp : 0 < zs.length) : ∀ j u, (zs.map (Value.int .i64))[j]? = some u → w.cell? ((⟨b, off, none⟩ : Addr).add j) = some u := by
  intro j u hu
  obtain ⟨ao, cp, hv, hwf, hc⟩ := h
  obtain ⟨b', off', hao, hc1⟩ := hc hp
  simp only [Value.slice.injEq] at hv
  obtain ⟨rfl, -, -⟩ := hv
  simp only [Option.some.injEq, Addr.mk.injEq, and_true] at hao
  obtain ⟨rfl, rfl⟩ := hao
  have hj : j < zs.length := by
    have := (List.getElem?_eq_some_iff.1 hu).1
    simpa using this
  rw [Addr.add_lit, hc1 j hj]
  simp [hj] at hu
  simp [List.getD, hj, hu]

theorem run_append_ints {w : World} (base ty : Nat) (v : Value) (n : Nat) (xs : List Value) (hown : w.ownsRow base 2 1 v n xs) (x : Value) (ks : List Int) (hx : IsInts w x ks)
    (hn : n + ks.length ≤ 100000000) (hbase : base ≤ w.heap.size) :
    ∃ v' w', (Builtin.append_ #[25, 25] ty #[v, x]).run Tryz.prog w = .ok v' w' ∧ w'.ownsRow base 2 1 v' (n + ks.length) (xs ++ ks.map (Value.int .i64)) ∧ w.grownBy w' v.ownBlock := by
  obtain ⟨i0, hi, hz0, hz1, hz2⟩ := info_parts info2
  have hml : n + ks.length ≤ maxLen := by unfold maxLen; omega
  by_cases hp : 0 < ks.length
  · have hx' := hx
    obtain ⟨ao, cap, rfl, hwf, hc⟩ := hx'
    obtain ⟨b, off, rfl, hc1⟩ := hc hp
    obtain ⟨v', w', r1, r2, r3, -, -⟩ := run_append_own_at (P := Tryz.prog) w base 25 ty 2 i0 _ 1 8 Tryz.underlying25 hi hz0 hz1 hz2 rfl (by omega) v n xs hown ⟨b, off, none⟩ ks.length cap (ks.map (Value.int .i64)) (by simp) (hx.news hp) (by simp [Value.oneCell']) hml (by omega) hbase
    exact ⟨v', w', r1, r2, r3⟩
  · obtain rfl : ks = [] := List.eq_nil_of_length_eq_zero (by omega)
    obtain ⟨ao, cap, rfl, hwf, hc⟩ := hx
    cases ao with
    | none =>
      obtain ⟨v', w', r1, r2, r3, -, -⟩ := run_append_own_at (P := Tryz.prog) w base 25 ty 2 i0 _ 1 8 Tryz.underlying25 hi hz0 hz1 hz2 rfl (by omega) v n xs hown ⟨0, 0, none⟩ 0 cap [] rfl (by simp) (by simp) hml (by simp at hn; omega) hbase
      refine ⟨v', w', ?_, r2, r3⟩
      rcases hown.2 with ⟨rfl, h0⟩ | ⟨g, cp, cur, rfl, _, _, hle, _⟩
      · exact (append_noneI _ _ _ i0 Tryz.underlying25 hi none 0 0 cap (Nat.le_refl _) w).trans r1
      · exact (append_noneI _ _ _ i0 Tryz.underlying25 hi _ n cp cap hle w).trans r1
    | some ad =>
      obtain ⟨v', w', r1, r2, r3, -, -⟩ := run_append_own_at (P := Tryz.prog) w base 25 ty 2 i0 _ 1 8 Tryz.underlying25 hi hz0 hz1 hz2 rfl (by omega) v n xs hown ad 0 cap [] rfl (by simp) (by simp) hml (by simp at hn; omega) hbase
      exact ⟨v', w', r1, r2, r3⟩

/-- The same at an operation of a plain region. -/
theorem wpList_append_ints {w : World} {base : Nat} {v : Value} {n : Nat} {xs : List Value} (hown : w.ownsRow base 2 1 v n xs) {X : Value} {ks : List Int} (hx : IsInts w X ks)
    {ops : Array Oper} {rest : List Oper} {o : Oper} {a : Act} {Q : Exit → Act → World → Prop} (hgd : o.guard = none) (s x : Operand)
    (ho : o.op = .call { callee := .builtin .append, args := #[s, x], argTypes := #[25, 25] }) (hv : a.eval s = v) (hX : a.eval x = X)
    (hn : n + ks.length ≤ 100000000) (hbase : base ≤ w.heap.size)
    (h : ∀ v' w', w'.ownsRow base 2 1 v' (n + ks.length) (xs ++ ks.map (Value.int .i64)) → w.grownBy w' v.ownBlock → Below base w w' → wpList Tryz.prog ops Q rest (a.put o.dst v') w') :
    wpList Tryz.prog ops Q (o :: rest) a w := by
  refine wpList_plain hgd fun K hK => ?_
  obtain ⟨v', w', hr, h2, h3⟩ := run_append_ints base o.type v n xs hown X ks hx hn hbase
  unfold Oper.wp execOp
  simp only [ho, resolve, invoke, builtin, Sem.run_bind, Sem.run_pure, Result.andThen_ok, List.map_toArray, List.map_cons, List.map_nil, hv, hX, hr]
  exact hK _ _ (h v' w' h2 h3 ((Below.refl _ _).grown h3 hbase (fun j hj => (hown.lt j hj).1)))

end Go.Proofs.YtkmfkaljdngigaaGreatDoor

namespace Go.Proofs.YtkmfkaljdngigaaGreatDoor
open Go.RowKit

set_option maxHeartbeats 400000 in
theorem l1Ints (v : Value) (zs : List Int) (w : World) (h : IsInts w v zs) (hn : zs.length ≤ 100000000) :
    Calls Tryz.prog 57 #[v] w fun e w' => ∃ v', e = .returned v' ∧ w'.ownsRow w.heap.size 2 1 v' zs.length (zs.map (Value.int .i64)) ∧ Below w.heap.size w w' := by
  have nb : Below w.heap.size w (w.alloc (.cells #[] 2)) := (Below.refl _ _).alloc (Nat.le_refl _) _
  have O : (w.alloc (.cells #[] 2)).ownsRow w.heap.size 2 1 (.slice (some ⟨w.heap.size, 0, none⟩) 0 0) 0 [] := World.ownsRow_lit w _ 0 (Nat.le_refl _) (by unfold maxLen; omega) rfl
  have h1 := h.later nb
  obtain ⟨ao, cap, rfl, -⟩ := h
  have HB := hide nb
  clear nb
  go_enter Tryz.func57, Tryz.ntmps57
  go_wp2_with (at_builtin; refine wpList_append_ints O h1 rfl _ _ rfl rfl rfl (by omega) (by simp) ?_)
  rintro v' w' O2 - hb
  have HB2 := hide ((unhide HB).trans hb)
  clear O h1 hb HB
  go_wp2_with fail
  go_ret
  exact ⟨v', rfl, by simpa using O2, unhide HB2⟩

end Go.Proofs.YtkmfkaljdngigaaGreatDoor

namespace Go.Proofs.YtkmfkaljdngigaaGreatDoor
open Go.RowKit

theorem ne_at_l1Same {ps qs : List Int} {k : Nat} (h : ps.getD k 0 ≠ qs.getD k 0) : decide (ps = qs) = false := by
  simp only [decide_eq_false_iff_not]
  rintro rfl
  exact h rfl
theorem eq_all_l1Same {ps qs : List Int} (hl : ps.length = qs.length) (h : ∀ j, j < ps.length → ps.getD j 0 = qs.getD j 0) : decide (ps = qs) = true := by
  simp only [decide_eq_true_eq]
  refine List.ext_getElem hl fun j h1 h2 => ?_
  have := h j h1
  simpa [List.getD, h1, h2] using this

set_option maxHeartbeats 800000 in
theorem l1Same_pos (b off cap b2 off2 cap2 : Nat) (ps qs : List Int) (w : World) (hl : ps.length = qs.length) (hn : ps.length ≤ 9223372036854775807) (hc : ∀ j, j < ps.length → w.cell? ⟨b, off + j, none⟩ = some (.int .i64 (ps.getD j 0)))
    (hc2 : ∀ j, j < ps.length → w.cell? ⟨b2, off2 + j, none⟩ = some (.int .i64 (qs.getD j 0))) :
    Calls Tryz.prog 93 #[.slice (some ⟨b, off, none⟩) ps.length cap, .slice (some ⟨b2, off2, none⟩) ps.length cap2] w fun e w' => e = .returned (.bool (decide (ps = qs))) ∧ Below w.heap.size w w' := by
  have HL := hide hl
  clear hl
  go_enter Tryz.func93, Tryz.ntmps93
  go_wp2
  go_loopw [5] (fun i wr => ∃ k : Nat, k ≤ ps.length ∧ i = .int .i64 k ∧ Below w.heap.size w wr ∧ ∀ j, j < k → ps.getD j 0 = qs.getD j 0) (fun i _ => ps.length - (intOf i).toNat)
  case atStart => exact ⟨0, Nat.zero_le _, rfl, Below.refl _ _, fun j hj => by omega⟩
  case round =>
    obtain ⟨k, hk, rfl, hB, hq⟩ := hrel
    by_cases hlt : k < ps.length
    · have hcx : wr.cell? ⟨b, off + k, none⟩ = some (.int .i64 (ps.getD k 0)) := (hB.cell (World.block_lt_of_cell? _ _ (hc k hlt))).trans (hc k hlt)
      have hcy : wr.cell? ⟨b2, off2 + k, none⟩ = some (.int .i64 (qs.getD k 0)) := (hB.cell (World.block_lt_of_cell? _ _ (hc2 k hlt))).trans (hc2 k hlt)
      have HQ := hide hq
      have HB := hide hB
      clear hc hc2 hq hB
      by_cases he : ps.getD k 0 = qs.getD k 0
      · have HE := hide he
        rw [← he] at hcy
        clear he
        generalize ps.getD k 0 = x at hcx hcy
        have hxx : (x != x) = false := by simp
        go_wp2
        go_quiet (fail)
        go_wp2
        go_roundw
        case rel =>
          refine ⟨k + 1, by omega, by go_num, below_drewN (unhide HB) _, fun j hj => ?_⟩
          by_cases hjk : j < k
          · exact unhide HQ j hjk
          · obtain rfl : j = k := by omega
            exact unhide HE
        case measure => simp [intOf]; omega
      · have HN := hide (ne_at_l1Same he)
        have hxy : (ps.getD k 0 != qs.getD k 0) = true := by rw [bne_iff_ne]; exact he
        clear he
        generalize ps.getD k 0 = x at hcx hxy
        generalize qs.getD k 0 = y at hcy hxy
        go_wp2
        go_quiet (fail)
        go_wp2
        go_ret
        exact ⟨by rw [unhide HN]; rfl, below_drewN (unhide HB) _⟩
    · obtain rfl : k = ps.length := by omega
      have HN := hide (eq_all_l1Same (unhide HL) hq)
      have HB := hide hB
      clear hc hc2 hq hB
      go_wp2
      go_ret
      exact ⟨by rw [unhide HN]; rfl, unhide HB⟩
set_option maxHeartbeats 400000 in
theorem l1Same_len (ao ao2 : Option Addr) (n m cap cap2 : Nat) (w : World) (h : n ≠ m) :
    Calls Tryz.prog 93 #[.slice ao n cap, .slice ao2 m cap2] w fun e w' => e = .returned (.bool false) ∧ Below w.heap.size w w' := by
  have hd : ((n : Int) != (m : Int)) = true := by rw [bne_iff_ne]; omega
  go_enter Tryz.func93, Tryz.ntmps93
  go_wp2
  go_ret
  exact ⟨rfl, Below.refl _ _⟩
theorem l1Same_zero (ao ao2 : Option Addr) (cap cap2 : Nat) (w : World) :
    Calls Tryz.prog 93 #[.slice ao 0 cap, .slice ao2 0 cap2] w fun e w' => e = .returned (.bool true) ∧ Below w.heap.size w w' := by
  go_enter Tryz.func93, Tryz.ntmps93
  go_wp2
  refine wp_loop_rounds 1 ?_
  rw [rounds_succ]
  go_wp2
  go_ret
  exact ⟨rfl, Below.refl _ _⟩
/-- Whether two lists of numbers are the same. -/
theorem l1Same (v v2 : Value) (ps qs : List Int) (w : World) (h : IsInts w v ps) (h2 : IsInts w v2 qs) (hn : ps.length ≤ 9223372036854775807) :
    Calls Tryz.prog 93 #[v, v2] w fun e w' => e = .returned (.bool (decide (ps = qs))) ∧ Below w.heap.size w w' := by
  obtain ⟨ao, cap, rfl, hwf, hc⟩ := h
  obtain ⟨ao2, cap2, rfl, _, hc2⟩ := h2
  by_cases hl : ps.length = qs.length
  · by_cases hp : 0 < ps.length
    · obtain ⟨b, off, rfl, hc1⟩ := hc hp
      obtain ⟨b2, off2, rfl, hc3⟩ := hc2 (by omega)
      rw [← hl] at hc3 ⊢
      exact l1Same_pos b off cap b2 off2 cap2 ps qs w hl hn hc1 hc3
    · obtain rfl : ps = [] := List.eq_nil_of_length_eq_zero (by omega)
      obtain rfl : qs = [] := List.eq_nil_of_length_eq_zero (by simpa using hl.symm)
      exact l1Same_zero ao ao2 cap cap2 w
  · rw [show decide (ps = qs) = false by simp only [decide_eq_false_iff_not]; rintro rfl; exact hl rfl]
    exact l1Same_len ao ao2 _ _ cap cap2 w hl

end Go.Proofs.YtkmfkaljdngigaaGreatDoor
