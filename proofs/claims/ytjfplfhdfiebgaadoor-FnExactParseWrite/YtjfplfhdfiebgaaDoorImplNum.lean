/-
  readNumber reads a number without a sign, with no 0 ahead, of at most so many digits.
  Condition: at most 1048576 bytes; one or three digits.
-/
import Derived.Test.YtjfplfhdfiebgaaDoorNumber
import Derived.Test.YtjfplfhdfiebgaaDoorReadV
namespace Go.Proofs.YtjfplfhdfiebgaaDoor
open Go.RowKit

/-- A text of at most d digits as a number. -/
def readN (d : Nat) (l : Bytes) : Int × Bool :=
  if l.length = 0 then (0, false) else if d < l.length then (0, false)
  else if 1 < l.length ∧ l.head? = some 48 then (0, false)
  else if allDig l = true then (dval 0 l, true) else (0, false)

set_option maxRecDepth 100000 in
set_option maxHeartbeats 1600000 in
theorem readNumber_c (b : ByteArray) (d : Nat) (w : World) (hs : b.size ≤ 1048576) (hd : d ≤ 4) :
    Calls Tryd.prog 50 #[.string b, .int .i64 d] w fun e w' => e = .returned (.tuple #[.int .i64 (readN d b.data.toList).1, .bool (readN d b.data.toList).2]) ∧ w' = w := by
  have hlen : b.data.toList.length = b.size := by simp
  by_cases h0 : b.size = 0
  · have HN : Hid (readN d b.data.toList = (0, false)) := by
      show readN d b.data.toList = (0, false)
      unfold readN
      rw [hlen, if_pos h0]
    have e0 : ((b.size : Int) == 0) = true := by rw [beq_iff_eq]; omega
    clear hlen h0
    go_enter Tryd.func50, Tryd.ntmps50
    go_wp2
    go_ret2
    exact ⟨by rw [unhide HN]; rfl, rfl⟩
  have e0 : ((b.size : Int) == 0) = false := by rw [beq_eq_false_iff_ne]; omega
  by_cases h1 : d < b.size
  · have HN : Hid (readN d b.data.toList = (0, false)) := by
      show readN d b.data.toList = (0, false)
      unfold readN
      rw [hlen, if_neg h0, if_pos h1]
    have e1 : decide ((d : Int) < (b.size : Int)) = true := by simp; omega
    clear hlen h0
    go_enter Tryd.func50, Tryd.ntmps50
    go_wp2
    go_ret2
    exact ⟨by rw [unhide HN]; rfl, rfl⟩
  have e1 : decide ((d : Int) < (b.size : Int)) = false := by simp; omega
  have hpos : 0 < b.size := by omega
  have hhead : b.data.toList.head? = some (b[0]'hpos) := by
    have e : b.data.toList = b[0] :: rest b 1 := rest_cons b 0 hpos
    rw [e]; rfl
  have h48 : (b[0]'hpos = 48) ↔ ((b[0]'hpos).toNat = 48) := by
    constructor
    · intro h; rw [h]; rfl
    · intro h; exact UInt8.toNat_inj.1 h
  by_cases h2 : 1 < b.size ∧ (b[0]'hpos).toNat = 48
  · have HN : Hid (readN d b.data.toList = (0, false)) := by
      show readN d b.data.toList = (0, false)
      unfold readN
      rw [hlen, if_neg h0, if_neg h1, if_pos ⟨h2.1, by rw [hhead, h48.2 h2.2]⟩]
    have e2 : decide ((1 : Int) < (b.size : Int)) = true := by simp; omega
    have e3 : (((b[0]'hpos).toNat : Int) == 48) = true := by rw [beq_iff_eq]; omega
    clear hlen h0 h2 hhead h48
    go_enter Tryd.func50, Tryd.ntmps50
    go_wp2
    go_ret2
    exact ⟨by rw [unhide HN]; rfl, rfl⟩
  have HN : Hid (∀ r, (allDig (b.data.toList.drop 0) = false → (0, false) = r) → (allDig (b.data.toList.drop 0) = true → (dval 0 (b.data.toList.drop 0), true) = r) → readN d b.data.toList = r) := by
    intro r g1 g2
    unfold readN
    rw [hlen, if_neg h0, if_neg h1, if_neg (by rintro ⟨a1, a2⟩; rw [hhead] at a2; exact h2 ⟨a1, h48.1 (Option.some.inj a2)⟩)]
    cases ha : allDig b.data.toList with
    | true => rw [if_pos rfl]; exact g2 ha
    | false => rw [if_neg (by simp)]; exact g1 ha
  have loop : ∀ (E : Hid ((decide ((1 : Int) < (b.size : Int)) = true ∧ (((b[0]'hpos).toNat : Int) == 48) = false) ∨ decide ((1 : Int) < (b.size : Int)) = false)), Calls Tryd.prog 50 #[.string b, .int .i64 d] w fun e w' => e = .returned (.tuple #[.int .i64 (readN d b.data.toList).1, .bool (readN d b.data.toList).2]) ∧ w' = w := by
    intro E
    clear hlen h2 hhead h48
    rcases unhide E with ⟨e2, e3⟩ | e2
    all_goals
      clear E
      go_enter Tryd.func50, Tryd.ntmps50
      go_wp2_with fail
      go_loop [6, 29] (fun n i => ∃ k : Nat, k ≤ b.size ∧ i = .int .i64 k ∧ n = .int .i64 (dval 0 (seg b 0 k)) ∧ allDig (seg b 0 k) = true) (fun _ i => b.size - (intOf i).toNat)
      case atStart => exact ⟨0, by omega, rfl, by rw [seg_start]; rfl, by rw [seg_start]; rfl⟩
      case round =>
        obtain ⟨k, hk, rfl, rfl, hall⟩ := hrel
        have hsl : (seg b 0 k).length ≤ 4 := by unfold seg; simp; omega
        have hdb := dval_lt _ hall hsl
        by_cases hlt : k < b.size
        · have HS := hide (seg_snoc b 0 k (by omega) hlt)
          have HA := hide hall
          have hb8 := b[k].toNat_lt
          have hbt : digB (b[k].toNat : Int) = isDig b[k] := by
            unfold digB isDig
            congr 1 <;> simp <;> omega
          cases hdg : isDig b[k] with
          | true =>
            rw [hdg] at hbt
            have hb := isDig_bd hdg
            have HD := hide hdg
            have HT := hide hbt
            obtain ⟨hb1, hb2⟩ := hb
            obtain ⟨hv1, hv2⟩ := hdb
            clear hdg hall hbt
            generalize hcc : dval 0 (seg b 0 k) = v at *
            have HV := hide hcc
            clear hcc
            go_wp2_with fail
            refine (isDigit_c (b[k].toNat : Int) w).mono ?_
            rintro e w1 ⟨rfl, rfl⟩
            rw [unhide HT]
            go_wp2_with fail
            go_round
            case rel =>
              refine ⟨k + 1, by omega, by go_num, ?_, ?_⟩
              · rw [unhide HS, dval_snoc, unhide HV]
              · rw [unhide HS, allDig_snoc, unhide HA, unhide HD]; rfl
            case measure => simp [intOf]; omega
          | false =>
            rw [hdg] at hbt
            have HT := hide hbt
            have HX := hide (unhide HN (0, false) (fun _ => rfl) (fun h => by rw [seg_bad b 0 k (by omega) hlt hdg] at h; simp at h))
            clear hdg hall HN hbt
            go_wp2_with fail
            refine (isDigit_c (b[k].toNat : Int) w).mono ?_
            rintro e w1 ⟨rfl, rfl⟩
            rw [unhide HT]
            go_wp2_with fail
            go_ret2
            exact ⟨by rw [unhide HX]; rfl, rfl⟩
        · obtain rfl : k = b.size := by omega
          rw [seg_all] at hall hdb hsl ⊢
          have HX := hide (unhide HN _ (fun h => by rw [hall] at h; simp at h) (fun _ => rfl))
          obtain ⟨hv1, hv2⟩ := hdb
          generalize dval 0 (b.data.toList.drop 0) = v at *
          clear hall HN
          go_wp2_with fail
          go_ret2
          exact ⟨by rw [unhide HX]; rfl, rfl⟩
  refine loop ?_
  show _ ∨ _
  by_cases h3 : 1 < b.size
  · exact Or.inl ⟨by simp; omega, by rw [beq_eq_false_iff_ne]; intro h; exact h2 ⟨h3, by omega⟩⟩
  · exact Or.inr (by simp; omega)

end Go.Proofs.YtjfplfhdfiebgaaDoor
