/-
  The model's l3Read: the write whose words these are, in plain words; nothing old is written.
  Condition: at most 1048576 bytes a word.
-/
import Derived.Test.YtjfplfhdfiebgaaDoorSpecReadNo
import Derived.Test.YtjfplfhdfiebgaaDoorSpecReadDrop
import Derived.Test.YtjfplfhdfiebgaaDoorSpecReadPut0
import Derived.Test.YtjfplfhdfiebgaaDoorSpecReadPut1
import Derived.Test.YtjfplfhdfiebgaaDoorSpecReadPut2
import Derived.Test.YtjfplfhdfiebgaaDoorSpecReadPut3
import Derived.Test.YtjfplfhdfiebgaaDoorSpecReadPut4
namespace Go.Proofs.YtjfplfhdfiebgaaDoor
open Go.RowKit

def readPut (c0 c1 c2 c3 c4 c5 : Bytes) : Option DWrite :=
  if c0 = [112, 117, 116] ∧ c3 = [98, 121] then (match modelP c2 with | none => none | some zs => if tailOk 1 zs c1 c4 c5 = true then some (tailW 1 zs c1 c4 c5) else none) else none
def readDrop (c0 c1 c2 c3 c4 : Bytes) : Option DWrite :=
  if c0 = [100, 114, 111, 112] ∧ c2 = [98, 121] then (if tailOk 2 [] c1 c3 c4 = true then some (tailW 2 [] c1 c3 c4) else none) else none
/-- The write whose words these are. -/
def readM : List Bytes → Option DWrite
  | [c0, c1, c2, c3, c4, c5] => readPut c0 c1 c2 c3 c4 c5
  | [c0, c1, c2, c3, c4] => readDrop c0 c1 c2 c3 c4
  | _ => none

theorem ba_eq {s : ByteArray} {l : Bytes} (h : s.data.toList = l) : s = ⟨l.toArray⟩ := by
  obtain ⟨⟨x⟩⟩ := s
  subst h
  rfl
theorem ba_ne {s : ByteArray} {l : Bytes} (h : s.data.toList ≠ l) : s ≠ ⟨l.toArray⟩ := by
  rintro rfl
  exact h rfl

/-- What l3Read tells of a list of words. -/
def ReadPost (l : List Bytes) (w : World) (e : Ending) (w' : World) : Prop := ∃ x ok, ToldR w w' e x ok ∧ readM l = if ok = true then some x else none

theorem putBad {a t b c : Bytes} {ms : List Int} (hm : modelP t = some ms ∨ (modelP t = none ∧ vecFault ms ≠ 0)) (h : tailOk 1 ms a b c = false) : readPut [112, 117, 116] a t [98, 121] b c = none := by
  rw [readPut, if_pos ⟨rfl, rfl⟩]
  rcases hm with hm | ⟨hm, -⟩
  · rw [hm]; simp [h]
  · rw [hm]
theorem putAny {a t b c : Bytes} {ms : List Int} (hm : modelP t = some ms ∨ (modelP t = none ∧ vecFault ms ≠ 0)) : readPut [112, 117, 116] a t [98, 121] b c = if tailOk 1 ms a b c = true then some (tailW 1 ms a b c) else none := by
  rw [readPut, if_pos ⟨rfl, rfl⟩]
  rcases hm with hm | ⟨hm, hf⟩
  · rw [hm]
  · have : tailOk 1 ms a b c = false := by
      unfold tailOk
      rw [Bool.and_eq_false_iff]
      right
      rw [beq_eq_false_iff_ne]
      intro h
      obtain ⟨-, -, -, hk⟩ := writeFault_zero h
      rcases hk with ⟨-, hv⟩ | ⟨h2, -⟩
      · exact hf hv
      · omega
    rw [hm, this]
    simp

theorem read_put (g cap : Nat) (c0 a t d b c : ByteArray) (w : World) (hcap : 6 ≤ cap) (h0 : w.cell? ⟨g, 0, none⟩ = some (.string c0)) (h1 : w.cell? ⟨g, 1, none⟩ = some (.string a)) (h2 : w.cell? ⟨g, 2, none⟩ = some (.string t)) (h3 : w.cell? ⟨g, 3, none⟩ = some (.string d)) (h4 : w.cell? ⟨g, 4, none⟩ = some (.string b)) (h5 : w.cell? ⟨g, 5, none⟩ = some (.string c))
    (za : a.size ≤ 1048576) (zt : t.size ≤ 1048576) (zb : b.size ≤ 1048576) (zc : c.size ≤ 1048576) :
    Calls Tryd.prog 25 #[.slice (some ⟨g, 0, none⟩) 6 cap] w (ReadPost [c0.data.toList, a.data.toList, t.data.toList, d.data.toList, b.data.toList, c.data.toList] w) := by
  by_cases e0 : c0.data.toList = [112, 117, 116]
  · by_cases e3 : d.data.toList = [98, 121]
    · rw [e0, e3]
      rw [ba_eq e0] at h0
      rw [ba_eq e3] at h3
      by_cases ka : (numR a.data.toList).2 = true
      · by_cases kb : (numR b.data.toList).2 = true
        · by_cases kc : (numR c.data.toList).2 = true
          · refine (l3Read_put3 g cap a t b c w hcap h0 h1 h2 h3 h4 h5 za zt zb zc ka kb kc).mono ?_
            rintro e w' ⟨ms, hm, ht⟩
            refine ⟨_, _, ht, (putAny hm).trans ?_⟩
            unfold tailOk
            rw [ka, kb, kc]
            rfl
          · refine (l3Read_put2 g cap a t b c w hcap h0 h1 h2 h3 h4 h5 za zt zb zc ka kb (by simpa using kc)).mono ?_
            rintro e w' ⟨ms, hm, ht⟩
            exact ⟨_, _, ht, (putBad hm (by simp [tailOk, kc])).trans (by simp)⟩
        · refine (l3Read_put1 g cap a t b c w hcap h0 h1 h2 h3 h4 h5 za zt zb zc ka (by simpa using kb)).mono ?_
          rintro e w' ⟨ms, hm, ht⟩
          exact ⟨_, _, ht, (putBad hm (by simp [tailOk, kb])).trans (by simp)⟩
      · refine (l3Read_put0 g cap a t b c w hcap h0 h1 h2 h3 h4 h5 za zt zb zc (by simpa using ka)).mono ?_
        rintro e w' ⟨ms, hm, ht⟩
        exact ⟨_, _, ht, (putBad hm (by simp [tailOk, ka])).trans (by simp)⟩
    · rw [ba_eq e0] at h0
      refine (l3Read_other g cap a t b c d w hcap h0 h1 h2 h3 h4 h5 za zt zb zc (ba_ne e3)).mono ?_
      rintro e w' ⟨ms, hm, ht⟩
      exact ⟨_, _, ht, by simp [readM, readPut, e3]⟩
  · refine (l3Read_no2 g cap c0 w h0 (ba_ne e0)).mono ?_
    intro e w' ht
    exact ⟨_, _, ht, by simp [readM, readPut, e0]⟩

theorem read_drop (g cap : Nat) (c0 a t b c : ByteArray) (w : World) (h0 : w.cell? ⟨g, 0, none⟩ = some (.string c0)) (h1 : w.cell? ⟨g, 1, none⟩ = some (.string a)) (h2 : w.cell? ⟨g, 2, none⟩ = some (.string t)) (h3 : w.cell? ⟨g, 3, none⟩ = some (.string b)) (h4 : w.cell? ⟨g, 4, none⟩ = some (.string c))
    (za : a.size ≤ 1048576) (zb : b.size ≤ 1048576) (zc : c.size ≤ 1048576) :
    Calls Tryd.prog 25 #[.slice (some ⟨g, 0, none⟩) 5 cap] w (ReadPost [c0.data.toList, a.data.toList, t.data.toList, b.data.toList, c.data.toList] w) := by
  by_cases e0 : c0.data.toList = [100, 114, 111, 112]
  · rw [ba_eq e0] at h0
    by_cases e3 : t.data.toList = [98, 121]
    · rw [e0, e3]
      rw [ba_eq e3] at h2
      by_cases ka : (numR a.data.toList).2 = true
      · by_cases kb : (numR b.data.toList).2 = true
        · by_cases kc : (numR c.data.toList).2 = true
          · refine (l3Read_drop3 g cap a b c w h0 h1 h2 h3 h4 za zb zc ka kb kc).mono ?_
            intro e w' ht
            refine ⟨_, _, ht, ?_⟩
            show readDrop _ _ _ _ _ = _
            rw [readDrop, if_pos ⟨rfl, rfl⟩]
            unfold tailOk
            rw [ka, kb, kc]
            rfl
          · refine (l3Read_drop2 g cap a b c w h0 h1 h2 h3 h4 za zb zc ka kb (by simpa using kc)).mono ?_
            intro e w' ht
            exact ⟨_, _, ht, by simp [readM, readDrop, tailOk, kc]⟩
        · refine (l3Read_drop1 g cap a b c w h0 h1 h2 h3 h4 za zb zc ka (by simpa using kb)).mono ?_
          intro e w' ht
          exact ⟨_, _, ht, by simp [readM, readDrop, tailOk, kb]⟩
      · refine (l3Read_drop0 g cap a b c w h0 h1 h2 h3 h4 za zb zc (by simpa using ka)).mono ?_
        intro e w' ht
        exact ⟨_, _, ht, by simp [readM, readDrop, tailOk, ka]⟩
    · refine (l3Read_no4 g cap t w h0 h2 (ba_ne e3)).mono ?_
      intro e w' ht
      exact ⟨_, _, ht, by simp [readM, readDrop, e3]⟩
  · refine (l3Read_no3 g cap c0 w h0 (ba_ne e0)).mono ?_
    intro e w' ht
    exact ⟨_, _, ht, by simp [readM, readDrop, e0]⟩

theorem readM_len {l : List Bytes} (h5 : l.length ≠ 5) (h6 : l.length ≠ 6) : readM l = none := by
  unfold readM
  split
  · simp at h6
  · simp at h5
  · rfl

/-- The model's l3Read. -/
theorem l3ReadC (v : Value) (bs : List ByteArray) (base : Nat) (w : World) (h : w.ownsRow base 9 1 v bs.length (bs.map Value.string)) (hz : ∀ b ∈ bs, b.size ≤ 1048576) :
    Calls Tryd.prog 25 #[v] w (ReadPost (bs.map fun b => b.data.toList) w) := by
  by_cases h6 : bs.length = 6
  · obtain ⟨g, cap, rfl, hcap, hcell⟩ : ∃ g cap, v = .slice (some ⟨g, 0, none⟩) 6 cap ∧ 6 ≤ cap ∧ ∀ j (hj : j < bs.length), w.cell? ⟨g, j, none⟩ = some (.string bs[j]) := by
      rcases h.2 with ⟨_, h0⟩ | ⟨g, cap, cur, rfl, _, hh, hc, _⟩
      · omega
      · refine ⟨g, cap, by rw [h6], by omega, fun j hj => ?_⟩
        rw [h.cellAt j (by omega)]
        simp [hj]
    match bs, h6, hcell, hz with
    | [c0, a, t, d, b, c], _, hcell, hz =>
      exact read_put g cap c0 a t d b c w hcap (hcell 0 (by simp)) (hcell 1 (by simp)) (hcell 2 (by simp)) (hcell 3 (by simp)) (hcell 4 (by simp)) (hcell 5 (by simp)) (hz a (by simp)) (hz t (by simp)) (hz b (by simp)) (hz c (by simp))
  · by_cases h5 : bs.length = 5
    · obtain ⟨g, cap, rfl, hcell⟩ : ∃ g cap, v = .slice (some ⟨g, 0, none⟩) 5 cap ∧ ∀ j (hj : j < bs.length), w.cell? ⟨g, j, none⟩ = some (.string bs[j]) := by
        rcases h.2 with ⟨_, h0⟩ | ⟨g, cap, cur, rfl, _, hh, hc, _⟩
        · omega
        · refine ⟨g, cap, by rw [h5], fun j hj => ?_⟩
          rw [h.cellAt j (by omega)]
          simp [hj]
      match bs, h5, hcell, hz with
      | [c0, a, t, b, c], _, hcell, hz =>
        exact read_drop g cap c0 a t b c w (hcell 0 (by simp)) (hcell 1 (by simp)) (hcell 2 (by simp)) (hcell 3 (by simp)) (hcell 4 (by simp)) (hz a (by simp)) (hz b (by simp)) (hz c (by simp))
    · obtain ⟨ao, cap, rfl⟩ := own_shape h
      refine (l3Read_no1 ao bs.length cap w h5 h6).mono ?_
      intro e w' ht
      exact ⟨_, _, ht, by rw [readM_len (by simpa using h5) (by simpa using h6)]; simp⟩

end Go.Proofs.YtjfplfhdfiebgaaDoor
