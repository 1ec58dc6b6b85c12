/-
  Texts of this proof in one: SpecRead, TextL1, SpecWText, WResPlain, SpecPW, CutJoin, ReadText, Scope5.
  Their conditions stand in their theorems.
-/
import Derived.Test.YtjfplfhdfiebgaaDoorPq04
import Derived.Test.YtjfplfhdfiebgaaDoorPq05
import Derived.Test.YtjfplfhdfiebgaaDoorPq06
import Derived.Test.YtjfplfhdfiebgaaDoorPq07
import Derived.Deep.RegionHeld3
import Derived.Test.YtjfplfhdfiebgaaDoorPq02
import Derived.Scope
import Derived.WalkKit

namespace Go.Proofs.YtjfplfhdfiebgaaDoor
open Go.RowKit

def readPut (c0 c1 c2 c3 c4 c5 : Bytes) : Option DWrite :=
  if c0 = [112, 117, 116] ∧ c3 = [98, 121] then (match modelP c2 with | none => none | some zs => if tailOk 1 zs c1 c4 c5 = true then some (tailW 1 zs c1 c4 c5) else none) else none
def readDrop (c0 c1 c2 c3 c4 : Bytes) : Option DWrite :=
  if c0 = [100, 114, 111, 112] ∧ c2 = [98, 121] then (if tailOk 2 [] c1 c3 c4 = true then some (tailW 2 [] c1 c3 c4) else none) else none
/-- The write whose words these are. -/
def readM : List Bytes → Option DWrite
  | [c0, c1, c2, c3, c4, c5] => readPut c0 c1 c2 c3 c4 c5
  | [c0, c1, c2, c3, c4] => readDrop c0 c1 c2 c3 c4
  | _ => none

theorem ba_eq {s : ByteArray} {l : Bytes} (h : s.data.toList = l) : s = ⟨l.toArray⟩ := by
  obtain ⟨⟨x⟩⟩ := s
  subst h
  rfl
theorem ba_ne {s : ByteArray} {l : Bytes} (h : s.data.toList ≠ l) : s ≠ ⟨l.toArray⟩ := by
  rintro rfl
  exact h rfl

/-- What l3Read tells of a list of words. -/
def ReadPost (l : List Bytes) (w : World) (e : Ending) (w' : World) : Prop := ∃ x ok, ToldR w w' e x ok ∧ readM l = if ok = true then some x else none

theorem putBad {a t b c : Bytes} {ms : List Int} (hm : modelP t = some ms ∨ (modelP t = none ∧ vecFault ms ≠ 0)) (h : tailOk 1 ms a b c = false) : readPut [112, 117, 116] a t [98, 121] b c = none := by
  rw [readPut, if_pos ⟨rfl, rfl⟩]
  rcases hm with hm | ⟨hm, -⟩
  · rw [hm]; simp [h]
  · rw [hm]
theorem putAny {a t b c : Bytes} {ms : List Int} (hm : modelP t = some ms ∨ (modelP t = none ∧ vecFault ms ≠ 0)) : readPut [112, 117, 116] a t [98, 121] b c = if tailOk 1 ms a b c = true then some (tailW 1 ms a b c) else none := by
  rw [readPut, if_pos ⟨rfl, rfl⟩]
  rcases hm with hm | ⟨hm, hf⟩
  · rw [hm]
  · have : tailOk 1 ms a b c = false := by
      unfold tailOk
      rw [Bool.and_eq_false_iff]
      right
      rw [beq_eq_false_iff_ne]
      intro h
      obtain ⟨-, -, -, hk⟩ := writeFault_zero h
      rcases hk with ⟨-, hv⟩ | ⟨h2, -⟩
      · exact hf hv
      · omega
    rw [hm, this]
    simp

theorem read_put (g cap : Nat) (c0 a t d b c : ByteArray) (w : World) (hcap : 6 ≤ cap) (h0 : w.cell? ⟨g, 0, none⟩ = some (.string c0)) (h1 : w.cell? ⟨g, 1, none⟩ = some (.string a)) (h2 : w.cell? ⟨g, 2, none⟩ = some (.string t)) (h3 : w.cell? ⟨g, 3, none⟩ = some (.string d)) (h4 : w.cell? ⟨g, 4, none⟩ = some (.string b)) (h5 : w.cell? ⟨g, 5, none⟩ = some (.string c))
    (za : a.size ≤ 1048576) (zt : t.size ≤ 1048576) (zb : b.size ≤ 1048576) (zc : c.size ≤ 1048576) :
    Calls Tryd.prog 25 #[.slice (some ⟨g, 0, none⟩) 6 cap] w (ReadPost [c0.data.toList, a.data.toList, t.data.toList, d.data.toList, b.data.toList, c.data.toList] w) := by
  by_cases e0 : c0.data.toList = [112, 117, 116]
  · by_cases e3 : d.data.toList = [98, 121]
    · rw [e0, e3]
      rw [ba_eq e0] at h0
      rw [ba_eq e3] at h3
      by_cases ka : (numR a.data.toList).2 = true
      · by_cases kb : (numR b.data.toList).2 = true
        · by_cases kc : (numR c.data.toList).2 = true
          · refine (l3Read_put3 g cap a t b c w hcap h0 h1 h2 h3 h4 h5 za zt zb zc ka kb kc).mono ?_
            rintro e w' ⟨ms, hm, ht⟩
            refine ⟨_, _, ht, (putAny hm).trans ?_⟩
            unfold tailOk
            rw [ka, kb, kc]
            rfl
          · refine (l3Read_put2 g cap a t b c w hcap h0 h1 h2 h3 h4 h5 za zt zb zc ka kb (by simpa using kc)).mono ?_
            rintro e w' ⟨ms, hm, ht⟩
            exact ⟨_, _, ht, (putBad hm (by simp [tailOk, kc])).trans (by simp)⟩
        · refine (l3Read_put1 g cap a t b c w hcap h0 h1 h2 h3 h4 h5 za zt zb zc ka (by simpa using kb)).mono ?_
          rintro e w' ⟨ms, hm, ht⟩
          exact ⟨_, _, ht, (putBad hm (by simp [tailOk, kb])).trans (by simp)⟩
      · refine (l3Read_put0 g cap a t b c w hcap h0 h1 h2 h3 h4 h5 za zt zb zc (by simpa using ka)).mono ?_
        rintro e w' ⟨ms, hm, ht⟩
        exact ⟨_, _, ht, (putBad hm (by simp [tailOk, ka])).trans (by simp)⟩
    · rw [ba_eq e0] at h0
      refine (l3Read_other g cap a t b c d w hcap h0 h1 h2 h3 h4 h5 za zt zb zc (ba_ne e3)).mono ?_
      rintro e w' ⟨ms, hm, ht⟩
      exact ⟨_, _, ht, by simp [readM, readPut, e3]⟩
  · refine (l3Read_no2 g cap c0 w h0 (ba_ne e0)).mono ?_
    intro e w' ht
    exact ⟨_, _, ht, by simp [readM, readPut, e0]⟩

theorem read_drop (g cap : Nat) (c0 a t b c : ByteArray) (w : World) (h0 : w.cell? ⟨g, 0, none⟩ = some (.string c0)) (h1 : w.cell? ⟨g, 1, none⟩ = some (.string a)) (h2 : w.cell? ⟨g, 2, none⟩ = some (.string t)) (h3 : w.cell? ⟨g, 3, none⟩ = some (.string b)) (h4 : w.cell? ⟨g, 4, none⟩ = some (.string c))
    (za : a.size ≤ 1048576) (zb : b.size ≤ 1048576) (zc : c.size ≤ 1048576) :
    Calls Tryd.prog 25 #[.slice (some ⟨g, 0, none⟩) 5 cap] w (ReadPost [c0.data.toList, a.data.toList, t.data.toList, b.data.toList, c.data.toList] w) := by
  by_cases e0 : c0.data.toList = [100, 114, 111, 112]
  · rw [ba_eq e0] at h0
    by_cases e3 : t.data.toList = [98, 121]
    · rw [e0, e3]
      rw [ba_eq e3] at h2
      by_cases ka : (numR a.data.toList).2 = true
      · by_cases kb : (numR b.data.toList).2 = true
        · by_cases kc : (numR c.data.toList).2 = true
          · refine (l3Read_drop3 g cap a b c w h0 h1 h2 h3 h4 za zb zc ka kb kc).mono ?_
            intro e w' ht
            refine ⟨_, _, ht, ?_⟩
            show readDrop _ _ _ _ _ = _
            rw [readDrop, if_pos ⟨rfl, rfl⟩]
            unfold tailOk
            rw [ka, kb, kc]
            rfl
          · refine (l3Read_drop2 g cap a b c w h0 h1 h2 h3 h4 za zb zc ka kb (by simpa using kc)).mono ?_
            intro e w' ht
            exact ⟨_, _, ht, by simp [readM, readDrop, tailOk, kc]⟩
        · refine (l3Read_drop1 g cap a b c w h0 h1 h2 h3 h4 za zb zc ka (by simpa using kb)).mono ?_
          intro e w' ht
          exact ⟨_, _, ht, by simp [readM, readDrop, tailOk, kb]⟩
      · refine (l3Read_drop0 g cap a b c w h0 h1 h2 h3 h4 za zb zc (by simpa using ka)).mono ?_
        intro e w' ht
        exact ⟨_, _, ht, by simp [readM, readDrop, tailOk, ka]⟩
    · refine (l3Read_no4 g cap t w h0 h2 (ba_ne e3)).mono ?_
      intro e w' ht
      exact ⟨_, _, ht, by simp [readM, readDrop, e3]⟩
  · refine (l3Read_no3 g cap c0 w h0 (ba_ne e0)).mono ?_
    intro e w' ht
    exact ⟨_, _, ht, by simp [readM, readDrop, e0]⟩

theorem readM_len {l : List Bytes} (h5 : l.length ≠ 5) (h6 : l.length ≠ 6) : readM l = none := by
  unfold readM
  split
  · simp at h6
  · simp at h5
  · rfl

/-- The model's l3Read. -/
theorem l3ReadC (v : Value) (bs : List ByteArray) (base : Nat) (w : World) (h : w.ownsRow base 9 1 v bs.length (bs.map Value.string)) (hz : ∀ b ∈ bs, b.size ≤ 1048576) :
    Calls Tryd.prog 25 #[v] w (ReadPost (bs.map fun b => b.data.toList) w) := by
  by_cases h6 : bs.length = 6
  · obtain ⟨g, cap, rfl, hcap, hcell⟩ : ∃ g cap, v = .slice (some ⟨g, 0, none⟩) 6 cap ∧ 6 ≤ cap ∧ ∀ j (hj : j < bs.length), w.cell? ⟨g, j, none⟩ = some (.string bs[j]) := by
      rcases h.2 with ⟨_, h0⟩ | ⟨g, cap, cur, rfl, _, hh, hc, _⟩
      · omega
      · refine ⟨g, cap, by rw [h6], by omega, fun j hj => ?_⟩
        rw [h.cellAt j (by omega)]
        simp [hj]
    match bs, h6, hcell, hz with
    | [c0, a, t, d, b, c], _, hcell, hz =>
      exact read_put g cap c0 a t d b c w hcap (hcell 0 (by simp)) (hcell 1 (by simp)) (hcell 2 (by simp)) (hcell 3 (by simp)) (hcell 4 (by simp)) (hcell 5 (by simp)) (hz a (by simp)) (hz t (by simp)) (hz b (by simp)) (hz c (by simp))
  · by_cases h5 : bs.length = 5
    · obtain ⟨g, cap, rfl, hcell⟩ : ∃ g cap, v = .slice (some ⟨g, 0, none⟩) 5 cap ∧ ∀ j (hj : j < bs.length), w.cell? ⟨g, j, none⟩ = some (.string bs[j]) := by
        rcases h.2 with ⟨_, h0⟩ | ⟨g, cap, cur, rfl, _, hh, hc, _⟩
        · omega
        · refine ⟨g, cap, by rw [h5], fun j hj => ?_⟩
          rw [h.cellAt j (by omega)]
          simp [hj]
      match bs, h5, hcell, hz with
      | [c0, a, t, b, c], _, hcell, hz =>
        exact read_drop g cap c0 a t b c w (hcell 0 (by simp)) (hcell 1 (by simp)) (hcell 2 (by simp)) (hcell 3 (by simp)) (hcell 4 (by simp)) (hz a (by simp)) (hz b (by simp)) (hz c (by simp))
    · obtain ⟨ao, cap, rfl⟩ := own_shape h
      refine (l3Read_no1 ao bs.length cap w h5 h6).mono ?_
      intro e w' ht
      exact ⟨_, _, ht, by rw [readM_len (by simpa using h5) (by simpa using h6)]; simp⟩

end Go.Proofs.YtjfplfhdfiebgaaDoor

namespace Go.Proofs.YtjfplfhdfiebgaaDoor
open Go.RowKit

set_option maxRecDepth 100000 in
set_option maxHeartbeats 2000000 in
theorem l1Text3 (b off cap : Nat) (x y z : Int) (w : World) (c0 : w.cell? ⟨b, off, none⟩ = some (.int .i64 x)) (c1 : w.cell? ⟨b, off + 1, none⟩ = some (.int .i64 y)) (c2 : w.cell? ⟨b, off + 2, none⟩ = some (.int .i64 z))
    (hx : -1000 ≤ x ∧ x ≤ 1000) (hy : -1000 ≤ y ∧ y ≤ 1000) (hz : -1000 ≤ z ∧ z ≤ 1000) :
    Calls Tryd.prog 35 #[.slice (some ⟨b, off, none⟩) 3 cap] w fun e w' => e = .returned (str (text3 x y z)) ∧ Below w.heap.size w w' := by
  have D0 := hide fun W => digits x W (by omega) (by omega)
  have D1 := hide fun W => digits y W (by omega) (by omega)
  have D2 := hide fun W => digits z W (by omega) (by omega)
  have HT : Hid (text3 x y z = dec x ++ 44 :: (dec y ++ 44 :: dec z)) := rfl
  have l0 := dec_len x
  have l1 := dec_len y
  have l2 := dec_len z
  simp only [str] at D0 D1 D2
  rw [HT.out]
  clear HT
  generalize dec x = a at *
  generalize dec y = d at *
  generalize dec z = f at *
  have s0 : ∀ W : World, (Op.stringOp .add ⟨#[]⟩ ⟨a.toArray⟩).run Tryd.prog W = .ok (.string ⟨a.toArray⟩) W := fun W => (run_string_add_sum W _ _ (by simp [ByteArray.size]; omega)).trans (by rw [show (⟨#[]⟩ : ByteArray) = ⟨([] : Bytes).toArray⟩ from rfl, str_app]; rfl)
  have s1 : ∀ W : World, (Op.stringOp .add ⟨a.toArray⟩ ⟨#[44]⟩).run Tryd.prog W = .ok (.string ⟨(a ++ [44]).toArray⟩) W := fun W => (run_string_add_sum W _ _ (by simp [ByteArray.size]; omega)).trans (by rw [show (⟨#[44]⟩ : ByteArray) = ⟨([44] : Bytes).toArray⟩ from rfl, str_app])
  have s2 : ∀ W : World, (Op.stringOp .add ⟨(a ++ [44]).toArray⟩ ⟨d.toArray⟩).run Tryd.prog W = .ok (.string ⟨(a ++ [44] ++ d).toArray⟩) W := fun W => (run_string_add_sum W _ _ (by simp [ByteArray.size]; omega)).trans (by rw [str_app])
  have s3 : ∀ W : World, (Op.stringOp .add ⟨(a ++ [44] ++ d).toArray⟩ ⟨#[44]⟩).run Tryd.prog W = .ok (.string ⟨(a ++ [44] ++ d ++ [44]).toArray⟩) W := fun W => (run_string_add_sum W _ _ (by simp [ByteArray.size]; omega)).trans (by rw [show (⟨#[44]⟩ : ByteArray) = ⟨([44] : Bytes).toArray⟩ from rfl, str_app])
  have s4 : ∀ W : World, (Op.stringOp .add ⟨(a ++ [44] ++ d ++ [44]).toArray⟩ ⟨f.toArray⟩).run Tryd.prog W = .ok (.string ⟨(a ++ [44] ++ d ++ [44] ++ f).toArray⟩) W := fun W => (run_string_add_sum W _ _ (by simp [ByteArray.size]; omega)).trans (by rw [str_app])
  have HE : Hid (a ++ [44] ++ d ++ [44] ++ f = a ++ 44 :: (d ++ 44 :: f)) := by simp [Hid]
  rw [← HE.out]
  clear HE
  generalize hp : a ++ [44] = p at *
  generalize hq : p ++ d = q at *
  generalize hr : q ++ [44] = r at *
  generalize ht : r ++ f = t at *
  clear hp hq hr ht
  simp only [str]
  go_enter Tryd.func35, Tryd.ntmps35
  go_wp2_with fail
  refine wp_loop_rounds 4 ?_
  rw [rounds_succ]
  go_wp2_with fail
  refine (unhide D0 _).mono ?_
  rintro e w1 ⟨rfl, hb1⟩
  have d1 := cell_keep hb1 c1
  have d2 := cell_keep hb1 c2
  have HB := hide hb1
  clear hb1
  go_wp2_with fail
  rw [rounds_succ]
  go_wp2_with fail
  refine (unhide D1 _).mono ?_
  rintro e w2 ⟨rfl, hb1⟩
  have e2 := cell_keep hb1 d2
  have HB2 := hide (below_keep (unhide HB) hb1)
  clear hb1 HB
  go_wp2_with fail
  rw [rounds_succ]
  go_wp2_with fail
  refine (unhide D2 _).mono ?_
  rintro e w3 ⟨rfl, hb1⟩
  have HB := hide (below_keep (unhide HB2) hb1)
  clear hb1 HB2
  go_wp2_with fail
  rw [rounds_succ]
  go_wp2_with fail
  go_ret
  exact ⟨rfl, unhide HB⟩

end Go.Proofs.YtjfplfhdfiebgaaDoor

namespace Go.Proofs.YtjfplfhdfiebgaaDoor
open Go.RowKit

theorem fault3_zero {x y z : Int} (bx : -1000 ≤ x ∧ x ≤ 1000) (bY : -1000 ≤ y ∧ y ≤ 1000) (bz : -1000 ≤ z ∧ z ≤ 1000) : vecFault [x, y, z] = 0 := by
  refine vecFault_ok rfl fun j hj => ?_
  rcases j with _ | _ | _ | j
  · simp [partB, bx]
  · simp [partB, bY]
  · simp [partB, bz]
  · omega

set_option maxRecDepth 100000 in
set_option maxHeartbeats 4000000 in
theorem l3Text_put (b : Nat) (i s q : Int) (x y z : Int) (vb off cap : Nat) (w : World) (hc : WriteAt w b 1 i (.slice (some ⟨vb, off, none⟩) 3 cap) s q) (z0 : w.cell? ⟨vb, off, none⟩ = some (.int .i64 x)) (z1 : w.cell? ⟨vb, off + 1, none⟩ = some (.int .i64 y)) (z2 : w.cell? ⟨vb, off + 2, none⟩ = some (.int .i64 z)) (hi : 1 ≤ i ∧ i ≤ 999) (hs : 1 ≤ s ∧ s ≤ 9) (hq : 1 ≤ q ∧ q ≤ 999) (bx : -1000 ≤ x ∧ x ≤ 1000) (bY : -1000 ≤ y ∧ y ≤ 1000) (bz : -1000 ≤ z ∧ z ≤ 1000) :
    Calls Tryd.prog 18 #[.pointer (some ⟨b, 0, none⟩)] w fun e w' => e = .returned (str (writeTail s q (writeHead 1 i [x, y, z]))) ∧ Below w.heap.size w w' := by
  obtain ⟨c0, c1, c2, c3, c4⟩ := hc
  have hbl : b < w.heap.size := World.block_lt_of_cell? _ _ c0
  have l0 := dec_len i
  have l1 := dec_len s
  have l2 := dec_len q
  have l3 := text3_len x y z
  have HT : Hid (writeHead 1 i [x, y, z] = [112, 117, 116, 32] ++ dec i ++ [32] ++ text3 x y z) := by
    show writeHead 1 i [x, y, z] = [112, 117, 116, 32] ++ dec i ++ [32] ++ text3 x y z
    rw [writeHead, if_pos rfl, vecText, if_pos (fault3_zero bx bY bz)]
    rfl
  have DI : Hid (∀ W, Calls Tryd.prog 34 #[.int .i64 i] W fun e w' => e = .returned (str (dec i)) ∧ Below W.heap.size W w') := fun W => digits i W (by omega) (by omega)
  have DS : Hid (∀ W, Calls Tryd.prog 34 #[.int .i64 s] W fun e w' => e = .returned (str (dec s)) ∧ Below W.heap.size W w') := fun W => digits s W (by omega) (by omega)
  have DQ : Hid (∀ W, Calls Tryd.prog 34 #[.int .i64 q] W fun e w' => e = .returned (str (dec q)) ∧ Below W.heap.size W w') := fun W => digits q W (by omega) (by omega)
  have DV : Hid (∀ W, Below w.heap.size w W → Calls Tryd.prog 35 #[.slice (some ⟨vb, off, none⟩) 3 cap] W fun e w' => e = .returned (str (text3 x y z)) ∧ Below W.heap.size W w') := fun W hW => l1Text3 vb off cap x y z W (cell_keep hW z0) (cell_keep hW z1) (cell_keep hW z2) bx bY bz
  simp only [str] at DI DS DQ DV
  rw [unhide HT]
  unfold writeTail
  clear HT z0 z1 z2 bx bY bz
  generalize dec i = di at *
  generalize dec s = ds at *
  generalize dec q = dq at *
  generalize text3 x y z = vt at *
  obtain ⟨e1, he1⟩ : ∃ e1, [100, 114, 111, 112, 32] ++ di = e1 := ⟨_, rfl⟩
  have s1 := addS he1 (by rw [← he1]; simp; omega)
  obtain ⟨p1, hp1⟩ : ∃ p1, [112, 117, 116, 32] ++ di = p1 := ⟨_, rfl⟩
  have s2 := addS hp1 (by rw [← hp1]; simp; omega)
  obtain ⟨p2, hp2⟩ : ∃ p2, p1 ++ [32] = p2 := ⟨_, rfl⟩
  have s3 := addS hp2 (by rw [← hp2, ← hp1]; simp; omega)
  obtain ⟨p3, hp3⟩ : ∃ p3, p2 ++ vt = p3 := ⟨_, rfl⟩
  have s4 := addS hp3 (by rw [← hp3, ← hp2, ← hp1]; simp; omega)
  rw [hp1, hp2, hp3]
  obtain ⟨p4, hp4⟩ : ∃ p4, p3 ++ [32, 98, 121, 32] = p4 := ⟨_, rfl⟩
  have s5 := addS hp4 (by rw [← hp4, ← hp3, ← hp2, ← hp1]; simp; omega)
  obtain ⟨p5, hp5⟩ : ∃ p5, p4 ++ ds = p5 := ⟨_, rfl⟩
  have s6 := addS hp5 (by rw [← hp5, ← hp4, ← hp3, ← hp2, ← hp1]; simp; omega)
  obtain ⟨p6, hp6⟩ : ∃ p6, p5 ++ [32] = p6 := ⟨_, rfl⟩
  have s7 := addS hp6 (by rw [← hp6, ← hp5, ← hp4, ← hp3, ← hp2, ← hp1]; simp; omega)
  obtain ⟨p7, hp7⟩ : ∃ p7, p6 ++ dq = p7 := ⟨_, rfl⟩
  have s8 := addS hp7 (by rw [← hp7, ← hp6, ← hp5, ← hp4, ← hp3, ← hp2, ← hp1]; simp; omega)
  rw [hp4, hp5, hp6, hp7]
  clear hp4 hp5 hp6 hp7 he1 hp1 hp2 hp3 l0 l1 l2 l3
  simp only [str]
  go_enter Tryd.func18, Tryd.ntmps18
  go_wp2_with fail
  refine (unhide DI _).mono ?_
  rintro e w1 ⟨rfl, hb1⟩
  have HB := hide hb1
  have k0 := cell_keep hb1 c0
  clear hb1
  go_wp2_with fail
  refine wp_region_noPanic ?_
  refine wp_region_held_drew (S := fun w' => Below w.heap.size w w') (by kernel_rfl) (unhide HB).drew (fun hHeld => ?_)
  generalize w1.drew = wD at hHeld ⊢
  refine wpAnyH_take (i := 0) (oi := { dst := some 15, op := Go.Op.move (Go.Operand.tmp 0), type := 42, pos := "l03_write.go:66", after := #[], guard := none }) (v := ?v0) rfl (by kernel_rfl) (by kernel_rfl) (by kernel_rfl) (fun _ _ _ h => h) (Or.inl ⟨by rfl, ?h0⟩) hHeld ?r0
  case h0 =>
    intro wS hSw
    (try dsimp only at hSw)
    go_simp
    try with_reducible rfl
  case r0 =>
  simp only [Act.put, List.setIfInBounds_toArray, List.set_cons_zero, List.set_cons_succ]
  refine wpAnyH_take (i := 1) (oi := { dst := some 16, op := Go.Op.nilCheck (Go.Operand.tmp 15), type := 0, pos := "l03_write.go:66", after := #[{ on := 0, ground := Go.Ground.data }], guard := none }) (v := ?v1) rfl (by kernel_rfl) (by kernel_rfl) (by kernel_rfl) (fun _ _ _ h => h) (Or.inl ⟨by rfl, ?h1⟩) hHeld ?r1
  case h1 =>
    intro wS hSw
    (try dsimp only at hSw)
    go_simp
    try with_reducible rfl
  case r1 =>
  simp only [Act.put, List.setIfInBounds_toArray, List.set_cons_zero, List.set_cons_succ]
  refine wpAnyH_take (i := 2) (oi := { dst := some 17, op := Go.Op.fieldAddr 29 (Go.Operand.tmp 16) 1, type := 0, pos := "l03_write.go:66", after := #[{ on := 1, ground := Go.Ground.data }], guard := none }) (v := ?v2) rfl (by kernel_rfl) (by kernel_rfl) (by kernel_rfl) (fun _ _ _ h => h) (Or.inl ⟨by rfl, ?h2⟩) hHeld ?r2
  case h2 =>
    intro wS hSw
    (try dsimp only at hSw)
    go_simp
    try with_reducible rfl
  case r2 =>
  simp only [Act.put, List.setIfInBounds_toArray, List.set_cons_zero, List.set_cons_succ]
  refine wpAnyH_take (i := 3) (oi := { dst := some 18, op := Go.Op.load 2 (Go.Operand.tmp 17), type := 2, pos := "l03_write.go:66", after := #[{ on := 2, ground := Go.Ground.data }], guard := none }) (v := ?v3) rfl (by kernel_rfl) (by kernel_rfl) (by kernel_rfl) (fun _ _ _ h => h) (Or.inl ⟨by rfl, ?h3⟩) hHeld ?r3
  case h3 =>
    intro wS hSw
    have y0 := (hSw.cell (p := ⟨b, 0, none⟩) hbl).trans c0
    have y1 := (hSw.cell (p := ⟨b, 1, none⟩) hbl).trans c1
    have y2 := (hSw.cell (p := ⟨b, 2, none⟩) hbl).trans c2
    have y3 := (hSw.cell (p := ⟨b, 3, none⟩) hbl).trans c3
    have y4 := (hSw.cell (p := ⟨b, 4, none⟩) hbl).trans c4
    clear hSw
    (try dsimp only at hSw)
    go_simp
    try with_reducible rfl
  case r3 =>
  simp only [Act.put, List.setIfInBounds_toArray, List.set_cons_zero, List.set_cons_succ]
  refine wpAnyH_take (i := 7) (oi := { dst := some 22, op := Go.Op.move (Go.Operand.tmp 0), type := 42, pos := "l03_write.go:66", after := #[], guard := none }) (v := ?v7) rfl (by kernel_rfl) (by kernel_rfl) (by kernel_rfl) (fun _ _ _ h => h) (Or.inl ⟨by rfl, ?h7⟩) hHeld ?r7
  case h7 =>
    intro wS hSw
    (try dsimp only at hSw)
    go_simp
    try with_reducible rfl
  case r7 =>
  simp only [Act.put, List.setIfInBounds_toArray, List.set_cons_zero, List.set_cons_succ]
  refine wpAnyH_take (i := 8) (oi := { dst := some 23, op := Go.Op.nilCheck (Go.Operand.tmp 22), type := 0, pos := "l03_write.go:66", after := #[{ on := 7, ground := Go.Ground.data }], guard := none }) (v := ?v8) rfl (by kernel_rfl) (by kernel_rfl) (by kernel_rfl) (fun _ _ _ h => h) (Or.inl ⟨by rfl, ?h8⟩) hHeld ?r8
  case h8 =>
    intro wS hSw
    (try dsimp only at hSw)
    go_simp
    try with_reducible rfl
  case r8 =>
  simp only [Act.put, List.setIfInBounds_toArray, List.set_cons_zero, List.set_cons_succ]
  refine wpAnyH_take (i := 9) (oi := { dst := some 24, op := Go.Op.fieldAddr 29 (Go.Operand.tmp 23) 2, type := 0, pos := "l03_write.go:66", after := #[{ on := 8, ground := Go.Ground.data }], guard := none }) (v := ?v9) rfl (by kernel_rfl) (by kernel_rfl) (by kernel_rfl) (fun _ _ _ h => h) (Or.inl ⟨by rfl, ?h9⟩) hHeld ?r9
  case h9 =>
    intro wS hSw
    (try dsimp only at hSw)
    go_simp
    try with_reducible rfl
  case r9 =>
  simp only [Act.put, List.setIfInBounds_toArray, List.set_cons_zero, List.set_cons_succ]
  refine wpAnyH_take (i := 10) (oi := { dst := some 25, op := Go.Op.load 22 (Go.Operand.tmp 24), type := 22, pos := "l03_write.go:66", after := #[{ on := 9, ground := Go.Ground.data }], guard := none }) (v := ?v10) rfl (by kernel_rfl) (by kernel_rfl) (by kernel_rfl) (fun _ _ _ h => h) (Or.inl ⟨by rfl, ?h10⟩) hHeld ?r10
  case h10 =>
    intro wS hSw
    have y0 := (hSw.cell (p := ⟨b, 0, none⟩) hbl).trans c0
    have y1 := (hSw.cell (p := ⟨b, 1, none⟩) hbl).trans c1
    have y2 := (hSw.cell (p := ⟨b, 2, none⟩) hbl).trans c2
    have y3 := (hSw.cell (p := ⟨b, 3, none⟩) hbl).trans c3
    have y4 := (hSw.cell (p := ⟨b, 4, none⟩) hbl).trans c4
    clear hSw
    (try dsimp only at hSw)
    go_simp
    try with_reducible rfl
  case r10 =>
  simp only [Act.put, List.setIfInBounds_toArray, List.set_cons_zero, List.set_cons_succ]
  refine wpAnyH_ready (rs := [4]) (by kernel_rfl) (by simp) ?_
  refine AllReadyH.cons (o := { dst := some 19, op := Go.Op.call { callee := Go.Callee.value (Go.Operand.func 34), args := #[Go.Operand.tmp 18], argTypes := #[2] }, type := 9, pos := "l03_write.go:66", after := #[{ on := 3, ground := Go.Ground.data }], guard := none }) rfl (fun K hK => ?_) AllReadyH.nil
  go_simp
  go_at_call 34
  refine (unhide DI _).mono ?_
  rintro e w2 ⟨rfl, hbw⟩
  try go_wp2_with fail
  refine hK.out _ _ (hHeld.trans (hbw.mono hHeld.size)) (fun hHeld => ?_)
  clear hK K
  try simp only [Act.put, List.setIfInBounds_toArray, List.set_cons_zero, List.set_cons_succ]
  refine wpAnyH_take (i := 5) (oi := { dst := some 20, op := Go.Op.binOp Go.BinOp.add 9 (Go.Operand.const (Go.Value.string { data := #[112, 117, 116, 32] })) (Go.Operand.tmp 19) 9, type := 9, pos := "l03_write.go:66", after := #[{ on := 4, ground := Go.Ground.data }], guard := none }) (v := ?v5) rfl (by kernel_rfl) (by kernel_rfl) (by kernel_rfl) (fun _ _ _ h => h) (Or.inl ⟨by rfl, ?h5⟩) hHeld ?r5
  case h5 =>
    intro wS hSw
    (try dsimp only at hSw)
    go_simp
    try with_reducible rfl
  case r5 =>
  simp only [Act.put, List.setIfInBounds_toArray, List.set_cons_zero, List.set_cons_succ]
  refine wpAnyH_take (i := 6) (oi := { dst := some 21, op := Go.Op.binOp Go.BinOp.add 9 (Go.Operand.tmp 20) (Go.Operand.const (Go.Value.string { data := #[32] })) 9, type := 9, pos := "l03_write.go:66", after := #[{ on := 5, ground := Go.Ground.data }], guard := none }) (v := ?v6) rfl (by kernel_rfl) (by kernel_rfl) (by kernel_rfl) (fun _ _ _ h => h) (Or.inl ⟨by rfl, ?h6⟩) hHeld ?r6
  case h6 =>
    intro wS hSw
    (try dsimp only at hSw)
    go_simp
    try with_reducible rfl
  case r6 =>
  simp only [Act.put, List.setIfInBounds_toArray, List.set_cons_zero, List.set_cons_succ]
  refine wpAnyH_ready (rs := [11]) (by kernel_rfl) (by simp) ?_
  refine AllReadyH.cons (o := { dst := some 26, op := Go.Op.call { callee := Go.Callee.value (Go.Operand.func 35), args := #[Go.Operand.tmp 25], argTypes := #[22] }, type := 9, pos := "l03_write.go:66", after := #[{ on := 10, ground := Go.Ground.data }, { on := 4, ground := Go.Ground.chain }], guard := none }) rfl (fun K hK => ?_) AllReadyH.nil
  go_simp
  go_at_call 35
  refine (unhide DV _ hHeld).mono ?_
  rintro e w3 ⟨rfl, hbw⟩
  try go_wp2_with fail
  refine hK.out _ _ (hHeld.trans (hbw.mono hHeld.size)) (fun hHeld => ?_)
  clear hK K
  try simp only [Act.put, List.setIfInBounds_toArray, List.set_cons_zero, List.set_cons_succ]
  refine wpAnyH_take (i := 12) (oi := { dst := some 27, op := Go.Op.binOp Go.BinOp.add 9 (Go.Operand.tmp 21) (Go.Operand.tmp 26) 9, type := 9, pos := "l03_write.go:66", after := #[{ on := 6, ground := Go.Ground.data }, { on := 11, ground := Go.Ground.data }], guard := none }) (v := ?v12) rfl (by kernel_rfl) (by kernel_rfl) (by kernel_rfl) (fun _ _ _ h => h) (Or.inl ⟨by rfl, ?h12⟩) hHeld ?r12
  case h12 =>
    intro wS hSw
    (try dsimp only at hSw)
    go_simp
    try with_reducible rfl
  case r12 =>
  simp only [Act.put, List.setIfInBounds_toArray, List.set_cons_zero, List.set_cons_succ]
  refine wpAnyH_take (i := 13) (oi := { dst := some 3, op := Go.Op.assign (Go.Operand.tmp 27), type := 9, pos := "l03_write.go:66", after := #[{ on := 12, ground := Go.Ground.data }, { on := 11, ground := Go.Ground.chain }, { on := 0, ground := Go.Ground.phase }, { on := 1, ground := Go.Ground.phase }, { on := 2, ground := Go.Ground.phase }, { on := 3, ground := Go.Ground.phase }, { on := 4, ground := Go.Ground.phase }, { on := 5, ground := Go.Ground.phase }, { on := 6, ground := Go.Ground.phase }, { on := 7, ground := Go.Ground.phase }, { on := 8, ground := Go.Ground.phase }, { on := 9, ground := Go.Ground.phase }, { on := 10, ground := Go.Ground.phase }, { on := 11, ground := Go.Ground.phase }, { on := 12, ground := Go.Ground.phase }], guard := none }) (v := ?v13) rfl (by kernel_rfl) (by kernel_rfl) (by kernel_rfl) (fun _ _ _ h => h) (Or.inl ⟨by rfl, ?h13⟩) hHeld ?r13
  case h13 =>
    intro wS hSw
    (try dsimp only at hSw)
    go_simp
    try with_reducible rfl
  case r13 =>
  simp only [Act.put, List.setIfInBounds_toArray, List.set_cons_zero, List.set_cons_succ]
  refine wpAnyH_done (by kernel_rfl) ?_ _
  refine NoPanic.normal ?_
  have HB2 := hide hHeld
  clear hHeld HB k0
  go_wp2_with fail
  refine wp_region_noPanic ?_
  refine wp_region_held_drew (S := fun w' => Below w.heap.size w w') (by kernel_rfl) (unhide HB2).drew (fun hHeld => ?_)
  generalize w3.drew = wF at hHeld ⊢
  refine wpAnyH_take (i := 0) (oi := { dst := some 28, op := Go.Op.move (Go.Operand.tmp 3), type := 9, pos := "l03_write.go:68", after := #[], guard := none }) (v := ?vb0) rfl (by kernel_rfl) (by kernel_rfl) (by kernel_rfl) (fun _ _ _ h => h) (Or.inl ⟨by rfl, ?hb0⟩) hHeld ?rb0
  case hb0 =>
    intro wS hSw
    (try dsimp only at hSw)
    go_simp
    try with_reducible rfl
  case rb0 =>
  simp only [Act.put, List.setIfInBounds_toArray, List.set_cons_zero, List.set_cons_succ]
  refine wpAnyH_take (i := 1) (oi := { dst := some 29, op := Go.Op.binOp Go.BinOp.add 9 (Go.Operand.tmp 28) (Go.Operand.const (Go.Value.string { data := #[32, 98, 121, 32] })) 9, type := 9, pos := "l03_write.go:68", after := #[{ on := 0, ground := Go.Ground.data }], guard := none }) (v := ?vb1) rfl (by kernel_rfl) (by kernel_rfl) (by kernel_rfl) (fun _ _ _ h => h) (Or.inl ⟨by rfl, ?hb1⟩) hHeld ?rb1
  case hb1 =>
    intro wS hSw
    (try dsimp only at hSw)
    go_simp
    try with_reducible rfl
  case rb1 =>
  simp only [Act.put, List.setIfInBounds_toArray, List.set_cons_zero, List.set_cons_succ]
  refine wpAnyH_take (i := 2) (oi := { dst := some 30, op := Go.Op.move (Go.Operand.tmp 0), type := 42, pos := "l03_write.go:68", after := #[], guard := none }) (v := ?vb2) rfl (by kernel_rfl) (by kernel_rfl) (by kernel_rfl) (fun _ _ _ h => h) (Or.inl ⟨by rfl, ?hb2⟩) hHeld ?rb2
  case hb2 =>
    intro wS hSw
    (try dsimp only at hSw)
    go_simp
    try with_reducible rfl
  case rb2 =>
  simp only [Act.put, List.setIfInBounds_toArray, List.set_cons_zero, List.set_cons_succ]
  refine wpAnyH_take (i := 3) (oi := { dst := some 31, op := Go.Op.nilCheck (Go.Operand.tmp 30), type := 0, pos := "l03_write.go:68", after := #[{ on := 2, ground := Go.Ground.data }], guard := none }) (v := ?vb3) rfl (by kernel_rfl) (by kernel_rfl) (by kernel_rfl) (fun _ _ _ h => h) (Or.inl ⟨by rfl, ?hb3⟩) hHeld ?rb3
  case hb3 =>
    intro wS hSw
    (try dsimp only at hSw)
    go_simp
    try with_reducible rfl
  case rb3 =>
  simp only [Act.put, List.setIfInBounds_toArray, List.set_cons_zero, List.set_cons_succ]
  refine wpAnyH_take (i := 4) (oi := { dst := some 32, op := Go.Op.fieldAddr 29 (Go.Operand.tmp 31) 3, type := 0, pos := "l03_write.go:68", after := #[{ on := 3, ground := Go.Ground.data }], guard := none }) (v := ?vb4) rfl (by kernel_rfl) (by kernel_rfl) (by kernel_rfl) (fun _ _ _ h => h) (Or.inl ⟨by rfl, ?hb4⟩) hHeld ?rb4
  case hb4 =>
    intro wS hSw
    (try dsimp only at hSw)
    go_simp
    try with_reducible rfl
  case rb4 =>
  simp only [Act.put, List.setIfInBounds_toArray, List.set_cons_zero, List.set_cons_succ]
  refine wpAnyH_take (i := 5) (oi := { dst := some 33, op := Go.Op.load 2 (Go.Operand.tmp 32), type := 2, pos := "l03_write.go:68", after := #[{ on := 4, ground := Go.Ground.data }], guard := none }) (v := ?vb5) rfl (by kernel_rfl) (by kernel_rfl) (by kernel_rfl) (fun _ _ _ h => h) (Or.inl ⟨by rfl, ?hb5⟩) hHeld ?rb5
  case hb5 =>
    intro wS hSw
    have y0 := (hSw.cell (p := ⟨b, 0, none⟩) hbl).trans c0
    have y1 := (hSw.cell (p := ⟨b, 1, none⟩) hbl).trans c1
    have y2 := (hSw.cell (p := ⟨b, 2, none⟩) hbl).trans c2
    have y3 := (hSw.cell (p := ⟨b, 3, none⟩) hbl).trans c3
    have y4 := (hSw.cell (p := ⟨b, 4, none⟩) hbl).trans c4
    clear hSw
    (try dsimp only at hSw)
    go_simp
    try with_reducible rfl
  case rb5 =>
  simp only [Act.put, List.setIfInBounds_toArray, List.set_cons_zero, List.set_cons_succ]
  refine wpAnyH_take (i := 9) (oi := { dst := some 37, op := Go.Op.move (Go.Operand.tmp 0), type := 42, pos := "l03_write.go:68", after := #[], guard := none }) (v := ?vb9) rfl (by kernel_rfl) (by kernel_rfl) (by kernel_rfl) (fun _ _ _ h => h) (Or.inl ⟨by rfl, ?hb9⟩) hHeld ?rb9
  case hb9 =>
    intro wS hSw
    (try dsimp only at hSw)
    go_simp
    try with_reducible rfl
  case rb9 =>
  simp only [Act.put, List.setIfInBounds_toArray, List.set_cons_zero, List.set_cons_succ]
  refine wpAnyH_take (i := 10) (oi := { dst := some 38, op := Go.Op.nilCheck (Go.Operand.tmp 37), type := 0, pos := "l03_write.go:68", after := #[{ on := 9, ground := Go.Ground.data }], guard := none }) (v := ?vb10) rfl (by kernel_rfl) (by kernel_rfl) (by kernel_rfl) (fun _ _ _ h => h) (Or.inl ⟨by rfl, ?hb10⟩) hHeld ?rb10
  case hb10 =>
    intro wS hSw
    (try dsimp only at hSw)
    go_simp
    try with_reducible rfl
  case rb10 =>
  simp only [Act.put, List.setIfInBounds_toArray, List.set_cons_zero, List.set_cons_succ]
  refine wpAnyH_take (i := 11) (oi := { dst := some 39, op := Go.Op.fieldAddr 29 (Go.Operand.tmp 38) 4, type := 0, pos := "l03_write.go:68", after := #[{ on := 10, ground := Go.Ground.data }], guard := none }) (v := ?vb11) rfl (by kernel_rfl) (by kernel_rfl) (by kernel_rfl) (fun _ _ _ h => h) (Or.inl ⟨by rfl, ?hb11⟩) hHeld ?rb11
  case hb11 =>
    intro wS hSw
    (try dsimp only at hSw)
    go_simp
    try with_reducible rfl
  case rb11 =>
  simp only [Act.put, List.setIfInBounds_toArray, List.set_cons_zero, List.set_cons_succ]
  refine wpAnyH_take (i := 12) (oi := { dst := some 40, op := Go.Op.load 2 (Go.Operand.tmp 39), type := 2, pos := "l03_write.go:68", after := #[{ on := 11, ground := Go.Ground.data }], guard := none }) (v := ?vb12) rfl (by kernel_rfl) (by kernel_rfl) (by kernel_rfl) (fun _ _ _ h => h) (Or.inl ⟨by rfl, ?hb12⟩) hHeld ?rb12
  case hb12 =>
    intro wS hSw
    have y0 := (hSw.cell (p := ⟨b, 0, none⟩) hbl).trans c0
    have y1 := (hSw.cell (p := ⟨b, 1, none⟩) hbl).trans c1
    have y2 := (hSw.cell (p := ⟨b, 2, none⟩) hbl).trans c2
    have y3 := (hSw.cell (p := ⟨b, 3, none⟩) hbl).trans c3
    have y4 := (hSw.cell (p := ⟨b, 4, none⟩) hbl).trans c4
    clear hSw
    (try dsimp only at hSw)
    go_simp
    try with_reducible rfl
  case rb12 =>
  simp only [Act.put, List.setIfInBounds_toArray, List.set_cons_zero, List.set_cons_succ]
  refine wpAnyH_ready (rs := [6]) (by kernel_rfl) (by simp) ?_
  refine AllReadyH.cons (o := { dst := some 34, op := Go.Op.call { callee := Go.Callee.value (Go.Operand.func 34), args := #[Go.Operand.tmp 33], argTypes := #[2] }, type := 9, pos := "l03_write.go:68", after := #[{ on := 5, ground := Go.Ground.data }], guard := none }) rfl (fun K hK => ?_) AllReadyH.nil
  go_simp
  go_at_call 34
  refine (unhide DS _).mono ?_
  rintro e w4 ⟨rfl, hbw⟩
  try go_wp2_with fail
  refine hK.out _ _ (hHeld.trans (hbw.mono hHeld.size)) (fun hHeld => ?_)
  clear hK K
  try simp only [Act.put, List.setIfInBounds_toArray, List.set_cons_zero, List.set_cons_succ]
  refine wpAnyH_take (i := 7) (oi := { dst := some 35, op := Go.Op.binOp Go.BinOp.add 9 (Go.Operand.tmp 29) (Go.Operand.tmp 34) 9, type := 9, pos := "l03_write.go:68", after := #[{ on := 1, ground := Go.Ground.data }, { on := 6, ground := Go.Ground.data }], guard := none }) (v := ?vb7) rfl (by kernel_rfl) (by kernel_rfl) (by kernel_rfl) (fun _ _ _ h => h) (Or.inl ⟨by rfl, ?hb7⟩) hHeld ?rb7
  case hb7 =>
    intro wS hSw
    (try dsimp only at hSw)
    go_simp
    try with_reducible rfl
  case rb7 =>
  simp only [Act.put, List.setIfInBounds_toArray, List.set_cons_zero, List.set_cons_succ]
  refine wpAnyH_take (i := 8) (oi := { dst := some 36, op := Go.Op.binOp Go.BinOp.add 9 (Go.Operand.tmp 35) (Go.Operand.const (Go.Value.string { data := #[32] })) 9, type := 9, pos := "l03_write.go:68", after := #[{ on := 7, ground := Go.Ground.data }], guard := none }) (v := ?vb8) rfl (by kernel_rfl) (by kernel_rfl) (by kernel_rfl) (fun _ _ _ h => h) (Or.inl ⟨by rfl, ?hb8⟩) hHeld ?rb8
  case hb8 =>
    intro wS hSw
    (try dsimp only at hSw)
    go_simp
    try with_reducible rfl
  case rb8 =>
  simp only [Act.put, List.setIfInBounds_toArray, List.set_cons_zero, List.set_cons_succ]
  refine wpAnyH_ready (rs := [13]) (by kernel_rfl) (by simp) ?_
  refine AllReadyH.cons (o := { dst := some 41, op := Go.Op.call { callee := Go.Callee.value (Go.Operand.func 34), args := #[Go.Operand.tmp 40], argTypes := #[2] }, type := 9, pos := "l03_write.go:68", after := #[{ on := 12, ground := Go.Ground.data }, { on := 6, ground := Go.Ground.chain }], guard := none }) rfl (fun K hK => ?_) AllReadyH.nil
  go_simp
  go_at_call 34
  refine (unhide DQ _).mono ?_
  rintro e w5 ⟨rfl, hbw⟩
  try go_wp2_with fail
  refine hK.out _ _ (hHeld.trans (hbw.mono hHeld.size)) (fun hHeld => ?_)
  clear hK K
  try simp only [Act.put, List.setIfInBounds_toArray, List.set_cons_zero, List.set_cons_succ]
  refine wpAnyH_take (i := 14) (oi := { dst := some 42, op := Go.Op.binOp Go.BinOp.add 9 (Go.Operand.tmp 36) (Go.Operand.tmp 41) 9, type := 9, pos := "l03_write.go:68", after := #[{ on := 8, ground := Go.Ground.data }, { on := 13, ground := Go.Ground.data }], guard := none }) (v := ?vb14) rfl (by kernel_rfl) (by kernel_rfl) (by kernel_rfl) (fun _ _ _ h => h) (Or.inl ⟨by rfl, ?hb14⟩) hHeld ?rb14
  case hb14 =>
    intro wS hSw
    (try dsimp only at hSw)
    go_simp
    try with_reducible rfl
  case rb14 =>
  simp only [Act.put, List.setIfInBounds_toArray, List.set_cons_zero, List.set_cons_succ]
  refine wpAnyH_take (i := 15) (oi := { dst := some 2, op := Go.Op.assign (Go.Operand.tmp 42), type := 9, pos := "l03_write.go:68", after := #[{ on := 14, ground := Go.Ground.data }, { on := 13, ground := Go.Ground.chain }, { on := 0, ground := Go.Ground.phase }, { on := 1, ground := Go.Ground.phase }, { on := 2, ground := Go.Ground.phase }, { on := 3, ground := Go.Ground.phase }, { on := 4, ground := Go.Ground.phase }, { on := 5, ground := Go.Ground.phase }, { on := 6, ground := Go.Ground.phase }, { on := 7, ground := Go.Ground.phase }, { on := 8, ground := Go.Ground.phase }, { on := 9, ground := Go.Ground.phase }, { on := 10, ground := Go.Ground.phase }, { on := 11, ground := Go.Ground.phase }, { on := 12, ground := Go.Ground.phase }, { on := 13, ground := Go.Ground.phase }, { on := 14, ground := Go.Ground.phase }], guard := none }) (v := ?vb15) rfl (by kernel_rfl) (by kernel_rfl) (by kernel_rfl) (fun _ _ _ h => h) (Or.inl ⟨by rfl, ?hb15⟩) hHeld ?rb15
  case hb15 =>
    intro wS hSw
    (try dsimp only at hSw)
    go_simp
    try with_reducible rfl
  case rb15 =>
  simp only [Act.put, List.setIfInBounds_toArray, List.set_cons_zero, List.set_cons_succ]
  refine wpAnyH_done (by kernel_rfl) ?_ _
  refine NoPanic.normal ?_
  have HB9 := hide hHeld
  clear hHeld
  go_wp2_with fail
  go_ret
  exact ⟨rfl, unhide HB9⟩

set_option maxRecDepth 100000 in
set_option maxHeartbeats 4000000 in
theorem l3Text_drop (b : Nat) (i s q : Int) (v : Value) (w : World) (hc : WriteAt w b 2 i v s q) (hi : 1 ≤ i ∧ i ≤ 999) (hs : 1 ≤ s ∧ s ≤ 9) (hq : 1 ≤ q ∧ q ≤ 999) :
    Calls Tryd.prog 18 #[.pointer (some ⟨b, 0, none⟩)] w fun e w' => e = .returned (str (writeTail s q (writeHead 2 i []))) ∧ Below w.heap.size w w' := by
  obtain ⟨c0, c1, c2, c3, c4⟩ := hc
  have hbl : b < w.heap.size := World.block_lt_of_cell? _ _ c0
  have l0 := dec_len i
  have l1 := dec_len s
  have l2 := dec_len q
  have HT : Hid (writeHead 2 i [] = [100, 114, 111, 112, 32] ++ dec i) := rfl
  have DI : Hid (∀ W, Calls Tryd.prog 34 #[.int .i64 i] W fun e w' => e = .returned (str (dec i)) ∧ Below W.heap.size W w') := fun W => digits i W (by omega) (by omega)
  have DS : Hid (∀ W, Calls Tryd.prog 34 #[.int .i64 s] W fun e w' => e = .returned (str (dec s)) ∧ Below W.heap.size W w') := fun W => digits s W (by omega) (by omega)
  have DQ : Hid (∀ W, Calls Tryd.prog 34 #[.int .i64 q] W fun e w' => e = .returned (str (dec q)) ∧ Below W.heap.size W w') := fun W => digits q W (by omega) (by omega)
  simp only [str] at DI DS DQ
  rw [unhide HT]
  unfold writeTail
  clear HT
  generalize dec i = di at *
  generalize dec s = ds at *
  generalize dec q = dq at *
  obtain ⟨e1, he1⟩ : ∃ e1, [100, 114, 111, 112, 32] ++ di = e1 := ⟨_, rfl⟩
  have s1 := addS he1 (by rw [← he1]; simp; omega)
  rw [he1]
  obtain ⟨p4, hp4⟩ : ∃ p4, e1 ++ [32, 98, 121, 32] = p4 := ⟨_, rfl⟩
  have s5 := addS hp4 (by rw [← hp4, ← he1]; simp; omega)
  obtain ⟨p5, hp5⟩ : ∃ p5, p4 ++ ds = p5 := ⟨_, rfl⟩
  have s6 := addS hp5 (by rw [← hp5, ← hp4, ← he1]; simp; omega)
  obtain ⟨p6, hp6⟩ : ∃ p6, p5 ++ [32] = p6 := ⟨_, rfl⟩
  have s7 := addS hp6 (by rw [← hp6, ← hp5, ← hp4, ← he1]; simp; omega)
  obtain ⟨p7, hp7⟩ : ∃ p7, p6 ++ dq = p7 := ⟨_, rfl⟩
  have s8 := addS hp7 (by rw [← hp7, ← hp6, ← hp5, ← hp4, ← he1]; simp; omega)
  rw [hp4, hp5, hp6, hp7]
  clear hp4 hp5 hp6 hp7 he1 l0 l1 l2
  simp only [str]
  go_enter Tryd.func18, Tryd.ntmps18
  go_wp2_with fail
  refine (unhide DI _).mono ?_
  rintro e w1 ⟨rfl, hb1⟩
  have HB := hide hb1
  have k0 := cell_keep hb1 c0
  clear hb1
  go_wp2_with fail
  refine wp_region_noPanic ?_
  refine wp_region_held_drew (S := fun w' => Below w.heap.size w w') (by kernel_rfl) (unhide HB).drew (fun hHeld => ?_)
  generalize w1.drew = wF at hHeld ⊢
  refine wpAnyH_take (i := 0) (oi := { dst := some 28, op := Go.Op.move (Go.Operand.tmp 3), type := 9, pos := "l03_write.go:68", after := #[], guard := none }) (v := ?vb0) rfl (by kernel_rfl) (by kernel_rfl) (by kernel_rfl) (fun _ _ _ h => h) (Or.inl ⟨by rfl, ?hb0⟩) hHeld ?rb0
  case hb0 =>
    intro wS hSw
    (try dsimp only at hSw)
    go_simp
    try with_reducible rfl
  case rb0 =>
  simp only [Act.put, List.setIfInBounds_toArray, List.set_cons_zero, List.set_cons_succ]
  refine wpAnyH_take (i := 1) (oi := { dst := some 29, op := Go.Op.binOp Go.BinOp.add 9 (Go.Operand.tmp 28) (Go.Operand.const (Go.Value.string { data := #[32, 98, 121, 32] })) 9, type := 9, pos := "l03_write.go:68", after := #[{ on := 0, ground := Go.Ground.data }], guard := none }) (v := ?vb1) rfl (by kernel_rfl) (by kernel_rfl) (by kernel_rfl) (fun _ _ _ h => h) (Or.inl ⟨by rfl, ?hb1⟩) hHeld ?rb1
  case hb1 =>
    intro wS hSw
    (try dsimp only at hSw)
    go_simp
    try with_reducible rfl
  case rb1 =>
  simp only [Act.put, List.setIfInBounds_toArray, List.set_cons_zero, List.set_cons_succ]
  refine wpAnyH_take (i := 2) (oi := { dst := some 30, op := Go.Op.move (Go.Operand.tmp 0), type := 42, pos := "l03_write.go:68", after := #[], guard := none }) (v := ?vb2) rfl (by kernel_rfl) (by kernel_rfl) (by kernel_rfl) (fun _ _ _ h => h) (Or.inl ⟨by rfl, ?hb2⟩) hHeld ?rb2
  case hb2 =>
    intro wS hSw
    (try dsimp only at hSw)
    go_simp
    try with_reducible rfl
  case rb2 =>
  simp only [Act.put, List.setIfInBounds_toArray, List.set_cons_zero, List.set_cons_succ]
  refine wpAnyH_take (i := 3) (oi := { dst := some 31, op := Go.Op.nilCheck (Go.Operand.tmp 30), type := 0, pos := "l03_write.go:68", after := #[{ on := 2, ground := Go.Ground.data }], guard := none }) (v := ?vb3) rfl (by kernel_rfl) (by kernel_rfl) (by kernel_rfl) (fun _ _ _ h => h) (Or.inl ⟨by rfl, ?hb3⟩) hHeld ?rb3
  case hb3 =>
    intro wS hSw
    (try dsimp only at hSw)
    go_simp
    try with_reducible rfl
  case rb3 =>
  simp only [Act.put, List.setIfInBounds_toArray, List.set_cons_zero, List.set_cons_succ]
  refine wpAnyH_take (i := 4) (oi := { dst := some 32, op := Go.Op.fieldAddr 29 (Go.Operand.tmp 31) 3, type := 0, pos := "l03_write.go:68", after := #[{ on := 3, ground := Go.Ground.data }], guard := none }) (v := ?vb4) rfl (by kernel_rfl) (by kernel_rfl) (by kernel_rfl) (fun _ _ _ h => h) (Or.inl ⟨by rfl, ?hb4⟩) hHeld ?rb4
  case hb4 =>
    intro wS hSw
    (try dsimp only at hSw)
    go_simp
    try with_reducible rfl
  case rb4 =>
  simp only [Act.put, List.setIfInBounds_toArray, List.set_cons_zero, List.set_cons_succ]
  refine wpAnyH_take (i := 5) (oi := { dst := some 33, op := Go.Op.load 2 (Go.Operand.tmp 32), type := 2, pos := "l03_write.go:68", after := #[{ on := 4, ground := Go.Ground.data }], guard := none }) (v := ?vb5) rfl (by kernel_rfl) (by kernel_rfl) (by kernel_rfl) (fun _ _ _ h => h) (Or.inl ⟨by rfl, ?hb5⟩) hHeld ?rb5
  case hb5 =>
    intro wS hSw
    have y0 := (hSw.cell (p := ⟨b, 0, none⟩) hbl).trans c0
    have y1 := (hSw.cell (p := ⟨b, 1, none⟩) hbl).trans c1
    have y2 := (hSw.cell (p := ⟨b, 2, none⟩) hbl).trans c2
    have y3 := (hSw.cell (p := ⟨b, 3, none⟩) hbl).trans c3
    have y4 := (hSw.cell (p := ⟨b, 4, none⟩) hbl).trans c4
    clear hSw
    (try dsimp only at hSw)
    go_simp
    try with_reducible rfl
  case rb5 =>
  simp only [Act.put, List.setIfInBounds_toArray, List.set_cons_zero, List.set_cons_succ]
  refine wpAnyH_take (i := 9) (oi := { dst := some 37, op := Go.Op.move (Go.Operand.tmp 0), type := 42, pos := "l03_write.go:68", after := #[], guard := none }) (v := ?vb9) rfl (by kernel_rfl) (by kernel_rfl) (by kernel_rfl) (fun _ _ _ h => h) (Or.inl ⟨by rfl, ?hb9⟩) hHeld ?rb9
  case hb9 =>
    intro wS hSw
    (try dsimp only at hSw)
    go_simp
    try with_reducible rfl
  case rb9 =>
  simp only [Act.put, List.setIfInBounds_toArray, List.set_cons_zero, List.set_cons_succ]
  refine wpAnyH_take (i := 10) (oi := { dst := some 38, op := Go.Op.nilCheck (Go.Operand.tmp 37), type := 0, pos := "l03_write.go:68", after := #[{ on := 9, ground := Go.Ground.data }], guard := none }) (v := ?vb10) rfl (by kernel_rfl) (by kernel_rfl) (by kernel_rfl) (fun _ _ _ h => h) (Or.inl ⟨by rfl, ?hb10⟩) hHeld ?rb10
  case hb10 =>
    intro wS hSw
    (try dsimp only at hSw)
    go_simp
    try with_reducible rfl
  case rb10 =>
  simp only [Act.put, List.setIfInBounds_toArray, List.set_cons_zero, List.set_cons_succ]
  refine wpAnyH_take (i := 11) (oi := { dst := some 39, op := Go.Op.fieldAddr 29 (Go.Operand.tmp 38) 4, type := 0, pos := "l03_write.go:68", after := #[{ on := 10, ground := Go.Ground.data }], guard := none }) (v := ?vb11) rfl (by kernel_rfl) (by kernel_rfl) (by kernel_rfl) (fun _ _ _ h => h) (Or.inl ⟨by rfl, ?hb11⟩) hHeld ?rb11
  case hb11 =>
    intro wS hSw
    (try dsimp only at hSw)
    go_simp
    try with_reducible rfl
  case rb11 =>
  simp only [Act.put, List.setIfInBounds_toArray, List.set_cons_zero, List.set_cons_succ]
  refine wpAnyH_take (i := 12) (oi := { dst := some 40, op := Go.Op.load 2 (Go.Operand.tmp 39), type := 2, pos := "l03_write.go:68", after := #[{ on := 11, ground := Go.Ground.data }], guard := none }) (v := ?vb12) rfl (by kernel_rfl) (by kernel_rfl) (by kernel_rfl) (fun _ _ _ h => h) (Or.inl ⟨by rfl, ?hb12⟩) hHeld ?rb12
  case hb12 =>
    intro wS hSw
    have y0 := (hSw.cell (p := ⟨b, 0, none⟩) hbl).trans c0
    have y1 := (hSw.cell (p := ⟨b, 1, none⟩) hbl).trans c1
    have y2 := (hSw.cell (p := ⟨b, 2, none⟩) hbl).trans c2
    have y3 := (hSw.cell (p := ⟨b, 3, none⟩) hbl).trans c3
    have y4 := (hSw.cell (p := ⟨b, 4, none⟩) hbl).trans c4
    clear hSw
    (try dsimp only at hSw)
    go_simp
    try with_reducible rfl
  case rb12 =>
  simp only [Act.put, List.setIfInBounds_toArray, List.set_cons_zero, List.set_cons_succ]
  refine wpAnyH_ready (rs := [6]) (by kernel_rfl) (by simp) ?_
  refine AllReadyH.cons (o := { dst := some 34, op := Go.Op.call { callee := Go.Callee.value (Go.Operand.func 34), args := #[Go.Operand.tmp 33], argTypes := #[2] }, type := 9, pos := "l03_write.go:68", after := #[{ on := 5, ground := Go.Ground.data }], guard := none }) rfl (fun K hK => ?_) AllReadyH.nil
  go_simp
  go_at_call 34
  refine (unhide DS _).mono ?_
  rintro e w4 ⟨rfl, hbw⟩
  try go_wp2_with fail
  refine hK.out _ _ (hHeld.trans (hbw.mono hHeld.size)) (fun hHeld => ?_)
  clear hK K
  try simp only [Act.put, List.setIfInBounds_toArray, List.set_cons_zero, List.set_cons_succ]
  refine wpAnyH_take (i := 7) (oi := { dst := some 35, op := Go.Op.binOp Go.BinOp.add 9 (Go.Operand.tmp 29) (Go.Operand.tmp 34) 9, type := 9, pos := "l03_write.go:68", after := #[{ on := 1, ground := Go.Ground.data }, { on := 6, ground := Go.Ground.data }], guard := none }) (v := ?vb7) rfl (by kernel_rfl) (by kernel_rfl) (by kernel_rfl) (fun _ _ _ h => h) (Or.inl ⟨by rfl, ?hb7⟩) hHeld ?rb7
  case hb7 =>
    intro wS hSw
    (try dsimp only at hSw)
    go_simp
    try with_reducible rfl
  case rb7 =>
  simp only [Act.put, List.setIfInBounds_toArray, List.set_cons_zero, List.set_cons_succ]
  refine wpAnyH_take (i := 8) (oi := { dst := some 36, op := Go.Op.binOp Go.BinOp.add 9 (Go.Operand.tmp 35) (Go.Operand.const (Go.Value.string { data := #[32] })) 9, type := 9, pos := "l03_write.go:68", after := #[{ on := 7, ground := Go.Ground.data }], guard := none }) (v := ?vb8) rfl (by kernel_rfl) (by kernel_rfl) (by kernel_rfl) (fun _ _ _ h => h) (Or.inl ⟨by rfl, ?hb8⟩) hHeld ?rb8
  case hb8 =>
    intro wS hSw
    (try dsimp only at hSw)
    go_simp
    try with_reducible rfl
  case rb8 =>
  simp only [Act.put, List.setIfInBounds_toArray, List.set_cons_zero, List.set_cons_succ]
  refine wpAnyH_ready (rs := [13]) (by kernel_rfl) (by simp) ?_
  refine AllReadyH.cons (o := { dst := some 41, op := Go.Op.call { callee := Go.Callee.value (Go.Operand.func 34), args := #[Go.Operand.tmp 40], argTypes := #[2] }, type := 9, pos := "l03_write.go:68", after := #[{ on := 12, ground := Go.Ground.data }, { on := 6, ground := Go.Ground.chain }], guard := none }) rfl (fun K hK => ?_) AllReadyH.nil
  go_simp
  go_at_call 34
  refine (unhide DQ _).mono ?_
  rintro e w5 ⟨rfl, hbw⟩
  try go_wp2_with fail
  refine hK.out _ _ (hHeld.trans (hbw.mono hHeld.size)) (fun hHeld => ?_)
  clear hK K
  try simp only [Act.put, List.setIfInBounds_toArray, List.set_cons_zero, List.set_cons_succ]
  refine wpAnyH_take (i := 14) (oi := { dst := some 42, op := Go.Op.binOp Go.BinOp.add 9 (Go.Operand.tmp 36) (Go.Operand.tmp 41) 9, type := 9, pos := "l03_write.go:68", after := #[{ on := 8, ground := Go.Ground.data }, { on := 13, ground := Go.Ground.data }], guard := none }) (v := ?vb14) rfl (by kernel_rfl) (by kernel_rfl) (by kernel_rfl) (fun _ _ _ h => h) (Or.inl ⟨by rfl, ?hb14⟩) hHeld ?rb14
  case hb14 =>
    intro wS hSw
    (try dsimp only at hSw)
    go_simp
    try with_reducible rfl
  case rb14 =>
  simp only [Act.put, List.setIfInBounds_toArray, List.set_cons_zero, List.set_cons_succ]
  refine wpAnyH_take (i := 15) (oi := { dst := some 2, op := Go.Op.assign (Go.Operand.tmp 42), type := 9, pos := "l03_write.go:68", after := #[{ on := 14, ground := Go.Ground.data }, { on := 13, ground := Go.Ground.chain }, { on := 0, ground := Go.Ground.phase }, { on := 1, ground := Go.Ground.phase }, { on := 2, ground := Go.Ground.phase }, { on := 3, ground := Go.Ground.phase }, { on := 4, ground := Go.Ground.phase }, { on := 5, ground := Go.Ground.phase }, { on := 6, ground := Go.Ground.phase }, { on := 7, ground := Go.Ground.phase }, { on := 8, ground := Go.Ground.phase }, { on := 9, ground := Go.Ground.phase }, { on := 10, ground := Go.Ground.phase }, { on := 11, ground := Go.Ground.phase }, { on := 12, ground := Go.Ground.phase }, { on := 13, ground := Go.Ground.phase }, { on := 14, ground := Go.Ground.phase }], guard := none }) (v := ?vb15) rfl (by kernel_rfl) (by kernel_rfl) (by kernel_rfl) (fun _ _ _ h => h) (Or.inl ⟨by rfl, ?hb15⟩) hHeld ?rb15
  case hb15 =>
    intro wS hSw
    (try dsimp only at hSw)
    go_simp
    try with_reducible rfl
  case rb15 =>
  simp only [Act.put, List.setIfInBounds_toArray, List.set_cons_zero, List.set_cons_succ]
  refine wpAnyH_done (by kernel_rfl) ?_ _
  refine NoPanic.normal ?_
  have HB9 := hide hHeld
  clear hHeld
  go_wp2_with fail
  go_ret
  exact ⟨rfl, unhide HB9⟩

/-- The model's l3Text. -/
theorem l3Text (b : Nat) (k i : Int) (v : Value) (s q : Int) (zs : List Int) (w : World) (hc : WriteAt w b k i v s q) (h : IsInts w v zs) (hf : writeFault k i zs s q = 0) :
    Calls Tryd.prog 18 #[.pointer (some ⟨b, 0, none⟩)] w fun e w' => e = .returned (str (writeText k i zs s q)) ∧ Below w.heap.size w w' := by
  rw [writeText, if_pos hf]
  obtain ⟨hi, hs, hq, hk⟩ := writeFault_zero hf
  rcases hk with ⟨rfl, hv⟩ | ⟨rfl, rfl⟩
  · obtain ⟨vb, off, cap, x, y, z, rfl, rfl, -, z0, z1, z2⟩ := h.three (vecFault_zero hv).1
    obtain ⟨bx, bY, bz⟩ := fault3 hv
    exact l3Text_put b i s q x y z vb off cap w hc z0 z1 z2 hi hs hq bx bY bz
  · exact l3Text_drop b i s q v w hc hi hs hq

end Go.Proofs.YtjfplfhdfiebgaaDoor

namespace Go.Proofs.YtjfplfhdfiebgaaDoor
open Go.RowKit

def zeroW : DWrite := ⟨0, 0, [], 0, 0⟩

/-- A result with a code alone. -/
theorem own_badW {w : World} {c : Int} {lo hi : Nat} (hw : (Lit.int .i64 c).wf = true) : Lay.tWriteResult.OwnIn w [.int .i64 c, .int .i64 0, .int .i64 0, .slice none 0 0, .int .i64 0, .int .i64 0] ⟨c, zeroW⟩ lo hi :=
  ⟨[], ⟨lies_WriteResult.2 ⟨none, 0, [], rfl, rfl, hw, rfl, rfl, Lay.lies_ints.2 ⟨none, 0, rfl, ⟨by simp [zeroW], by simp [zeroW]⟩, by simp [zeroW], Or.inl ⟨rfl, rfl⟩⟩, rfl, rfl⟩, by simp, by simp⟩, by simp⟩
/-- A result with a write. -/
theorem own_okW {w : World} {x : DWrite} {v : Value} {lo hi : Nat} (h : (Lay.sl Lay.int).OwnIn w [v] x.vec lo hi) (h1 : (Lit.int .i64 x.kind).wf = true) (h2 : (Lit.int .i64 x.id).wf = true) (h3 : (Lit.int .i64 x.session).wf = true) (h4 : (Lit.int .i64 x.seq).wf = true) :
    Lay.tWriteResult.OwnIn w [.int .i64 0, .int .i64 x.kind, .int .i64 x.id, v, .int .i64 x.session, .int .i64 x.seq] ⟨0, x⟩ lo hi := by
  obtain ⟨bl, ⟨hl, hn, hf⟩, hb⟩ := h
  have hl' := hl
  obtain ⟨ao, cap, e, -⟩ := hl'
  obtain rfl : v = .slice ao x.vec.length cap := by simpa using e
  exact ⟨bl, ⟨lies_WriteResult.2 ⟨ao, cap, bl, rfl, rfl, rfl, h1, h2, hl, h3, h4⟩, hn, hf⟩, hb⟩

end Go.Proofs.YtjfplfhdfiebgaaDoor

namespace Go.Proofs.YtjfplfhdfiebgaaDoor
open Go.RowKit

/-- The write whose text this is, as the model reads it. -/
def parseM (l : Bytes) : DWriteResult := match readM (cutS [] l) with
  | none => ⟨5, zeroW⟩
  | some x => if writeText x.kind x.id x.vec x.session x.seq = l then ⟨0, x⟩ else ⟨5, zeroW⟩

theorem tail_fault {k : Int} {zs : List Int} {a b c : Bytes} (h : tailOk k zs a b c = true) : writeFault (tailW k zs a b c).kind (tailW k zs a b c).id (tailW k zs a b c).vec (tailW k zs a b c).session (tailW k zs a b c).seq = 0 := by
  unfold tailOk at h
  simp only [Bool.and_eq_true, beq_iff_eq] at h
  exact h.2
theorem readM_fault {l : List Bytes} {x : DWrite} (h : readM l = some x) : writeFault x.kind x.id x.vec x.session x.seq = 0 := by
  unfold readM at h
  split at h
  · unfold readPut at h
    split at h
    · split at h
      · cases h
      · split at h
        · next ht => cases h; exact tail_fault ht
        · cases h
    · cases h
  · unfold readDrop at h
    split at h
    · split at h
      · next ht => cases h; exact tail_fault ht
      · cases h
    · cases h
  · cases h

/-- The answer stored into the result's own block. -/
theorem storeW {w w1 : World} {x : DWrite} {cs vs : List Value} {lo hi : Nat} (h : Lay.tWrite.LiesIn w1 cs x lo hi) (hlo : w.heap.size < lo) (hb : Below w.heap.size w w1) :
    ∃ cs', Ending.returned (.agg (.int .i64 0 :: cs).toArray) = .returned (.agg cs'.toArray) ∧ Lay.tWriteResult.Reads (setAll w1 w.heap.size 0 vs) cs' ⟨0, x⟩ ∧ Below w.heap.size w (setAll w1 w.heap.size 0 vs) := by
  have h2 := h.ext (ext_setAll (fun q => q = w.heap.size) (Ext.refl _ w1) w.heap.size 0 vs rfl) (fun q h1 h2 h3 => by omega)
  obtain ⟨bl, hl, -⟩ := h2
  exact ⟨_, rfl, ⟨bl, [.int .i64 0], cs, [], bl, rfl, rfl, ⟨rfl, rfl, rfl⟩, hl⟩, below_setAll hb _ _ _ (Nat.le_refl _)⟩

set_option maxRecDepth 10000 in
set_option maxHeartbeats 1000000 in
/-- The model's ParseWrite. -/
theorem specPW (s : ByteArray) (w : World) (hs : s.size ≤ 1048576) :
    Calls Tryd.prog 11 #[.string s] w fun e w' => ∃ cs, e = .returned (.agg cs.toArray) ∧ Lay.tWriteResult.Reads w' cs (parseM s.data.toList) ∧ Below w.heap.size w w' := by
  have nb : Below w.heap.size w (w.alloc (.cells #[.int .i64 0, .int .i64 0, .int .i64 0, .slice none 0 0, .int .i64 0, .int .i64 0] 35)) := (Below.refl _ _).alloc (Nat.le_refl _) _
  have bR : Box 0 #[.int .i64 0, .int .i64 0, .int .i64 0, .slice none 0 0, .int .i64 0, .int .i64 0] 35 (w.alloc (.cells #[.int .i64 0, .int .i64 0, .int .i64 0, .slice none 0 0, .int .i64 0, .int .i64 0] 35)) w.heap.size := newBox (Nat.zero_le _)
  have LC := hide (fun W => cutSpC s W hs)
  go_enter Tryd.func11, Tryd.ntmps11
  go_wp2_with fail
  generalize w.alloc (.cells #[.int .i64 0, .int .i64 0, .int .i64 0, .slice none 0 0, .int .i64 0, .int .i64 0] 35) = W0 at *
  refine (unhide LC _).mono ?_
  rintro e w1 ⟨v, bs, rfl, hown, hcut, -, hz, hb⟩
  have hR := bR.lt
  replace bR := bR.keep hb
  have HB := hide (nb.trans (hb.mono nb.size))
  have LR := hide (l3ReadC v bs _ w1 hown hz)
  rw [hcut] at LR
  have hz1 := hb.size
  clear hb nb LC hown hcut hz
  have HR := hide bR
  clear bR
  go_wp2_with fail
  refine (unhide LR).mono ?_
  rintro e w2 ⟨x, ok, ⟨cs, rfl, R, hb⟩, hu⟩
  have HU := hide hu
  have bR := (unhide HR).keep hb
  replace HB := hide ((unhide HB).trans (hb.mono (unhide HB).size))
  have hz2 := hb.size
  obtain ⟨a2, d2, rfl, hv⟩ := open_Write R.reads
  have HL := hide R
  have HV := hide (Lay.ints_reads hv)
  clear hb LR hu R HR hv
  cases ok with
  | false =>
    have HP : Hid (parseM s.data.toList = ⟨5, zeroW⟩) := by
      show parseM s.data.toList = ⟨5, zeroW⟩
      rw [parseM, unhide HU]
      simp
    have nb : Below w2.heap.size w2 (w2.alloc (.cells #[.int .i64 x.kind, .int .i64 x.id, .slice a2 x.vec.length d2, .int .i64 x.session, .int .i64 x.seq] 29)) := (Below.refl _ _).alloc (Nat.le_refl _) _
    replace bR := bR.keep nb
    replace HB := hide ((unhide HB).trans (nb.mono (unhide HB).size))
    have r0 := bR.at 0 _ rfl
    have r1 := bR.at 1 _ rfl
    have r2 := bR.at 2 _ rfl
    have r3 := bR.at 3 _ rfl
    have r4 := bR.at 4 _ rfl
    have r5 := bR.at 5 _ rfl
    have rf := bR.soft
    have hR1 := bR.lt
    clear bR nb HL HV HU
    simp only [List.getElem_toArray, List.getElem_cons_zero, List.getElem_cons_succ] at r0 r1 r2 r3 r4 r5
    go_wp2_with fail
    refine bodyPost_ret (v := .agg #[.int .i64 5, .int .i64 0, .int .i64 0, .slice none 0 0, .int .i64 0, .int .i64 0]) (by simp [results, Tryd.results11, go_sem, r0, r1, r2, r3, r4, r5]) rfl ?_
    rw [unhide HP]
    exact ⟨[.int .i64 5, .int .i64 0, .int .i64 0, .slice none 0 0, .int .i64 0, .int .i64 0], rfl, (own_badW rfl (lo := 0) (hi := 0)).reads, below_setAll (unhide HB) w.heap.size 0 [.int .i64 5, .int .i64 0, .int .i64 0, .slice none 0 0, .int .i64 0, .int .i64 0] (Nat.le_refl _)⟩
  | true =>
    have nb : Below w2.heap.size w2 (w2.alloc (.cells #[.int .i64 x.kind, .int .i64 x.id, .slice a2 x.vec.length d2, .int .i64 x.session, .int .i64 x.seq] 29)) := (Below.refl _ _).alloc (Nat.le_refl _) _
    have bX : Box 0 #[.int .i64 x.kind, .int .i64 x.id, .slice a2 x.vec.length d2, .int .i64 x.session, .int .i64 x.seq] 29 (w2.alloc (.cells #[.int .i64 x.kind, .int .i64 x.id, .slice a2 x.vec.length d2, .int .i64 x.session, .int .i64 x.seq] 29)) w2.heap.size := newBox (Nat.zero_le _)
    have LT := hide (l3Text w2.heap.size x.kind x.id (.slice a2 x.vec.length d2) x.session x.seq x.vec _ ⟨bX.at 0 _ rfl, bX.at 1 _ rfl, bX.at 2 _ rfl, bX.at 3 _ rfl, bX.at 4 _ rfl⟩ ((unhide HV).later nb) (readM_fault (unhide HU)))
    simp only [str] at LT
    have HL1 := hide ((unhide HL).later nb)
    replace bR := bR.keep nb
    replace HB := hide ((unhide HB).trans (nb.mono (unhide HB).size))
    have HX := hide bX
    have HR := hide bR
    clear nb bX bR HL HV
    go_wp2_with fail
    generalize w2.alloc (.cells #[.int .i64 x.kind, .int .i64 x.id, .slice a2 x.vec.length d2, .int .i64 x.session, .int .i64 x.seq] 29) = W2 at *
    refine (unhide LT).mono ?_
    rintro e w3 ⟨rfl, hb⟩
    have bX := (unhide HX).keep hb
    have bR := (unhide HR).keep hb
    have HL3 := hide ((unhide HL1).later hb)
    replace HB := hide ((unhide HB).trans (hb.mono (unhide HB).size))
    have x0 := bX.at 0 _ rfl
    have x1 := bX.at 1 _ rfl
    have x2 := bX.at 2 _ rfl
    have x3 := bX.at 3 _ rfl
    have x4 := bX.at 4 _ rfl
    have r0 := bR.at 0 _ rfl
    have r1 := bR.at 1 _ rfl
    have r2 := bR.at 2 _ rfl
    have r3 := bR.at 3 _ rfl
    have r4 := bR.at 4 _ rfl
    have r5 := bR.at 5 _ rfl
    have rf := bR.soft
    have hR1 := bR.lt
    clear hb bX bR HX HR HL1 LT
    simp only [List.getElem_toArray, List.getElem_cons_zero, List.getElem_cons_succ] at x0 x1 x2 x3 x4 r0 r1 r2 r3 r4 r5
    have HP : Hid (parseM s.data.toList = if writeText x.kind x.id x.vec x.session x.seq = s.data.toList then ⟨0, x⟩ else ⟨5, zeroW⟩) := by
      show parseM s.data.toList = _
      rw [parseM, unhide HU]
      rfl
    clear HU
    generalize writeText x.kind x.id x.vec x.session x.seq = tx at *
    by_cases heq : tx = s.data.toList
    · have e1 : (tx == s.toList) = true := by rw [toList_data]; simpa using heq
      have e2 : (tx != s.toList) = false := by simp [bne, e1]
      have HP2 : Hid (parseM s.data.toList = ⟨0, x⟩) := (unhide HP).trans (if_pos heq)
      clear HP heq
      go_wp2_with fail
      refine bodyPost_ret (v := .agg #[.int .i64 0, .int .i64 x.kind, .int .i64 x.id, .slice a2 x.vec.length d2, .int .i64 x.session, .int .i64 x.seq]) (by simp [results, Tryd.results11, go_sem, r0, r1, r2, r3, r4, r5]) rfl ?_
      rw [unhide HP2]
      exact storeW (vs := [.int .i64 0, .int .i64 x.kind, .int .i64 x.id, .slice a2 x.vec.length d2, .int .i64 x.session, .int .i64 x.seq]) (unhide HL3) (by omega) (unhide HB)
    · have e1 : (tx == s.toList) = false := by rw [toList_data, beq_eq_false_iff_ne]; exact heq
      have e2 : (tx != s.toList) = true := by simp [bne, e1]
      have HP2 : Hid (parseM s.data.toList = ⟨5, zeroW⟩) := (unhide HP).trans (if_neg heq)
      clear HP heq
      go_wp2_with fail
      refine bodyPost_ret (v := .agg #[.int .i64 5, .int .i64 0, .int .i64 0, .slice none 0 0, .int .i64 0, .int .i64 0]) (by simp [results, Tryd.results11, go_sem, r0, r1, r2, r3, r4, r5]) rfl ?_
      rw [unhide HP2]
      exact ⟨[.int .i64 5, .int .i64 0, .int .i64 0, .slice none 0 0, .int .i64 0, .int .i64 0], rfl, (own_badW rfl (lo := 0) (hi := 0)).reads, below_setAll (unhide HB) w.heap.size 0 [.int .i64 5, .int .i64 0, .int .i64 0, .slice none 0 0, .int .i64 0, .int .i64 0] (Nat.le_refl _)⟩

end Go.Proofs.YtjfplfhdfiebgaaDoor

namespace Go.Proofs.YtjfplfhdfiebgaaDoor

/-- Pieces with a blank between two. -/
def joinS : List Bytes → Bytes
  | [] => []
  | [a] => a
  | a :: b :: r => a ++ 32 :: joinS (b :: r)

theorem cutS_ne (acc l : Bytes) : cutS acc l ≠ [] := by
  induction l generalizing acc with
  | nil => simp [cutS]
  | cons c r ih =>
    rw [cutS]
    split
    · simp
    · exact ih _

theorem joinS_cons (a : Bytes) {m : List Bytes} (h : m ≠ []) : joinS (a :: m) = a ++ 32 :: joinS m := by
  cases m with
  | nil => exact absurd rfl h
  | cons b r => rfl

theorem cutS_join (acc l : Bytes) : joinS (cutS acc l) = acc ++ l := by
  induction l generalizing acc with
  | nil => simp [cutS, joinS]
  | cons c r ih =>
    rw [cutS]
    split
    · next h =>
      have hc : c = 32 := UInt8.toNat_inj.1 h
      rw [joinS_cons acc (cutS_ne [] r), ih [], hc]
      rfl
    · rw [ih]
      simp

end Go.Proofs.YtjfplfhdfiebgaaDoor

namespace Go.Proofs.YtjfplfhdfiebgaaDoor

theorem tail_parts {k : Int} {zs : List Int} {a b c : Bytes} (h : tailOk k zs a b c = true) : dec (numR a).1 = a ∧ dec (numR b).1 = b ∧ dec (numR c).1 = c ∧ writeFault k (numR a).1 zs (numR b).1 (numR c).1 = 0 := by
  unfold tailOk at h
  simp only [Bool.and_eq_true, beq_iff_eq] at h
  exact ⟨numR_true h.1.1.1, numR_true h.1.1.2, numR_true h.1.2, h.2⟩

theorem modelP_text {l : Bytes} {zs : List Int} (h : modelP l = some zs) : vecText zs = l := by
  rw [modelP_eq] at h
  cases hp : PP 3 (0, 0, 0) l with
  | none => rw [hp] at h; cases h
  | some t =>
    obtain ⟨x, y, z⟩ := t
    rw [hp] at h
    obtain rfl : [x, y, z] = zs := by simpa using h
    obtain ⟨e, bx, bY, bz⟩ := PP_some hp
    rw [vecText, if_pos (fault3_zero bx bY bz), e]
    simp [text3]

theorem readM_text {l : List Bytes} {x : DWrite} (h : readM l = some x) : writeText x.kind x.id x.vec x.session x.seq = joinS l := by
  unfold readM at h
  split at h
  · next c0 c1 c2 c3 c4 c5 =>
    unfold readPut at h
    split at h
    · next hc =>
      obtain ⟨rfl, rfl⟩ := hc
      split at h
      · cases h
      · next zs hm =>
        split at h
        · next ht =>
          cases h
          obtain ⟨e1, e2, e3, hf⟩ := tail_parts ht
          show writeText 1 (numR c1).1 zs (numR c4).1 (numR c5).1 = _
          rw [writeText, if_pos hf, writeTail, writeHead, if_pos rfl, modelP_text hm, e1, e2, e3]
          simp [joinS]
        · cases h
    · cases h
  · next c0 c1 c2 c3 c4 =>
    unfold readDrop at h
    split at h
    · next hc =>
      obtain ⟨rfl, rfl⟩ := hc
      split at h
      · next ht =>
        cases h
        obtain ⟨e1, e2, e3, hf⟩ := tail_parts ht
        show writeText 2 (numR c1).1 [] (numR c3).1 (numR c4).1 = _
        rw [writeText, if_pos hf, writeTail, writeHead, if_neg (by omega), e1, e2, e3]
        simp [joinS]
      · cases h
    · cases h
  · cases h

/-- What the model's ParseWrite tells, without its question for the text. -/
theorem parseM_eq (l : Bytes) : parseM l = match readM (cutS [] l) with | none => ⟨5, zeroW⟩ | some x => ⟨0, x⟩ := by
  unfold parseM
  cases h : readM (cutS [] l) with
  | none => rfl
  | some x =>
    have ht := readM_text h
    rw [cutS_join] at ht
    exact if_pos ht

end Go.Proofs.YtjfplfhdfiebgaaDoor

namespace Go.Proofs.YtjfplfhdfiebgaaDoor
open Go

/-- As Q; by a goto to label l: J l. -/
def jumps (J : Nat → Act → World → Prop) (Q : Exit → Act → World → Prop) : Exit → Act → World → Prop
  | .goto l, a, w => J l a w
  | e, a, w => Q e a w

theorem wp_scope_five {P : Program} {a : Act} {w : World} {Q : Exit → Act → World → Prop} {c r0 r1 r2 r3 r4 : Code} (J : Nat → Act → World → Prop) (μ : Nat → Act → World → Nat)
    (f0 : findLabel c 0 = some r0) (f1 : findLabel c 1 = some r1) (f2 : findLabel c 2 = some r2) (f3 : findLabel c 3 = some r3) (f4 : findLabel c 4 = some r4)
    (hJ : ∀ l a w, J l a w → l < 5) (first : c.wp P (jumps J Q) a w)
    (p0 : ∀ a w, J 0 a w → r0.wp P (jumps (fun l a' w' => J l a' w' ∧ μ l a' w' < μ 0 a w) Q) a w)
    (p1 : ∀ a w, J 1 a w → r1.wp P (jumps (fun l a' w' => J l a' w' ∧ μ l a' w' < μ 1 a w) Q) a w)
    (p2 : ∀ a w, J 2 a w → r2.wp P (jumps (fun l a' w' => J l a' w' ∧ μ l a' w' < μ 2 a w) Q) a w)
    (p3 : ∀ a w, J 3 a w → r3.wp P (jumps (fun l a' w' => J l a' w' ∧ μ l a' w' < μ 3 a w) Q) a w)
    (p4 : ∀ a w, J 4 a w → r4.wp P (jumps (fun l a' w' => J l a' w' ∧ μ l a' w' < μ 4 a w) Q) a w) : (Code.scope c).wp P Q a w := by
  intro b k cs
  have pass : ∀ l a w, J l a w → ∃ rest, findLabel c l = some rest ∧ rest.wp P (jumps (fun l' a' w' => J l' a' w' ∧ μ l' a' w' < μ l a w) Q) a w := by
    intro l a w h
    have hl := hJ l a w h
    rcases (show l = 0 ∨ l = 1 ∨ l = 2 ∨ l = 3 ∨ l = 4 by omega) with rfl | rfl | rfl | rfl | rfl
    · exact ⟨r0, f0, p0 a w h⟩
    · exact ⟨r1, f1, p1 a w h⟩
    · exact ⟨r2, f2, p2 a w h⟩
    · exact ⟨r3, f3, p3 a w h⟩
    · exact ⟨r4, f4, p4 a w h⟩
  have hg : ∀ l rest, findLabel c l = some rest → gotoIn l (.inScope c :: k) = some (.code rest :: .inScope c :: k) := fun l rest hf => by simp [gotoIn, hf]
  have key : ∀ n l rest a w, μ l a w = n → J l a w → findLabel c l = some rest → ∃ e a' w', Q e a' w' ∧ Arrives P (lone (b.at a (.code rest :: .inScope c :: k)) cs w) b k cs e a' w' := by
    intro n
    induction n using Nat.strongRecOn with
    | _ n ih =>
      intro l rest a w hn hj hf
      obtain ⟨rest', hf', hwp⟩ := pass l a w hj
      rw [hf] at hf'
      obtain rfl := Option.some.inj hf'
      obtain ⟨e, a₁, w₁, hq, harr⟩ := hwp b (.inScope c :: k) cs
      cases e with
      | normal => exact ⟨.normal, a₁, w₁, hq, Steps.trans harr (.one step_inScope)⟩
      | exit id => exact ⟨.exit id, a₁, w₁, hq, fun k' hk => harr k' (by simp [exitTo, hk])⟩
      | goto l' =>
        obtain ⟨hJ', hlt⟩ := hq
        obtain ⟨rest2, hf2, _⟩ := pass l' a₁ w₁ hJ'
        obtain ⟨e₂, a₂, w₂, hq₂, harr₂⟩ := ih _ (by omega) l' rest2 a₁ w₁ rfl hJ' hf2
        exact ⟨e₂, a₂, w₂, hq₂, .of_steps (harr _ (hg _ _ hf2)) harr₂⟩
      | ret => exact ⟨_, a₁, w₁, hq, harr⟩
      | panic ch => exact ⟨_, a₁, w₁, hq, harr⟩
      | outgrown => exact ⟨_, a₁, w₁, hq, harr⟩
  obtain ⟨e, a₁, w₁, hq, harr⟩ := first b (.inScope c :: k) cs
  cases e with
  | normal => exact ⟨.normal, a₁, w₁, hq, .head step_scope (Steps.trans harr (.one step_inScope))⟩
  | exit id => exact ⟨.exit id, a₁, w₁, hq, fun k' hk => .head step_scope (harr k' (by simp [exitTo, hk]))⟩
  | goto l' =>
    obtain ⟨rest2, hf2, _⟩ := pass l' a₁ w₁ hq
    obtain ⟨e₂, a₂, w₂, hq₂, harr₂⟩ := key _ l' rest2 a₁ w₁ rfl hq hf2
    exact ⟨e₂, a₂, w₂, hq₂, .of_steps (.head step_scope (harr _ (hg _ _ hf2))) harr₂⟩
  | ret => exact ⟨_, a₁, w₁, hq, .of_steps (.one step_scope) harr⟩
  | panic ch => exact ⟨_, a₁, w₁, hq, .of_steps (.one step_scope) harr⟩
  | outgrown => exact ⟨_, a₁, w₁, hq, .of_steps (.one step_scope) harr⟩

end Go.Proofs.YtjfplfhdfiebgaaDoor
