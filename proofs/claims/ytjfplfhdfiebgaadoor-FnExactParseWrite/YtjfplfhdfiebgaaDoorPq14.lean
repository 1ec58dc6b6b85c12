/-
  Texts of this proof in one: SplitPlain, Shelf, ImplRead, LawXParseWrite, ImplPW, LawPW.
  Their conditions stand in their theorems.
-/
import Derived.Test.YtjfplfhdfiebgaaDoorPq04
import Derived.Lib.SplitLaws
import Derived.Shelf.LaysM
import Derived.Shelf.Strings.SplitShaped
import Derived.Test.YtjfplfhdfiebgaaDoorProg
import Derived.Test.YtjfplfhdfiebgaaDoorPq12
import Derived.Test.YtjfplfhdfiebgaaDoorPq13
import Derived.ChangeAgain
import Derived.Test.YtjfplfhdfiebgaaDoorChecked
import Derived.Test.YtjfplfhdfiebgaaDoorPq01
import Derived.Test.YtjfplfhdfiebgaaDoorPq02
import Derived.Test.YtjfplfhdfiebgaaDoorPq03
import Derived.Test.YtjfplfhdfiebgaaDoorPq08

namespace Go.Proofs.YtjfplfhdfiebgaaDoor
open Go.RowKit

theorem index_blank : ∀ l : List UInt8, (Lib.index l [32] = -1 ∧ l.count 32 = 0) ∨ ∃ i : Nat, Lib.index l [32] = i ∧ i < l.length ∧ l.count 32 = (l.drop (i + 1)).count 32 + 1
  | [] => Or.inl ⟨rfl, rfl⟩
  | c :: r => by
    by_cases h : c = 32
    · subst h
      exact Or.inr ⟨0, by simp [Lib.index], by simp, by simp⟩
    · have hp : ([32] : List UInt8).isPrefixOf (c :: r) = false := by
        simp [List.isPrefixOf]
        exact fun e => h e.symm
      rcases index_blank r with ⟨h1, h2⟩ | ⟨i, h1, h2, h3⟩
      · exact Or.inl ⟨by simp [Lib.index, hp, h1], by simp [h2, h]⟩
      · refine Or.inr ⟨i + 1, ?_, by simp; omega, ?_⟩
        · have : ¬ (Lib.index r [32] == -1) = true := fun e => by have := beq_iff_eq.1 e; omega
          simp only [Lib.index, hp]
          rw [if_neg (by simp), if_neg this, h1]
          simp
        · rw [List.count_cons_of_ne h]
          simpa using h3
theorem cutS_index : ∀ (l acc : List UInt8), cutS acc l = if Lib.index l [32] = -1 then [acc ++ l] else (acc ++ l.take (Lib.index l [32]).toNat) :: cutS [] (l.drop ((Lib.index l [32]).toNat + 1))
  | [], acc => by simp [cutS, Lib.index]
  | c :: r, acc => by
    by_cases h : c = 32
    · subst h
      have : Lib.index ((32 : UInt8) :: r) [32] = 0 := by simp [Lib.index]
      rw [this, if_neg (by decide), cutS, if_pos (by decide)]
      simp
    · have hn : ¬ c.toNat = 32 := fun e => h (by apply UInt8.toNat_inj.1; simpa using e)
      have hp : ([32] : List UInt8).isPrefixOf (c :: r) = false := by
        simp [List.isPrefixOf]
        exact fun e => h e.symm
      rw [cutS, if_neg hn, cutS_index r (acc ++ [c])]
      by_cases h1 : Lib.index r [32] = -1
      · have : Lib.index (c :: r) [32] = -1 := by simp [Lib.index, hp, h1]
        rw [if_pos h1, if_pos this]
        simp
      · have hge := Lib.index_ge r [32]
        have : Lib.index (c :: r) [32] = Lib.index r [32] + 1 := by
          have hb : ¬ (Lib.index r [32] == -1) = true := fun e => h1 (beq_iff_eq.1 e)
          simp only [Lib.index, hp]
          rw [if_neg (by simp), if_neg hb]
        rw [if_neg h1, if_neg (by omega), this]
        obtain ⟨i, hi⟩ := Int.eq_ofNat_of_zero_le (show 0 ≤ Lib.index r [32] by omega)
        rw [hi]
        simp
theorem splitK_blank : ∀ (k : Nat) (l : List UInt8), l.count 32 ≤ k → Lib.splitK [32] 0 k l = cutS [] l
  | 0, l, h => by
    rcases index_blank l with ⟨h1, -⟩ | ⟨i, -, -, h3⟩
    · rw [cutS_index, if_pos h1]; rfl
    · omega
  | k + 1, l, h => by
    rw [cutS_index, Lib.splitK]
    rcases index_blank l with ⟨h1, -⟩ | ⟨i, h1, h2, h3⟩
    · rw [if_pos (by rw [h1]; rfl), if_pos h1]; rfl
    · have hb : ¬ (Lib.index l [32] == -1) = true := fun e => by have := beq_iff_eq.1 e; omega
      rw [if_neg hb, if_neg (by omega), h1]
      have := splitK_blank k (l.drop (i + 1)) (by omega)
      simp only [Int.toNat_natCast, Nat.add_zero, List.nil_append, List.length_singleton]
      rw [this]
theorem split_words (s : ByteArray) : (Lib.splitB ⟨#[32]⟩ 0 (Lib.countB s ⟨#[32]⟩) s).map (·.data.toList) = cutS [] s.data.toList := by
  rw [Lib.splitB_data]
  refine splitK_blank _ _ ?_
  show _ ≤ Lib.count s.data.toList [32]
  rw [Lib.count_one]
  exact Nat.le_refl _

end Go.Proofs.YtjfplfhdfiebgaaDoor

namespace Go.Proofs
open Go.Shelf
def Tryd.laysM146_ren : Go.Shelf.Ren := ⟨fun | 146 => 48 | 221 => 60 | 268 => 72 | 138 => 73 | 143 => 74 | 195 => 81 | 197 => 82 | 218 => 83 | 219 => 84 | 260 => 87 | 217 => 88 | 225 => 89 | 224 => 90 | 267 => 91 | 266 => 92 | 314 => 93 | n => n, fun | 9 => 9 | 31 => 49 | 3 => 3 | 4 => 4 | 0 => 0 | 105 => 121 | 21 => 21 | 5 => 5 | 46 => 118 | 119 => 127 | 139 => 130 | 138 => 129 | 146 => 131 | 51 => 115 | n => n, fun | 1 => 1 | 3 => 4 | 4 => 5 | n => n⟩
theorem Tryd.laysM146 : Go.Proofs.LaysM.n146 Tryd.prog Tryd.laysM146_ren := {
  mixed := by kernel_rfl
  f138 := Tryd.func73.trans (congrArg some (by kernel_rfl))
  f143 := Tryd.func74.trans (congrArg some (by kernel_rfl))
  f146 := Tryd.func48.trans (congrArg some (by kernel_rfl))
  f195 := Tryd.func81.trans (congrArg some (by kernel_rfl))
  f197 := Tryd.func82.trans (congrArg some (by kernel_rfl))
  f217 := Tryd.func88.trans (congrArg some (by kernel_rfl))
  f218 := Tryd.func83.trans (congrArg some (by kernel_rfl))
  f219 := Tryd.func84.trans (congrArg some (by kernel_rfl))
  f221 := Tryd.func60.trans (congrArg some (by kernel_rfl))
  f224 := Tryd.func90.trans (congrArg some (by kernel_rfl))
  f225 := Tryd.func89.trans (congrArg some (by kernel_rfl))
  f260 := Tryd.func87.trans (congrArg some (by kernel_rfl))
  f266 := Tryd.func92.trans (congrArg some (by kernel_rfl))
  f267 := Tryd.func91.trans (congrArg some (by kernel_rfl))
  f268 := Tryd.func72.trans (congrArg some (by kernel_rfl))
  f314 := Tryd.func93.trans (congrArg some (by kernel_rfl))
  t0 := Tryd.underlying0
  a0 := Tryd.isAgg0
  z0 := Tryd.sizeOf0
  v0 := Tryd.zeroValue0
  t3 := Tryd.underlying3
  a3 := Tryd.isAgg3
  z3 := Tryd.sizeOf3
  v3 := Tryd.zeroValue3
  t4 := Tryd.underlying4
  a4 := Tryd.isAgg4
  z4 := Tryd.sizeOf4
  v4 := Tryd.zeroValue4
  t5 := Tryd.underlying5
  a5 := Tryd.isAgg5
  z5 := Tryd.sizeOf5
  v5 := Tryd.zeroValue5
  t9 := Tryd.underlying9
  a9 := Tryd.isAgg9
  z9 := Tryd.sizeOf9
  v9 := Tryd.zeroValue9
  t21 := Tryd.underlying21
  a21 := Tryd.isAgg21
  z21 := Tryd.sizeOf21
  v21 := Tryd.zeroValue21
  t31 := Tryd.underlying49
  a31 := Tryd.isAgg49
  z31 := Tryd.sizeOf49
  v31 := Tryd.zeroValue49
  t46 := Tryd.underlying118
  a46 := Tryd.isAgg118
  z46 := Tryd.sizeOf118
  v46 := Tryd.zeroValue118
  t51 := Tryd.underlying115
  a51 := Tryd.isAgg115
  z51 := Tryd.sizeOf115
  v51 := Tryd.zeroValue115
  t105 := Tryd.underlying121
  a105 := Tryd.isAgg121
  z105 := Tryd.sizeOf121
  v105 := Tryd.zeroValue121
  t119 := Tryd.underlying127
  a119 := Tryd.isAgg127
  z119 := Tryd.sizeOf127
  t138 := Tryd.underlying129
  a138 := Tryd.isAgg129
  z138 := Tryd.sizeOf129
  v138 := Tryd.zeroValue129
  t139 := Tryd.underlying130
  a139 := Tryd.isAgg130
  z139 := Tryd.sizeOf130
  v139 := Tryd.zeroValue130
  t146 := Tryd.underlying131
  a146 := Tryd.isAgg131
  z146 := Tryd.sizeOf131
  v146 := Tryd.zeroValue131
  g1 := by kernel_rfl
  g3 := by kernel_rfl
  g4 := by kernel_rfl
  i0 := by kernel_rfl
  i3 := by kernel_rfl
  i4 := by kernel_rfl
  i5 := by kernel_rfl
  i9 := by kernel_rfl
  i21 := by kernel_rfl
  i31 := by kernel_rfl
  i46 := by kernel_rfl
  i51 := by kernel_rfl
  i105 := by kernel_rfl
  i138 := by kernel_rfl
  i139 := by kernel_rfl
  i146 := by kernel_rfl
  m1 := by kernel_rfl
  s1_3 := fun w h => Go.Proofs.cell_of_shapedOpen_int (zero := #[.int .i64 0]) (t := 3) h (of_decide_eq_true (by kernel_rfl)) (by kernel_rfl) rfl (by kernel_rfl) (by kernel_rfl) Tryd.underlying3
  m3 := by kernel_rfl
  m4 := by kernel_rfl }
open Go.RowKit Go.Lib in
theorem Tryd.strings_Split_shaped (s sep : ByteArray) (w : World) (h : w.ShapedOpen Tryd.prog) (hs : s.size < 4294967281) (h1 : 1 ≤ sep.size) :
    Calls Tryd.prog 48 #[.string s, .string sep] w fun e w' =>
      e = .returned (.slice (some ⟨w.heap.size, 0, none⟩) (Lib.countB s sep + 1) (Lib.countB s sep + 1)) ∧ w' = w.alloc (.cells ((Lib.splitB sep 0 (Lib.countB s sep) s).map Value.string).toArray 9) := Any.strings_Split_shaped Tryd.laysM146 s sep w h hs h1
end Go.Proofs

namespace Go.Proofs.YtjfplfhdfiebgaaDoor
open Go.RowKit

def Shp (w : World) : Prop := w.ShapedOpen Tryd.prog
theorem Shp.later {W W' : World} (h : Shp W) (hb : Below W.heap.size W W') : Shp W' := World.ShapedOpen.keptBut h (hb.frame (fun _ => False)) (fun _ hp => hp.elim)

theorem readI_other {l : List Bytes} (h5 : l.length ≠ 5) (h6 : l.length ≠ 6) : readI l = none := by
  unfold readI
  split
  · exact absurd rfl h6
  · exact absurd rfl h5
  · rfl
theorem readI_five {c0 c1 c2 c3 c4 : Bytes} (h : ¬ (c0 = [100, 114, 111, 112] ∧ c2 = [98, 121])) : readI [c0, c1, c2, c3, c4] = none := if_neg h
theorem readI_six {c0 c1 c2 c3 c4 c5 : Bytes} (h : ¬ (c0 = [112, 117, 116] ∧ c3 = [98, 121])) : readI [c0, c1, c2, c3, c4, c5] = none := if_neg h
theorem readI_drop' (c0 c1 c2 c3 c4 : Bytes) : readI [c0, c1, c2, c3, c4] = if c0 = [100, 114, 111, 112] ∧ c2 = [98, 121] then (if tailI 2 [] c1 c3 c4 = true then some (tailX 2 [] c1 c3 c4) else none) else none := rfl
theorem readI_put' (c0 c1 c2 c3 c4 c5 : Bytes) : readI [c0, c1, c2, c3, c4, c5] = if c0 = [112, 117, 116] ∧ c3 = [98, 121] then (match PP 3 (0, 0, 0) c2 with | none => none | some t => if tailI 1 [t.1, t.2.1, t.2.2] c1 c4 c5 = true then some (tailX 1 [t.1, t.2.1, t.2.2] c1 c4 c5) else none) else none := rfl
theorem readI_drop {c1 c3 c4 : Bytes} : readI [[100, 114, 111, 112], c1, [98, 121], c3, c4] = if tailI 2 [] c1 c3 c4 = true then some (tailX 2 [] c1 c3 c4) else none := (readI_drop' _ _ _ _ _).trans (if_pos ⟨rfl, rfl⟩)
theorem readI_put {c1 c2 c4 c5 : Bytes} : readI [[112, 117, 116], c1, c2, [98, 121], c4, c5] = (match PP 3 (0, 0, 0) c2 with | none => none | some t => if tailI 1 [t.1, t.2.1, t.2.2] c1 c4 c5 = true then some (tailX 1 [t.1, t.2.1, t.2.2] c1 c4 c5) else none) := (readI_put' _ _ _ _ _ _).trans (if_pos ⟨rfl, rfl⟩)
theorem five {bs : List ByteArray} (h : bs.length = 5) : ∃ a b c d e, bs = [a, b, c, d, e] := by
  match bs, h with
  | [a, b, c, d, e], _ => exact ⟨a, b, c, d, e, rfl⟩
theorem six {bs : List ByteArray} (h : bs.length = 6) : ∃ a b c d e f, bs = [a, b, c, d, e, f] := by
  match bs, h with
  | [a, b, c, d, e, f], _ => exact ⟨a, b, c, d, e, f, rfl⟩

def ToldRW (l : List Bytes) (w : World) (e : Ending) (w' : World) : Prop := ∃ (k i : Int) (a : Option Addr) (n c : Nat) (ss q : Int) (ok : Bool), e = .returned (.tuple #[.agg #[.int .i64 k, .int .i64 i, .slice a n c, .int .i64 ss, .int .i64 q], .bool ok]) ∧ (ok = true → ∃ x, readI l = some x ∧ Lay.tWrite.OwnIn w' [.int .i64 k, .int .i64 i, .slice a n c, .int .i64 ss, .int .i64 q] x w.heap.size w'.heap.size) ∧ (ok = false → readI l = none) ∧ Below w.heap.size w w'

theorem readW_bs (s : ByteArray) (bs : List ByteArray) (w : World)
    (hsp : ∀ W : World, W = w.alloc (.cells #[.int .i64 0, .int .i64 0, .slice none 0 0, .int .i64 0, .int .i64 0] 29) → Calls Tryd.prog 48 #[.string s, .string ⟨#[32]⟩] W fun e w' => e = .returned (.slice (some ⟨W.heap.size, 0, none⟩) bs.length bs.length) ∧ w' = W.alloc (.cells (bs.map Value.string).toArray 9))
    (hz : ∀ b ∈ bs, b.size ≤ 1048576) (hn : bs.length ≤ 1048577) :
    Calls Tryd.prog 27 #[.string s] w (ToldRW (bs.map (·.data.toList)) w) := by
  by_cases h3 : bs.length < 3
  · rcases bs with _ | ⟨b0, _ | ⟨b1, _ | ⟨b2, bs⟩⟩⟩
    · exact readW_0 s _ w hsp rfl
    · exact readW_1 s b0 _ w hsp rfl
    · exact readW_2 s b0 b1 _ w hsp rfl
    · simp only [List.length_cons] at h3
      omega
  obtain ⟨m, hm⟩ : ∃ m, bs.length = m + 3 := ⟨bs.length - 3, by omega⟩
  rw [hm] at hsp
  obtain ⟨t, ht⟩ : ∃ t, bs[m]? = some t := ⟨bs[m]'(by omega), List.getElem?_eq_getElem _⟩
  by_cases hb : t.data.toList = [98, 121]
  · obtain rfl : t = ⟨#[98, 121]⟩ := ba_eq hb
    by_cases h5 : m = 2
    · subst h5
      obtain ⟨d, a, t2, b, c, rfl⟩ := five hm
      obtain rfl : t2 = ⟨#[98, 121]⟩ := Option.some.inj ht
      by_cases hd : d.data.toList = [100, 114, 111, 112]
      · obtain rfl : d = ⟨#[100, 114, 111, 112]⟩ := ba_eq hd
        exact readW_drop s _ a b c _ w hsp (hz _ (by simp)) (hz _ (by simp)) (hz _ (by simp)) readI_drop (fun W hB => readDeed_drop _ _ W (hB.at 0 _ rfl))
      · exact readW_dno s _ 2 _ w hsp (readI_five fun h => hd h.1) (by omega) ht (fun W hB => (readDeed_ndrop _ _ d W (hB.at 0 _ rfl) (by rw [toList_data]; simpa using hd)).mono (fun e w' h => ⟨_, h.1, h.2⟩))
    · by_cases h6 : m = 3
      · subst h6
        obtain ⟨d, a, v, t2, b, c, rfl⟩ := six hm
        obtain rfl : t2 = ⟨#[98, 121]⟩ := Option.some.inj ht
        by_cases hd : d.data.toList = [112, 117, 116]
        · obtain rfl : d = ⟨#[112, 117, 116]⟩ := ba_eq hd
          cases hP : PP 3 (0, 0, 0) v.data.toList with
          | none =>
            refine readW_dno s _ 3 _ w hsp (readI_put.trans (by rw [hP])) (by omega) ht (fun W hB => (readDeed_put _ _ v W (hB.at 0 _ rfl) (hB.at 2 _ rfl) (hz _ (by simp))).mono (fun e w' h => ⟨putV 0 0 0, ?_, h.2⟩))
            rw [h.1, show rest v 0 = v.data.toList from rfl, hP]
            rfl
          | some T =>
            obtain ⟨p, q, r⟩ := T
            obtain ⟨-, b1, b2, b3⟩ := PP_some hP
            refine readW_put s _ a v b c p q r _ w hsp ?_ (hz _ (by simp)) (hz _ (by simp)) (hz _ (by simp)) (readI_put.trans (by rw [hP])) (fun W hB => (readDeed_put _ _ v W (hB.at 0 _ rfl) (hB.at 2 _ rfl) (hz _ (by simp))).mono (fun e w' h => ⟨?_, h.2⟩))
            · intro z hz
              simp only [List.mem_cons, List.not_mem_nil, or_false] at hz
              rcases hz with rfl | rfl | rfl
              · exact wf_of_bd (by omega)
              · exact wf_of_bd (by omega)
              · exact wf_of_bd (by omega)
            · rw [h.1, show rest v 0 = v.data.toList from rfl, hP]
              rfl
        · exact readW_dno s _ 3 _ w hsp (readI_six fun h => hd h.1) (by omega) ht (fun W hB => (readDeed_nput _ _ d W (hB.at 0 _ rfl) (by rw [toList_data]; simpa using hd)).mono (fun e w' h => ⟨_, h.1, h.2⟩))
      · exact readW_dno s bs m _ w hsp (readI_other (by rw [List.length_map]; omega) (by rw [List.length_map]; omega)) (by omega) ht (fun W hB => (readDeed_no _ _ _ W (by simp only [beq_eq_false_iff_ne]; omega) (by simp only [beq_eq_false_iff_ne]; omega)).mono (fun e w' h => ⟨_, h.1, h.2⟩))
  · refine readW_nby s bs m t _ w hsp ?_ (by omega) ht hb
    by_cases h5 : m = 2
    · subst h5
      obtain ⟨d, a, t2, b, c, rfl⟩ := five hm
      obtain rfl : t2 = t := Option.some.inj ht
      exact readI_five fun h => hb h.2
    · by_cases h6 : m = 3
      · subst h6
        obtain ⟨d, a, v, t2, b, c, rfl⟩ := six hm
        obtain rfl : t2 = t := Option.some.inj ht
        exact readI_six fun h => hb h.2
      · exact readI_other (by rw [List.length_map]; omega) (by rw [List.length_map]; omega)

theorem cutS_le : ∀ (l acc c : Bytes), c ∈ cutS acc l → c.length ≤ acc.length + l.length
  | [], acc, c, h => by
    simp only [cutS, List.mem_singleton] at h
    subst h
    simp
  | d :: r, acc, c, h => by
    rw [cutS] at h
    split at h
    · rcases List.mem_cons.1 h with rfl | h
      · simp
      · have := cutS_le r [] c h
        simp only [List.length_nil, List.length_cons] at *
        omega
    · have := cutS_le r _ c h
      simp only [List.length_append, List.length_cons, List.length_nil] at *
      omega
theorem cutS_few : ∀ (l acc : Bytes), (cutS acc l).length ≤ l.length + 1
  | [], acc => by simp [cutS]
  | d :: r, acc => by
    rw [cutS]
    split
    · have := cutS_few r []
      simp only [List.length_cons]
      omega
    · have := cutS_few r (acc ++ [d])
      simp only [List.length_cons]
      omega

/-- readWrite of the program. -/
theorem readWriteC (s : ByteArray) (w : World) (hs : s.size ≤ 1048576) (hsh : Shp w) :
    Calls Tryd.prog 27 #[.string s] w (ToldRW (cutS [] s.data.toList) w) := by
  have hw := split_words s
  have hlen := Lib.splitB_all ⟨#[32]⟩ (by decide) 0 (Lib.countB s ⟨#[32]⟩) s rfl
  have hsp : ∀ W : World, W = w.alloc (.cells #[.int .i64 0, .int .i64 0, .slice none 0 0, .int .i64 0, .int .i64 0] 29) → Calls Tryd.prog 48 #[.string s, .string ⟨#[32]⟩] W fun e w' => e = .returned (.slice (some ⟨W.heap.size, 0, none⟩) (Lib.splitB ⟨#[32]⟩ 0 (Lib.countB s ⟨#[32]⟩) s).length (Lib.splitB ⟨#[32]⟩ 0 (Lib.countB s ⟨#[32]⟩) s).length) ∧ w' = W.alloc (.cells ((Lib.splitB ⟨#[32]⟩ 0 (Lib.countB s ⟨#[32]⟩) s).map Value.string).toArray 9) := by
    rintro W rfl
    rw [hlen]
    exact Tryd.strings_Split_shaped s ⟨#[32]⟩ _ (hsh.later ((Below.refl _ _).alloc (Nat.le_refl _) _)) (by omega) (by decide)
  clear hlen
  generalize Lib.splitB ⟨#[32]⟩ 0 (Lib.countB s ⟨#[32]⟩) s = bs at *
  have hsz : s.data.toList.length = s.size := by simp
  rw [← hw]
  refine readW_bs s bs w hsp (fun b hb => ?_) ?_
  · have := cutS_le s.data.toList [] b.data.toList (hw ▸ List.mem_map_of_mem hb)
    have h2 : b.data.toList.length = b.size := by simp
    simp only [List.length_nil] at this
    omega
  · have := cutS_few s.data.toList []
    rw [← hw, List.length_map] at this
    omega

end Go.Proofs.YtjfplfhdfiebgaaDoor

namespace Go.Proofs.YtjfplfhdfiebgaaDoor
open Go.RowKit

set_option maxRecDepth 100000 in
set_option maxHeartbeats 4000000 in
theorem lawx_ParseWrite (x0 : ByteArray) (y : DWriteResult) (w : World) (ht : Shp w) (q0 : x0.size ≤ 1048576)
    (hS : ∀ (W : World), Shp W → Calls Tryd.prog 11 #[.string x0] W fun e w' => ∃ cs, e = .returned (.agg cs.toArray) ∧ Lay.tWriteResult.Reads w' cs y ∧ Below W.heap.size W w')
    (hI : ∀ (W : World), Shp W → Calls Tryd.prog 12 #[.string x0] W fun e w' => ∃ cs, e = .returned (.agg cs.toArray) ∧ Lay.tWriteResult.OwnIn w' cs y W.heap.size w'.heap.size ∧ Below W.heap.size W w') (hc : Lay.tWriteResult.vcnt y ≤ 100000000) :
    Calls Tryd.prog 4 #[.string x0] w fun e w' => e = .returned (.bool true) ∧ Below w.heap.size w w' := by
  have HS := hide hS
  have HI := hide hI
  clear hS hI
  have HC := hide hc
  clear hc
  have HT := hide ht
  clear ht
  have HB := hide (Below.refl w.heap.size w)
  go_enter Tryd.func4, Tryd.ntmps4
  go_wp2_with fail
  refine (unhide HS w ((unhide HT).later (unhide HB))).mono ?_
  rintro e w1 ⟨cs, rfl, O, hb⟩
  have Zw1 : w.heap.size ≤ w1.heap.size := hb.size
  replace HB := hide ((unhide HB).trans (hb.mono (by omega)))
  clear hb
  obtain ⟨a3W, d3W, rfl, -⟩ := open_WriteResult O
  have HW := hide O.liesIn
  clear O
  have nb : Below w1.heap.size w1 (w1.alloc (.cells #[.int .i64 y.code, .int .i64 y.write.kind, .int .i64 y.write.id, .slice a3W y.write.vec.length d3W, .int .i64 y.write.session, .int .i64 y.write.seq] 35)) := (Below.refl _ _).alloc (Nat.le_refl _) _
  have YW : Hid (Box w1.heap.size #[.int .i64 y.code, .int .i64 y.write.kind, .int .i64 y.write.id, .slice a3W y.write.vec.length d3W, .int .i64 y.write.session, .int .i64 y.write.seq] 35 (w1.alloc (.cells #[.int .i64 y.code, .int .i64 y.write.kind, .int .i64 y.write.id, .slice a3W y.write.vec.length d3W, .int .i64 y.write.session, .int .i64 y.write.seq] 35)) w1.heap.size) := newBox (Nat.le_refl _)
  go_wp2_with fail
  generalize haw2 : w1.alloc (.cells #[.int .i64 y.code, .int .i64 y.write.kind, .int .i64 y.write.id, .slice a3W y.write.vec.length d3W, .int .i64 y.write.session, .int .i64 y.write.seq] 35) = w2 at *
  have Gw2 : w1.heap.size < w2.heap.size := by rw [← haw2]; simp
  clear haw2
  replace HW := hide ((unhide HW).later nb)
  have Zw2 : w1.heap.size ≤ w2.heap.size := nb.size
  replace HB := hide ((unhide HB).trans (nb.mono (by omega)))
  clear nb
  refine (unhide HI w2 ((unhide HT).later (unhide HB))).mono ?_
  rintro e w3 ⟨cs, rfl, O, hb⟩
  replace HW := hide ((unhide HW).later hb)
  replace YW := hide ((unhide YW).keep hb)
  have Zw3 : w2.heap.size ≤ w3.heap.size := hb.size
  replace HB := hide ((unhide HB).trans (hb.mono (by omega)))
  clear hb
  obtain ⟨a3G, d3G, rfl, -⟩ := open_WriteResult O.reads
  have HG := hide O
  clear O
  have nb : Below w3.heap.size w3 (w3.alloc (.cells #[.int .i64 y.code, .int .i64 y.write.kind, .int .i64 y.write.id, .slice a3G y.write.vec.length d3G, .int .i64 y.write.session, .int .i64 y.write.seq] 35)) := (Below.refl _ _).alloc (Nat.le_refl _) _
  have YG : Hid (Box w3.heap.size #[.int .i64 y.code, .int .i64 y.write.kind, .int .i64 y.write.id, .slice a3G y.write.vec.length d3G, .int .i64 y.write.session, .int .i64 y.write.seq] 35 (w3.alloc (.cells #[.int .i64 y.code, .int .i64 y.write.kind, .int .i64 y.write.id, .slice a3G y.write.vec.length d3G, .int .i64 y.write.session, .int .i64 y.write.seq] 35)) w3.heap.size) := newBox (Nat.le_refl _)
  have l0YW := (unhide YW).at 0 _ rfl
  have l1YW := (unhide YW).at 1 _ rfl
  have l2YW := (unhide YW).at 2 _ rfl
  have l3YW := (unhide YW).at 3 _ rfl
  have l4YW := (unhide YW).at 4 _ rfl
  have l5YW := (unhide YW).at 5 _ rfl
  have ltYW : w1.heap.size < w3.heap.size := by omega
  simp only [List.getElem_toArray, List.getElem_cons_zero, List.getElem_cons_succ] at l0YW l1YW l2YW l3YW l4YW l5YW
  go_wp2_with fail
  clear l0YW l1YW l2YW l3YW l4YW l5YW ltYW
  generalize haw4 : w3.alloc (.cells #[.int .i64 y.code, .int .i64 y.write.kind, .int .i64 y.write.id, .slice a3G y.write.vec.length d3G, .int .i64 y.write.session, .int .i64 y.write.seq] 35) = w4 at *
  have Gw4 : w3.heap.size < w4.heap.size := by rw [← haw4]; simp
  clear haw4
  replace HW := hide ((unhide HW).later nb)
  replace YW := hide ((unhide YW).keep nb)
  replace HG := hide ((unhide HG).later nb)
  have Zw4 : w3.heap.size ≤ w4.heap.size := nb.size
  replace HB := hide ((unhide HB).trans (nb.mono (by omega)))
  clear nb
  refine (eq_WriteResult _ _ y w4 (unhide HG).reads (unhide HW).reads).mono ?_
  rintro e w5 ⟨rfl, hb⟩
  replace HW := hide ((unhide HW).later hb)
  replace YW := hide ((unhide YW).keep hb)
  replace HG := hide ((unhide HG).later hb)
  replace YG := hide ((unhide YG).keep hb)
  have Zw5 : w4.heap.size ≤ w5.heap.size := hb.size
  replace HB := hide ((unhide HB).trans (hb.mono (by omega)))
  clear hb
  have l0YW := (unhide YW).at 0 _ rfl
  have l1YW := (unhide YW).at 1 _ rfl
  have l2YW := (unhide YW).at 2 _ rfl
  have l3YW := (unhide YW).at 3 _ rfl
  have l4YW := (unhide YW).at 4 _ rfl
  have l5YW := (unhide YW).at 5 _ rfl
  have ltYW : w1.heap.size < w5.heap.size := by omega
  have l0YG := (unhide YG).at 0 _ rfl
  have l1YG := (unhide YG).at 1 _ rfl
  have l2YG := (unhide YG).at 2 _ rfl
  have l3YG := (unhide YG).at 3 _ rfl
  have l4YG := (unhide YG).at 4 _ rfl
  have l5YG := (unhide YG).at 5 _ rfl
  have ltYG : w3.heap.size < w5.heap.size := by omega
  simp only [List.getElem_toArray, List.getElem_cons_zero, List.getElem_cons_succ] at l0YW l1YW l2YW l3YW l4YW l5YW l0YG l1YG l2YG l3YG l4YG l5YG
  go_wp2_with fail
  clear l0YW l1YW l2YW l3YW l4YW l5YW ltYW l0YG l1YG l2YG l3YG l4YG l5YG ltYG
  have l0YW := (unhide YW).at 0 _ rfl
  have l1YW := (unhide YW).at 1 _ rfl
  have l2YW := (unhide YW).at 2 _ rfl
  have l3YW := (unhide YW).at 3 _ rfl
  have l4YW := (unhide YW).at 4 _ rfl
  have l5YW := (unhide YW).at 5 _ rfl
  have ltYW : w1.heap.size < w5.heap.size := by omega
  have l0YG := (unhide YG).at 0 _ rfl
  have l1YG := (unhide YG).at 1 _ rfl
  have l2YG := (unhide YG).at 2 _ rfl
  have l3YG := (unhide YG).at 3 _ rfl
  have l4YG := (unhide YG).at 4 _ rfl
  have l5YG := (unhide YG).at 5 _ rfl
  have ltYG : w3.heap.size < w5.heap.size := by omega
  simp only [List.getElem_toArray, List.getElem_cons_zero, List.getElem_cons_succ] at l0YW l1YW l2YW l3YW l4YW l5YW l0YG l1YG l2YG l3YG l4YG l5YG
  go_wp2_with fail
  clear l0YW l1YW l2YW l3YW l4YW l5YW ltYW l0YG l1YG l2YG l3YG l4YG l5YG ltYG
  obtain ⟨bl, O, hbl⟩ := unhide HG
  clear HG
  have hcy := unhide HC
  refine (mark_WriteResult _ y bl 1 w5 O (by omega) (by omega)).mono ?_
  rintro e w6 ⟨rfl, O2, E⟩
  replace E := E.mono (S' := within w2.heap.size w3.heap.size) fun b _ hb => hbl b hb
  have HG : Hid (Lay.tWriteResult.OwnIn w6 _ (Lay.tWriteResult.mkv 1 y) w2.heap.size w3.heap.size) := ⟨bl, O2, hbl⟩
  clear hbl O O2
  have zlo : w.heap.size ≤ w2.heap.size ∧ w3.heap.size ≤ w5.heap.size := by omega
  replace HW := hide ((unhide HW).ext E (within_out (by omega)))
  replace YW := hide ((unhide YW).ext E (fun q => by simp only [within] at q; omega))
  replace YG := hide ((unhide YG).ext E (fun q => by simp only [within] at q; omega))
  have Zw6 : w5.heap.size ≤ w6.heap.size := E.size
  replace HB := hide ((unhide HB).trans (E.below (by omega) (fun k h q => by simp only [within] at q; omega)))
  clear E
  clear zlo
  have hq0 : decide (1 + (Lay.tWriteResult.vcnt y : Int) < 0) = false := decide_eq_false (by omega)
  have hq1 : ((1 + (Lay.tWriteResult.vcnt y : Int)) != (1 + (Lay.tWriteResult.vcnt y : Int))) = false := by simp
  clear hcy
  have l0YW := (unhide YW).at 0 _ rfl
  have l1YW := (unhide YW).at 1 _ rfl
  have l2YW := (unhide YW).at 2 _ rfl
  have l3YW := (unhide YW).at 3 _ rfl
  have l4YW := (unhide YW).at 4 _ rfl
  have l5YW := (unhide YW).at 5 _ rfl
  have ltYW : w1.heap.size < w6.heap.size := by omega
  have l0YG := (unhide YG).at 0 _ rfl
  have l1YG := (unhide YG).at 1 _ rfl
  have l2YG := (unhide YG).at 2 _ rfl
  have l3YG := (unhide YG).at 3 _ rfl
  have l4YG := (unhide YG).at 4 _ rfl
  have l5YG := (unhide YG).at 5 _ rfl
  have ltYG : w3.heap.size < w6.heap.size := by omega
  simp only [List.getElem_toArray, List.getElem_cons_zero, List.getElem_cons_succ] at l0YW l1YW l2YW l3YW l4YW l5YW l0YG l1YG l2YG l3YG l4YG l5YG
  go_wp2_with fail
  clear l0YW l1YW l2YW l3YW l4YW l5YW ltYW l0YG l1YG l2YG l3YG l4YG l5YG ltYG
  refine (held_WriteResult _ y 1 w6 (unhide HG).reads (by omega) (by have := unhide HC; omega)).mono ?_
  rintro e w7 ⟨rfl, hb⟩
  replace HW := hide ((unhide HW).later hb)
  replace YW := hide ((unhide YW).keep hb)
  replace YG := hide ((unhide YG).keep hb)
  replace HG := hide ((unhide HG).later hb)
  have Zw7 : w6.heap.size ≤ w7.heap.size := hb.size
  replace HB := hide ((unhide HB).trans (hb.mono (by omega)))
  clear hb
  have l0YW := (unhide YW).at 0 _ rfl
  have l1YW := (unhide YW).at 1 _ rfl
  have l2YW := (unhide YW).at 2 _ rfl
  have l3YW := (unhide YW).at 3 _ rfl
  have l4YW := (unhide YW).at 4 _ rfl
  have l5YW := (unhide YW).at 5 _ rfl
  have ltYW : w1.heap.size < w7.heap.size := by omega
  have l0YG := (unhide YG).at 0 _ rfl
  have l1YG := (unhide YG).at 1 _ rfl
  have l2YG := (unhide YG).at 2 _ rfl
  have l3YG := (unhide YG).at 3 _ rfl
  have l4YG := (unhide YG).at 4 _ rfl
  have l5YG := (unhide YG).at 5 _ rfl
  have ltYG : w3.heap.size < w7.heap.size := by omega
  simp only [List.getElem_toArray, List.getElem_cons_zero, List.getElem_cons_succ] at l0YW l1YW l2YW l3YW l4YW l5YW l0YG l1YG l2YG l3YG l4YG l5YG
  go_wp2_with fail
  clear l0YW l1YW l2YW l3YW l4YW l5YW ltYW l0YG l1YG l2YG l3YG l4YG l5YG ltYG
  refine (unhide HI w7 ((unhide HT).later (unhide HB))).mono ?_
  rintro e w8 ⟨cs, rfl, O, hb⟩
  replace HW := hide ((unhide HW).later hb)
  replace YW := hide ((unhide YW).keep hb)
  replace YG := hide ((unhide YG).keep hb)
  replace HG := hide ((unhide HG).later hb)
  have Zw8 : w7.heap.size ≤ w8.heap.size := hb.size
  replace HB := hide ((unhide HB).trans (hb.mono (by omega)))
  clear hb
  obtain ⟨a3K, d3K, rfl, -⟩ := open_WriteResult O.reads
  have HK := hide O
  clear O
  have nb : Below w8.heap.size w8 (w8.alloc (.cells #[.int .i64 y.code, .int .i64 y.write.kind, .int .i64 y.write.id, .slice a3K y.write.vec.length d3K, .int .i64 y.write.session, .int .i64 y.write.seq] 35)) := (Below.refl _ _).alloc (Nat.le_refl _) _
  have YK : Hid (Box w8.heap.size #[.int .i64 y.code, .int .i64 y.write.kind, .int .i64 y.write.id, .slice a3K y.write.vec.length d3K, .int .i64 y.write.session, .int .i64 y.write.seq] 35 (w8.alloc (.cells #[.int .i64 y.code, .int .i64 y.write.kind, .int .i64 y.write.id, .slice a3K y.write.vec.length d3K, .int .i64 y.write.session, .int .i64 y.write.seq] 35)) w8.heap.size) := newBox (Nat.le_refl _)
  have l0YW := (unhide YW).at 0 _ rfl
  have l1YW := (unhide YW).at 1 _ rfl
  have l2YW := (unhide YW).at 2 _ rfl
  have l3YW := (unhide YW).at 3 _ rfl
  have l4YW := (unhide YW).at 4 _ rfl
  have l5YW := (unhide YW).at 5 _ rfl
  have ltYW : w1.heap.size < w8.heap.size := by omega
  have l0YG := (unhide YG).at 0 _ rfl
  have l1YG := (unhide YG).at 1 _ rfl
  have l2YG := (unhide YG).at 2 _ rfl
  have l3YG := (unhide YG).at 3 _ rfl
  have l4YG := (unhide YG).at 4 _ rfl
  have l5YG := (unhide YG).at 5 _ rfl
  have ltYG : w3.heap.size < w8.heap.size := by omega
  simp only [List.getElem_toArray, List.getElem_cons_zero, List.getElem_cons_succ] at l0YW l1YW l2YW l3YW l4YW l5YW l0YG l1YG l2YG l3YG l4YG l5YG
  go_wp2_with fail
  clear l0YW l1YW l2YW l3YW l4YW l5YW ltYW l0YG l1YG l2YG l3YG l4YG l5YG ltYG
  generalize haw9 : w8.alloc (.cells #[.int .i64 y.code, .int .i64 y.write.kind, .int .i64 y.write.id, .slice a3K y.write.vec.length d3K, .int .i64 y.write.session, .int .i64 y.write.seq] 35) = w9 at *
  have Gw9 : w8.heap.size < w9.heap.size := by rw [← haw9]; simp
  clear haw9
  replace HW := hide ((unhide HW).later nb)
  replace YW := hide ((unhide YW).keep nb)
  replace YG := hide ((unhide YG).keep nb)
  replace HG := hide ((unhide HG).later nb)
  replace HK := hide ((unhide HK).later nb)
  have Zw9 : w8.heap.size ≤ w9.heap.size := nb.size
  replace HB := hide ((unhide HB).trans (nb.mono (by omega)))
  clear nb
  refine (eq_WriteResult _ _ y w9 (unhide HK).reads (unhide HW).reads).mono ?_
  rintro e w10 ⟨rfl, hb⟩
  replace HW := hide ((unhide HW).later hb)
  replace YW := hide ((unhide YW).keep hb)
  replace YG := hide ((unhide YG).keep hb)
  replace HG := hide ((unhide HG).later hb)
  replace HK := hide ((unhide HK).later hb)
  replace YK := hide ((unhide YK).keep hb)
  have Zw10 : w9.heap.size ≤ w10.heap.size := hb.size
  replace HB := hide ((unhide HB).trans (hb.mono (by omega)))
  clear hb
  clear HK
  clear YK
  have l0YW := (unhide YW).at 0 _ rfl
  have l1YW := (unhide YW).at 1 _ rfl
  have l2YW := (unhide YW).at 2 _ rfl
  have l3YW := (unhide YW).at 3 _ rfl
  have l4YW := (unhide YW).at 4 _ rfl
  have l5YW := (unhide YW).at 5 _ rfl
  have ltYW : w1.heap.size < w10.heap.size := by omega
  have l0YG := (unhide YG).at 0 _ rfl
  have l1YG := (unhide YG).at 1 _ rfl
  have l2YG := (unhide YG).at 2 _ rfl
  have l3YG := (unhide YG).at 3 _ rfl
  have l4YG := (unhide YG).at 4 _ rfl
  have l5YG := (unhide YG).at 5 _ rfl
  have ltYG : w3.heap.size < w10.heap.size := by omega
  simp only [List.getElem_toArray, List.getElem_cons_zero, List.getElem_cons_succ] at l0YW l1YW l2YW l3YW l4YW l5YW l0YG l1YG l2YG l3YG l4YG l5YG
  go_wp2_with fail
  clear l0YW l1YW l2YW l3YW l4YW l5YW ltYW l0YG l1YG l2YG l3YG l4YG l5YG ltYG
  refine (held_WriteResult _ y 1 w10 (unhide HG).reads (by omega) (by have := unhide HC; omega)).mono ?_
  rintro e w11 ⟨rfl, hb⟩
  replace HW := hide ((unhide HW).later hb)
  replace YW := hide ((unhide YW).keep hb)
  replace YG := hide ((unhide YG).keep hb)
  replace HG := hide ((unhide HG).later hb)
  have Zw11 : w10.heap.size ≤ w11.heap.size := hb.size
  replace HB := hide ((unhide HB).trans (hb.mono (by omega)))
  clear hb
  have l0YW := (unhide YW).at 0 _ rfl
  have l1YW := (unhide YW).at 1 _ rfl
  have l2YW := (unhide YW).at 2 _ rfl
  have l3YW := (unhide YW).at 3 _ rfl
  have l4YW := (unhide YW).at 4 _ rfl
  have l5YW := (unhide YW).at 5 _ rfl
  have ltYW : w1.heap.size < w11.heap.size := by omega
  have l0YG := (unhide YG).at 0 _ rfl
  have l1YG := (unhide YG).at 1 _ rfl
  have l2YG := (unhide YG).at 2 _ rfl
  have l3YG := (unhide YG).at 3 _ rfl
  have l4YG := (unhide YG).at 4 _ rfl
  have l5YG := (unhide YG).at 5 _ rfl
  have ltYG : w3.heap.size < w11.heap.size := by omega
  simp only [List.getElem_toArray, List.getElem_cons_zero, List.getElem_cons_succ] at l0YW l1YW l2YW l3YW l4YW l5YW l0YG l1YG l2YG l3YG l4YG l5YG
  go_wp2_with fail
  clear l0YW l1YW l2YW l3YW l4YW l5YW ltYW l0YG l1YG l2YG l3YG l4YG l5YG ltYG
  go_ret
  exact ⟨rfl, unhide HB⟩


/- lawmany -/
theorem lawmany_ParseWrite_0 (x0 : ByteArray) (w : World) (hn : 1048576 < x0.size) (hm : x0.size ≤ maxLen) :
    Calls Tryd.prog 4 #[.string x0] w fun e w' => e = .returned (.bool true) ∧ Below w.heap.size w w' := by
  unfold maxLen at hm
  go_enter Tryd.func4, Tryd.ntmps4
  go_wp2_with fail
  go_ret
  exact ⟨rfl, Below.refl _ _⟩


end Go.Proofs.YtjfplfhdfiebgaaDoor

namespace Go.Proofs.YtjfplfhdfiebgaaDoor
open Go.RowKit

def ToldPW (w w' : World) (e : Ending) (y : DWriteResult) : Prop := ∃ cs, e = .returned (.agg cs.toArray) ∧ Lay.tWriteResult.OwnIn w' cs y w.heap.size w'.heap.size ∧ Below w.heap.size w w'
theorem toldPW_store {w w4 : World} {cs vs : List Value} {y : DWriteResult} {hi : Nat} (h : Lay.tWriteResult.OwnIn w4 cs y (w.heap.size + 1) hi) (hhi : hi ≤ w4.heap.size) (hb : Below w.heap.size w w4) : ToldPW w (setAll w4 w.heap.size 0 vs) (.returned (.agg cs.toArray)) y := by
  refine ⟨cs, rfl, ?_, below_setAll hb _ _ _ (Nat.le_refl _)⟩
  rw [size_setAll]
  exact (h.ext (ext_setAll (fun q => q = w.heap.size) (Ext.refl _ _) _ _ _ rfl) (fun q h1 h2 h3 => by omega)).mono (by omega) hhi

def resI : Option DWrite → DWriteResult
  | none => ⟨5, zeroW⟩
  | some x => ⟨0, x⟩
theorem parseM_I (l : Bytes) : parseM l = resI (readI (cutS [] l)) := by
  rw [parseM_eq, readI_eq]
  cases readM (cutS [] l) <;> rfl

set_option maxRecDepth 10000 in
set_option maxHeartbeats 1000000 in
/-- ParseWrite of the program. -/
theorem implPW (s : ByteArray) (w : World) (hs : s.size ≤ 1048576) (hsh : Shp w) :
    Calls Tryd.prog 12 #[.string s] w fun e w' => ToldPW w w' e (parseM s.data.toList) := by
  have nb : Below w.heap.size w (w.alloc (.cells #[.int .i64 0, .int .i64 0, .int .i64 0, .slice none 0 0, .int .i64 0, .int .i64 0] 35)) := (Below.refl _ _).alloc (Nat.le_refl _) _
  have bR : Box 0 #[.int .i64 0, .int .i64 0, .int .i64 0, .slice none 0 0, .int .i64 0, .int .i64 0] 35 (w.alloc (.cells #[.int .i64 0, .int .i64 0, .int .i64 0, .slice none 0 0, .int .i64 0, .int .i64 0] 35)) w.heap.size := newBox (Nat.zero_le _)
  have hs0 : (w.alloc (.cells #[.int .i64 0, .int .i64 0, .int .i64 0, .slice none 0 0, .int .i64 0, .int .i64 0] 35)).heap.size = w.heap.size + 1 := by simp
  have LC := hide (readWriteC s _ hs (hsh.later nb))
  rw [parseM_I]
  go_enter Tryd.func12, Tryd.ntmps12
  go_wp2_with fail
  generalize w.alloc (.cells #[.int .i64 0, .int .i64 0, .int .i64 0, .slice none 0 0, .int .i64 0, .int .i64 0] 35) = W0 at *
  refine (unhide LC).mono ?_
  rintro e w1 ⟨k, i, a, n, c, ss, q, ok, rfl, hyes, hno, hb⟩
  have nb2 : Below w1.heap.size w1 (w1.alloc (.cells #[.int .i64 k, .int .i64 i, .slice a n c, .int .i64 ss, .int .i64 q] 29)) := (Below.refl _ _).alloc (Nat.le_refl _) _
  have bX : Box 0 #[.int .i64 k, .int .i64 i, .slice a n c, .int .i64 ss, .int .i64 q] 29 (w1.alloc (.cells #[.int .i64 k, .int .i64 i, .slice a n c, .int .i64 ss, .int .i64 q] 29)) w1.heap.size := newBox (Nat.zero_le _)
  have bR2 := (bR.keep hb).keep nb2
  have HB := hide ((nb.trans (hb.mono nb.size)).trans (nb2.mono (Nat.le_trans nb.size hb.size)))
  have HY : Hid (ok = true → ∃ x, readI (cutS [] s.data.toList) = some x ∧ Lay.tWrite.OwnIn (w1.alloc (.cells #[.int .i64 k, .int .i64 i, .slice a n c, .int .i64 ss, .int .i64 q] 29)) [.int .i64 k, .int .i64 i, .slice a n c, .int .i64 ss, .int .i64 q] x (w.heap.size + 1) (w1.alloc (.cells #[.int .i64 k, .int .i64 i, .slice a n c, .int .i64 ss, .int .i64 q] 29)).heap.size) := by
    intro h
    obtain ⟨x, h1, h2⟩ := hyes h
    rw [hs0] at h2
    exact ⟨x, h1, (h2.later nb2).mono (Nat.le_refl _) nb2.size⟩
  have HN := hide hno
  have HBX := hide bX
  have HBR := hide bR2
  clear nb nb2 bX bR bR2 hb hyes hno LC hs0 hsh
  cases ok with
  | false =>
    have HN2 := hide (unhide HN rfl)
    clear HN
    go_upto_region 2 with fail
    generalize w1.alloc (.cells #[.int .i64 k, .int .i64 i, .slice a n c, .int .i64 ss, .int .i64 q] 29) = w2 at *
    have bR := unhide HBR
    have r0 := bR.at 0 _ rfl
    have r1 := bR.at 1 _ rfl
    have r2 := bR.at 2 _ rfl
    have r3 := bR.at 3 _ rfl
    have r4 := bR.at 4 _ rfl
    have r5 := bR.at 5 _ rfl
    have rf := bR.soft
    have hR1 := bR.lt
    clear bR HBR HBX HY
    simp only [List.getElem_toArray, List.getElem_cons_zero, List.getElem_cons_succ] at r0 r1 r2 r3 r4 r5
    go_wp2_with fail
    refine bodyPost_ret (v := .agg #[.int .i64 5, .int .i64 0, .int .i64 0, .slice none 0 0, .int .i64 0, .int .i64 0]) (by simp [results, Tryd.results12, go_sem, r0, r1, r2, r3, r4, r5]) rfl ?_
    rw [unhide HN2]
    exact ⟨[.int .i64 5, .int .i64 0, .int .i64 0, .slice none 0 0, .int .i64 0, .int .i64 0], rfl, own_badW rfl, below_setAll (unhide HB) w.heap.size 0 [.int .i64 5, .int .i64 0, .int .i64 0, .slice none 0 0, .int .i64 0, .int .i64 0] (Nat.le_refl _)⟩
  | true =>
    obtain ⟨x, hx, ho⟩ := unhide HY rfl
    have HO := hide ho
    have HX := hide hx
    clear hx ho HY HN
    go_upto_region 2 with fail
    generalize w1.alloc (.cells #[.int .i64 k, .int .i64 i, .slice a n c, .int .i64 ss, .int .i64 q] 29) = w2 at *
    have bR := unhide HBR
    have bX := unhide HBX
    have x0 := bX.at 0 _ rfl
    have x1 := bX.at 1 _ rfl
    have x2 := bX.at 2 _ rfl
    have x3 := bX.at 3 _ rfl
    have x4 := bX.at 4 _ rfl
    have r0 := bR.at 0 _ rfl
    have r1 := bR.at 1 _ rfl
    have r2 := bR.at 2 _ rfl
    have r3 := bR.at 3 _ rfl
    have r4 := bR.at 4 _ rfl
    have r5 := bR.at 5 _ rfl
    have rf := bR.soft
    have hR1 := bR.lt
    clear bR bX HBR HBX
    simp only [List.getElem_toArray, List.getElem_cons_zero, List.getElem_cons_succ] at x0 x1 x2 x3 x4 r0 r1 r2 r3 r4 r5
    go_wp2_with fail
    refine bodyPost_ret (v := .agg #[.int .i64 0, .int .i64 k, .int .i64 i, .slice a n c, .int .i64 ss, .int .i64 q]) (by simp [results, Tryd.results12, go_sem, r0, r1, r2, r3, r4, r5]) rfl ?_
    rw [unhide HX]
    obtain ⟨bl, O, hr⟩ := unhide HO
    have own2 : Lay.tWriteResult.OwnIn w2 [.int .i64 0, .int .i64 k, .int .i64 i, .slice a n c, .int .i64 ss, .int .i64 q] ⟨0, x⟩ (w.heap.size + 1) w2.heap.size := ⟨bl, mkOwn_WriteResult (x := ⟨0, x⟩) O (show (Lit.int .i64 0).wf = true by decide) O.2.1, hr⟩
    exact toldPW_store (vs := [.int .i64 0, .int .i64 k, .int .i64 i, .slice a n c, .int .i64 ss, .int .i64 q]) own2 (Nat.le_refl _) (unhide HB)

end Go.Proofs.YtjfplfhdfiebgaaDoor

namespace Go.Proofs.YtjfplfhdfiebgaaDoor
open Go.RowKit

theorem vcnt_parse (l : Bytes) : Lay.tWriteResult.vcnt (parseM l) ≤ 100000000 := by
  rw [vcnt_WriteResult, vcnt_Write, vcnt_ints]
  rw [parseM_eq]
  cases h : readM (cutS [] l) with
  | none => simp [zeroW]
  | some x =>
    obtain ⟨-, -, -, hk⟩ := writeFault_zero (readM_fault h)
    rcases hk with ⟨-, hv⟩ | ⟨-, hv⟩
    · have := (vecFault_zero hv).1
      show _ ≤ _
      simp only
      omega
    · simp [hv]

theorem lawParseWrite (s : ByteArray) (w : World) (hm : s.size ≤ maxLen) (ht : Shp w) :
    Calls Tryd.prog 4 #[.string s] w fun e w' => e = .returned (.bool true) ∧ Below w.heap.size w w' := by
  by_cases hn : s.size ≤ 1048576
  · exact lawx_ParseWrite s (parseM s.data.toList) w ht hn (fun W _ => specPW s W hn) (fun W h => implPW s W hn h) (vcnt_parse _)
  · exact lawmany_ParseWrite_0 s w (by omega) hm

end Go.Proofs.YtjfplfhdfiebgaaDoor
