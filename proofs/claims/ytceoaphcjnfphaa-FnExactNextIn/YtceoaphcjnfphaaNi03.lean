/-
  Texts of this proof in one: ChainPlain, OwnChain, OwnChainResult, StoreKit, ChainKit, InB, SpecNode9, SpecChainF, BesideKit, ImplNodeId, ImplEpoch, PartReads, ImplChainF, ImplBeside.
  Their conditions stand in their theorems.
-/
import Derived.Test.YtceoaphcjnfphaaNi02
import Derived.Test.YtceoaphcjnfphaaNi01
import Derived.Test.YtceoaphcjnfphaaChecked
import Derived.Deep.CutRange

namespace Go.Proofs.Ytceoaphcjnfphaa
open Go.RowKit

/-- Where an id stands first; how many there are, where it doesn't. -/
def atC (ids : List Int) (id : Int) : Nat := ids.findIdx (· == id)
/-- The place as a number, -1 where there is none. -/
def placeC (ids : List Int) (id : Int) : Int := if atC ids id < ids.length then (atC ids id : Int) else -1
/-- The first fault among ids, pre: those ahead of them. -/
def idsF : List Int → List Int → Int
  | _, [] => 0
  | pre, z :: zs => if 1 ≤ z ∧ z ≤ 5 then (if z ∈ pre then 6 else idsF (pre ++ [z]) zs) else 3
def chainFault (x : DChain) : Int :=
  if 1 ≤ x.epoch ∧ x.epoch ≤ 999 then (if 1 ≤ x.ids.length ∧ x.ids.length ≤ 5 then idsF [] x.ids else 2) else 3
def noChain : DChain := ⟨0, []⟩
def badChain (c : Int) : DChainResult := ⟨c, noChain⟩
def upToC (n : Nat) : List Int := (List.range n).map fun (k : Nat) => (k : Int) + 1
def newChainR (n : Int) : DChainResult := if 1 ≤ n ∧ n ≤ 5 then ⟨0, ⟨1, upToC n.toNat⟩⟩ else badChain 3
/-- Who stands by behind id; 0: nobody. -/
def nextC (ids : List Int) (id : Int) (d : Int) : Int :=
  if placeC ids id < 0 ∨ placeC ids id + d < 0 ∨ (ids.length : Int) ≤ placeC ids id + d then 0 else ids.getD (placeC ids id + d).toNat 0
def besideR (x : DChain) (id d : Int) : DIntResult :=
  if chainFault x = 0 then
    if placeC x.ids id < 0 then ⟨4, 0⟩ else if nextC x.ids id d = 0 then ⟨8, 0⟩ else ⟨0, nextC x.ids id d⟩
  else ⟨chainFault x, 0⟩
def cutCh (x : DChain) (id : Int) : DChain := ⟨x.epoch + 1, x.ids.filter fun z => z != id⟩
def cutR (x : DChain) (id : Int) : DChainResult :=
  if chainFault x = 0 then
    if placeC x.ids id < 0 then badChain 4 else if x.ids.length = 1 then badChain 8 else if 999 ≤ x.epoch then badChain 2 else ⟨0, cutCh x id⟩
  else badChain (chainFault x)
def joinCh (x : DChain) (id : Int) : DChain := ⟨x.epoch + 1, x.ids ++ [id]⟩
def joinR (x : DChain) (id : Int) : DChainResult :=
  if chainFault x = 0 then
    if 1 ≤ id ∧ id ≤ 5 then (if 0 ≤ placeC x.ids id then badChain 6 else if 999 ≤ x.epoch then badChain 2 else ⟨0, joinCh x id⟩) else badChain 3
  else badChain (chainFault x)

theorem atC_le (ids : List Int) (id : Int) : atC ids id ≤ ids.length := List.findIdx_le_length
theorem placeC_bd (ids : List Int) (id : Int) : -1 ≤ placeC ids id ∧ placeC ids id < ids.length + 1 := by
  unfold placeC
  split <;> omega
theorem placeC_neg (ids : List Int) (id : Int) : placeC ids id < 0 ↔ id ∉ ids := by
  unfold placeC atC
  have h := List.findIdx_lt_length (p := fun z => z == id) (xs := ids)
  constructor
  · intro h1 hm
    rw [if_pos (h.2 ⟨id, hm, by simp⟩)] at h1
    omega
  · intro h1
    rw [if_neg]
    · omega
    · intro h2
      obtain ⟨z, hz, e⟩ := h.1 h2
      rw [beq_iff_eq] at e
      rw [e] at hz
      exact h1 hz
/-- No one of the first k is id, and the k-th is. -/
theorem placeC_at {ids : List Int} {id : Int} {k : Nat} (hk : k < ids.length) (h : ids[k] = id) (hb : ∀ j (hj : j < k), ids[j] ≠ id) : placeC ids id = (k : Int) := by
  have e : atC ids id = k := by
    unfold atC
    rw [List.findIdx_eq hk]
    exact ⟨by simpa using h, fun j hj => by simpa using hb j hj⟩
  rw [placeC, e, if_pos hk]
theorem placeC_none {ids : List Int} {id : Int} (hb : ∀ j (hj : j < ids.length), ids[j] ≠ id) : placeC ids id = -1 := by
  have h1 : placeC ids id < 0 := by
    rw [placeC_neg]
    intro hm
    obtain ⟨j, hj, e⟩ := List.getElem_of_mem hm
    exact hb j hj e
  have := placeC_bd ids id
  omega
theorem placeC_get {ids : List Int} {id : Int} (h : 0 ≤ placeC ids id) : ∃ (k : Nat) (hk : k < ids.length), placeC ids id = (k : Int) ∧ ids[k] = id ∧ ∀ j (hj : j < k), ids[j] ≠ id := by
  have hl : atC ids id < ids.length := by
    unfold placeC at h
    split at h
    · assumption
    · omega
  refine ⟨atC ids id, hl, by rw [placeC, if_pos hl], ?_, fun j hj => ?_⟩
  · have := List.findIdx_getElem (xs := ids) (p := fun z => z == id) (w := hl)
    exact beq_iff_eq.1 this
  · have := List.not_of_lt_findIdx (xs := ids) (p := fun z => z == id) hj
    simpa using this
theorem idsF_vals : ∀ (zs pre : List Int), 0 ≤ idsF pre zs ∧ idsF pre zs ≤ 6
  | [], _ => by simp [idsF]
  | z :: zs, pre => by
    rw [idsF]
    split
    · split
      · omega
      · exact idsF_vals zs _
    · omega
theorem chainFault_vals (x : DChain) : 0 ≤ chainFault x ∧ chainFault x ≤ 6 := by
  have := idsF_vals x.ids []
  unfold chainFault
  split
  · split <;> omega
  · omega
theorem chainFault_bd (x : DChain) : -1000000000 ≤ chainFault x ∧ chainFault x ≤ 1000000000 := by have := chainFault_vals x; omega
/-- From the k-th on: the loop's own spelling. -/
theorem idsF_step (ids : List Int) (k : Nat) (hk : k < ids.length) : idsF (ids.take k) (ids.drop k) = if 1 ≤ ids[k] ∧ ids[k] ≤ 5 then (if ids[k] ∈ ids.take k then 6 else idsF (ids.take (k + 1)) (ids.drop (k + 1))) else 3 := by
  conv => lhs; rw [List.drop_eq_getElem_cons hk, idsF]
  rw [List.take_succ_eq_append_getElem hk]
theorem idsF_end (ids : List Int) : idsF (ids.take ids.length) (ids.drop ids.length) = 0 := by simp [idsF]
/-- The k-th id stands first at k just if it isn't among those ahead. -/
theorem placeC_self {ids : List Int} {k : Nat} (hk : k < ids.length) : (placeC ids ids[k] = (k : Int)) ↔ ids[k] ∉ ids.take k := by
  constructor
  · intro h hm
    obtain ⟨j, hj, e⟩ := List.getElem_of_mem hm
    rw [List.length_take] at hj
    rw [List.getElem_take] at e
    obtain ⟨m, hm1, h1, h2, h3⟩ := placeC_get (ids := ids) (id := ids[k]) (by omega)
    obtain rfl : m = k := by omega
    exact h3 j (by omega) e
  · intro h
    refine placeC_at hk rfl fun j hj e => h ?_
    rw [List.mem_iff_getElem]
    exact ⟨j, by rw [List.length_take]; omega, by rw [List.getElem_take]; exact e⟩
/-- A chain without a fault. -/
structure ChainOK (x : DChain) : Prop where
  epoch : 1 ≤ x.epoch ∧ x.epoch ≤ 999
  len : 1 ≤ x.ids.length ∧ x.ids.length ≤ 5
  ids : ∀ z ∈ x.ids, 1 ≤ z ∧ z ≤ 5
  nodup : x.ids.Nodup
theorem idsF_zero : ∀ (zs pre : List Int), idsF pre zs = 0 → (∀ z ∈ zs, 1 ≤ z ∧ z ≤ 5) ∧ zs.Nodup ∧ ∀ z ∈ zs, z ∉ pre
  | [], _, _ => by simp
  | z :: zs, pre, h => by
    rw [idsF] at h
    split at h
    · rename_i h1
      split at h
      · simp at h
      · rename_i h2
        obtain ⟨q1, q2, q3⟩ := idsF_zero zs _ h
        refine ⟨?_, ?_, ?_⟩
        · intro u hu
          rcases List.mem_cons.1 hu with rfl | hu
          · exact h1
          · exact q1 u hu
        · refine List.nodup_cons.2 ⟨fun hm => q3 z hm (by simp), q2⟩
        · intro u hu hp
          rcases List.mem_cons.1 hu with rfl | hu
          · exact h2 hp
          · exact q3 u hu (List.mem_append_left _ hp)
    · simp at h
theorem idsF_ok : ∀ (zs pre : List Int), (∀ z ∈ zs, 1 ≤ z ∧ z ≤ 5) → zs.Nodup → (∀ z ∈ zs, z ∉ pre) → idsF pre zs = 0
  | [], _, _, _, _ => by simp [idsF]
  | z :: zs, pre, h1, h2, h3 => by
    rw [idsF, if_pos (h1 z (by simp)), if_neg (h3 z (by simp))]
    obtain ⟨n1, n2⟩ := List.nodup_cons.1 h2
    refine idsF_ok zs _ (fun u hu => h1 u (List.mem_cons_of_mem _ hu)) n2 fun u hu hp => ?_
    rcases List.mem_append.1 hp with hp | hp
    · exact h3 u (List.mem_cons_of_mem _ hu) hp
    · rw [List.mem_singleton.1 hp] at hu
      exact n1 hu
theorem chainFault_zero {x : DChain} (h : chainFault x = 0) : ChainOK x := by
  unfold chainFault at h
  split at h
  · rename_i h1
    split at h
    · rename_i h2
      obtain ⟨q1, q2, -⟩ := idsF_zero _ _ h
      exact ⟨h1, h2, q1, q2⟩
    · simp at h
  · simp at h
theorem ChainOK.fault {x : DChain} (h : ChainOK x) : chainFault x = 0 := by
  rw [chainFault, if_pos h.epoch, if_pos h.len]
  exact idsF_ok _ _ h.ids h.nodup (by simp)
theorem upToC_len (n : Nat) : (upToC n).length = n := by simp [upToC]
theorem upToC_succ (n : Nat) : upToC (n + 1) = upToC n ++ [(n : Int) + 1] := by simp [upToC, List.range_succ]
theorem upToC_bd {n : Nat} {z : Int} (h : z ∈ upToC n) : 1 ≤ z ∧ z ≤ n := by
  simp only [upToC, List.mem_map, List.mem_range] at h
  obtain ⟨k, hk, rfl⟩ := h
  omega
theorem besideR_bad {x : DChain} {id d : Int} (h : chainFault x ≠ 0) : besideR x id d = ⟨chainFault x, 0⟩ := by rw [besideR, if_neg h]
theorem cutR_bad {x : DChain} {id : Int} (h : chainFault x ≠ 0) : cutR x id = badChain (chainFault x) := by rw [cutR, if_neg h]
theorem joinR_bad {x : DChain} {id : Int} (h : chainFault x ≠ 0) : joinR x id = badChain (chainFault x) := by rw [joinR, if_neg h]
end Go.Proofs.Ytceoaphcjnfphaa

namespace Go.Proofs.Ytceoaphcjnfphaa
open Go.RowKit

theorem vcnt_Chain (x : DChain) : Lay.tChain.vcnt x = (Lay.sl Lay.int).vcnt x.ids := by
  show 0 + ((Lay.sl Lay.int).vcnt x.ids) = (Lay.sl Lay.int).vcnt x.ids
  omega
theorem mkv_Chain (k : Int) (x : DChain) : Lay.tChain.mkv k x = ⟨x.epoch, (Lay.sl Lay.int).mkv (k) x.ids⟩ := by
  simp [Lay.tChain, Lay.via, Lay.pair, Lay.int]
theorem own_Chain {w : World} {cs : List Value} {x : DChain} {bl : List Nat} (h : Lay.tChain.Own w cs x bl) : ∃ (a1 : Option Addr) (d1 : Nat) (g1 : List Nat), cs = [.int .i64 x.epoch, .slice a1 x.ids.length d1] ∧ bl = g1 ∧ (Lay.sl Lay.int).Own w [.slice a1 x.ids.length d1] x.ids g1 ∧ (Lit.int .i64 x.epoch).wf = true := by
  obtain ⟨hl, hn, hf⟩ := h
  obtain ⟨a1, d1, b1, rfl, hbl, w0, l1⟩ := lies_Chain.1 hl
  rw [hbl] at hn hf
  exact ⟨a1, d1, b1, rfl, hbl, ⟨l1, hn, hf⟩, w0⟩
theorem mkOwn_Chain {w : World} {x : DChain} {c1 : List Value} {g1 : List Nat} (O1 : (Lay.sl Lay.int).Own w c1 x.ids g1) (v0 : (Lit.int .i64 x.epoch).wf = true) (hn : (g1).Nodup) : Lay.tChain.Own w ([.int .i64 x.epoch] ++ c1) x (g1) := by
  refine ⟨⟨[.int .i64 x.epoch], c1, [], g1, rfl, by simp, ⟨rfl, v0, rfl⟩, O1.1⟩, hn, ?_⟩
  intro b hb o
  exact O1.2.2 b hb o

end Go.Proofs.Ytceoaphcjnfphaa

namespace Go.Proofs.Ytceoaphcjnfphaa
open Go.RowKit

theorem vcnt_ChainResult (x : DChainResult) : Lay.tChainResult.vcnt x = Lay.tChain.vcnt x.chain := by
  show 0 + (Lay.tChain.vcnt x.chain) = Lay.tChain.vcnt x.chain
  omega
theorem mkv_ChainResult (k : Int) (x : DChainResult) : Lay.tChainResult.mkv k x = ⟨x.code, Lay.tChain.mkv (k) x.chain⟩ := by
  simp [Lay.tChainResult, Lay.via, Lay.pair, Lay.int]
theorem own_ChainResult {w : World} {cs : List Value} {x : DChainResult} {bl : List Nat} (h : Lay.tChainResult.Own w cs x bl) : ∃ (a2 : Option Addr) (d2 : Nat) (g1 : List Nat), cs = [.int .i64 x.code, .int .i64 x.chain.epoch, .slice a2 x.chain.ids.length d2] ∧ bl = g1 ∧ Lay.tChain.Own w [.int .i64 x.chain.epoch, .slice a2 x.chain.ids.length d2] x.chain g1 ∧ (Lit.int .i64 x.code).wf = true := by
  obtain ⟨hl, hn, hf⟩ := h
  obtain ⟨a2, d2, b2, rfl, hbl, w0, w1, l2⟩ := lies_ChainResult.1 hl
  rw [hbl] at hn hf
  exact ⟨a2, d2, b2, rfl, hbl, ⟨lies_Chain.2 ⟨a2, d2, b2, rfl, rfl, w1, l2⟩, hn, hf⟩, w0⟩
theorem mkOwn_ChainResult {w : World} {x : DChainResult} {c1 : List Value} {g1 : List Nat} (O1 : Lay.tChain.Own w c1 x.chain g1) (v0 : (Lit.int .i64 x.code).wf = true) (hn : (g1).Nodup) : Lay.tChainResult.Own w ([.int .i64 x.code] ++ c1) x (g1) := by
  refine ⟨⟨[.int .i64 x.code], c1, [], g1, rfl, by simp, ⟨rfl, v0, rfl⟩, O1.1⟩, hn, ?_⟩
  intro b hb o
  exact O1.2.2 b hb o

end Go.Proofs.Ytceoaphcjnfphaa

namespace Go.Proofs.Ytceoaphcjnfphaa
open Go.RowKit

theorem lies_store {α : Type} {A : Lay α} {w w4 : World} {cs vs : List Value} {y : α} {lo hi : Nat} (h : A.LiesIn w4 cs y lo hi) (hlo : w.heap.size < lo) (hhi : hi ≤ w4.heap.size) :
    A.LiesIn (setAll w4 w.heap.size 0 vs) cs y w.heap.size (setAll w4 w.heap.size 0 vs).heap.size := by
  rw [size_setAll]
  exact (h.ext (ext_setAll (fun q => q = w.heap.size) (Ext.refl _ _) _ _ _ rfl) (fun q h1 h2 h3 => by omega)).mono (by omega) hhi
theorem own_store {α : Type} {A : Lay α} {w w4 : World} {cs vs : List Value} {y : α} {lo hi : Nat} (h : A.OwnIn w4 cs y lo hi) (hlo : w.heap.size < lo) (hhi : hi ≤ w4.heap.size) :
    A.OwnIn (setAll w4 w.heap.size 0 vs) cs y w.heap.size (setAll w4 w.heap.size 0 vs).heap.size := by
  rw [size_setAll]
  exact (h.ext (ext_setAll (fun q => q = w.heap.size) (Ext.refl _ _) _ _ _ rfl) (fun q h1 h2 h3 => by omega)).mono (by omega) hhi

/-- The block s alone may turn, and it is none of those that the answer lies in. -/
theorem lies_store' {α : Type} {A : Lay α} {w4 : World} {s : Nat} {cs vs : List Value} {y : α} {lo hi : Nat} (h : A.LiesIn w4 cs y lo hi) (hs : s < lo) : A.LiesIn (setAll w4 s 0 vs) cs y lo hi :=
  h.ext (ext_setAll (fun q => q = s) (Ext.refl _ _) _ _ _ rfl) (fun q h1 h2 h3 => by omega)
theorem own_store' {α : Type} {A : Lay α} {w4 : World} {s : Nat} {cs vs : List Value} {y : α} {lo hi : Nat} (h : A.OwnIn w4 cs y lo hi) (hs : s < lo) : A.OwnIn (setAll w4 s 0 vs) cs y lo hi :=
  h.ext (ext_setAll (fun q => q = s) (Ext.refl _ _) _ _ _ rfl) (fun q h1 h2 h3 => by omega)

theorem nil_own {α : Type} {A : Lay α} {w : World} {lo hi : Nat} : (Lay.sl A).OwnIn w [.slice none 0 0] [] lo hi := ⟨[], ⟨⟨none, 0, rfl, by simp, Or.inl ⟨rfl, rfl⟩⟩, by simp, by simp⟩, by simp⟩

end Go.Proofs.Ytceoaphcjnfphaa

namespace Go.Proofs.Ytceoaphcjnfphaa
open Go.RowKit

theorem int_cell {w : World} {b off cap k : Nat} {zs : List Int} (h : (Lay.sl Lay.int).Reads w [.slice (some ⟨b, off, none⟩) zs.length cap] zs) (hk : k < zs.length) : w.cell? ⟨b, off + k, none⟩ = some (.int .i64 zs[k]) := by
  obtain ⟨bl, h⟩ := h
  obtain ⟨ao, cp, e, -, -, h⟩ := Lay.lies_ints.1 h
  simp only [Value.slice.injEq] at e
  obtain ⟨rfl, -, rfl⟩ := e
  rcases h with ⟨rfl, -⟩ | ⟨b', off', e2, -, -, hj⟩
  · simp at hk
  · simp only [Option.some.injEq, Addr.mk.injEq, and_true] at e2
    obtain ⟨rfl, rfl⟩ := e2
    rw [hj k hk]
    simp [List.getD, hk]
theorem int_wf {w : World} {v : Value} {zs : List Int} (h : (Lay.sl Lay.int).Reads w [v] zs) : ∀ z ∈ zs, (Lit.int .i64 z).wf = true := (Lay.ints_reads h).wf
theorem own_chainR {w : World} {c : Int} {v : Value} {x : DChain} {lo hi : Nat} (hc : (Lit.int .i64 c).wf = true) (he : (Lit.int .i64 x.epoch).wf = true) (h : (Lay.sl Lay.int).OwnIn w [v] x.ids lo hi) : Lay.tChainResult.OwnIn w [.int .i64 c, .int .i64 x.epoch, v] ⟨c, x⟩ lo hi := by
  obtain ⟨bl, O, i⟩ := h
  exact ⟨bl, mkOwn_ChainResult (x := ⟨c, x⟩) (mkOwn_Chain O he O.2.1) hc O.2.1, i⟩
theorem lies_chainR {w : World} {c : Int} {a : Option Addr} {m d : Nat} {x : DChain} {lo hi : Nat} (hc : (Lit.int .i64 c).wf = true) (he : (Lit.int .i64 x.epoch).wf = true) (h : (Lay.sl Lay.int).LiesIn w [.slice a m d] x.ids lo hi) : Lay.tChainResult.LiesIn w [.int .i64 c, .int .i64 x.epoch, .slice a m d] ⟨c, x⟩ lo hi := by
  obtain ⟨bl, l, i⟩ := h
  have hm : m = x.ids.length := (Lay.Reads.cap ⟨bl, l⟩).1
  subst hm
  exact ⟨bl, lies_ChainResult.2 ⟨a, d, bl, rfl, rfl, hc, he, l⟩, i⟩
theorem own_badChain {w : World} {c : Int} {lo hi : Nat} (hc : -1000000000 ≤ c ∧ c ≤ 1000000000) : Lay.tChainResult.OwnIn w [.int .i64 c, .int .i64 0, .slice none 0 0] (badChain c) lo hi := own_chainR (x := noChain) (wf_of_bd hc) (by decide) nil_own
theorem own_intRC {w : World} {c n : Int} {lo hi : Nat} (hc : (Lit.int .i64 c).wf = true) (hn : (Lit.int .i64 n).wf = true) : Lay.tIntResult.OwnIn w [.int .i64 c, .int .i64 n] ⟨c, n⟩ lo hi :=
  ⟨[], ⟨lies_IntResult.2 ⟨rfl, rfl, hc, hn⟩, by simp, by simp⟩, by simp⟩
end Go.Proofs.Ytceoaphcjnfphaa

namespace Go.Proofs.Ytceoaphcjnfphaa
open Go.RowKit

theorem inC (v lo hi : Int) (w : World) :
    Calls Try.prog 51 #[.int .i64 v, .int .i64 lo, .int .i64 hi] w fun e w' => e = .returned (.bool (decide (lo ≤ v) && decide (v ≤ hi))) ∧ w' = w := by
  by_cases h1 : lo ≤ v
  · have d1 : decide (lo ≤ v) = true := by simpa using h1
    rw [d1]
    cases d2 : decide (v ≤ hi) <;>
    · go_enter Try.func51, Try.ntmps51
      go_wp2_with fail
      go_ret
      exact ⟨rfl, rfl⟩
  · have d1 : decide (lo ≤ v) = false := by simpa using h1
    rw [d1]
    go_enter Try.func51, Try.ntmps51
    go_wp2_with fail
    go_ret
    exact ⟨rfl, rfl⟩

end Go.Proofs.Ytceoaphcjnfphaa

namespace Go.Proofs.Ytceoaphcjnfphaa
open Go.RowKit

theorem node10C (x : Int) (w : World) : Calls Try.prog 35 #[.int .i64 x] w fun e w' => e = .returned (.bool (decide (1 ≤ x) && decide (x ≤ 5))) ∧ w' = w := by
  go_enter Try.func35, Try.ntmps35
  go_wp2_with fail
  refine (inC x 1 5 _).mono ?_
  rintro e w1 ⟨rfl, rfl⟩
  go_wp2_with fail
  go_ret
  exact ⟨rfl, rfl⟩

end Go.Proofs.Ytceoaphcjnfphaa

namespace Go.Proofs.Ytceoaphcjnfphaa
open Go.RowKit

/-- A chain in a block. -/
abbrev ChainAt (w : World) (b : Nat) (v : Value) (x : DChain) : Prop := Box 0 #[.int .i64 x.epoch, v] 27 w b
set_option maxRecDepth 10000 in
set_option maxHeartbeats 1000000 in
theorem l10AtC (b : Nat) (a : Option Addr) (d : Nat) (x : DChain) (id : Int) (w : World) (hX : ChainAt w b (.slice a x.ids.length d) x) (R : (Lay.sl Lay.int).Reads w [.slice a x.ids.length d] x.ids) :
    Calls Try.prog 41 #[.pointer (some ⟨b, 0, none⟩), .int .i64 id] w fun e w' => e = .returned (.int .i64 (placeC x.ids id)) ∧ w' = w := by
  have x1 := Box.at hX 1 _ rfl
  simp only [List.getElem_toArray, List.getElem_cons_zero, List.getElem_cons_succ] at x1
  have xl := Box.lt hX
  have hbig := R.big
  have H := hide R
  clear hX R
  generalize x.ids = ids at *
  go_enter Try.func41, Try.ntmps41
  go_wp2_with fail
  go_loop [5] (fun i => ∃ k : Nat, k ≤ ids.length ∧ i = .int .i64 k ∧ (∀ j (hj : j < ids.length), j < k → ids[j] ≠ id)) (fun i => ids.length - (intOf i).toNat)
  case atStart => exact ⟨0, Nat.zero_le _, rfl, fun j _ h => by omega⟩
  case round =>
    obtain ⟨k, hk, rfl, hz⟩ := hrel
    by_cases hlt : k < ids.length
    · obtain ⟨b2, off, rfl, -⟩ := Lay.sl_addr (unhide H) (by omega)
      have c1 := int_cell (unhide H) hlt
      cases hq : (ids[k] == id)
      · have HZ : Hid (∀ j (hj : j < ids.length), j < k + 1 → ids[j] ≠ id) := fun j hj hjk => by
          by_cases h2 : j < k
          · exact hz j hj h2
          · obtain rfl : j = k := by omega
            simpa using hq
        clear hz
        generalize ids[k] = z at *
        go_wp2_with fail
        go_round
        case rel => exact ⟨k + 1, by omega, by go_num, unhide HZ⟩
        case measure => simp [intOf]; omega
      · have HP := hide (placeC_at hlt (by simpa using hq) (fun j hj => hz j (by omega) hj))
        clear hz
        generalize ids[k] = z at *
        go_wp2_with fail
        go_ret
        exact ⟨by rw [unhide HP]; rfl, rfl⟩
    · obtain rfl : k = ids.length := by omega
      have HP := hide (placeC_none (id := id) (fun j hj => hz j hj hj))
      clear hz
      go_wp2_with fail
      go_ret
      exact ⟨by rw [unhide HP]; rfl, rfl⟩

theorem cf_epoch {x : DChain} (h : (decide (1 ≤ x.epoch) && decide (x.epoch ≤ 999)) = false) : chainFault x = 3 := by
  rw [chainFault, if_neg]
  simpa using h
theorem cf_len {x : DChain} (h : (decide (1 ≤ x.epoch) && decide (x.epoch ≤ 999)) = true) (hn : x.ids.length < 1 ∨ 5 < x.ids.length) : chainFault x = 2 := by
  rw [chainFault, if_pos (by simpa using h), if_neg (by omega)]
theorem cf_ids {x : DChain} (h : (decide (1 ≤ x.epoch) && decide (x.epoch ≤ 999)) = true) (hn : ¬ x.ids.length < 1) (hm : ¬ 5 < x.ids.length) : chainFault x = idsF (x.ids.take 0) (x.ids.drop 0) := by
  rw [chainFault, if_pos (by simpa using h), if_pos (by omega)]
  simp

set_option maxRecDepth 10000 in
set_option maxHeartbeats 1000000 in
theorem l10FaultC (b : Nat) (a : Option Addr) (d : Nat) (x : DChain) (w : World) (hX : ChainAt w b (.slice a x.ids.length d) x) (R : (Lay.sl Lay.int).Reads w [.slice a x.ids.length d] x.ids) :
    Calls Try.prog 30 #[.pointer (some ⟨b, 0, none⟩)] w fun e w' => e = .returned (.int .i64 (chainFault x)) ∧ w' = w := by
  have x0 := Box.at hX 0 _ rfl
  have x1 := Box.at hX 1 _ rfl
  simp only [List.getElem_toArray, List.getElem_cons_zero, List.getElem_cons_succ] at x0 x1
  have xl := Box.lt hX
  have hbig := R.big
  have HX := hide hX
  have H := hide R
  clear hX R
  go_enter Try.func30, Try.ntmps30
  go_wp2_with fail
  refine (inC x.epoch 1 999 w).mono ?_
  rintro e w1 ⟨rfl, h1⟩
  subst w1
  cases d1 : (decide (1 ≤ x.epoch) && decide (x.epoch ≤ 999))
  · have HF := hide (cf_epoch d1)
    clear d1
    go_wp2_with fail
    go_ret
    exact ⟨by rw [unhide HF]; rfl, rfl⟩
  · by_cases hn : x.ids.length < 1
    · have HF := hide (cf_len d1 (Or.inl hn))
      have hd : decide ((x.ids.length : Int) < 1) = true := by simp; omega
      clear d1
      go_wp2_with fail
      go_ret
      exact ⟨by rw [unhide HF]; rfl, rfl⟩
    · have hd : decide ((x.ids.length : Int) < 1) = false := by simp; omega
      by_cases hm : 5 < x.ids.length
      · have HF := hide (cf_len d1 (Or.inr hm))
        have hd2 : decide ((5 : Int) < (x.ids.length : Int)) = true := by simp; omega
        clear d1
        go_wp2_with fail
        go_ret
        exact ⟨by rw [unhide HF]; rfl, rfl⟩
      · have HF := hide (cf_ids d1 hn hm)
        have hd2 : decide ((5 : Int) < (x.ids.length : Int)) = false := by simp; omega
        clear d1
        go_wp2_with fail
        clear hd hd2
        go_loop [3] (fun i => ∃ k : Nat, k ≤ x.ids.length ∧ i = .int .i64 k ∧ chainFault x = idsF (x.ids.take k) (x.ids.drop k)) (fun i => x.ids.length - (intOf i).toNat)
        case atStart => exact ⟨0, Nat.zero_le _, rfl, unhide HF⟩
        case round =>
          obtain ⟨k, hk, rfl, hz⟩ := hrel
          clear HF
          by_cases hlt : k < x.ids.length
          · rw [idsF_step x.ids k hlt] at hz
            have hself := placeC_self hlt
            obtain ⟨b2, off, rfl, -⟩ := Lay.sl_addr (unhide H) (by omega)
            have c1 := int_cell (unhide H) hlt
            have HP := hide (l10AtC b (some ⟨b2, off, none⟩) d x x.ids[k] w (unhide HX) (unhide H))
            have hdl : decide ((k : Int) < (x.ids.length : Int)) = true := by simp; omega
            have HZ := hide hz
            have HS := hide hself
            clear hz hself
            generalize x.ids[k] = z at *
            go_wp2_with fail
            refine (node10C z w).mono ?_
            rintro e w1 ⟨rfl, h1⟩
            subst w1
            cases d2 : (decide (1 ≤ z) && decide (z ≤ 5))
            · have hz := unhide HZ
              rw [if_neg (by simpa using d2)] at hz
              have HF := hide hz
              clear d2 HZ HS hz
              go_wp2_with fail
              go_ret
              exact ⟨by rw [unhide HF]; rfl, rfl⟩
            · have hz := unhide HZ
              rw [if_pos (by simpa using d2)] at hz
              have HZ2 := hide hz
              clear d2 HZ hz
              go_wp2_with fail
              refine (unhide HP).mono ?_
              rintro e w1 ⟨rfl, h1⟩
              subst w1
              clear HP
              by_cases hq : placeC x.ids z = (k : Int)
              · have hz := unhide HZ2
                rw [if_neg ((unhide HS).1 hq)] at hz
                have HF := hide hz
                have hb : (placeC x.ids z != (k : Int)) = false := by rw [hq]; simp
                clear HZ2 HS hz hq
                generalize placeC x.ids z = p at *
                go_wp2_with fail
                go_round
                case rel => exact ⟨k + 1, by omega, by go_num, unhide HF⟩
                case measure => simp [intOf]; omega
              · have hz := unhide HZ2
                rw [if_pos (Classical.not_not.1 fun hc => hq ((unhide HS).2 hc))] at hz
                have HF := hide hz
                have hb : (placeC x.ids z != (k : Int)) = true := by rw [bne_iff_ne]; exact hq
                clear HZ2 HS hz hq
                generalize placeC x.ids z = p at *
                go_wp2_with fail
                go_ret
                exact ⟨by rw [unhide HF]; rfl, rfl⟩
          · obtain rfl : k = x.ids.length := by omega
            rw [idsF_end] at hz
            have hdl : decide ((x.ids.length : Int) < (x.ids.length : Int)) = false := by simp
            have HF := hide hz
            clear hz
            go_wp2_with fail
            go_ret
            exact ⟨by rw [unhide HF]; rfl, rfl⟩

theorem specChainFault (cs : List Value) (x : DChain) (w : World) (h : Lay.tChain.Reads w cs x) :
    Calls Try.prog 10 #[.agg cs.toArray] w fun e w' => e = .returned (.int .i64 (chainFault x)) ∧ Below w.heap.size w w' := by
  obtain ⟨a, d, rfl, R⟩ := open_Chain h
  have nb : Below w.heap.size w (w.alloc (.cells #[.int .i64 x.epoch, .slice a x.ids.length d] 27)) := (Below.refl _ _).alloc (Nat.le_refl _) _
  have HL := hide (l10FaultC w.heap.size a d x _ (newBox (Nat.zero_le _)) (R.later nb))
  have HB := hide nb
  clear h R nb
  go_enter Try.func10, Try.ntmps10
  go_wp2_with fail
  refine (unhide HL).mono ?_
  rintro e w1 ⟨rfl, h1⟩
  subst w1
  go_wp2_with fail
  go_ret
  exact ⟨rfl, unhide HB⟩
end Go.Proofs.Ytceoaphcjnfphaa

namespace Go.Proofs.Ytceoaphcjnfphaa
open Go.RowKit

theorem besideR_wf {x : DChain} (h : ∀ z ∈ x.ids, (Lit.int .i64 z).wf = true) (id dd : Int) : (Lit.int .i64 (besideR x id dd).code).wf = true ∧ (Lit.int .i64 (besideR x id dd).value).wf = true := by
  unfold besideR
  split
  · split
    · exact ⟨by decide, by decide⟩
    · split
      · exact ⟨by decide, by decide⟩
      · refine ⟨by show (Lit.int .i64 0).wf = true; decide, ?_⟩
        show (Lit.int .i64 (nextC x.ids id dd)).wf = true
        unfold nextC
        split
        · decide
        · rw [List.getD]
          cases hg : x.ids[(placeC x.ids id + dd).toNat]? with
          | none => simp; decide
          | some z => exact h z (List.mem_of_getElem? hg)
  · exact ⟨wf_of_bd (chainFault_bd x), by show (Lit.int .i64 0).wf = true; decide⟩
end Go.Proofs.Ytceoaphcjnfphaa

namespace Go.Proofs.Ytceoaphcjnfphaa
open Go.RowKit

theorem isNodeIdC (n : Int) (w : World) :
    Calls Try.prog 48 #[.int .i64 n] w fun e w' => e = .returned (.bool (decide (1 ≤ n) && decide (n ≤ 5))) ∧ w' = w := by
  by_cases h1 : 1 ≤ n
  · have d1 : decide (1 ≤ n) = true := by simpa using h1
    rw [d1]
    cases d2 : decide (n ≤ 5) <;>
    · go_enter Try.func48, Try.ntmps48
      go_wp2_with fail
      go_ret
      exact ⟨rfl, rfl⟩
  · have d1 : decide (1 ≤ n) = false := by simpa using h1
    rw [d1]
    go_enter Try.func48, Try.ntmps48
    go_wp2_with fail
    go_ret
    exact ⟨rfl, rfl⟩
end Go.Proofs.Ytceoaphcjnfphaa

namespace Go.Proofs.Ytceoaphcjnfphaa
open Go.RowKit

theorem isChainEpochC (n : Int) (w : World) :
    Calls Try.prog 32 #[.int .i64 n] w fun e w' => e = .returned (.bool (decide (1 ≤ n) && decide (n ≤ 999))) ∧ w' = w := by
  by_cases h1 : 1 ≤ n
  · have d1 : decide (1 ≤ n) = true := by simpa using h1
    rw [d1]
    cases d2 : decide (n ≤ 999) <;>
    · go_enter Try.func32, Try.ntmps32
      go_wp2_with fail
      go_ret
      exact ⟨rfl, rfl⟩
  · have d1 : decide (1 ≤ n) = false := by simpa using h1
    rw [d1]
    go_enter Try.func32, Try.ntmps32
    go_wp2_with fail
    go_ret
    exact ⟨rfl, rfl⟩
end Go.Proofs.Ytceoaphcjnfphaa

namespace Go.Proofs.Ytceoaphcjnfphaa
open Go.RowKit

/-- Any part of a list of numbers that stands in memory. -/
theorem part_reads {w : World} {b off cap : Nat} {zs : List Int} (h : (Lay.sl Lay.int).Reads w [.slice (some ⟨b, off, none⟩) zs.length cap] zs) (m n c : Nat) (hm : m + n ≤ zs.length) (hc : n ≤ c) :
    (Lay.sl Lay.int).Reads w [.slice (some ⟨b, off + m, none⟩) n c] ((zs.drop m).take n) := by
  have hi := Lay.ints_reads h
  have hbig := h.big
  obtain ⟨ao, cp, e, hwf, hcs⟩ := hi
  have hlen : ((zs.drop m).take n).length = n := by simp; omega
  refine Lay.reads_ints ?_ (fun ao' cap' e' => ?_) (by rw [hlen]; omega)
  · refine ⟨_, c, by rw [hlen], fun z hz => hwf z (List.mem_of_mem_drop (List.mem_of_mem_take hz)), fun hp => ⟨b, off + m, rfl, fun j hj => ?_⟩⟩
    rw [hlen] at hp hj
    obtain ⟨b', off', hao, hc1⟩ := hcs (by omega)
    simp only [Value.slice.injEq] at e
    obtain ⟨rfl, -, -⟩ := e
    simp only [Option.some.injEq, Addr.mk.injEq, and_true] at hao
    obtain ⟨rfl, rfl⟩ := hao
    rw [Nat.add_assoc, hc1 (m + j) (by omega)]
    simp only [List.getD]
    rw [List.getElem?_take, if_pos hj, List.getElem?_drop]
  · simp only [Value.slice.injEq] at e'
    rw [hlen]
    omega
/-- The first numbers of a list. -/
theorem take_reads {w : World} {ao : Option Addr} {n cap : Nat} {zs : List Int} (h : (Lay.sl Lay.int).Reads w [.slice ao n cap] zs) (k : Nat) (hk : k ≤ zs.length) :
    (Lay.sl Lay.int).Reads w [.slice ao k cap] (zs.take k) := by
  have hc := h.cap
  by_cases h0 : k = 0
  · subst h0
    rw [List.take_zero]
    exact Lay.reads_ints ⟨ao, cap, rfl, by simp, fun hp => by simp at hp⟩ (fun _ _ _ => by simp) (by simp)
  · have hi := Lay.ints_reads h
    obtain ⟨ao', cp, e, hwf, hcs⟩ := hi
    obtain ⟨b', off', hao, hc1⟩ := hcs (by omega)
    simp only [Value.slice.injEq] at e
    obtain ⟨rfl, rfl, rfl⟩ := e
    subst hao
    have := part_reads h 0 k cap (by omega) (by omega)
    simpa using this

end Go.Proofs.Ytceoaphcjnfphaa

namespace Go.Proofs.Ytceoaphcjnfphaa
open Go.RowKit

theorem isNodeCountC (n : Int) (w : World) :
    Calls Try.prog 37 #[.int .i64 n] w fun e w' => e = .returned (.bool (decide (1 ≤ n) && decide (n ≤ 5))) ∧ w' = w := by
  by_cases h1 : 1 ≤ n
  · have d1 : decide (1 ≤ n) = true := by simpa using h1
    rw [d1]
    cases d2 : decide (n ≤ 5) <;>
    · go_enter Try.func37, Try.ntmps37
      go_wp2_with fail
      go_ret
      exact ⟨rfl, rfl⟩
  · have d1 : decide (1 ≤ n) = false := by simpa using h1
    rw [d1]
    go_enter Try.func37, Try.ntmps37
    go_wp2_with fail
    go_ret
    exact ⟨rfl, rfl⟩

set_option maxRecDepth 10000 in
set_option maxHeartbeats 1000000 in
theorem indexI (v : Value) (ids : List Int) (id : Int) (w : World) (R : (Lay.sl Lay.int).Reads w [v] ids) :
    Calls Try.prog 43 #[v, .int .i64 id] w fun e w' => e = .returned (.int .i64 (placeC ids id)) ∧ w' = w := by
  obtain ⟨ao, cap, rfl⟩ := open_sl R
  have hbig := R.big
  have H := hide R
  clear R
  go_enter Try.func43, Try.ntmps43
  go_wp2_with fail
  go_loop [8] (fun i => ∃ k : Nat, k ≤ ids.length ∧ i = .int .i64 k ∧ (∀ j (hj : j < ids.length), j < k → ids[j] ≠ id)) (fun i => ids.length - (intOf i).toNat)
  case atStart => exact ⟨0, Nat.zero_le _, rfl, fun j _ h => by omega⟩
  case round =>
    obtain ⟨k, hk, rfl, hz⟩ := hrel
    by_cases hlt : k < ids.length
    · obtain ⟨b2, off, rfl, -⟩ := Lay.sl_addr (unhide H) (by omega)
      have c1 := int_cell (unhide H) hlt
      cases hq : (id == ids[k])
      · have HZ : Hid (∀ j (hj : j < ids.length), j < k + 1 → ids[j] ≠ id) := fun j hj hjk => by
          by_cases h2 : j < k
          · exact hz j hj h2
          · obtain rfl : j = k := by omega
            intro h3
            rw [h3] at hq
            simp at hq
        clear hz
        generalize ids[k] = z at *
        go_wp2_with fail
        go_round
        case rel => exact ⟨k + 1, by omega, by go_num, unhide HZ⟩
        case measure => simp [intOf]; omega
      · have HP := hide (placeC_at hlt (beq_iff_eq.1 hq).symm (fun j hj => hz j (by omega) hj))
        clear hz
        generalize ids[k] = z at *
        go_wp2_with fail
        go_ret
        exact ⟨by rw [unhide HP]; rfl, rfl⟩
    · obtain rfl : k = ids.length := by omega
      have HP := hide (placeC_none (id := id) (fun j hj => hz j hj hj))
      clear hz
      go_wp2_with fail
      go_ret
      exact ⟨by rw [unhide HP]; rfl, rfl⟩

theorem containsI (v : Value) (ids : List Int) (id : Int) (w : World) (R : (Lay.sl Lay.int).Reads w [v] ids) :
    Calls Try.prog 49 #[v, .int .i64 id] w fun e w' => e = .returned (.bool (decide (0 ≤ placeC ids id))) ∧ w' = w := by
  have HL := hide (indexI v ids id w R)
  obtain ⟨ao, cap, rfl⟩ := open_sl R
  generalize placeC ids id = n at *
  clear R
  go_enter Try.func49, Try.ntmps49
  go_wp2_with fail
  refine (unhide HL).mono ?_
  rintro e w1 ⟨rfl, h1⟩
  subst w1
  clear HL
  go_wp2_with fail
  go_ret
  exact ⟨rfl, rfl⟩

def idsFaultP (ids : List Int) : Int := if 1 ≤ ids.length ∧ ids.length ≤ 5 then idsF [] ids else 2
theorem idsFaultP_many {ids : List Int} (h : (decide (1 ≤ (ids.length : Int)) && decide ((ids.length : Int) ≤ 5)) = false) : idsFaultP ids = 2 := by
  rw [idsFaultP, if_neg]
  intro h2
  rw [decide_eq_true (by omega), decide_eq_true (by omega)] at h
  simp at h
theorem idsFaultP_few {ids : List Int} (h : (decide (1 ≤ (ids.length : Int)) && decide ((ids.length : Int) ≤ 5)) = true) : idsFaultP ids = idsF (ids.take 0) (ids.drop 0) := by
  rw [idsFaultP, if_pos]
  · simp
  · simp at h
    omega
theorem mem_place (ids : List Int) (z : Int) : decide (0 ≤ placeC ids z) = true ↔ z ∈ ids := by
  have h := placeC_neg ids z
  rw [decide_eq_true_iff]
  constructor
  · intro h1
    refine Decidable.byContradiction fun h2 => ?_
    have := h.2 h2
    omega
  · intro h1
    refine Decidable.byContradiction fun h2 => ?_
    exact h.1 (by omega) h1

set_option maxRecDepth 10000 in
set_option maxHeartbeats 1000000 in
theorem idsFaultC (v : Value) (ids : List Int) (w : World) (R : (Lay.sl Lay.int).Reads w [v] ids) :
    Calls Try.prog 33 #[v] w fun e w' => e = .returned (.int .i64 (idsFaultP ids)) ∧ w' = w := by
  obtain ⟨ao, cap, rfl⟩ := open_sl R
  have hbig := R.big
  have hcap := R.cap
  have H := hide R
  clear R
  go_enter Try.func33, Try.ntmps33
  go_wp2_with fail
  refine (isNodeCountC (ids.length : Int) w).mono ?_
  rintro e w1 ⟨rfl, h1⟩
  subst w1
  cases d1 : (decide (1 ≤ (ids.length : Int)) && decide ((ids.length : Int) ≤ 5))
  · have HF := hide (idsFaultP_many d1)
    clear d1
    go_wp2_with fail
    go_ret
    exact ⟨by rw [unhide HF]; rfl, rfl⟩
  · have HF := hide (idsFaultP_few d1)
    clear d1
    go_wp2_with fail
    go_loop [11] (fun i => ∃ k : Nat, k ≤ ids.length ∧ i = .int .i64 k ∧ idsFaultP ids = idsF (ids.take k) (ids.drop k)) (fun i => ids.length - (intOf i).toNat)
    case atStart => exact ⟨0, Nat.zero_le _, rfl, unhide HF⟩
    case round =>
      obtain ⟨k, hk, rfl, hz⟩ := hrel
      clear HF
      by_cases hlt : k < ids.length
      · rw [idsF_step ids k hlt] at hz
        obtain ⟨b2, off, rfl, -⟩ := Lay.sl_addr (unhide H) (by omega)
        have c1 := int_cell (unhide H) hlt
        have HC := hide (containsI (.slice (some ⟨b2, off, none⟩) k cap) (ids.take k) ids[k] w (take_reads (unhide H) k (by omega)))
        have HM := hide (mem_place (ids.take k) ids[k])
        have hdl : decide ((k : Int) < (ids.length : Int)) = true := by simp; omega
        have HZ := hide hz
        have hkc : k ≤ cap := by omega
        clear hz
        generalize ids[k] = z at *
        generalize ids.take k = zk at *
        go_wp2_with fail
        refine (isNodeIdC z w).mono ?_
        rintro e w1 ⟨rfl, h1⟩
        subst w1
        cases d2 : (decide (1 ≤ z) && decide (z ≤ 5))
        · have hz := unhide HZ
          rw [if_neg (by intro h; simp at d2; omega)] at hz
          have HF := hide hz
          clear hz HZ d2
          go_wp2_with fail
          go_ret
          exact ⟨by rw [unhide HF]; rfl, rfl⟩
        · have hz := unhide HZ
          rw [if_pos (by simpa using d2)] at hz
          clear HZ d2
          have HZ := hide hz
          clear hz
          go_wp2_with fail
          refine (unhide HC).mono ?_
          rintro e w1 ⟨rfl, h1⟩
          subst w1
          cases d3 : decide (0 ≤ placeC zk z)
          · have hz := unhide HZ
            rw [if_neg (fun hm => by rw [(unhide HM).2 hm] at d3; simp at d3)] at hz
            have HF := hide hz
            clear hz HZ d3 HM HC
            go_wp2_with fail
            go_round
            case rel => exact ⟨k + 1, by omega, by go_num, unhide HF⟩
            case measure => simp [intOf]; omega
          · have hz := unhide HZ
            rw [if_pos ((unhide HM).1 d3)] at hz
            have HF := hide hz
            clear hz HZ d3 HM HC
            go_wp2_with fail
            go_ret
            exact ⟨by rw [unhide HF]; rfl, rfl⟩
      · obtain rfl : k = ids.length := by omega
        rw [idsF_end] at hz
        have HF := hide hz
        clear hz
        go_wp2_with fail
        go_ret
        exact ⟨by rw [unhide HF]; rfl, rfl⟩

theorem cfi_out {x : DChain} (h : (decide (1 ≤ x.epoch) && decide (x.epoch ≤ 999)) = false) : chainFault x = 3 := by rw [chainFault, if_neg (by simp at h; omega)]
theorem cfi_ids {x : DChain} (h : (decide (1 ≤ x.epoch) && decide (x.epoch ≤ 999)) = true) : chainFault x = idsFaultP x.ids := by rw [chainFault, if_pos (by simp at h; omega), idsFaultP]

set_option maxRecDepth 10000 in
set_option maxHeartbeats 1000000 in
theorem implChainFault (cs : List Value) (x : DChain) (w : World) (h : Lay.tChain.Reads w cs x) :
    Calls Try.prog 12 #[.agg cs.toArray] w fun e w' => e = .returned (.int .i64 (chainFault x)) ∧ Below w.heap.size w w' := by
  obtain ⟨a, d, rfl, R⟩ := open_Chain h
  have nb : Below w.heap.size w (w.alloc (.cells #[.int .i64 x.epoch, .slice a x.ids.length d] 27)) := (Below.refl _ _).alloc (Nat.le_refl _) _
  have HR := hide (R.later nb)
  have HB := hide nb
  have HX : Hid (Box 0 #[.int .i64 x.epoch, .slice a x.ids.length d] 27 (w.alloc (.cells #[.int .i64 x.epoch, .slice a x.ids.length d] 27)) w.heap.size) := newBox (Nat.zero_le _)
  clear R h nb
  go_enter Try.func12, Try.ntmps12
  go_upto_region 1 with fail
  generalize w.alloc (.cells #[.int .i64 x.epoch, .slice a x.ids.length d] 27) = W at *
  have z0 : W.cell? ⟨w.heap.size, 0, none⟩ = some (.int .i64 x.epoch) := (unhide HX).at 0 _ rfl
  have z1 : W.cell? ⟨w.heap.size, 1, none⟩ = some (.slice a x.ids.length d) := (unhide HX).at 1 _ rfl
  clear HX
  cases d1 : (decide (1 ≤ x.epoch) && decide (x.epoch ≤ 999))
  · have HF := hide (cfi_out d1)
    have L := hide (isChainEpochC x.epoch W)
    rw [d1] at L
    clear d1
    go_wp2_with fail
    refine (unhide L).mono ?_
    rintro e w1 ⟨rfl, h1⟩
    subst w1
    clear L
    go_wp2_with fail
    go_ret
    exact ⟨by rw [unhide HF]; rfl, unhide HB⟩
  · have HF := hide (cfi_ids d1)
    have L := hide (isChainEpochC x.epoch W)
    rw [d1] at L
    clear d1
    go_wp2_with fail
    refine (unhide L).mono ?_
    rintro e w1 ⟨rfl, h1⟩
    subst w1
    clear L
    have L := hide (idsFaultC _ x.ids _ (unhide HR))
    go_wp2_with fail
    refine (unhide L).mono ?_
    rintro e w1 ⟨rfl, h1⟩
    subst w1
    clear L
    go_wp2_with fail
    go_ret
    exact ⟨by rw [unhide HF]; rfl, unhide HB⟩
end Go.Proofs.Ytceoaphcjnfphaa

namespace Go.Proofs.Ytceoaphcjnfphaa
open Go.RowKit

theorem besideR_none {x : DChain} {id dd : Int} (hf : chainFault x = 0) (h : placeC x.ids id < 0) : besideR x id dd = ⟨4, 0⟩ := by rw [besideR, if_pos hf, if_pos h]
theorem besideR_end {x : DChain} {id dd : Int} (hf : chainFault x = 0) (h : 0 ≤ placeC x.ids id) (h2 : placeC x.ids id + dd < 0 ∨ (x.ids.length : Int) ≤ placeC x.ids id + dd) : besideR x id dd = ⟨8, 0⟩ := by
  rw [besideR, if_pos hf, if_neg (by omega), if_pos]
  rw [nextC, if_pos (Or.inr h2)]
theorem besideR_at {x : DChain} {id dd : Int} (hf : chainFault x = 0) (h : 0 ≤ placeC x.ids id) {m : Nat} (hm : placeC x.ids id + dd = (m : Int)) (hl : m < x.ids.length) : besideR x id dd = ⟨0, x.ids[m]⟩ := by
  have e : nextC x.ids id dd = x.ids[m] := by
    rw [nextC, if_neg (by omega), hm]
    simp [List.getD, hl]
  have hz := (chainFault_zero hf).ids x.ids[m] (List.getElem_mem hl)
  rw [besideR, if_pos hf, if_neg (by omega), if_neg (by rw [e]; omega), e]

set_option maxRecDepth 10000 in
set_option maxHeartbeats 1000000 in
theorem beside1C (b bs : Nat) (a : Option Addr) (d : Nat) (x : DChain) (id dd : Int) (w : World) (hX : ChainAt w b (.slice a x.ids.length d) x) (hS : Box 0 #[.int .i64 dd] 3 w bs) (R : (Lay.sl Lay.int).Reads w [.slice a x.ids.length d] x.ids) (hf : chainFault x = 0) (hd : -1 ≤ dd ∧ dd ≤ 1) :
    Calls Try.prog 54 #[.int .i64 id, .pointer (some ⟨b, 0, none⟩), .pointer (some ⟨bs, 0, none⟩)] w fun e w' => e = .returned (.agg #[.int .i64 (besideR x id dd).code, .int .i64 (besideR x id dd).value]) ∧ Below w.heap.size w w' := by
  have HB : Hid (Below w.heap.size w (w.alloc (.cells #[.int .i64 0, .int .i64 0] 38))) := (Below.refl _ _).alloc (Nat.le_refl _) _
  have HR : Hid (Box 0 #[.int .i64 0, .int .i64 0] 38 (w.alloc (.cells #[.int .i64 0, .int .i64 0] 38)) w.heap.size) := newBox (Nat.zero_le _)
  have HX := hide (hX.keep (unhide HB))
  have HS := hide (hS.keep (unhide HB))
  have H := hide (R.later (unhide HB))
  have hxb := hX.lt
  have hsb := hS.lt
  have hlen := (chainFault_zero hf).len
  have HP := hide (indexI _ x.ids id _ (unhide H))
  have HN := hide (besideR_none (id := id) (dd := dd) hf)
  have HE := hide (besideR_end (id := id) (dd := dd) hf)
  have HA := hide (fun h m hm hl => besideR_at (id := id) (dd := dd) hf h (m := m) hm hl)
  clear hX hS R hf
  go_enter Try.func54, Try.ntmps54
  have x1 : (w.alloc (.cells #[.int .i64 0, .int .i64 0] 38)).cell? ⟨b, 1, none⟩ = some (.slice a x.ids.length d) := (unhide HX).at 1 _ rfl
  have s0 : (w.alloc (.cells #[.int .i64 0, .int .i64 0] 38)).cell? ⟨bs, 0, none⟩ = some (.int .i64 dd) := (unhide HS).at 0 _ rfl
  have z0 : (w.alloc (.cells #[.int .i64 0, .int .i64 0] 38)).cell? ⟨w.heap.size, 0, none⟩ = some (.int .i64 0) := (unhide HR).at 0 _ rfl
  have z1 : (w.alloc (.cells #[.int .i64 0, .int .i64 0] 38)).cell? ⟨w.heap.size, 1, none⟩ = some (.int .i64 0) := (unhide HR).at 1 _ rfl
  have ff := (unhide HR).soft
  have l0 := (unhide HR).lt
  go_wp2_with fail
  generalize w.alloc (.cells #[.int .i64 0, .int .i64 0] 38) = W at *
  refine (unhide HP).mono ?_
  rintro e w1 ⟨rfl, h1⟩
  subst w1
  clear HP
  have hb := placeC_bd x.ids id
  generalize placeC x.ids id = p at *
  have HB1 := hide (fun vs => below_setAll (unhide HB) w.heap.size 0 vs (Nat.le_refl _))
  clear HB HR HX HS
  by_cases h0 : p < 0
  · have HF := hide (unhide HN h0)
    have hd0 : decide (p < 0) = true := by simpa using h0
    clear HN HE HA
    go_wp2_with fail
    refine bodyPost_ret (v := .agg #[.int .i64 4, .int .i64 0]) (by simp [results, Try.results54, go_sem, z0, z1]) rfl ?_
    exact ⟨by rw [unhide HF], unhide HB1 [_, _]⟩
  · have hd0 : decide (p < 0) = false := by simpa using h0
    by_cases h1 : p + dd < 0
    · have HF := hide (unhide HE (by omega) (Or.inl h1))
      have hd1 : decide (p + dd < 0) = true := by simpa using h1
      clear HN HE HA
      go_wp2_with fail
      refine bodyPost_ret (v := .agg #[.int .i64 8, .int .i64 0]) (by simp [results, Try.results54, go_sem, z0, z1]) rfl ?_
      exact ⟨by rw [unhide HF], unhide HB1 [_, _]⟩
    · have hd1 : decide (p + dd < 0) = false := by simpa using h1
      by_cases h2 : (x.ids.length : Int) ≤ p + dd
      · have HF := hide (unhide HE (by omega) (Or.inr h2))
        have hd2 : decide ((x.ids.length : Int) ≤ p + dd) = true := by simpa using h2
        clear HN HE HA
        go_wp2_with fail
        refine bodyPost_ret (v := .agg #[.int .i64 8, .int .i64 0]) (by simp [results, Try.results54, go_sem, z0, z1]) rfl ?_
        exact ⟨by rw [unhide HF], unhide HB1 [_, _]⟩
      · have hd2 : decide ((x.ids.length : Int) ≤ p + dd) = false := by simp; omega
        obtain ⟨m, hm⟩ : ∃ m : Nat, p + dd = (m : Int) := ⟨(p + dd).toNat, by omega⟩
        have hml : m < x.ids.length := by omega
        have HF := hide (unhide HA (by omega) m hm hml)
        obtain ⟨b2, off, rfl, -⟩ := Lay.sl_addr (unhide H) (by omega)
        have c1 := int_cell (unhide H) hml
        clear HN HE HA
        generalize x.ids[m] = z at *
        rw [hm] at hd1 hd2
        go_wp2_with fail
        refine bodyPost_ret (v := .agg #[.int .i64 0, .int .i64 z]) (by simp [results, Try.results54, go_sem, z0, z1]) rfl ?_
        exact ⟨by rw [unhide HF], unhide HB1 [_, _]⟩

set_option maxRecDepth 10000 in
theorem besideInC (a : Option Addr) (d : Nat) (x : DChain) (dd : Int) (w : World) :
    Calls Try.prog 40 #[.agg #[.int .i64 x.epoch, .slice a x.ids.length d], .int .i64 dd] w fun e w' => ∃ b bs, e = .returned (.func (.func 54) #[] #[.pointer (some ⟨b, 0, none⟩), .pointer (some ⟨bs, 0, none⟩)]) ∧ ChainAt w' b (.slice a x.ids.length d) x ∧ Box 0 #[.int .i64 dd] 3 w' bs ∧ Below w.heap.size w w' := by
  have HB : Hid (Below w.heap.size w ((w.alloc (.cells #[.int .i64 x.epoch, .slice a x.ids.length d] 27)).alloc (.cells #[.int .i64 dd] 3))) := ((Below.refl _ _).alloc (Nat.le_refl _) _).alloc (by simp) _
  have HX : Hid (ChainAt ((w.alloc (.cells #[.int .i64 x.epoch, .slice a x.ids.length d] 27)).alloc (.cells #[.int .i64 dd] 3)) w.heap.size (.slice a x.ids.length d) x) := (newBox (Nat.zero_le _)).grow _
  have HS : Hid (Box 0 #[.int .i64 dd] 3 ((w.alloc (.cells #[.int .i64 x.epoch, .slice a x.ids.length d] 27)).alloc (.cells #[.int .i64 dd] 3)) (w.heap.size + 1)) := newBoxAt (Nat.zero_le _) (by simp)
  go_enter Try.func40, Try.ntmps40
  go_wp2_with fail
  go_ret
  exact ⟨_, _, rfl, unhide HX, unhide HS, unhide HB⟩

set_option maxRecDepth 10000 in
set_option maxHeartbeats 1000000 in
theorem implNextIn (cs : List Value) (x : DChain) (id : Int) (w : World) (h : Lay.tChain.Reads w cs x) :
    Calls Try.prog 20 #[.agg cs.toArray, .int .i64 id] w fun e w' => ∃ cs, e = .returned (.agg cs.toArray) ∧ Lay.tIntResult.OwnIn w' cs (besideR x id 1) w.heap.size w'.heap.size ∧ Below w.heap.size w w' := by
  obtain ⟨a, d, rfl, R⟩ := open_Chain h
  have nb : Below w.heap.size w ((w.alloc (.cells #[.int .i64 x.epoch, .slice a x.ids.length d] 27)).alloc (.cells #[.int .i64 0, .int .i64 0] 38)) := ((Below.refl _ _).alloc (Nat.le_refl _) _).alloc (by simp) _
  have hX : ChainAt ((w.alloc (.cells #[.int .i64 x.epoch, .slice a x.ids.length d] 27)).alloc (.cells #[.int .i64 0, .int .i64 0] 38)) w.heap.size (.slice a x.ids.length d) x := (newBox (Nat.zero_le _)).grow _
  have bR : Box 0 #[.int .i64 0, .int .i64 0] 38 ((w.alloc (.cells #[.int .i64 x.epoch, .slice a x.ids.length d] 27)).alloc (.cells #[.int .i64 0, .int .i64 0] 38)) (w.heap.size + 1) := newBoxAt (Nat.zero_le _) (by simp)
  have HL := hide (implChainFault _ x _ (h.later nb))
  have HW : Hid ((Lit.int .i64 (besideR x id 1).code).wf = true ∧ (Lit.int .i64 (besideR x id 1).value).wf = true) := besideR_wf (int_wf R) id 1
  have HRd := hide (R.later nb)
  have HB := hide nb
  have HR := hide bR
  have HX := hide hX
  have x0 : ((w.alloc (.cells #[.int .i64 x.epoch, .slice a x.ids.length d] 27)).alloc (.cells #[.int .i64 0, .int .i64 0] 38)).cell? ⟨w.heap.size, 0, none⟩ = some (.int .i64 x.epoch) := hX.at 0 _ rfl
  have x1 : ((w.alloc (.cells #[.int .i64 x.epoch, .slice a x.ids.length d] 27)).alloc (.cells #[.int .i64 0, .int .i64 0] 38)).cell? ⟨w.heap.size, 1, none⟩ = some (.slice a x.ids.length d) := hX.at 1 _ rfl
  clear h R nb hX bR
  go_enter Try.func20, Try.ntmps20
  go_wp2_with fail
  generalize (w.alloc (.cells #[.int .i64 x.epoch, .slice a x.ids.length d] 27)).alloc (.cells #[.int .i64 0, .int .i64 0] 38) = W at *
  refine (unhide HL).mono ?_
  rintro e w1 ⟨rfl, hb⟩
  replace HX := hide ((unhide HX).keep hb)
  replace HR := hide ((unhide HR).keep hb)
  replace HRd := hide ((unhide HRd).later hb)
  replace HB := hide ((unhide HB).trans (hb.mono (unhide HB).size))
  clear HL hb x0 x1
  have x0 : w1.cell? ⟨w.heap.size, 0, none⟩ = some (.int .i64 x.epoch) := (unhide HX).at 0 _ rfl
  have x1 : w1.cell? ⟨w.heap.size, 1, none⟩ = some (.slice a x.ids.length d) := (unhide HX).at 1 _ rfl
  have xl := (unhide HX).lt
  by_cases hf : chainFault x = 0
  · rw [hf]
    have HO : Hid (∀ W', Lay.tIntResult.OwnIn W' [.int .i64 (besideR x id 1).code, .int .i64 (besideR x id 1).value] (besideR x id 1) w.heap.size W'.heap.size) := fun W' => own_intRC (unhide HW).1 (unhide HW).2
    have HK : Hid (∀ (b bs : Nat) W', ChainAt W' b (.slice a x.ids.length d) x → Box 0 #[.int .i64 1] 3 W' bs → (Lay.sl Lay.int).Reads W' [.slice a x.ids.length d] x.ids → Calls Try.prog 54 #[.int .i64 id, .pointer (some ⟨b, 0, none⟩), .pointer (some ⟨bs, 0, none⟩)] W' fun e w' => e = .returned (.agg #[.int .i64 (besideR x id 1).code, .int .i64 (besideR x id 1).value]) ∧ Below W'.heap.size W' w') := fun b bs W' q1 q2 q3 => beside1C b bs a d x id 1 W' q1 q2 q3 hf (by omega)
    generalize (besideR x id 1).code = yc at *
    generalize (besideR x id 1).value = yv at *
    clear hf HW
    go_wp2_with fail
    refine (besideInC a d x 1 w1).mono ?_
    rintro e w2 ⟨b, bs, rfl, hX2, hS2, hb⟩
    have HX2 := hide hX2
    have HS2 := hide hS2
    replace HR := hide ((unhide HR).keep hb)
    replace HRd := hide ((unhide HRd).later hb)
    replace HB := hide ((unhide HB).trans (hb.mono (unhide HB).size))
    clear hX2 hS2 hb x0 x1 xl HX
    go_wp2_with fail
    refine (unhide HK b bs w2 (unhide HX2) (unhide HS2) (unhide HRd)).mono ?_
    rintro e w3 ⟨rfl, hb⟩
    have bR := (unhide HR).keep hb
    have z0 : w3.cell? ⟨w.heap.size + 1, 0, none⟩ = some (.int .i64 0) := bR.at 0 _ rfl
    have z1 : w3.cell? ⟨w.heap.size + 1, 1, none⟩ = some (.int .i64 0) := bR.at 1 _ rfl
    have ff := bR.soft
    have l0 := bR.lt
    have HB2 := hide (below_setAll ((unhide HB).trans (hb.mono (unhide HB).size)) (w.heap.size + 1) 0 [.int .i64 yc, .int .i64 yv] (by omega))
    clear HB HR bR hb HX2 HS2 HRd HK
    go_wp2_with fail
    refine bodyPost_ret (v := .agg #[.int .i64 yc, .int .i64 yv]) (by simp [results, Try.results20, go_sem, z0, z1]) rfl ?_
    exact ⟨_, rfl, unhide HO _, unhide HB2⟩
  · have HV := hide (besideR_bad (id := id) (d := 1) hf)
    have hd : (chainFault x != 0) = true := by simpa using hf
    have HC := hide (chainFault_bd x)
    have z0 : w1.cell? ⟨w.heap.size + 1, 0, none⟩ = some (.int .i64 0) := (unhide HR).at 0 _ rfl
    have z1 : w1.cell? ⟨w.heap.size + 1, 1, none⟩ = some (.int .i64 0) := (unhide HR).at 1 _ rfl
    have ff := (unhide HR).soft
    have l0 := (unhide HR).lt
    generalize chainFault x = c at *
    have HB2 := hide (below_setAll (unhide HB) (w.heap.size + 1) 0 [.int .i64 c, .int .i64 0] (by omega))
    clear HB HR HX HRd hf HW
    go_wp2_with fail
    refine bodyPost_ret (v := .agg #[.int .i64 c, .int .i64 0]) (by simp [results, Try.results20, go_sem, z0, z1]) rfl ?_
    rw [unhide HV]
    exact ⟨[_, _], rfl, own_intRC (wf_of_bd (unhide HC)) (by decide), unhide HB2⟩

set_option maxRecDepth 10000 in
set_option maxHeartbeats 1000000 in
theorem implPrevIn (cs : List Value) (x : DChain) (id : Int) (w : World) (h : Lay.tChain.Reads w cs x) :
    Calls Try.prog 23 #[.agg cs.toArray, .int .i64 id] w fun e w' => ∃ cs, e = .returned (.agg cs.toArray) ∧ Lay.tIntResult.OwnIn w' cs (besideR x id (-1)) w.heap.size w'.heap.size ∧ Below w.heap.size w w' := by
  obtain ⟨a, d, rfl, R⟩ := open_Chain h
  have nb : Below w.heap.size w ((w.alloc (.cells #[.int .i64 x.epoch, .slice a x.ids.length d] 27)).alloc (.cells #[.int .i64 0, .int .i64 0] 38)) := ((Below.refl _ _).alloc (Nat.le_refl _) _).alloc (by simp) _
  have hX : ChainAt ((w.alloc (.cells #[.int .i64 x.epoch, .slice a x.ids.length d] 27)).alloc (.cells #[.int .i64 0, .int .i64 0] 38)) w.heap.size (.slice a x.ids.length d) x := (newBox (Nat.zero_le _)).grow _
  have bR : Box 0 #[.int .i64 0, .int .i64 0] 38 ((w.alloc (.cells #[.int .i64 x.epoch, .slice a x.ids.length d] 27)).alloc (.cells #[.int .i64 0, .int .i64 0] 38)) (w.heap.size + 1) := newBoxAt (Nat.zero_le _) (by simp)
  have HL := hide (implChainFault _ x _ (h.later nb))
  have HW : Hid ((Lit.int .i64 (besideR x id (-1)).code).wf = true ∧ (Lit.int .i64 (besideR x id (-1)).value).wf = true) := besideR_wf (int_wf R) id (-1)
  have HRd := hide (R.later nb)
  have HB := hide nb
  have HR := hide bR
  have HX := hide hX
  have x0 : ((w.alloc (.cells #[.int .i64 x.epoch, .slice a x.ids.length d] 27)).alloc (.cells #[.int .i64 0, .int .i64 0] 38)).cell? ⟨w.heap.size, 0, none⟩ = some (.int .i64 x.epoch) := hX.at 0 _ rfl
  have x1 : ((w.alloc (.cells #[.int .i64 x.epoch, .slice a x.ids.length d] 27)).alloc (.cells #[.int .i64 0, .int .i64 0] 38)).cell? ⟨w.heap.size, 1, none⟩ = some (.slice a x.ids.length d) := hX.at 1 _ rfl
  clear h R nb hX bR
  go_enter Try.func23, Try.ntmps23
  go_wp2_with fail
  generalize (w.alloc (.cells #[.int .i64 x.epoch, .slice a x.ids.length d] 27)).alloc (.cells #[.int .i64 0, .int .i64 0] 38) = W at *
  refine (unhide HL).mono ?_
  rintro e w1 ⟨rfl, hb⟩
  replace HX := hide ((unhide HX).keep hb)
  replace HR := hide ((unhide HR).keep hb)
  replace HRd := hide ((unhide HRd).later hb)
  replace HB := hide ((unhide HB).trans (hb.mono (unhide HB).size))
  clear HL hb x0 x1
  have x0 : w1.cell? ⟨w.heap.size, 0, none⟩ = some (.int .i64 x.epoch) := (unhide HX).at 0 _ rfl
  have x1 : w1.cell? ⟨w.heap.size, 1, none⟩ = some (.slice a x.ids.length d) := (unhide HX).at 1 _ rfl
  have xl := (unhide HX).lt
  by_cases hf : chainFault x = 0
  · rw [hf]
    have HO : Hid (∀ W', Lay.tIntResult.OwnIn W' [.int .i64 (besideR x id (-1)).code, .int .i64 (besideR x id (-1)).value] (besideR x id (-1)) w.heap.size W'.heap.size) := fun W' => own_intRC (unhide HW).1 (unhide HW).2
    have HK : Hid (∀ (b bs : Nat) W', ChainAt W' b (.slice a x.ids.length d) x → Box 0 #[.int .i64 (-1)] 3 W' bs → (Lay.sl Lay.int).Reads W' [.slice a x.ids.length d] x.ids → Calls Try.prog 54 #[.int .i64 id, .pointer (some ⟨b, 0, none⟩), .pointer (some ⟨bs, 0, none⟩)] W' fun e w' => e = .returned (.agg #[.int .i64 (besideR x id (-1)).code, .int .i64 (besideR x id (-1)).value]) ∧ Below W'.heap.size W' w') := fun b bs W' q1 q2 q3 => beside1C b bs a d x id (-1) W' q1 q2 q3 hf (by omega)
    generalize (besideR x id (-1)).code = yc at *
    generalize (besideR x id (-1)).value = yv at *
    clear hf HW
    go_wp2_with fail
    refine (besideInC a d x (-1) w1).mono ?_
    rintro e w2 ⟨b, bs, rfl, hX2, hS2, hb⟩
    have HX2 := hide hX2
    have HS2 := hide hS2
    replace HR := hide ((unhide HR).keep hb)
    replace HRd := hide ((unhide HRd).later hb)
    replace HB := hide ((unhide HB).trans (hb.mono (unhide HB).size))
    clear hX2 hS2 hb x0 x1 xl HX
    go_wp2_with fail
    refine (unhide HK b bs w2 (unhide HX2) (unhide HS2) (unhide HRd)).mono ?_
    rintro e w3 ⟨rfl, hb⟩
    have bR := (unhide HR).keep hb
    have z0 : w3.cell? ⟨w.heap.size + 1, 0, none⟩ = some (.int .i64 0) := bR.at 0 _ rfl
    have z1 : w3.cell? ⟨w.heap.size + 1, 1, none⟩ = some (.int .i64 0) := bR.at 1 _ rfl
    have ff := bR.soft
    have l0 := bR.lt
    have HB2 := hide (below_setAll ((unhide HB).trans (hb.mono (unhide HB).size)) (w.heap.size + 1) 0 [.int .i64 yc, .int .i64 yv] (by omega))
    clear HB HR bR hb HX2 HS2 HRd HK
    go_wp2_with fail
    refine bodyPost_ret (v := .agg #[.int .i64 yc, .int .i64 yv]) (by simp [results, Try.results23, go_sem, z0, z1]) rfl ?_
    exact ⟨_, rfl, unhide HO _, unhide HB2⟩
  · have HV := hide (besideR_bad (id := id) (d := (-1)) hf)
    have hd : (chainFault x != 0) = true := by simpa using hf
    have HC := hide (chainFault_bd x)
    have z0 : w1.cell? ⟨w.heap.size + 1, 0, none⟩ = some (.int .i64 0) := (unhide HR).at 0 _ rfl
    have z1 : w1.cell? ⟨w.heap.size + 1, 1, none⟩ = some (.int .i64 0) := (unhide HR).at 1 _ rfl
    have ff := (unhide HR).soft
    have l0 := (unhide HR).lt
    generalize chainFault x = c at *
    have HB2 := hide (below_setAll (unhide HB) (w.heap.size + 1) 0 [.int .i64 c, .int .i64 0] (by omega))
    clear HB HR HX HRd hf HW
    go_wp2_with fail
    refine bodyPost_ret (v := .agg #[.int .i64 c, .int .i64 0]) (by simp [results, Try.results23, go_sem, z0, z1]) rfl ?_
    rw [unhide HV]
    exact ⟨[_, _], rfl, own_intRC (wf_of_bd (unhide HC)) (by decide), unhide HB2⟩
end Go.Proofs.Ytceoaphcjnfphaa
