/-
  Texts of this proof in one: LayWritesResult, SeqPlain, LayOnceResult, AppPlain, LayNodeResult, NodePlain, LayChainResult, LayTextResult, ReadPlain, NumPlain, ChainPlain, LayNetResult, SamePlain, NetPlain, NetsPlain, WorldPlain, OwnNetResult, StoreKit, NetKit, OwnChainResult, ChainKit, WorldOK, OwnNodeResult, NodeFew, WorldSt, RowPut, WorldPut, ImplNodeId, ImplEpoch, PartReads, ImplChainF, ImplUpTo, NodeEqs, AppInt, AppWrite, ImplTell, VecOf, ImplDeed, ListC, ImplWOf, ImplWOfA, LayOpen.
  Their conditions stand in their theorems.
-/
import Derived.Test.YtomphbenbnnfgaaGreatDoorHw01
import Derived.Test.YtomphbenbnnfgaaGreatDoorHw00
import Derived.Test.YtomphbenbnnfgaaGreatDoorHw04
import Derived.WalkKit
import Derived.Test.YtomphbenbnnfgaaGreatDoorHw03
import Derived.Test.YtomphbenbnnfgaaGreatDoorChecked
import Derived.Deep.CutRange
import Derived.Deep.AppendLies
import Derived.Deep.RegionHeld3
import Derived.WalkSmall
import Derived.Outline
import Derived.ProofKit
import Derived.OpenShut
import Derived.Deep.Slices
set_option maxRecDepth 100000
set_option maxHeartbeats 4000000
namespace Go.Proofs.YtomphbenbnnfgaaGreatDoor
open Go.RowKit
def eh (ws : List au) (s q : Int) : dW := if gI ws s = 0 then (if 1 ≤ q ∧ q ≤ 999 then (if bV ws s q = 0 then ⟨4, 0⟩ else ⟨0, bV ws s q⟩) else ⟨3, 0⟩) else ⟨gI ws s, 0⟩
theorem sc {ws : List au} (s : Int) (h : aM ws ≠ 0) : gI ws s = aM ws := by rw [gI, if_neg h]
theorem rF {ws : List au} {s : Int} (h : aM ws = 0) (hs : ¬ (1 ≤ s ∧ s ≤ 9)) : gI ws s = 3 := by rw [gI, if_pos h, if_neg hs]
theorem iz {ws : List au} {s : Int} (h : aM ws = 0) (hs : 1 ≤ s ∧ s ≤ 9) : gI ws s = 0 := by rw [gI, if_pos h, if_pos hs]
theorem dec9 {s : Int} (hs : 1 ≤ s ∧ s ≤ 9) : (decide (1 ≤ s) && decide (s ≤ 9)) = true := by simp [hs.1, hs.2]
theorem wQ {s : Int} (hs : ¬ (1 ≤ s ∧ s ≤ 9)) : (decide (1 ≤ s) && decide (s ≤ 9)) = false := by
 rw [Bool.eq_false_iff]
 intro hb
 simp only [Bool.and_eq_true, decide_eq_true_eq] at hb
 exact hs hb
theorem vN {s : Int} (hs : 1 ≤ s ∧ s ≤ 999) : (decide (1 ≤ s) && decide (s ≤ 999)) = true := by simp [hs.1, hs.2]
theorem uD {s : Int} (hs : ¬ (1 ≤ s ∧ s ≤ 999)) : (decide (1 ≤ s) && decide (s ≤ 999)) = false := by
 rw [Bool.eq_false_iff]
 intro hb
 simp only [Bool.and_eq_true, decide_eq_true_eq] at hb
 exact hs hb
theorem gK {w : World} {c z : Int} {lo hi : Nat} (hc : (Lit.int .i64 c).wf = true) (hz : (Lit.int .i64 z).wf = true) : ab.dx.aL w [.int .i64 c, .int .i64 z] ⟨c, z⟩ lo hi :=
 ⟨[], ⟨fk.2 ⟨rfl, rfl, hc, hz⟩, by simp, by simp⟩, by simp⟩
theorem sF (ws : List au) : (Lit.int .i64 (aM ws)).wf = true := by
 have : 0 ≤ aM ws ∧ aM ws ≤ 3 := by
  unfold aM
  split
  ·
   omega
  induction ws with
  | nil => simp [cG]
  | cons x xs ih =>
   rw [cG]
   split
   ·
    exact ih (by rename_i h _; simp only [List.length_cons] at h; omega)
   exact iG x
 exact aK (by omega)
structure eg where
 code : Int
 dz : Bool
 place : Int
 writes : List au
def ab.ei : ab eg := ab.via (ab.pair ab.int (ab.pair ab.bool (ab.pair ab.int (ab.sl ab.ai)))) (fun x => (x.code, x.dz, x.place, x.writes)) (fun p => ⟨p.1, p.2.1, p.2.2.1, p.2.2.2⟩)
theorem jS {w : World} {cs : List Value} {x : eg} {bl : List Nat} : ab.ei.bD w cs x bl ↔ ∃ (a3 : Option Addr) (d3 : Nat) (b3 : List Nat), cs = [.int .i64 x.code, .bool x.dz, .int .i64 x.place, .slice a3 x.writes.length d3] ∧ bl = b3 ∧ (Lit.int .i64 x.code).wf = true ∧ (Lit.int .i64 x.place).wf = true ∧ (ab.sl ab.ai).bD w [.slice a3 x.writes.length d3] x.writes b3 := by
 constructor
 ·
  intro h
  obtain ⟨c0_, r0_, e0_, s0_, rfl, rfl, h0, ⟨c1_, r1_, e1_, s1_, rfl, rfl, h1, ⟨c2_, r2_, e2_, s2_, rfl, rfl, h2, h3⟩⟩⟩ := h
  obtain ⟨rfl, w0, rfl⟩ := h0
  obtain ⟨rfl, rfl⟩ := h1
  obtain ⟨rfl, w2, rfl⟩ := h2
  have k3 := h3
  obtain ⟨a3, d3, rfl, -⟩ := k3
  exact ⟨a3, d3, s2_, by simp, by simp, w0, w2, h3⟩
 rintro ⟨a3, d3, b3, rfl, hbl, w0, w2, l3⟩
 rw [hbl]
 exact ⟨[.int .i64 x.code], [.bool x.dz] ++ ([.int .i64 x.place] ++ [.slice a3 x.writes.length d3]), [], [] ++ ([] ++ (b3)), rfl, by simp, ⟨rfl, w0, rfl⟩, ⟨[.bool x.dz], [.int .i64 x.place] ++ [.slice a3 x.writes.length d3], [], [] ++ (b3), rfl, by simp, ⟨rfl, rfl⟩, ⟨[.int .i64 x.place], [.slice a3 x.writes.length d3], [], b3, rfl, by simp, ⟨rfl, w2, rfl⟩, l3⟩⟩⟩
def ca (ws : List au) (x : au) : eg :=
 if aM ws = 0 then
  if wF x = 0 then
   if bV ws x.aa x.seq = 0 then
    if x.seq < aT ws x.aa then ⟨7, false, 0, []⟩ else if 200 ≤ ws.length then ⟨2, false, 0, []⟩ else ⟨0, true, (ws.length : Int) + 1, ws ++ [x]⟩
   else ⟨0, false, bV ws x.aa x.seq, ws⟩
  else ⟨wF x, false, 0, []⟩
 else ⟨aM ws, false, 0, []⟩
theorem qq {ws : List au} {x : au} (h : aM ws ≠ 0) : ca ws x = ⟨aM ws, false, 0, []⟩ := by rw [ca, if_neg h]
theorem pe {ws : List au} {x : au} (h : aM ws = 0) (hf : wF x ≠ 0) : ca ws x = ⟨wF x, false, 0, []⟩ := by rw [ca, if_pos h, if_neg hf]
theorem fM {ws : List au} {x : au} (h : aM ws = 0) (hf : wF x = 0) (hs : bV ws x.aa x.seq ≠ 0) : ca ws x = ⟨0, false, bV ws x.aa x.seq, ws⟩ := by rw [ca, if_pos h, if_pos hf, if_neg hs]
theorem gv {ws : List au} {x : au} (h : aM ws = 0) (hf : wF x = 0) (hs : bV ws x.aa x.seq = 0) (c : x.seq < aT ws x.aa) : ca ws x = ⟨7, false, 0, []⟩ := by rw [ca, if_pos h, if_pos hf, if_pos hs, if_pos c]
theorem fS {ws : List au} {x : au} (h : aM ws = 0) (hf : wF x = 0) (hs : bV ws x.aa x.seq = 0) (c : ¬ x.seq < aT ws x.aa) (c2 : 200 ≤ ws.length) : ca ws x = ⟨2, false, 0, []⟩ := by rw [ca, if_pos h, if_pos hf, if_pos hs, if_neg c, if_pos c2]
theorem gO {ws : List au} {x : au} (h : aM ws = 0) (hf : wF x = 0) (hs : bV ws x.aa x.seq = 0) (c : ¬ x.seq < aT ws x.aa) (c2 : ¬ 200 ≤ ws.length) : ca ws x = ⟨0, true, (ws.length : Int) + 1, ws ++ [x]⟩ := by rw [ca, if_pos h, if_pos hf, if_pos hs, if_neg c, if_neg c2]
structure cY where
 code : Int
 place : Int
 node : aS
def ab.da : ab cY := ab.via (ab.pair ab.int (ab.pair ab.int ab.aA)) (fun x => (x.code, x.place, x.node)) (fun p => ⟨p.1, p.2.1, p.2.2⟩)
theorem gk {w : World} {cs : List Value} {x : cY} {bl : List Nat} : ab.da.bD w cs x bl ↔ ∃ (a6 : Option Addr) (d6 : Nat) (b6 : List Nat), cs = [.int .i64 x.code, .int .i64 x.place, .int .i64 x.node.id, .bool x.node.up, .int .i64 x.node.ae, .int .i64 x.node.ar, .slice a6 x.node.writes.length d6, .int .i64 x.node.sure, .int .i64 x.node.clean] ∧ bl = b6 ∧ (Lit.int .i64 x.code).wf = true ∧ (Lit.int .i64 x.place).wf = true ∧ (Lit.int .i64 x.node.id).wf = true ∧ (Lit.int .i64 x.node.ae).wf = true ∧ (Lit.int .i64 x.node.ar).wf = true ∧ (ab.sl ab.ai).bD w [.slice a6 x.node.writes.length d6] x.node.writes b6 ∧ (Lit.int .i64 x.node.sure).wf = true ∧ (Lit.int .i64 x.node.clean).wf = true := by
 constructor
 ·
  intro h
  obtain ⟨c0_, r0_, e0_, s0_, rfl, rfl, h0, ⟨c1_, r1_, e1_, s1_, rfl, rfl, h1, h2⟩⟩ := h
  obtain ⟨rfl, w0, rfl⟩ := h0
  obtain ⟨rfl, w1, rfl⟩ := h1
  obtain ⟨a6, d6, q6, rfl, hq2, w2, w4, w5, l6, w7, w8⟩ := cC.1 h2
  exact ⟨a6, d6, q6, by simp, by simp [hq2], w0, w1, w2, w4, w5, l6, w7, w8⟩
 rintro ⟨a6, d6, b6, rfl, hbl, w0, w1, w2, w4, w5, l6, w7, w8⟩
 rw [hbl]
 exact ⟨[.int .i64 x.code], [.int .i64 x.place] ++ [.int .i64 x.node.id, .bool x.node.up, .int .i64 x.node.ae, .int .i64 x.node.ar, .slice a6 x.node.writes.length d6, .int .i64 x.node.sure, .int .i64 x.node.clean], [], [] ++ (b6), rfl, by simp, ⟨rfl, w0, rfl⟩, ⟨[.int .i64 x.place], [.int .i64 x.node.id, .bool x.node.up, .int .i64 x.node.ae, .int .i64 x.node.ar, .slice a6 x.node.writes.length d6, .int .i64 x.node.sure, .int .i64 x.node.clean], [], b6, rfl, by simp, ⟨rfl, w1, rfl⟩, cC.2 ⟨a6, d6, b6, rfl, rfl, w2, w4, w5, l6, w7, w8⟩⟩⟩
theorem jO {w : World} {cs : List Value} {x : cY} (h : ab.da.Reads w cs x) : ∃ (a6 : Option Addr) (d6 : Nat), cs = [.int .i64 x.code, .int .i64 x.place, .int .i64 x.node.id, .bool x.node.up, .int .i64 x.node.ae, .int .i64 x.node.ar, .slice a6 x.node.writes.length d6, .int .i64 x.node.sure, .int .i64 x.node.clean] ∧ ab.aA.Reads w [.int .i64 x.node.id, .bool x.node.up, .int .i64 x.node.ae, .int .i64 x.node.ar, .slice a6 x.node.writes.length d6, .int .i64 x.node.sure, .int .i64 x.node.clean] x.node := by
 obtain ⟨bl, h⟩ := h
 obtain ⟨a6, d6, b6, rfl, -, w0, w1, w2, w4, w5, l6, w7, w8⟩ := gk.1 h
 exact ⟨a6, d6, rfl, ⟨_, cC.2 ⟨a6, d6, _, rfl, rfl, w2, w4, w5, l6, w7, w8⟩⟩⟩
def aG (x : aS) : Int :=
 if 1 ≤ x.id ∧ x.id ≤ 5 ∧ 0 ≤ x.ae ∧ x.ae ≤ 999 ∧ 0 ≤ x.ar ∧ x.ar ≤ 9999 then
  if 40 < x.writes.length then 2
  else if cG x.writes ≠ 0 then cG x.writes
  else if dy [] x.writes = false then 6
  else if 0 ≤ x.sure ∧ x.sure ≤ x.writes.length ∧ 0 ≤ x.clean ∧ x.clean ≤ x.sure then
   if x.up = false ∧ ¬ (x.sure = x.writes.length ∧ x.clean = 0 ∧ x.ar = 0) then 1 else 0
  else 3
 else 3
def cH (x : aS) : Int := if aG x = 0 then (if x.up = true then 0 else 10) else aG x
def je : aS := ⟨0, false, 0, 0, [], 0, 0⟩
def dV (c : Int) : cY := ⟨c, 0, je⟩
def cM (x : aS) (ws : List au) : aS := ⟨x.id, x.up, x.ae, x.ar, ws, x.sure, x.clean⟩
def fg (x : aS) (y : au) : cY :=
 if cH x = 0 then
  if (ca x.writes y).code = 0 then
   if 40 < (ca x.writes y).writes.length then dV 2 else ⟨0, (ca x.writes y).place, cM x (ca x.writes y).writes⟩
  else dV (ca x.writes y).code
 else dV (cH x)
def fb (x : aS) (i : Int) : cY :=
 if cH x = 0 then (if 0 ≤ i ∧ i ≤ 40 then ⟨0, 0, ⟨x.id, x.up, x.ae, x.ar, x.writes, x.sure, max x.clean (min i x.sure)⟩⟩ else dV 3) else dV (cH x)
theorem gy (x : aS) : 0 ≤ aG x ∧ aG x ≤ 6 := by
 have := oR x.writes
 unfold aG
 split
 ·
  split
  ·
   omega
  split
  ·
   omega
  split
  ·
   omega
  split
  ·
   split <;> omega
  omega
 omega
structure gD (x : aS) : Prop where
 id : 1 ≤ x.id ∧ x.id ≤ 5
 ae : 0 ≤ x.ae ∧ x.ae ≤ 999
 ar : 0 ≤ x.ar ∧ x.ar ≤ 9999
 len : x.writes.length ≤ 40
 ws : ∀ y ∈ x.writes, wF y = 0
 once : dy [] x.writes = true
 sure : 0 ≤ x.sure ∧ x.sure ≤ x.writes.length
 clean : 0 ≤ x.clean ∧ x.clean ≤ x.sure
 down : x.up = false → x.sure = x.writes.length ∧ x.clean = 0 ∧ x.ar = 0
theorem cq {x : aS} (h : aG x = 0) : gD x := by
 unfold aG at h
 split at h
 ·
  rename_i h1
  split at h
  ·
   simp at h
  rename_i h2
  split at h
  ·
   rename_i h3; exact absurd h h3
  rename_i h3
  split at h
  ·
   simp at h
  rename_i h4
  split at h
  ·
   rename_i h5
   split at h
   ·
    simp at h
   rename_i h6
   refine ⟨by omega, by omega, by omega, by omega, jF (by simpa using h3), by simpa using h4, by omega, by omega, fun hu => ?_⟩
   exact Classical.byContradiction fun hc => h6 ⟨hu, hc⟩
  simp at h
 simp at h
theorem gD.fault {x : aS} (h : gD x) : aG x = 0 := by
 unfold aG
 have h1 := h.id; have h2 := h.ae; have h3 := h.ar; have h4 := h.len; have h5 := h.sure; have h6 := h.clean
 rw [if_pos (by omega), if_neg (by omega), if_neg (by simpa using fm x.writes fun j hj => h.ws _ (List.getElem_mem _)), if_neg (by simp [h.once]), if_pos (by omega), if_neg]
 rintro ⟨hu, hc⟩
 exact hc (h.down hu)
theorem gD.aM {x : aS} (h : gD x) : aM x.writes = 0 := by
 rw [Proofs.YtomphbenbnnfgaaGreatDoor.aM, if_neg (by have := h.len; omega)]
 exact fm x.writes fun j hj => h.ws _ (List.getElem_mem _)
theorem gx {x : aS} (h : cH x = 0) : gD x ∧ x.up = true := by
 unfold cH at h
 split at h
 ·
  rename_i h1
  split at h
  ·
   rename_i h2; exact ⟨cq h1, h2⟩
  simp at h
 rename_i h1; exact absurd h h1
theorem sj {x : aS} {y : au} (h : cH x ≠ 0) : fg x y = dV (cH x) := by rw [fg, if_neg h]
theorem qw {x : aS} {i : Int} (h : cH x ≠ 0) : fb x i = dV (cH x) := by rw [fb, if_neg h]
end Go.Proofs.YtomphbenbnnfgaaGreatDoor

namespace Go.Proofs.YtomphbenbnnfgaaGreatDoor
end Go.Proofs.YtomphbenbnnfgaaGreatDoor

namespace Go.Proofs.YtomphbenbnnfgaaGreatDoor
end Go.Proofs.YtomphbenbnnfgaaGreatDoor

namespace Go.Proofs.YtomphbenbnnfgaaGreatDoor
open Go.RowKit
def wu (ids : List Int) (id : Int) : Nat := ids.findIdx (· == id)
def aY (ids : List Int) (id : Int) : Int := if wu ids id < ids.length then (wu ids id : Int) else -1
def gr : List Int → List Int → Int
 | _, [] => 0
 | pre, z :: zs => if 1 ≤ z ∧ z ≤ 5 then (if z ∈ pre then 6 else gr (pre ++ [z]) zs) else 3
def aB (x : bx) : Int :=
 if 1 ≤ x.ae ∧ x.ae ≤ 999 then (if 1 ≤ x.ids.length ∧ x.ids.length ≤ 5 then gr [] x.ids else 2) else 3
def qz : bx := ⟨0, []⟩
def df (ids : List Int) (id : Int) (d : Int) : Int :=
 if aY ids id < 0 ∨ aY ids id + d < 0 ∨ (ids.length : Int) ≤ aY ids id + d then 0 else ids.getD (aY ids id + d).toNat 0
def br (x : bx) (id d : Int) : dW :=
 if aB x = 0 then
  if aY x.ids id < 0 then ⟨4, 0⟩ else if df x.ids id d = 0 then ⟨8, 0⟩ else ⟨0, df x.ids id d⟩
 else ⟨aB x, 0⟩
theorem iW (ids : List Int) (id : Int) : -1 ≤ aY ids id ∧ aY ids id < ids.length + 1 := by
 unfold aY
 split <;> omega
theorem kZ (ids : List Int) (id : Int) : aY ids id < 0 ↔ id ∉ ids := by
 unfold aY wu
 have h := List.findIdx_lt_length (p := fun z => z == id) (xs := ids)
 constructor
 ·
  intro h1 hm
  rw [if_pos (h.2 ⟨id, hm, by simp⟩)] at h1
  omega
 intro h1
 rw [if_neg]
 ·
  omega
 intro h2
 obtain ⟨z, hz, e⟩ := h.1 h2
 rw [beq_iff_eq] at e
 rw [e] at hz
 exact h1 hz
theorem iY {ids : List Int} {id : Int} {k : Nat} (hk : k < ids.length) (h : ids[k] = id) (hb : ∀ j (hj : j < k), ids[j] ≠ id) : aY ids id = (k : Int) := by
 have e : wu ids id = k := by
  unfold wu
  rw [List.findIdx_eq hk]
  exact ⟨by simpa using h, fun j hj => by simpa using hb j hj⟩
 rw [aY, e, if_pos hk]
theorem jN {ids : List Int} {id : Int} (hb : ∀ j (hj : j < ids.length), ids[j] ≠ id) : aY ids id = -1 := by
 have h1 : aY ids id < 0 := by
  rw [kZ]
  intro hm
  obtain ⟨j, hj, e⟩ := List.getElem_of_mem hm
  exact hb j hj e
 have := iW ids id
 omega
theorem kX {ids : List Int} {id : Int} (h : 0 ≤ aY ids id) : ∃ (k : Nat) (hk : k < ids.length), aY ids id = (k : Int) ∧ ids[k] = id ∧ ∀ j (hj : j < k), ids[j] ≠ id := by
 have hl : wu ids id < ids.length := by
  unfold aY at h
  split at h
  ·
   assumption
  omega
 refine ⟨wu ids id, hl, by rw [aY, if_pos hl], ?_, fun j hj => ?_⟩
 ·
  have := List.findIdx_getElem (xs := ids) (p := fun z => z == id) (w := hl)
  exact beq_iff_eq.1 this
 have := List.not_of_lt_findIdx (xs := ids) (p := fun z => z == id) hj
 simpa using this
theorem lU : ∀ (zs pre : List Int), 0 ≤ gr pre zs ∧ gr pre zs ≤ 6
 | [], _ => by simp [gr]
 | z :: zs, pre => by
  rw [gr]
  split
  ·
   split
   ·
    omega
   exact lU zs _
  omega
theorem eO (x : bx) : 0 ≤ aB x ∧ aB x ≤ 6 := by
 have := lU x.ids []
 unfold aB
 split
 ·
  split <;> omega
 omega
theorem fF (x : bx) : -1000000000 ≤ aB x ∧ aB x ≤ 1000000000 := by have := eO x; omega
theorem me (ids : List Int) (k : Nat) (hk : k < ids.length) : gr (ids.take k) (ids.drop k) = if 1 ≤ ids[k] ∧ ids[k] ≤ 5 then (if ids[k] ∈ ids.take k then 6 else gr (ids.take (k + 1)) (ids.drop (k + 1))) else 3 := by
 conv => lhs; rw [List.drop_eq_getElem_cons hk, gr]
 rw [List.take_succ_eq_append_getElem hk]
theorem oF (ids : List Int) : gr (ids.take ids.length) (ids.drop ids.length) = 0 := by simp [gr]
theorem oZ {ids : List Int} {k : Nat} (hk : k < ids.length) : (aY ids ids[k] = (k : Int)) ↔ ids[k] ∉ ids.take k := by
 constructor
 ·
  intro h hm
  obtain ⟨j, hj, e⟩ := List.getElem_of_mem hm
  rw [List.length_take] at hj
  rw [List.getElem_take] at e
  obtain ⟨m, hm1, h1, h2, h3⟩ := kX (ids := ids) (id := ids[k]) (by omega)
  obtain rfl : m = k := by omega
  exact h3 j (by omega) e
 intro h
 refine iY hk rfl fun j hj e => h ?_
 rw [List.mem_iff_getElem]
 exact ⟨j, by rw [List.length_take]; omega, by rw [List.getElem_take]; exact e⟩
structure uy (x : bx) : Prop where
 ae : 1 ≤ x.ae ∧ x.ae ≤ 999
 len : 1 ≤ x.ids.length ∧ x.ids.length ≤ 5
 ids : ∀ z ∈ x.ids, 1 ≤ z ∧ z ≤ 5
 nodup : x.ids.Nodup
theorem mD : ∀ (zs pre : List Int), gr pre zs = 0 → (∀ z ∈ zs, 1 ≤ z ∧ z ≤ 5) ∧ zs.Nodup ∧ ∀ z ∈ zs, z ∉ pre
 | [], _, _ => by simp
 | z :: zs, pre, h => by
  rw [gr] at h
  split at h
  ·
   rename_i h1
   split at h
   ·
    simp at h
   rename_i h2
   obtain ⟨q1, q2, q3⟩ := mD zs _ h
   refine ⟨?_, ?_, ?_⟩
   ·
    intro u hu
    rcases List.mem_cons.1 hu with rfl | hu
    ·
     exact h1
    exact q1 u hu
   ·
    refine List.nodup_cons.2 ⟨fun hm => q3 z hm (by simp), q2⟩
   intro u hu hp
   rcases List.mem_cons.1 hu with rfl | hu
   ·
    exact h2 hp
   exact q3 u hu (List.mem_append_left _ hp)
  simp at h
theorem de {x : bx} (h : aB x = 0) : uy x := by
 unfold aB at h
 split at h
 ·
  rename_i h1
  split at h
  ·
   rename_i h2
   obtain ⟨q1, q2, -⟩ := mD _ _ h
   exact ⟨h1, h2, q1, q2⟩
  simp at h
 simp at h
theorem jE {x : bx} {id d : Int} (h : aB x ≠ 0) : br x id d = ⟨aB x, 0⟩ := by rw [br, if_neg h]
def dN (x y : au) : Bool := x.kind == y.kind && (x.id == y.id && (x.aa == y.aa && (x.seq == y.seq && decide (x.vec = y.vec))))
def nG (y : au) : Prop := y.kind = 0 ∧ y.id = 0 ∧ y.aa = 0 ∧ y.seq = 0 ∧ y.vec.length = 0
instance (y : au) : Decidable (nG y) := by unfold nG; infer_instance
def aJ (x : bu) : Int :=
 if ¬ (1 ≤ x.kind ∧ x.kind ≤ 2) ∨ x.src = x.dst ∨ (x.kind = 2 ∧ ¬ nG x.write) then 1
 else if ¬ (1 ≤ x.ae ∧ x.ae ≤ 999) ∨ ¬ (1 ≤ x.src ∧ x.src ≤ 5) ∨ ¬ (1 ≤ x.dst ∧ x.dst ≤ 5) ∨ ¬ (0 ≤ x.index ∧ x.index ≤ 40) ∨ (x.kind ≠ 2 ∧ x.index = 0) then 3
 else if x.kind = 2 then 0 else wF x.write
def cD : List bu → Int
 | [] => 0
 | x :: xs => if aJ x = 0 then cD xs else aJ x
def bc (xs : List bu) : Int := if 40 < xs.length then 2 else cD xs
theorem lI (x : bu) : 0 ≤ aJ x ∧ aJ x ≤ 6 := by
 have := iG x.write
 unfold aJ
 split
 ·
  omega
 split
 ·
  omega
 split
 ·
  omega
 omega
theorem ia : ∀ xs : List bu, 0 ≤ cD xs ∧ cD xs ≤ 6
 | [] => by simp [cD]
 | x :: xs => by
  rw [cD]
  split
  ·
   exact ia xs
  exact lI x
theorem lF (xs : List bu) : 0 ≤ bc xs ∧ bc xs ≤ 6 := by
 unfold bc
 split
 ·
  omega
 exact ia xs
theorem ic : ∀ {xs : List bu}, cD xs = 0 → ∀ x ∈ xs, aJ x = 0
 | [], _, _, h => by cases h
 | x :: xs, h, y, hy => by
  rw [cD] at h
  by_cases h1 : aJ x = 0
  ·
   rw [if_pos h1] at h
   rcases List.mem_cons.1 hy with rfl | hy
   ·
    exact h1
   exact ic h y hy
  rw [if_neg h1] at h
  exact absurd h h1
theorem iF : ∀ {xs : List bu}, (∀ x ∈ xs, aJ x = 0) → cD xs = 0
 | [], _ => rfl
 | x :: xs, h => by
  rw [cD, if_pos (h x (by simp))]
  exact iF fun y hy => h y (List.mem_cons_of_mem _ hy)
theorem jw : ∀ {xs : List bu} {k : Nat} (hk : k < xs.length), (∀ j (hj : j < k), aJ xs[j] = 0) → aJ xs[k] ≠ 0 → cD xs = aJ xs[k]
 | x :: xs, 0, hk, _, h => by
  have h1 : aJ x ≠ 0 := h
  rw [cD, if_neg h1]
  rfl
 | x :: xs, k + 1, hk, hb, h => by
  have h1 : aJ x = 0 := hb 0 (by omega)
  rw [cD, if_pos h1]
  exact jw (xs := xs) (k := k) (by simpa using hk) (fun j hj => hb (j + 1) (by omega)) h
theorem cJ {xs : List bu} (h : bc xs = 0) : xs.length ≤ 40 ∧ ∀ x ∈ xs, aJ x = 0 := by
 unfold bc at h
 split at h
 ·
  simp at h
 exact ⟨by omega, ic h⟩
def ch (x : ay) (id : Int) : Bool := decide (1 ≤ id) && decide (id ≤ (x.nodes.length : Int))
def cN (c : bx) : Nat → List aS → Int
 | _, [] => 0
 | i, n :: ns =>
  if aG n ≠ 0 then aG n
  else if n.id ≠ (i : Int) + 1 then 1
  else if c.ae < n.ae ∨ (n.up = true ∧ 0 ≤ aY c.ids n.id ∧ n.ae ≠ c.ae) then 7
  else cN c (i + 1) ns
def cd (x : ay) : Int :=
 if cN x.chain 0 x.nodes ≠ 0 then cN x.chain 0 x.nodes
 else if x.chain.ids.all (ch x) then 0 else 4
def gG (x : ay) (e : cj) : Bool :=
 (decide (1 ≤ e.kind) && decide (e.kind ≤ 3)) && ((decide (1 ≤ e.start) && decide (e.start ≤ x.events)) && ((e.fin == 0 || (decide (e.start ≤ e.fin) && decide (e.fin ≤ x.events))) && (decide (0 ≤ e.place) && decide (e.place ≤ 40))))
def aX (x : ay) : Int :=
 if ¬ (0 ≤ x.now ∧ x.now ≤ 9000) ∨ ¬ (0 ≤ x.events ∧ x.events ≤ 9999) then 3
 else if aB x.chain ≠ 0 then aB x.chain
 else if x.nodes.length < 1 ∨ 5 < x.nodes.length then 2
 else if cd x ≠ 0 then cd x
 else if bc x.msgs ≠ 0 then bc x.msgs
 else if 60 < x.af.length then 2
 else if x.af.all (gG x) then 0 else 3
def eU : ay := ⟨0, 0, qz, [], [], []⟩
def cy (c : Int) : bd := ⟨c, false, eU⟩
def cm (x : ay) (id : Int) : aS := x.nodes.getD (id - 1).toNat je
def cF (x : ay) (id : Int) : Bool := (cm x id).up && ((cm x id).ae == x.chain.ae && decide (0 ≤ aY x.chain.ids id))
def dc (x : ay) : ay := ⟨x.now, x.events + 1, x.chain, x.nodes, x.msgs, x.af⟩
def fV (x : ay) (n : aS) : ay := ⟨x.now, x.events, x.chain, x.nodes.set (n.id - 1).toNat n, x.msgs, x.af⟩
def takeN (n : aS) (y : au) : Int × aS :=
 if (ca n.writes y).code = 0 then (if 40 < (ca n.writes y).writes.length then (2, n) else (0, cM n (ca n.writes y).writes)) else ((ca n.writes y).code, n)
def bU (x : ay) (m : bu) : Option aS :=
 if ch x m.dst = false ∨ cF x m.dst = false ∨ m.ae ≠ x.chain.ae then none
 else if m.kind = 2 then
  if df x.chain.ids m.dst 1 ≠ m.src then none
  else some { cm x m.dst with clean := max (cm x m.dst).clean (min m.index (cm x m.dst).sure) }
 else if df x.chain.ids m.dst (-1) ≠ m.src ∨ m.index ≠ ((cm x m.dst).writes.length : Int) + 1 then none
 else if 0 < bV (cm x m.dst).writes m.write.aa m.write.seq then none
 else if (takeN (cm x m.dst) m.write).1 = 0 then some (takeN (cm x m.dst) m.write).2 else none
def gm : bu := ⟨0, 0, 0, 0, 0, ⟨0, 0, [], 0, 0⟩⟩
def eQ (x : ay) (i : Int) : bd :=
 if aX x ≠ 0 then cy (aX x)
 else if 9999 ≤ x.events then cy 2
 else if ¬ (0 ≤ i ∧ i ≤ (x.msgs.length : Int) - 1) then cy 3
 else match bU x (x.msgs.getD i.toNat gm) with
  | none => ⟨0, false, dc x⟩
  | some n => ⟨0, true, fV (dc x) n⟩
theorem jI (c : bx) : ∀ (i : Nat) (ns : List aS), 0 ≤ cN c i ns ∧ cN c i ns ≤ 10
 | _, [] => by simp [cN]
 | i, n :: ns => by
  have h1 := gy n
  have h2 := jI c (i + 1) ns
  rw [cN]
  split
  ·
   omega
  split
  ·
   omega
  split
  ·
   omega
  exact h2
theorem jU (x : ay) : 0 ≤ cd x ∧ cd x ≤ 10 := by
 have := jI x.chain 0 x.nodes
 unfold cd
 split
 ·
  omega
 split <;> omega
theorem gp (x : ay) (hc : 0 ≤ aB x.chain ∧ aB x.chain ≤ 6) : 0 ≤ aX x ∧ aX x ≤ 10 := by
 have h1 := jU x
 have h2 := lF x.msgs
 unfold aX
 repeat' split
 all_goals omega
theorem vE {α : Type} {A : ab α} {w4 : World} {s : Nat} {cs vs : List Value} {y : α} {lo hi : Nat} (h : A.cK w4 cs y lo hi) (hs : s < lo) : A.cK (aU w4 s 0 vs) cs y lo hi :=
 h.ext (cb (fun q => q = s) (Ext.refl _ _) _ _ _ rfl) (fun q h1 h2 h3 => by omega)
theorem gh {α : Type} {A : ab α} {w4 : World} {s : Nat} {cs vs : List Value} {y : α} {lo hi : Nat} (h : A.aL w4 cs y lo hi) (hs : s < lo) : A.aL (aU w4 s 0 vs) cs y lo hi :=
 h.ext (cb (fun q => q = s) (Ext.refl _ _) _ _ _ rfl) (fun q h1 h2 h3 => by omega)
theorem fU {α : Type} {A : ab α} {w : World} {lo hi : Nat} : (ab.sl A).aL w [.slice none 0 0] [] lo hi := ⟨[], ⟨⟨none, 0, rfl, by simp, Or.inl ⟨rfl, rfl⟩⟩, by simp, by simp⟩, by simp⟩
theorem vw {x : bu} (h : aJ x = 0) : x.write.vec.length ≤ 100000000 := by
 unfold aJ at h
 split at h
 ·
  simp at h
 rename_i h1
 split at h
 ·
  simp at h
 split at h
 ·
  rename_i h3
  have h4 : nG x.write := Decidable.byContradiction fun q => h1 (Or.inr (Or.inr ⟨h3, q⟩))
  have := h4.2.2.2.2
  omega
 obtain ⟨-, -, -, hk⟩ := cf h
 rcases hk with ⟨-, hv⟩ | ⟨-, hv⟩
 ·
  have := (cI hv).1; omega
 rw [hv]; simp
theorem sP {xs : List bu} (h : bc xs = 0) : ∀ x ∈ xs, x.write.vec.length ≤ 100000000 := fun x hx => vw ((cJ h).2 x hx)
theorem eH {w : World} {b off cap k : Nat} {zs : List Int} (h : (ab.sl ab.int).Reads w [.slice (some ⟨b, off, none⟩) zs.length cap] zs) (hk : k < zs.length) : w.cell? ⟨b, off + k, none⟩ = some (.int .i64 zs[k]) := by
 obtain ⟨bl, h⟩ := h
 obtain ⟨ao, cp, e, -, -, h⟩ := ab.ej.1 h
 simp only [Value.slice.injEq] at e
 obtain ⟨rfl, -, rfl⟩ := e
 rcases h with ⟨rfl, -⟩ | ⟨b', off', e2, -, -, hj⟩
 ·
  simp at hk
 simp only [Option.some.injEq, Addr.mk.injEq, and_true] at e2
 obtain ⟨rfl, rfl⟩ := e2
 rw [hj k hk]
 simp [List.getD, hk]
theorem sU {w : World} {v : Value} {zs : List Int} (h : (ab.sl ab.int).Reads w [v] zs) : ∀ z ∈ zs, (Lit.int .i64 z).wf = true := (ab.bf h).wf
theorem gS {w : World} {c n : Int} {lo hi : Nat} (hc : (Lit.int .i64 c).wf = true) (hn : (Lit.int .i64 n).wf = true) : ab.dx.aL w [.int .i64 c, .int .i64 n] ⟨c, n⟩ lo hi :=
 ⟨[], ⟨fk.2 ⟨rfl, rfl, hc, hn⟩, by simp, by simp⟩, by simp⟩
structure eE (x : ay) : Prop where
 now : 0 ≤ x.now ∧ x.now ≤ 9000
 events : 0 ≤ x.events ∧ x.events ≤ 9999
 chain : aB x.chain = 0
 some : 1 ≤ x.nodes.length ∧ x.nodes.length ≤ 5
 nodes : ∀ k (h : k < x.nodes.length), aG x.nodes[k] = 0 ∧ x.nodes[k].id = (k : Int) + 1 ∧ x.nodes[k].ae ≤ x.chain.ae
 ids : ∀ z ∈ x.chain.ids, ch x z = true
 uv : bc x.msgs = 0
 few : x.af.length ≤ 60
 told : ∀ e ∈ x.af, gG x e = true
theorem jm (c : bx) : ∀ (ns : List aS) (i : Nat), cN c i ns = 0 → ∀ k (h : k < ns.length), aG ns[k] = 0 ∧ ns[k].id = ((i + k : Nat) : Int) + 1 ∧ ns[k].ae ≤ c.ae
 | [], _, _, k, h => by simp at h
 | n :: ns, i, h0, k, h => by
  rw [cN] at h0
  split at h0
  ·
   rename_i q; exact absurd h0 q
  rename_i q1
  split at h0
  ·
   simp at h0
  rename_i q2
  split at h0
  ·
   simp at h0
  rename_i q3
  cases k with
  | zero => exact ⟨by simpa using q1, by simpa using q2, by
    have : ¬ c.ae < n.ae := fun q => q3 (Or.inl q)
    simp
    omega⟩
  | succ k =>
   have := jm c ns (i + 1) h0 k (by simpa using h)
   obtain ⟨a1, a2, a3⟩ := this
   refine ⟨by simpa using a1, ?_, by simpa using a3⟩
   simp only [List.getElem_cons_succ]
   rw [a2]
   omega
theorem dU {x : ay} (h : aX x = 0) : eE x := by
 unfold aX at h
 split at h
 ·
  simp at h
 rename_i h1
 split at h
 ·
  rename_i q; exact absurd h q
 rename_i h2
 split at h
 ·
  simp at h
 rename_i h3
 split at h
 ·
  rename_i q; exact absurd h q
 rename_i h4
 split at h
 ·
  rename_i q; exact absurd h q
 rename_i h5
 split at h
 ·
  simp at h
 rename_i h6
 split at h
 ·
  rename_i h7
  have h4' : cd x = 0 := by simpa using h4
  unfold cd at h4'
  have h8 : cN x.chain 0 x.nodes = 0 ∧ x.chain.ids.all (ch x) = true := by
   split at h4'
   ·
    rename_i q; exact absurd h4' q
   rename_i q
   split at h4'
   ·
    rename_i q2; exact ⟨by simpa using q, q2⟩
   simp at h4'
  refine ⟨by omega, by omega, by simpa using h2, by omega, fun k hk => ?_, fun z hz => List.all_eq_true.1 h8.2 z hz, by simpa using h5, by omega, fun e he => List.all_eq_true.1 h7 e he⟩
  have := jm x.chain x.nodes 0 h8.1 k hk
  simpa using this
 simp at h
def Fits (x : ay) : Prop := ∀ e ∈ x.af, e.query.length ≤ 10000000 ∧ e.vec.length ≤ 10000000 ∧ e.aW.length ≤ 10000000
theorem lb {x : ay} (h : ab.aH.sz x ≤ 1048576) : Fits x := fun e he => by
 have h1 : ab.aH.sz x = 0 + (0 + (ab.aF.sz x.chain + ((ab.sl ab.aA).sz x.nodes + ((ab.sl ab.aP).sz x.msgs + (ab.sl ab.az).sz x.af)))) := rfl
 obtain ⟨j, hj, rfl⟩ := List.getElem_of_mem he
 have h2 := ab.gU (A := ab.az) hj
 have h3 : ab.az.sz x.af[j] = 0 + (0 + (0 + (0 + ((ab.sl ab.int).sz x.af[j].query + (0 + (0 + (0 + (0 + ((ab.sl ab.int).sz x.af[j].vec + (ab.sl ab.bk).sz x.af[j].aW))))))))) := rfl
 have h4 := ab.gz (A := ab.int) (xs := x.af[j].query)
 have h5 := ab.gz (A := ab.int) (xs := x.af[j].vec)
 have h6 := ab.gz (A := ab.bk) (xs := x.af[j].aW)
 omega
theorem kG {w : World} {cs : List Value} {x : ay} (h : ab.aH.Reads w cs x) : (Lit.int .i64 x.now).wf = true ∧ (Lit.int .i64 x.events).wf = true ∧ (Lit.int .i64 x.chain.ae).wf = true := by
 obtain ⟨bl, h⟩ := h
 obtain ⟨_, _, _, _, _, _, _, _, _, _, _, _, -, -, w0, w1, w2, -⟩ := dj.1 h
 exact ⟨w0, w1, w2⟩
theorem kx {w : World} {x : ay} {v3 v4 v5 v6 : Value} {l3 h3 l4 h4 l5 h5 l6 h6 : Nat} (p3 : (ab.sl ab.int).aL w [v3] x.chain.ids l3 h3) (p4 : (ab.sl ab.aA).aL w [v4] x.nodes l4 h4) (p5 : (ab.sl ab.aP).aL w [v5] x.msgs l5 h5) (p6 : (ab.sl ab.az).aL w [v6] x.af l6 h6)
  (e1 : h3 ≤ l4) (e2 : h4 ≤ l5) (e3 : h5 ≤ l6) (e4 : l3 ≤ h3) (e5 : l4 ≤ h4) (e6 : l5 ≤ h5) (e7 : l6 ≤ h6) (hw : (Lit.int .i64 x.now).wf = true ∧ (Lit.int .i64 x.events).wf = true ∧ (Lit.int .i64 x.chain.ae).wf = true) :
  ab.aH.aL w [.int .i64 x.now, .int .i64 x.events, .int .i64 x.chain.ae, v3, v4, v5, v6] x l3 h6 := by
 obtain ⟨b3, O3, i3⟩ := p3
 obtain ⟨b4, O4, i4⟩ := p4
 obtain ⟨b5, O5, i5⟩ := p5
 obtain ⟨b6, O6, i6⟩ := p6
 obtain ⟨w0, w1, w2⟩ := hw
 have hm : ∀ c, c ∈ b3 ++ (b4 ++ (b5 ++ b6)) → (l3 ≤ c ∧ c < h3 ∧ c ∈ b3) ∨ (l4 ≤ c ∧ c < h4 ∧ c ∈ b4) ∨ (l5 ≤ c ∧ c < h5 ∧ c ∈ b5) ∨ (l6 ≤ c ∧ c < h6 ∧ c ∈ b6) := by
  intro c hc
  simp only [List.mem_append] at hc
  rcases hc with hc | hc | hc | hc
  ·
   exact Or.inl ⟨(i3 c hc).1, (i3 c hc).2, hc⟩
  ·
   exact Or.inr (Or.inl ⟨(i4 c hc).1, (i4 c hc).2, hc⟩)
  ·
   exact Or.inr (Or.inr (Or.inl ⟨(i5 c hc).1, (i5 c hc).2, hc⟩))
  exact Or.inr (Or.inr (Or.inr ⟨(i6 c hc).1, (i6 c hc).2, hc⟩))
 refine ⟨b3 ++ (b4 ++ (b5 ++ b6)), fA (jz O3 w2 O3.2.1) O4 O5 O6 w0 w1 ?_, fun c hc => by have := hm c hc; omega⟩
 rw [List.nodup_append, List.nodup_append, List.nodup_append]
 refine ⟨O3.2.1, ⟨O4.2.1, ⟨O5.2.1, O6.2.1, fun a ha c hc e => ?_⟩, fun a ha c hc e => ?_⟩, fun a ha c hc e => ?_⟩
 ·
  have := i5 a ha; have := i6 c hc; omega
 ·
  have := i4 a ha
  rcases List.mem_append.1 hc with hc | hc
  ·
   have := i5 c hc; omega
  have := i6 c hc; omega
 have := i3 a ha
 simp only [List.mem_append] at hc
 rcases hc with hc | hc | hc
 ·
  have := i4 c hc; omega
 ·
  have := i5 c hc; omega
 have := i6 c hc; omega
theorem oC {x : aS} (h : aG x = 0) : x.writes.length ≤ 1000000 ∧ ∀ y ∈ x.writes, y.vec.length ≤ 10000000 := by
 have hk := cq h
 refine ⟨by have := hk.len; omega, fun y hy => ?_⟩
 obtain ⟨-, -, -, hq⟩ := cf (hk.ws y hy)
 rcases hq with ⟨-, hv⟩ | ⟨-, hv⟩
 ·
  have := (cI hv).1; omega
 rw [hv]; simp
theorem pL {x : bu} (h : aJ x = 0) : x.write.vec.length ≤ 10000000 := by
 unfold aJ at h
 split at h
 ·
  simp at h
 rename_i h1
 split at h
 ·
  simp at h
 split at h
 ·
  rename_i h3
  have h4 : nG x.write := Decidable.byContradiction fun q => h1 (Or.inr (Or.inr ⟨h3, q⟩))
  have := h4.2.2.2.2
  omega
 obtain ⟨-, -, -, hk⟩ := cf h
 rcases hk with ⟨-, hv⟩ | ⟨-, hv⟩
 ·
  have := (cI hv).1; omega
 rw [hv]; simp
theorem kH {w : World} {cs : List Value} {x : cY} {bl : List Nat} (h : ab.da.Own w cs x bl) : ∃ (a6 : Option Addr) (d6 : Nat) (g2 : List Nat), cs = [.int .i64 x.code, .int .i64 x.place, .int .i64 x.node.id, .bool x.node.up, .int .i64 x.node.ae, .int .i64 x.node.ar, .slice a6 x.node.writes.length d6, .int .i64 x.node.sure, .int .i64 x.node.clean] ∧ bl = g2 ∧ ab.aA.Own w [.int .i64 x.node.id, .bool x.node.up, .int .i64 x.node.ae, .int .i64 x.node.ar, .slice a6 x.node.writes.length d6, .int .i64 x.node.sure, .int .i64 x.node.clean] x.node g2 ∧ (Lit.int .i64 x.code).wf = true ∧ (Lit.int .i64 x.place).wf = true := by
 obtain ⟨hl, hn, hf⟩ := h
 obtain ⟨a6, d6, b6, rfl, hbl, w0, w1, w2, w4, w5, l6, w7, w8⟩ := gk.1 hl
 rw [hbl] at hn hf
 exact ⟨a6, d6, b6, rfl, hbl, ⟨cC.2 ⟨a6, d6, b6, rfl, rfl, w2, w4, w5, l6, w7, w8⟩, hn, hf⟩, w0, w1⟩
theorem jd {w : World} {x : cY} {c2 : List Value} {g2 : List Nat} (O2 : ab.aA.Own w c2 x.node g2) (v0 : (Lit.int .i64 x.code).wf = true) (v1 : (Lit.int .i64 x.place).wf = true) (hn : (g2).Nodup) : ab.da.Own w ([.int .i64 x.code] ++ ([.int .i64 x.place] ++ c2)) x (g2) := by
 refine ⟨⟨[.int .i64 x.code], [.int .i64 x.place] ++ c2, [], [] ++ g2, rfl, by simp, ⟨rfl, v0, rfl⟩, ⟨[.int .i64 x.place], c2, [], g2, rfl, rfl, ⟨rfl, v1, rfl⟩, O2.1⟩⟩, hn, ?_⟩
 intro b hb o
 exact O2.2.2 b hb o
theorem oK {ws : List au} (h : ∀ x ∈ ws, wF x = 0) : ax ab.ai.cg ws ≤ 10 * ws.length := by
 induction ws with
 | nil => simp [ax]
 | cons x xs ih =>
  have h1 := ih fun y hy => h y (List.mem_cons_of_mem _ hy)
  have h2 : x.vec.length ≤ 3 := by
   obtain ⟨-, -, -, hk⟩ := cf (h x (by simp))
   rcases hk with ⟨-, hv⟩ | ⟨-, hv⟩
   ·
    have := (cI hv).1; omega
   rw [hv]; simp
  have h3 : ab.ai.cg x = x.vec.length + 4 := by
   have e : ax ab.int.cg x.vec = x.vec.length := by
    generalize x.vec = l
    induction l with
    | nil => rfl
    | cons y ys ihy => simp only [ax, List.length_cons, ihy]; show 1 + ys.length = _; omega
   show 1 + (1 + (ax ab.int.cg x.vec + (1 + 1))) = _
   omega
  simp only [ax, List.length_cons]
  omega
def fu (w : World) (lo g : Nat) (cells : List Value) (x : ay) : Prop := ∃ bl, ab.aH.Own w cells x bl ∧ g ∉ bl ∧ ∀ b ∈ bl, lo ≤ b ∧ b < w.heap.size
theorem fu.ext {S : Nat → Prop} {w w' : World} {lo g : Nat} {cells : List Value} {x : ay} (h : fu w lo g cells x) (e : Ext S w w') (hs : ∀ k, lo ≤ k → k < w.heap.size → k ≠ g → ¬ S k) : fu w' lo g cells x := by
 obtain ⟨bl, O, hg, hb⟩ := h
 exact ⟨bl, O.ext e (fun b hm => hs b (hb b hm).1 (hb b hm).2 (fun q => hg (q ▸ hm))), hg, fun b hm => ⟨(hb b hm).1, Nat.lt_of_lt_of_le (hb b hm).2 e.size⟩⟩
theorem fu.later {w w' : World} {lo g : Nat} {cells : List Value} {x : ay} (h : fu w lo g cells x) (hb : Below w.heap.size w w') : fu w' lo g cells x := h.ext (ak hb dk) fun _ _ _ _ q => q
theorem fu.reads {w : World} {lo g : Nat} {cells : List Value} {x : ay} (h : fu w lo g cells x) : ab.aH.Reads w cells x := by
 obtain ⟨bl, O, -⟩ := h
 exact ⟨bl, O.1⟩
theorem fu.xa {w : World} {lo g : Nat} {cells : List Value} {x : ay} (h : fu w lo g cells x) : ab.aH.aL w cells x lo w.heap.size := by
 obtain ⟨bl, O, -, hb⟩ := h
 exact ⟨bl, O, hb⟩
theorem tx {w : World} {lo hi g : Nat} {cells : List Value} {x : ay} (h : ab.aH.aL w cells x lo hi) (hg : hi ≤ g) (hh : hi ≤ w.heap.size) : fu w lo g cells x := by
 obtain ⟨bl, O, hb⟩ := h
 exact ⟨bl, O, fun q => by have := hb g q; omega, fun b hm => by have := hb b hm; omega⟩
theorem si {w : World} {x : ay} {v3 v4 v5 v6 : Value} {lo g : Nat} (h : fu w lo g [.int .i64 x.now, .int .i64 x.events, .int .i64 x.chain.ae, v3, v4, v5, v6] x) (he : -1000000000 ≤ x.events + 1 ∧ x.events + 1 ≤ 1000000000) : fu w lo g [.int .i64 x.now, .int .i64 (x.events + 1), .int .i64 x.chain.ae, v3, v4, v5, v6] (dc x) := by
 obtain ⟨bl, O, hg, hb⟩ := h
 obtain ⟨a3, d3, a4, d4, a5, d5, a6, d6, g2, g4, g5, g6, hq, rfl, O2, O4, O5, O6, w0, w1⟩ := iT O
 simp only [List.cons.injEq, and_true, true_and] at hq
 obtain ⟨rfl, rfl, rfl, rfl⟩ := hq
 exact ⟨_, fA (x := dc x) O2 O4 O5 O6 w0 (aK he) O.2.1, hg, hb⟩
theorem fO {w : World} {c : Int} {lo hi : Nat} (hc : -1000000000 ≤ c ∧ c ≤ 1000000000) (h : lo ≤ hi) : ab.aD.aL w [.int .i64 c, .bool false, .int .i64 0, .int .i64 0, .int .i64 0, .slice none 0 0, .slice none 0 0, .slice none 0 0, .slice none 0 0] (cy c) lo hi := by
 have q : ab.aH.aL w [.int .i64 0, .int .i64 0, .int .i64 0, .slice none 0 0, .slice none 0 0, .slice none 0 0, .slice none 0 0] eU lo hi :=
  (kx (x := eU) (l3 := lo) (h3 := lo) (l4 := lo) (h4 := lo) (l5 := lo) (h5 := lo) (l6 := lo) (h6 := lo) fU fU fU fU (Nat.le_refl _) (Nat.le_refl _) (Nat.le_refl _) (Nat.le_refl _) (Nat.le_refl _) (Nat.le_refl _) (Nat.le_refl _) ⟨by decide, by decide, by decide⟩).mono (Nat.le_refl _) h
 obtain ⟨bl, O, hb⟩ := q
 exact ⟨bl, eu (x := cy c) O (aK hc) O.2.1, hb⟩
theorem vg {w : World} {m : Bool} {cells : List Value} {x : ay} {lo hi : Nat} (h : ab.aH.aL w cells x lo hi) : ab.aD.aL w ([.int .i64 0] ++ ([.bool m] ++ cells)) ⟨0, m, x⟩ lo hi := by
 obtain ⟨bl, O, hb⟩ := h
 exact ⟨bl, eu (x := ⟨0, m, x⟩) O (show (Lit.int .i64 0).wf = true by decide) O.2.1, hb⟩
def lu (c : Int) (mv : Bool) (z : ay) : bd := if c = 0 then ⟨0, mv, z⟩ else cy c
def qA (L N : Nat) (cap : Array Value) (y : ay) (c : Int) (mv : Bool) (z : ay) (W : World) : Prop :=
 ∀ (g lo : Nat) (v3 v4 v5 v6 : Value), L ≤ lo → ag 0 #[.int .i64 y.now, .int .i64 y.events, .int .i64 y.chain.ae, v3, v4, v5, v6] 39 W g → lo ≤ g → fu W lo g [.int .i64 y.now, .int .i64 y.events, .int .i64 y.chain.ae, v3, v4, v5, v6] y →
  Calls Tryz.prog N (#[.pointer (some ⟨g, 0, none⟩)] ++ cap) W fun e W' => ∃ m, e = .returned (.tuple #[.bool m, .int .i64 c]) ∧ (c = 0 → m = mv ∧ ∃ (u3 u4 u5 u6 : Value), ag 0 #[.int .i64 z.now, .int .i64 z.events, .int .i64 z.chain.ae, u3, u4, u5, u6] 39 W' g ∧ fu W' lo g [.int .i64 z.now, .int .i64 z.events, .int .i64 z.chain.ae, u3, u4, u5, u6] z) ∧ Ext (fun q => lo ≤ q) W W'
theorem nB {w w' : World} {lo : Nat} (e : Ext (fun q => lo ≤ q) w w') (h : lo ≤ w.heap.size) : Below lo w w' := e.below h fun k hk hn => by omega
namespace ab
variable {α : Type} {A : ab α} {w w' : World}
def gP (A : ab α) (w : World) (v : Value) (xs : List α) (b : Nat) (r : List Nat) : Prop := (sl A).bD w [v] xs (b :: r) ∧ b ∉ r ∧ ∀ o, w.frozen? ⟨b, o, none⟩ = false
theorem nx {v : Value} {xs : List α} {bl : List Nat} (h : (sl A).Own w [v] xs bl) (hp : 0 < xs.length) : ∃ b off cap r, v = .slice (some ⟨b, off, none⟩) xs.length cap ∧ bl = b :: r ∧ A.gP w v xs b r := by
 obtain ⟨hl, hnd, hf⟩ := h
 have hl2 := hl
 obtain ⟨ao, cp, e, hsz, hor⟩ := hl2
 obtain rfl : v = .slice ao xs.length cp := by simpa using e
 rcases hor with ⟨rfl, -⟩ | ⟨b, off, rows, bls, rfl, hb, rfl, hr, hbl, hj⟩
 ·
  simp at hp
 rw [List.nodup_cons] at hnd
 exact ⟨b, off, cp, bls.flatten, rfl, rfl, hl, hnd.1, fun o => hf b (by simp) o⟩
theorem gP.row {b off cap k n : Nat} {xs : List α} {r : List Nat} (h : A.gP w (.slice (some ⟨b, off, none⟩) n cap) xs b r) (hk : k < xs.length) : ∃ row, cX w w b (off + k * A.n) A.n row [] ∧ ∃ blk, A.bD w row xs[k] blk ∧ (∀ c ∈ blk, c ∈ r) := by
 obtain ⟨⟨ao, cp, e, hsz, hor⟩, hnb, hf⟩ := h
 simp only [List.cons.injEq, Value.slice.injEq, and_true] at e
 obtain ⟨rfl, rfl, rfl⟩ := e
 rcases hor with ⟨rfl, h0⟩ | ⟨b', off', rows, bls, e2, hb, e3, hr, hbl, hj⟩
 ·
  simp at hk
 simp only [Option.some.injEq, Addr.mk.injEq, and_true] at e2
 obtain ⟨rfl, rfl⟩ := e2
 rw [List.cons.injEq] at e3
 obtain ⟨-, rfl⟩ := e3
 obtain ⟨hc, hlie⟩ := hj k hk (by omega) (by omega)
 exact ⟨rows[k]'(by omega), ⟨A.len hlie, hc, fun _ _ => rfl, hf, hb, Ext.refl _ _⟩, bls[k]'(by omega), hlie, fun c hc => List.mem_flatten.2 ⟨_, List.getElem_mem _, hc⟩⟩
theorem gP.put {b off cap k n : Nat} {xs : List α} {r : List Nat} (h : A.gP w (.slice (some ⟨b, off, none⟩) n cap) xs b r) (hk : k < xs.length) {row' : List Value} {x' : α} {blk' : List Nat}
  (hR : cX w w' b (off + k * A.n) A.n row' []) (hO : A.bD w' row' x' blk') (hd : b ∉ blk') :
  ∃ r', A.gP w' (.slice (some ⟨b, off, none⟩) n cap) (xs.set k x') b r' ∧ (∀ c ∈ r', c ∈ r ∨ c ∈ blk') ∧ (r.Nodup → blk'.Nodup → (∀ c ∈ blk', c ∉ r) → r'.Nodup) := by
 obtain ⟨⟨ao, cp, e, hsz, hor⟩, hnb, hf⟩ := h
 simp only [List.cons.injEq, Value.slice.injEq, and_true] at e
 obtain ⟨rfl, rfl, rfl⟩ := e
 rcases hor with ⟨rfl, h0⟩ | ⟨b', off', rows, bls, e2, hb, e3, hr, hbl, hj⟩
 ·
  simp at hk
 simp only [Option.some.injEq, Addr.mk.injEq, and_true] at e2
 obtain ⟨rfl, rfl⟩ := e2
 rw [List.cons.injEq] at e3
 obtain ⟨-, rfl⟩ := e3
 have hkb : k < bls.length := by omega
 have hmem : ∀ c ∈ (bls.set k blk').flatten, c ∈ bls.flatten ∨ c ∈ blk' := by
  intro c hc
  obtain ⟨l, hl1, hl2⟩ := List.mem_flatten.1 hc
  rcases List.mem_or_eq_of_mem_set hl1 with q | rfl
  ·
   exact Or.inl (List.mem_flatten.2 ⟨l, q, hl2⟩)
  exact Or.inr hl2
 have hkeep : ∀ c, c < w.heap.size → c ≠ b → w'.heap[c]? = w.heap[c]? := fun c hlt h1 => hR.ext.block c hlt (by rintro (h | h); exact h1 h; cases h)
 refine ⟨(bls.set k blk').flatten, ⟨⟨some ⟨b, off, none⟩, cap, by simp, by simpa using hsz, Or.inr ⟨b, off, rows.set k row', bls.set k blk', rfl, hR.lt, rfl, by simpa using hr, by simpa using hbl, fun j h1 h2 h3 => ?_⟩⟩, ?_, fun o => hR.soft o⟩, hmem, ?_⟩
 ·
  have h1' : j < xs.length := by simpa using h1
  have h2' : j < rows.length := by simpa using h2
  have h3' : j < bls.length := by simpa using h3
  by_cases e : j = k
  ·
   subst e
   rw [List.getElem_set_self, List.getElem_set_self, List.getElem_set_self]
   exact ⟨hR.cells, hO⟩
  rw [List.getElem_set_ne (by omega), List.getElem_set_ne (by omega), List.getElem_set_ne (by omega)]
  obtain ⟨c1, c2⟩ := hj j h1' h2' h3'
  refine ⟨fun m hm => ?_, A.aj c2 fun c hm => hkeep c (A.lt c2 c hm) (fun e3 => hnb (e3 ▸ List.mem_flatten.2 ⟨_, List.getElem_mem h3', hm⟩))⟩
  rw [hR.others _ ?_]
  ·
   exact c1 m hm
  rcases Nat.lt_or_ge j k with h | h
  ·
   left
   have : (j + 1) * A.n ≤ k * A.n := Nat.mul_le_mul_right _ h
   rw [Nat.add_mul] at this
   omega
  right
  have : (k + 1) * A.n ≤ j * A.n := Nat.mul_le_mul_right _ (by omega)
  rw [Nat.add_mul] at this
  omega
 ·
  intro hc
  rcases hmem b hc with q | q
  ·
   exact hnb q
  exact hd q
 intro hn1 hn2 hn3
 have hfl := lj hn1
 rw [List.nodup_iff_pairwise_ne, List.pairwise_flatten]
 refine ⟨fun l hl => ?_, ?_⟩
 ·
  rcases List.mem_or_eq_of_mem_set hl with q | rfl
  ·
   exact List.nodup_iff_pairwise_ne.1 (hfl.1 l q)
  exact List.nodup_iff_pairwise_ne.1 hn2
 rw [List.pairwise_iff_getElem]
 intro i j hi hj2 hij x hx y hy exy
 subst exy
 have hi' : i < bls.length := by simpa using hi
 have hj' : j < bls.length := by simpa using hj2
 by_cases e1 : i = k
 ·
  subst e1
  rw [List.getElem_set_self] at hx
  rw [List.getElem_set_ne (by omega)] at hy
  exact hn3 x hx (List.mem_flatten.2 ⟨_, List.getElem_mem hj', hy⟩)
 rw [List.getElem_set_ne (by omega)] at hx
 by_cases e2 : j = k
 ·
  subst e2
  rw [List.getElem_set_self] at hy
  exact hn3 x hy (List.mem_flatten.2 ⟨_, List.getElem_mem hi', hx⟩)
 rw [List.getElem_set_ne (by omega)] at hy
 exact hfl.2 i j hi' hj' (by omega) x hx hy
end ab
theorem cX.set7 {w c : World} {b o : Nat} {cs : List Value} (h : cX w c b o 7 cs []) (v0 v1 v2 v3 v4 v5 v6 : Value) :
  cX w (((((((c.setCell ⟨b, o, none⟩ v0).setCell ⟨b, o + 1, none⟩ v1).setCell ⟨b, o + 2, none⟩ v2).setCell ⟨b, o + 3, none⟩ v3).setCell ⟨b, o + 4, none⟩ v4).setCell ⟨b, o + 5, none⟩ v5).setCell ⟨b, o + 6, none⟩ v6) b o 7 [v0, v1, v2, v3, v4, v5, v6] [] := by
 have hl := h.len
 match cs, hl with
 | [_, _, _, _, _, _, _], _ =>
  have q := ((((((h.set 0 v0 (by decide)).set 1 v1 (by decide)).set 2 v2 (by decide)).set 3 v3 (by decide)).set 4 v4 (by decide)).set 5 v5 (by decide)).set 6 v6 (by decide)
  simpa using q
def na (y : ay) (k : Nat) (n : aS) : ay := ⟨y.now, y.events, y.chain, y.nodes.set k n, y.msgs, y.af⟩
theorem ik {y : ay} {n : aS} {k : Nat} (h : n.id = (k : Int) + 1) : fV y n = na y k n := by
 have : (n.id - 1).toNat = k := by omega
 rw [fV, na, this]
theorem sV {W0 W : World} {lo g k : Nat} {v3 v4 v5 v6 : Value} {y : ay} {row : List Value} {n : aS} (h : fu W0 lo g [.int .i64 y.now, .int .i64 y.events, .int .i64 y.chain.ae, v3, v4, v5, v6] y) (hb : Below W0.heap.size W0 W) (hg : g < W0.heap.size) (hr : ab.aA.aL W row n W0.heap.size W.heap.size) (hk : k < y.nodes.length) :
  ∃ b off cap row0, v4 = .slice (some ⟨b, off, none⟩) y.nodes.length cap ∧ lo ≤ b ∧ b < W0.heap.size ∧ b ≠ g ∧ cX W W b (off + k * 7) 7 row0 [] ∧ ab.aA.Reads W row0 y.nodes[k] ∧
   ∀ W2, cX W W2 b (off + k * 7) 7 row [] → fu W2 lo g [.int .i64 y.now, .int .i64 y.events, .int .i64 y.chain.ae, v3, v4, v5, v6] (na y k n) := by
 obtain ⟨bl, O, hgb, hbl⟩ := h
 obtain ⟨a3, d3, a4, d4, a5, d5, a6, d6, g2, g4, g5, g6, hq, rfl, O2, O4, O5, O6, w0, w1⟩ := iT O
 simp only [List.cons.injEq, and_true, true_and] at hq
 obtain ⟨rfl, rfl, rfl, rfl⟩ := hq
 have hnd := O.2.1
 replace O2 := O2.later hb
 replace O4 := O4.later hb
 replace O5 := O5.later hb
 replace O6 := O6.later hb
 obtain ⟨b, off, cap, r, e4, rfl, hA⟩ := ab.nx O4 (by omega)
 simp only [Value.slice.injEq, true_and] at e4
 obtain ⟨rfl, rfl⟩ := e4
 obtain ⟨row0, hR0, blk0, hl0, hm0⟩ := hA.row hk
 obtain ⟨blk, hO, hbk⟩ := hr
 have hin : ∀ c, c ∈ g2 ++ ((b :: r) ++ (g5 ++ g6)) → lo ≤ c ∧ c < W0.heap.size := hbl
 have hbin := hin b (by simp)
 have hbg : b ≠ g := fun e => hgb (by rw [← e]; simp)
 refine ⟨b, off, d4, row0, rfl, hbin.1, hbin.2, hbg, hR0, ⟨blk0, hl0⟩, fun W2 hR => ?_⟩
 have hfresh : ∀ c ∈ blk, c ∉ g2 ++ ((b :: r) ++ (g5 ++ g6)) := fun c hc q => by have := hbk c hc; have := hin c q; omega
 have hE : Ext (fun q => q = b) W W2 := hR.ext.mono (fun k _ q => by rcases q with q | q; exact q; cases q)
 have hbb : b ∉ blk := fun q => hfresh b q (by simp)
 have hO2 : ab.aA.Own W2 row n blk := hO.ext hE (fun c hc e => hbb (e ▸ hc))
 obtain ⟨r', hA', hm', hn'⟩ := hA.put hk (x' := n) hR hO2.1 hbb
 rw [List.nodup_append, List.nodup_append, List.nodup_append] at hnd
 obtain ⟨n2, ⟨n4, ⟨n5, n6, x56⟩, x4⟩, x2⟩ := hnd
 rw [List.nodup_cons] at n4
 have hr' : r'.Nodup := hn' n4.2 hO2.2.1 (fun c hc q => hfresh c hc (by simp [q]))
 have hsz : W.heap.size ≤ W2.heap.size := hE.size
 have O4' : (ab.sl ab.aA).Own W2 [.slice (some ⟨b, off, none⟩) y.nodes.length d4] (y.nodes.set k n) (b :: r') := by
  refine ⟨hA'.1, List.nodup_cons.2 ⟨hA'.2.1, hr'⟩, fun c hc o => ?_⟩
  rcases List.mem_cons.1 hc with rfl | hc
  ·
   exact hA'.2.2 o
  rcases hm' c hc with q | q
  ·
   have hcb : c ≠ b := fun e => n4.1 (e ▸ q)
   have hlt : c < W.heap.size := Nat.lt_of_lt_of_le (hin c (by simp [q])).2 hb.size
   rw [frozen_of_heap (hE.block c hlt hcb) o]
   exact O4.2.2 c (by simp [q]) o
  exact hO2.2.2 c q o
 have nb2 : b ∉ g2 := fun q => x2 b q b (by simp) rfl
 have nb5 : b ∉ g5 := fun q => x4 b (by simp) b (by simp [q]) rfl
 have nb6 : b ∉ g6 := fun q => x4 b (by simp) b (by simp [q]) rfl
 have P2 := O2.ext hE (fun c hc e => nb2 (e ▸ hc))
 have P5 := O5.ext hE (fun c hc e => nb5 (e ▸ hc))
 have P6 := O6.ext hE (fun c hc e => nb6 (e ▸ hc))
 have hmem : ∀ c ∈ b :: r', c ∈ b :: r ∨ c ∈ blk := fun c hc => by
  rcases List.mem_cons.1 hc with rfl | hc
  ·
   simp
  rcases hm' c hc with q | q
  ·
   exact Or.inl (by simp [q])
  exact Or.inr q
 refine ⟨g2 ++ ((b :: r') ++ (g5 ++ g6)), fA (x := na y k n) P2 O4' P5 P6 w0 w1 ?_, ?_, ?_⟩
 ·
  rw [List.nodup_append, List.nodup_append, List.nodup_append]
  refine ⟨n2, ⟨List.nodup_cons.2 ⟨hA'.2.1, hr'⟩, ⟨n5, n6, x56⟩, fun a ha c hc e => ?_⟩, fun a ha c hc e => ?_⟩
  ·
   rcases hmem a ha with q | q
   ·
    exact x4 a q c hc e
   exact hfresh a q (by rw [e]; simp only [List.mem_append] at hc ⊢; exact Or.inr (Or.inr hc))
  rcases List.mem_append.1 hc with q | q
  ·
   rcases hmem c q with q | q
   ·
    exact x2 a ha c (List.mem_append_left _ q) e
   exact hfresh c q (by rw [← e]; exact List.mem_append_left _ ha)
  exact x2 a ha c (List.mem_append_right _ q) e
 ·
  intro q
  rcases List.mem_append.1 q with q | q
  ·
   exact hgb (List.mem_append_left _ q)
  rcases List.mem_append.1 q with q | q
  ·
   rcases hmem g q with q | q
   ·
    exact hgb (List.mem_append_right _ (List.mem_append_left _ q))
   have := hbk g q; omega
  exact hgb (List.mem_append_right _ (List.mem_append_right _ q))
 intro c hc
 have hold : c ∈ g2 ++ ((b :: r) ++ (g5 ++ g6)) ∨ c ∈ blk := by
  rcases List.mem_append.1 hc with q | q
  ·
   exact Or.inl (List.mem_append_left _ q)
  rcases List.mem_append.1 q with q | q
  ·
   rcases hmem c q with q | q
   ·
    exact Or.inl (List.mem_append_right _ (List.mem_append_left _ q))
   exact Or.inr q
  exact Or.inl (List.mem_append_right _ (List.mem_append_right _ q))
 have hz := hb.size
 rcases hold with q | q
 ·
  have := hin c q; omega
 have := hbk c q; omega
theorem dA (n : Int) (w : World) :
  Calls Tryz.prog 182 #[.int .i64 n] w fun e w' => e = .returned (.bool (decide (1 ≤ n) && decide (n ≤ 5))) ∧ w' = w := by
 by_cases h1 : 1 ≤ n
 ·
  have d1 : decide (1 ≤ n) = true := by simpa using h1
  rw [d1]
  cases d2 : decide (n ≤ 5) <;>
  ·
   go_enter Tryz.func182, Tryz.ntmps182
   go_wp2_with fail
   go_ret
   exact ⟨rfl, rfl⟩
 have d1 : decide (1 ≤ n) = false := by simpa using h1
 rw [d1]
 go_enter Tryz.func182, Tryz.ntmps182
 go_wp2_with fail
 go_ret
 exact ⟨rfl, rfl⟩
theorem dC (n : Int) (w : World) :
  Calls Tryz.prog 126 #[.int .i64 n] w fun e w' => e = .returned (.bool (decide (1 ≤ n) && decide (n ≤ 999))) ∧ w' = w := by
 by_cases h1 : 1 ≤ n
 ·
  have d1 : decide (1 ≤ n) = true := by simpa using h1
  rw [d1]
  cases d2 : decide (n ≤ 999) <;>
  ·
   go_enter Tryz.func126, Tryz.ntmps126
   go_wp2_with fail
   go_ret
   exact ⟨rfl, rfl⟩
 have d1 : decide (1 ≤ n) = false := by simpa using h1
 rw [d1]
 go_enter Tryz.func126, Tryz.ntmps126
 go_wp2_with fail
 go_ret
 exact ⟨rfl, rfl⟩
theorem pt {w : World} {b off cap : Nat} {zs : List Int} (h : (ab.sl ab.int).Reads w [.slice (some ⟨b, off, none⟩) zs.length cap] zs) (m n c : Nat) (hm : m + n ≤ zs.length) (hc : n ≤ c) :
  (ab.sl ab.int).Reads w [.slice (some ⟨b, off + m, none⟩) n c] ((zs.drop m).take n) := by
 have hi := ab.bf h
 have hbig := h.ez
 obtain ⟨ao, cp, e, hwf, hcs⟩ := hi
 have hlen : ((zs.drop m).take n).length = n := by simp; omega
 refine ab.ko ?_ (fun ao' cap' e' => ?_) (by rw [hlen]; omega)
 ·
  refine ⟨_, c, by rw [hlen], fun z hz => hwf z (List.mem_of_mem_drop (List.mem_of_mem_take hz)), fun hp => ⟨b, off + m, rfl, fun j hj => ?_⟩⟩
  rw [hlen] at hp hj
  obtain ⟨b', off', hao, hc1⟩ := hcs (by omega)
  simp only [Value.slice.injEq] at e
  obtain ⟨rfl, -, -⟩ := e
  simp only [Option.some.injEq, Addr.mk.injEq, and_true] at hao
  obtain ⟨rfl, rfl⟩ := hao
  rw [Nat.add_assoc, hc1 (m + j) (by omega)]
  simp only [List.getD]
  rw [List.getElem?_take, if_pos hj, List.getElem?_drop]
 simp only [Value.slice.injEq] at e'
 rw [hlen]
 omega
theorem po {w : World} {ao : Option Addr} {n cap : Nat} {zs : List Int} (h : (ab.sl ab.int).Reads w [.slice ao n cap] zs) (k : Nat) (hk : k ≤ zs.length) :
  (ab.sl ab.int).Reads w [.slice ao k cap] (zs.take k) := by
 have hc := h.cap
 by_cases h0 : k = 0
 ·
  subst h0
  rw [List.take_zero]
  exact ab.ko ⟨ao, cap, rfl, by simp, fun hp => by simp at hp⟩ (fun _ _ _ => by simp) (by simp)
 have hi := ab.bf h
 obtain ⟨ao', cp, e, hwf, hcs⟩ := hi
 obtain ⟨b', off', hao, hc1⟩ := hcs (by omega)
 simp only [Value.slice.injEq] at e
 obtain ⟨rfl, rfl, rfl⟩ := e
 subst hao
 have := pt h 0 k cap (by omega) (by omega)
 simpa using this
theorem iN (n : Int) (w : World) :
  Calls Tryz.prog 128 #[.int .i64 n] w fun e w' => e = .returned (.bool (decide (1 ≤ n) && decide (n ≤ 5))) ∧ w' = w := by
 by_cases h1 : 1 ≤ n
 ·
  have d1 : decide (1 ≤ n) = true := by simpa using h1
  rw [d1]
  cases d2 : decide (n ≤ 5) <;>
  ·
   go_enter Tryz.func128, Tryz.ntmps128
   go_wp2_with fail
   go_ret
   exact ⟨rfl, rfl⟩
 have d1 : decide (1 ≤ n) = false := by simpa using h1
 rw [d1]
 go_enter Tryz.func128, Tryz.ntmps128
 go_wp2_with fail
 go_ret
 exact ⟨rfl, rfl⟩
theorem ub (v : Value) (ids : List Int) (id : Int) (w : World) (R : (ab.sl ab.int).Reads w [v] ids) :
  Calls Tryz.prog 215 #[v, .int .i64 id] w fun e w' => e = .returned (.int .i64 (aY ids id)) ∧ w' = w := by
 obtain ⟨ao, cap, rfl⟩ := aI R
 have hbig := R.ez
 have H := yh R
 clear R
 go_enter Tryz.func215, Tryz.ntmps215
 go_wp2_with fail
 go_loop [8] (fun i => ∃ k : Nat, k ≤ ids.length ∧ i = .int .i64 k ∧ (∀ j (hj : j < ids.length), j < k → ids[j] ≠ id)) (fun i => ids.length - (intOf i).toNat)
 case atStart => exact ⟨0, Nat.zero_le _, rfl, fun j _ h => by omega⟩
 case round =>
  obtain ⟨k, hk, rfl, hz⟩ := hrel
  by_cases hlt : k < ids.length
  ·
   obtain ⟨b2, off, rfl, -⟩ := ab.aR (uh H) (by omega)
   have c1 := eH (uh H) hlt
   cases hq : (id == ids[k])
   ·
    have HZ : Hid (∀ j (hj : j < ids.length), j < k + 1 → ids[j] ≠ id) := fun j hj hjk => by
     by_cases h2 : j < k
     ·
      exact hz j hj h2
     obtain rfl : j = k := by omega
     intro h3
     rw [h3] at hq
     simp at hq
    clear hz
    generalize ids[k] = z at *
    go_wp2_with fail
    go_round
    case rel => exact ⟨k + 1, by omega, by go_num, uh HZ⟩
    case measure => simp [intOf]; omega
   have HP := yh (iY hlt (beq_iff_eq.1 hq).symm (fun j hj => hz j (by omega) hj))
   clear hz
   generalize ids[k] = z at *
   go_wp2_with fail
   go_ret
   exact ⟨by rw [uh HP]; rfl, rfl⟩
  obtain rfl : k = ids.length := by omega
  have HP := yh (jN (id := id) (fun j hj => hz j hj hj))
  clear hz
  go_wp2_with fail
  go_ret
  exact ⟨by rw [uh HP]; rfl, rfl⟩
theorem lT (v : Value) (ids : List Int) (id : Int) (w : World) (R : (ab.sl ab.int).Reads w [v] ids) :
  Calls Tryz.prog 183 #[v, .int .i64 id] w fun e w' => e = .returned (.bool (decide (0 ≤ aY ids id))) ∧ w' = w := by
 have HL := yh (ub v ids id w R)
 obtain ⟨ao, cap, rfl⟩ := aI R
 generalize aY ids id = n at *
 clear R
 go_enter Tryz.func183, Tryz.ntmps183
 go_wp2_with fail
 refine (uh HL).mono ?_
 rintro e w1 ⟨rfl, h1⟩
 subst w1
 clear HL
 go_wp2_with fail
 go_ret
 exact ⟨rfl, rfl⟩
def ef (ids : List Int) : Int := if 1 ≤ ids.length ∧ ids.length ≤ 5 then gr [] ids else 2
theorem kA {ids : List Int} (h : (decide (1 ≤ (ids.length : Int)) && decide ((ids.length : Int) ≤ 5)) = false) : ef ids = 2 := by
 rw [ef, if_neg]
 intro h2
 rw [decide_eq_true (by omega), decide_eq_true (by omega)] at h
 simp at h
theorem lp {ids : List Int} (h : (decide (1 ≤ (ids.length : Int)) && decide ((ids.length : Int) ≤ 5)) = true) : ef ids = gr (ids.take 0) (ids.drop 0) := by
 rw [ef, if_pos]
 ·
  simp
 simp at h
 omega
theorem mc (ids : List Int) (z : Int) : decide (0 ≤ aY ids z) = true ↔ z ∈ ids := by
 have h := kZ ids z
 rw [decide_eq_true_iff]
 constructor
 ·
  intro h1
  refine Decidable.byContradiction fun h2 => ?_
  have := h.2 h2
  omega
 intro h1
 refine Decidable.byContradiction fun h2 => ?_
 exact h.1 (by omega) h1
theorem sk (v : Value) (ids : List Int) (w : World) (R : (ab.sl ab.int).Reads w [v] ids) :
  Calls Tryz.prog 127 #[v] w fun e w' => e = .returned (.int .i64 (ef ids)) ∧ w' = w := by
 obtain ⟨ao, cap, rfl⟩ := aI R
 have hbig := R.ez
 have hcap := R.cap
 have H := yh R
 clear R
 go_enter Tryz.func127, Tryz.ntmps127
 go_wp2_with fail
 refine (iN (ids.length : Int) w).mono ?_
 rintro e w1 ⟨rfl, h1⟩
 subst w1
 cases d1 : (decide (1 ≤ (ids.length : Int)) && decide ((ids.length : Int) ≤ 5))
 ·
  have HF := yh (kA d1)
  clear d1
  go_wp2_with fail
  go_ret
  exact ⟨by rw [uh HF]; rfl, rfl⟩
 have HF := yh (lp d1)
 clear d1
 go_wp2_with fail
 go_loop [11] (fun i => ∃ k : Nat, k ≤ ids.length ∧ i = .int .i64 k ∧ ef ids = gr (ids.take k) (ids.drop k)) (fun i => ids.length - (intOf i).toNat)
 case atStart => exact ⟨0, Nat.zero_le _, rfl, uh HF⟩
 case round =>
  obtain ⟨k, hk, rfl, hz⟩ := hrel
  clear HF
  by_cases hlt : k < ids.length
  ·
   rw [me ids k hlt] at hz
   obtain ⟨b2, off, rfl, -⟩ := ab.aR (uh H) (by omega)
   have c1 := eH (uh H) hlt
   have HC := yh (lT (.slice (some ⟨b2, off, none⟩) k cap) (ids.take k) ids[k] w (po (uh H) k (by omega)))
   have HM := yh (mc (ids.take k) ids[k])
   have hdl : decide ((k : Int) < (ids.length : Int)) = true := by simp; omega
   have HZ := yh hz
   have hkc : k ≤ cap := by omega
   clear hz
   generalize ids[k] = z at *
   generalize ids.take k = zk at *
   go_wp2_with fail
   refine (dA z w).mono ?_
   rintro e w1 ⟨rfl, h1⟩
   subst w1
   cases d2 : (decide (1 ≤ z) && decide (z ≤ 5))
   ·
    have hz := uh HZ
    rw [if_neg (by intro h; simp at d2; omega)] at hz
    have HF := yh hz
    clear hz HZ d2
    go_wp2_with fail
    go_ret
    exact ⟨by rw [uh HF]; rfl, rfl⟩
   have hz := uh HZ
   rw [if_pos (by simpa using d2)] at hz
   clear HZ d2
   have HZ := yh hz
   clear hz
   go_wp2_with fail
   refine (uh HC).mono ?_
   rintro e w1 ⟨rfl, h1⟩
   subst w1
   cases d3 : decide (0 ≤ aY zk z)
   ·
    have hz := uh HZ
    rw [if_neg (fun hm => by rw [(uh HM).2 hm] at d3; simp at d3)] at hz
    have HF := yh hz
    clear hz HZ d3 HM HC
    go_wp2_with fail
    go_round
    case rel => exact ⟨k + 1, by omega, by go_num, uh HF⟩
    case measure => simp [intOf]; omega
   have hz := uh HZ
   rw [if_pos ((uh HM).1 d3)] at hz
   have HF := yh hz
   clear hz HZ d3 HM HC
   go_wp2_with fail
   go_ret
   exact ⟨by rw [uh HF]; rfl, rfl⟩
  obtain rfl : k = ids.length := by omega
  rw [oF] at hz
  have HF := yh hz
  clear hz
  go_wp2_with fail
  go_ret
  exact ⟨by rw [uh HF]; rfl, rfl⟩
theorem ve {x : bx} (h : (decide (1 ≤ x.ae) && decide (x.ae ≤ 999)) = false) : aB x = 3 := by rw [aB, if_neg (by simp at h; omega)]
theorem vj {x : bx} (h : (decide (1 ≤ x.ae) && decide (x.ae ≤ 999)) = true) : aB x = ef x.ids := by rw [aB, if_pos (by simp at h; omega), ef]
theorem fj (cs : List Value) (x : bx) (w : World) (h : ab.aF.Reads w cs x) :
  Calls Tryz.prog 67 #[.agg cs.toArray] w fun e w' => e = .returned (.int .i64 (aB x)) ∧ Below w.heap.size w w' := by
 obtain ⟨a, d, rfl, R⟩ := cl h
 have nb : Below w.heap.size w (w.alloc (.cells #[.int .i64 x.ae, .slice a x.ids.length d] 34)) := (Below.refl _ _).alloc (Nat.le_refl _) _
 have HR := yh (R.later nb)
 have HB := yh nb
 have HX : Hid (ag 0 #[.int .i64 x.ae, .slice a x.ids.length d] 34 (w.alloc (.cells #[.int .i64 x.ae, .slice a x.ids.length d] 34)) w.heap.size) := aC (Nat.zero_le _)
 clear R h nb
 go_enter Tryz.func67, Tryz.ntmps67
 go_upto_region 1 with fail
 generalize w.alloc (.cells #[.int .i64 x.ae, .slice a x.ids.length d] 34) = W at *
 have z0 : W.cell? ⟨w.heap.size, 0, none⟩ = some (.int .i64 x.ae) := (uh HX).at 0 _ rfl
 have z1 : W.cell? ⟨w.heap.size, 1, none⟩ = some (.slice a x.ids.length d) := (uh HX).at 1 _ rfl
 clear HX
 cases d1 : (decide (1 ≤ x.ae) && decide (x.ae ≤ 999))
 ·
  have HF := yh (ve d1)
  have L := yh (dC x.ae W)
  rw [d1] at L
  clear d1
  go_wp2_with fail
  refine (uh L).mono ?_
  rintro e w1 ⟨rfl, h1⟩
  subst w1
  clear L
  go_wp2_with fail
  go_ret
  exact ⟨by rw [uh HF]; rfl, uh HB⟩
 have HF := yh (vj d1)
 have L := yh (dC x.ae W)
 rw [d1] at L
 clear d1
 go_wp2_with fail
 refine (uh L).mono ?_
 rintro e w1 ⟨rfl, h1⟩
 subst w1
 clear L
 have L := yh (sk _ x.ids _ (uh HR))
 go_wp2_with fail
 refine (uh L).mono ?_
 rintro e w1 ⟨rfl, h1⟩
 subst w1
 clear L
 go_wp2_with fail
 go_ret
 exact ⟨by rw [uh HF]; rfl, uh HB⟩
theorem eF (n m : Int) (w : World) :
  Calls Tryz.prog 66 #[.int .i64 n, .int .i64 m] w fun e w' => e = .returned (.bool (decide (0 ≤ n) && decide (n ≤ m))) ∧ w' = w := by
 by_cases h1 : 0 ≤ n
 ·
  have d1 : decide (0 ≤ n) = true := by simpa using h1
  rw [d1]
  cases d2 : decide (n ≤ m) <;>
  ·
   go_enter Tryz.func66, Tryz.ntmps66
   go_wp2_with fail
   go_ret
   exact ⟨rfl, rfl⟩
 have d1 : decide (0 ≤ n) = false := by simpa using h1
 rw [d1]
 go_enter Tryz.func66, Tryz.ntmps66
 go_wp2_with fail
 go_ret
 exact ⟨rfl, rfl⟩
def cP (ws : List au) : Int := if 40 < ws.length then 2 else if cG ws ≠ 0 then cG ws else if dy [] ws = false then 6 else 0
def dO (x : aS) : Bool := (x.sure == (x.writes.length : Int)) && (x.clean == 0 && x.ar == 0)
theorem vB {x : aS} (h : (decide (1 ≤ x.id) && decide (x.id ≤ 5)) = false) : aG x = 3 := by
 simp only [Bool.and_eq_false_iff, decide_eq_false_iff_not] at h
 rw [aG, if_neg (by omega)]
theorem nP {x : aS} (h : (decide (0 ≤ x.ae) && decide (x.ae ≤ 999)) = false) : aG x = 3 := by
 simp only [Bool.and_eq_false_iff, decide_eq_false_iff_not] at h
 rw [aG, if_neg (by omega)]
theorem oG {x : aS} (h : (decide (0 ≤ x.ar) && decide (x.ar ≤ 9999)) = false) : aG x = 3 := by
 simp only [Bool.and_eq_false_iff, decide_eq_false_iff_not] at h
 rw [aG, if_neg (by omega)]
theorem qC {x : aS} (h1 : (decide (1 ≤ x.id) && decide (x.id ≤ 5)) = true) (h2 : (decide (0 ≤ x.ae) && decide (x.ae ≤ 999)) = true) (h3 : (decide (0 ≤ x.ar) && decide (x.ar ≤ 9999)) = true) :
  aG x = if cP x.writes ≠ 0 then cP x.writes else if (decide (0 ≤ x.sure) && decide (x.sure ≤ (x.writes.length : Int))) = true ∧ (decide (0 ≤ x.clean) && decide (x.clean ≤ x.sure)) = true then (if x.up = false ∧ dO x = false then 1 else 0) else 3 := by
 simp only [Bool.and_eq_true, decide_eq_true_eq] at *
 rw [aG, if_pos (by omega), cP]
 by_cases q1 : 40 < x.writes.length
 ·
  simp only [if_pos q1]; rfl
 simp only [if_neg q1]
 by_cases q2 : cG x.writes ≠ 0
 ·
  simp only [if_pos q2]
 simp only [if_neg q2]
 by_cases q3 : dy [] x.writes = false
 ·
  simp only [if_pos q3]; rfl
 simp only [if_neg q3]
 rw [if_neg (by simp : ¬ ((0 : Int) ≠ 0))]
 have e1 : (0 ≤ x.sure ∧ x.sure ≤ (x.writes.length : Int) ∧ 0 ≤ x.clean ∧ x.clean ≤ x.sure) ↔ ((0 ≤ x.sure ∧ x.sure ≤ (x.writes.length : Int)) ∧ 0 ≤ x.clean ∧ x.clean ≤ x.sure) := by constructor <;> (intro h; omega)
 have e2 : ¬ (x.sure = (x.writes.length : Int) ∧ x.clean = 0 ∧ x.ar = 0) ↔ dO x = false := by
  unfold dO
  rw [← Bool.not_eq_true]
  simp
 simp only [e1, e2]
theorem ed {w w' : World} {o : Obj} {r : Option Nat} (h : (w.alloc o).grownBy w' r) : w.grownBy w' r := nH (World.grownBy_alloc w o r) h
theorem gf : (Tryz.prog.info? 44).map (fun i => (i.zero, i.size, i.bytes)) = some (some (.agg #[.int .i64 0, .int .i64 0, .slice none 0 0, .int .i64 0, .int .i64 0]), 5, 56) := by kernel_rfl
theorem jh {w : World} {row : List Value} {x : au} {bl : List Nat} (h : ab.ai.bD w row x bl) : (∀ u ∈ row, u.oneCell' = true) ∧ row.length = 1 * 5 := by
 obtain ⟨_, _, _, rfl, -⟩ := cB.1 h
 simp [Value.oneCell']
theorem hZ {w1 : World} {base : Nat} {v : Value} {rows : List (List Value)} {xs : List au} {bls : List (List Nat)} (hG : ck ab.ai w1 base 44 v rows xs bls) {row : List Value} {x : au} {bl : List Nat} (hl : ab.ai.bD w1 row x bl) (hbl : ∀ b ∈ bl, v.ownBlock ≠ some b) {ops : Array Oper} {rest : List Oper} {o : Oper} {a : Act} {Q : Exit → Act → World → Prop} (hgd : o.guard = none) (s y : Operand)
  (ho : o.op = .call { callee := .builtin .append, args := #[s, y], argTypes := #[61, 61] }) (hs : a.eval s = v) (hy : a.eval y = .slice (some ⟨w1.heap.size, 0, none⟩) 1 1) (hn : xs.length + 1 ≤ 100000000) (hbase : base ≤ w1.heap.size)
  (h : ∀ g cap w', ck ab.ai w' base 44 (.slice (some ⟨g, 0, none⟩) (xs.length + 1) cap) (rows ++ [row]) (xs ++ [x]) (bls ++ [bl]) → Below base w1 w' → Ext (fun q => v.ownBlock = some q) w1 w' → g < w'.heap.size → w1.heap.size ≤ w'.heap.size → (v.ownBlock = some g ∨ w1.heap.size ≤ g) → wpList Tryz.prog ops Q rest (a.put o.dst (.slice (some ⟨g, 0, none⟩) (xs.length + 1) cap)) w') :
  wpList Tryz.prog ops Q (o :: rest) a (w1.alloc (.cells row.toArray 44)) := by
 obtain ⟨i0, hi0, hz0, hz1, hz2⟩ := info_parts gf
 obtain ⟨h1, hlen⟩ := jh hl
 refine wpList_append_lies _ hgd s y 61 ho base 44 i0 _ 5 56 Tryz.underlying61 hi0 hz0 hz1 hz2 rfl (by omega) v xs.length rows.flatten hs (hG.own.alloc _) ⟨w1.heap.size, 0, none⟩ 1 1 row hy hlen (World.news_of_block (cs := row.toArray) (t := 44) (fr := (0, 0)) (heap_alloc_new w1 _)) h1 (by omega) (by unfold maxLen; omega) (by omega) (by simp; omega) (w1.alloc (.cells row.toArray 44)).heap.size rfl ?_
 intro g cap w' h2 h3 h4 h5
 have hg := ed h3
 have hbw : Below base w1 w' := (Below.refl _ _).grown hg hbase (fun j hj => (hG.own.lt j hj).1)
 have hor : v.ownBlock = some g ∨ w1.heap.size ≤ g := by
  rcases h4 with h4 | h4
  ·
   exact Or.inl h4
  exact Or.inr (by rw [h4]; simp)
 exact h g cap w' (hG.snoc hl hbl h2 hg hor) hbw ⟨hbw.os, hbw.tape, hbw.output, hbw.size, fun k hk hn => hg.block k hk (fun e => hn e.symm)⟩ h5 hbw.size hor
theorem fy {w1 : World} {base : Nat} {v : Value} {rows : List (List Value)} {xs : List au} {bls : List (List Nat)} (hG : ck ab.ai w1 base 44 v rows xs bls) {row : List Value} {x : au} {bl : List Nat} (hl : ab.ai.bD w1 row x bl) (hbl : ∀ b ∈ bl, v.ownBlock ≠ some b) {ops : Array Oper} {o : Oper} {a : Act} {K : Act → World → Prop} {Q : Exit → Act → World → Prop} {E : Prop} (hgd : o.guard = none) (s y : Operand)
  (ho : o.op = .call { callee := .builtin .append, args := #[s, y], argTypes := #[61, 61] }) (hs : a.eval s = v) (hy : a.eval y = .slice (some ⟨w1.heap.size, 0, none⟩) 1 1) (hn : xs.length + 1 ≤ 100000000) (hbase : base ≤ w1.heap.size)
  (h : ∀ g cap w', ck ab.ai w' base 44 (.slice (some ⟨g, 0, none⟩) (xs.length + 1) cap) (rows ++ [row]) (xs ++ [x]) (bls ++ [bl]) → Below base w1 w' → Ext (fun q => v.ownBlock = some q) w1 w' → g < w'.heap.size → w1.heap.size ≤ w'.heap.size → (v.ownBlock = some g ∨ w1.heap.size ≤ g) → K (a.put o.dst (.slice (some ⟨g, 0, none⟩) (xs.length + 1) cap)) w') :
  if Region.wanted o (yielded ops a.tmps) = true then Oper.wp Tryz.prog o a (w1.alloc (.cells row.toArray 44)) K Q else E := by
 obtain ⟨i0, hi0, hz0, hz1, hz2⟩ := info_parts gf
 obtain ⟨h1, hlen⟩ := jh hl
 refine step_append_lies _ hgd s y 61 ho base 44 i0 _ 5 56 Tryz.underlying61 hi0 hz0 hz1 hz2 rfl (by omega) v xs.length rows.flatten hs (hG.own.alloc _) ⟨w1.heap.size, 0, none⟩ 1 1 row hy hlen (World.news_of_block (cs := row.toArray) (t := 44) (fr := (0, 0)) (heap_alloc_new w1 _)) h1 (by omega) (by unfold maxLen; omega) (by omega) (by simp; omega) (w1.alloc (.cells row.toArray 44)).heap.size rfl ?_
 intro g cap w' h2 h3 h4 h5
 have hg := ed h3
 have hbw : Below base w1 w' := (Below.refl _ _).grown hg hbase (fun j hj => (hG.own.lt j hj).1)
 have hor : v.ownBlock = some g ∨ w1.heap.size ≤ g := by
  rcases h4 with h4 | h4
  ·
   exact Or.inl h4
  exact Or.inr (by rw [h4]; simp)
 exact h g cap w' (hG.snoc hl hbl h2 hg hor) hbw ⟨hbw.os, hbw.tape, hbw.output, hbw.size, fun k hk hn => hg.block k hk (fun e => hn e.symm)⟩ h5 hbw.size hor
theorem Ext.jY {S : Nat → Prop} {a b : World} (h : Ext S a b) : Ext S a b.drew := ⟨h.os, h.tape, h.output, h.size, h.block⟩
theorem Ext.qb {S : Nat → Prop} {a b : World} (h : Ext S a b) (o : Obj) : Ext S a (b.alloc o) := h.trans (ak ((Below.refl _ _).alloc (Nat.le_refl _) o) S)
theorem qH (k i : Int) (u1 : Option Addr) (u2 u3 : Nat) (s q : Int) (w : World) :
  Calls Tryz.prog 163 #[.agg #[.int .i64 k, .int .i64 i, .slice u1 u2 u3, .int .i64 s, .int .i64 q]] w fun e w' => e = .returned (tick s q) ∧ Below w.heap.size w w' := by
 have HB : Hid (∀ o o', Below w.heap.size w ((w.alloc o).alloc o')) := fun o o' => ((Below.refl _ _).alloc (Nat.le_refl _) _).alloc (by simp) _
 go_enter Tryz.func163, Tryz.ntmps163
 go_wp2_with fail
 refine bodyPost_ret (v := .agg #[.int .i64 s, .int .i64 q]) (by simp [results, Tryz.results163, go_sem]) rfl ?_
 exact ⟨rfl, uh HB _ _⟩
theorem vG {w : World} {p mb N : Nat} {ws : List au} {v : Value} {rows : List (List Value)} {bls : List (List Nat)} (h : Told w p mb N ws v rows bls) {cs : List Value} {x : au} {bl : List Nat} (hl : ab.ai.bD w cs x bl) (hX : ∀ b ∈ bl, N ≤ b ∧ ∀ o, w.frozen? ⟨b, o, none⟩ = false) (hnd : bl.Nodup) (hNw : N ≤ w.heap.size) (hf : wF x = 0) (hn : ws.length < 1000) :
  Calls Tryz.prog 141 #[.pointer (some ⟨p, 0, none⟩), .agg cs.toArray] w fun e w' => e = .returned (.tuple #[]) ∧ (∃ v' rows' bls', Told w' p mb w'.heap.size (ws ++ [x]) v' rows' bls') ∧ Below mb w w' := by
 obtain ⟨a2, d2, b2, rfl, rfl, -, -, -, k3, k4⟩ := cB.1 hl
 have nb : Below w.heap.size w (w.alloc (.cells #[.int .i64 x.kind, .int .i64 x.id, .slice a2 x.vec.length d2, .int .i64 x.aa, .int .i64 x.seq] 44)) := (Below.refl _ _).alloc (Nat.le_refl _) _
 have hQ0 : ag 0 #[.int .i64 x.kind, .int .i64 x.id, .slice a2 x.vec.length d2, .int .i64 x.aa, .int .i64 x.seq] 44 (w.alloc (.cells #[.int .i64 x.kind, .int .i64 x.id, .slice a2 x.vec.length d2, .int .i64 x.aa, .int .i64 x.seq] 44)) w.heap.size := aC (Nat.zero_le _)
 have hT0 := h.later nb
 have hL0 : ab.ai.bD (w.alloc (.cells #[.int .i64 x.kind, .int .i64 x.id, .slice a2 x.vec.length d2, .int .i64 x.aa, .int .i64 x.seq] 44)) [.int .i64 x.kind, .int .i64 x.id, .slice a2 x.vec.length d2, .int .i64 x.aa, .int .i64 x.seq] x bl := ab.ai.aj hl fun b hb => nb.block b (ab.ai.lt hl b hb)
 have hpw := h.box.lt
 have hmp := h.lt
 have HNW := yh hNw
 have hF0 : ∀ b ∈ bl, ∀ o, (w.alloc (.cells #[.int .i64 x.kind, .int .i64 x.id, .slice a2 x.vec.length d2, .int .i64 x.aa, .int .i64 x.seq] 44)).frozen? ⟨b, o, none⟩ = false := fun b hb o => (cR (nb.block b (ab.ai.lt hl b hb)) o).trans ((hX b hb).2 o)
 have hBw : Below mb w (w.alloc (.cells #[.int .i64 x.kind, .int .i64 x.id, .slice a2 x.vec.length d2, .int .i64 x.aa, .int .i64 x.seq] 44)) := nb.mono (by omega)
 go_enter Tryz.func141, Tryz.ntmps141
 go_wp2_with fail
 generalize hW0 : w.alloc (.cells #[.int .i64 x.kind, .int .i64 x.id, .slice a2 x.vec.length d2, .int .i64 x.aa, .int .i64 x.seq] 44) = W0 at *
 clear hW0
 have hHD : Ext (fun c => c = p ∨ v.ownBlock = some c) W0 W0.drew := (Ext.refl _ _).jY
 have hTD : Told W0.drew p mb N ws v rows bls := hT0.later (dt (Below.refl _ _) 1)
 have hLD : ab.ai.bD W0.drew [.int .i64 x.kind, .int .i64 x.id, .slice a2 x.vec.length d2, .int .i64 x.aa, .int .i64 x.seq] x bl := hL0
 have hFD : ∀ b ∈ bl, ∀ o, W0.drew.frozen? ⟨b, o, none⟩ = false := hF0
 refine wZz (fun w' => Ext (fun c => c = p ∨ v.ownBlock = some c) W0 w') (Ext.refl _ _).jY (fun zq => ?_)
 generalize W0.drew = wD at zq hTD hLD hHD hFD ⊢
 refine tkH 0 zq ?_
 refine tkH 1 zq ?_
 refine tkH 2 zq ?_
 refine tkH 3 zq ?_
 refine tkJ 5 (v := ?va5) ?ha5 zq ?ra5
 case ha5 =>
  intro wS hSw
  have y0 : wS.cell? ⟨w.heap.size, 0, none⟩ = some (.int .i64 x.kind) := (hQ0.ext hSw (by first | (rintro (e | e); omega; have := h.sB _ e; have := uh HNW; omega) | (intro e; omega) | exact fun e => e)).at 0 _ rfl
  have y1 : wS.cell? ⟨w.heap.size, 1, none⟩ = some (.int .i64 x.id) := (hQ0.ext hSw (by first | (rintro (e | e); omega; have := h.sB _ e; have := uh HNW; omega) | (intro e; omega) | exact fun e => e)).at 1 _ rfl
  have y2 : wS.cell? ⟨w.heap.size, 2, none⟩ = some (.slice a2 x.vec.length d2) := (hQ0.ext hSw (by first | (rintro (e | e); omega; have := h.sB _ e; have := uh HNW; omega) | (intro e; omega) | exact fun e => e)).at 2 _ rfl
  have y3 : wS.cell? ⟨w.heap.size, 3, none⟩ = some (.int .i64 x.aa) := (hQ0.ext hSw (by first | (rintro (e | e); omega; have := h.sB _ e; have := uh HNW; omega) | (intro e; omega) | exact fun e => e)).at 3 _ rfl
  have y4 : wS.cell? ⟨w.heap.size, 4, none⟩ = some (.int .i64 x.seq) := (hQ0.ext hSw (by first | (rintro (e | e); omega; have := h.sB _ e; have := uh HNW; omega) | (intro e; omega) | exact fun e => e)).at 4 _ rfl
  clear hSw
  exact fZ
 refine (fun (REST : ?T) => ?main) ?rest
 case main =>
  refine wpAnyH_ready (rs := [4, 6]) (by kernel_rfl) (by simp) ?_
  refine AllReadyH.cons (o := ⟨some 11, .load 61 (.tmp 10), 61, "l05_session.go:65", #[⟨3, .data⟩], none⟩) rfl (fun K hK => ?first) (AllReadyH.cons (o := ⟨some 13, .buildSlice 61 1 #[(0, .tmp 12)], 61, "l05_session.go:65", #[⟨5, .data⟩], none⟩) rfl (fun K hK => ?second) AllReadyH.nil)
  case first =>
   have y0 : wD.cell? ⟨p, 0, none⟩ = some v := hTD.box.at 0 _ rfl
   have hp : p < wD.heap.size := hTD.box.lt
   have y1 : ∀ o, (wD.alloc o).cell? ⟨p, 0, none⟩ = some v := fun o => (World.cell?_alloc_lt _ _ _ hp).trans y0
   go_simp
   refine hK.out _ _ zq (fun zq => ?_)
   clear hK K
   try simp only [Act.put, pz, py, px]
   refine rdH 6 (fun K hK => ?_)
   go_simp
   refine hK.out _ _ (zq.qb _) (fun zq => ?_)
   clear hK K
   try simp only [Act.put, pz, py, px]
   exact REST
  case second =>
   go_simp
   refine hK.out _ _ (zq.qb _) (fun zq => ?_)
   clear hK K
   try simp only [Act.put, pz, py, px]
   refine rdH 4 (fun K hK => ?_)
   have y0 : wD.cell? ⟨p, 0, none⟩ = some v := hTD.box.at 0 _ rfl
   have hp : p < wD.heap.size := hTD.box.lt
   have y1 : ∀ o, (wD.alloc o).cell? ⟨p, 0, none⟩ = some v := fun o => (World.cell?_alloc_lt _ _ _ hp).trans y0
   go_simp
   refine hK.out _ _ zq (fun zq => ?_)
   clear hK K
   try simp only [Act.put, pz, py, px]
   exact REST
 case rest =>
 replace zq := zq.qb (.cells #[.int .i64 x.kind, .int .i64 x.id, .slice a2 x.vec.length d2, .int .i64 x.aa, .int .i64 x.seq] 44)
 refine rdH 7 (fun K hK => ?_)
 refine fy hTD.grow (row := [.int .i64 x.kind, .int .i64 x.id, .slice a2 x.vec.length d2, .int .i64 x.aa, .int .i64 x.seq]) (x := x) (bl := bl) hLD (fun c hc e => by have h1 := (hX c hc).1; have h2 := hTD.sB c e; omega) rfl _ _ rfl rfl rfl (by omega) (by have := hTD.box.lt; omega) ?_
 rintro g5 cp5 w5 hG5 hb5 hE5 hl5 hz5 hor5
 refine hK.out _ _ ((hHD.trans (hE5.mono (fun k _ h => Or.inr h)))) (fun zq => ?_)
 clear hK K
 try simp only [Act.put, pz, py, px]
 refine tkH 8 zq ?_
 refine tkH 9 zq ?_
 refine rdH 10 (fun K hK => ?_)
 have hb6 : ag 0 (fh v mb (aT ws)) 137 w5 p := hTD.box.ext hE5 (fun e => by have := (hTD.grow.own.lt p e).1; omega)
 have c6 : w5.cell? ⟨p, 0, none⟩ = some v := hb6.at 0 _ rfl
 have f6 := hb6.soft 0
 have l6 := hb6.lt
 go_simp
 refine hK.out _ _ ((hHD.trans (hE5.mono (fun k _ h => Or.inr h))).setCell ⟨p, 0, none⟩ _ (Or.inl rfl)) (fun zq => ?_)
 clear hK K
 try simp only [Act.put, pz, py, px]
 refine dZ ?_
 have hnf : (bls ++ [bl]).flatten = bls.flatten ++ bl := by simp
 have hT6 := hTD.added hG5 hE5 (by
  intro b hb
  rw [hnf] at hb
  rcases List.mem_append.1 hb with hb | hb
  ·
   exact ⟨(hTD.sub b hb).1, fun o => (cR (hE5.block b (hTD.grow.sub_lt b hb) (fun e => hTD.grow.off b hb e)) o).trans ((hTD.sub b hb).2 o)⟩
  ·
   refine ⟨by have := (hX b hb).1; have := hTD.pN; omega, fun o => (cR (hE5.block b (ab.ai.lt hLD b hb) (fun e => by have := hTD.sB b e; have := (hX b hb).1; omega)) o).trans (hFD b hb o)⟩) (by
  rw [hnf, List.nodup_append]
  exact ⟨hTD.nd, hnd, fun b hb c hc e => by have := hTD.wL b hb; have := (hX c hc).1; omega⟩)
 have hQ6 : ag 0 #[.int .i64 x.kind, .int .i64 x.id, .slice a2 x.vec.length d2, .int .i64 x.aa, .int .i64 x.seq] 44 (w5.setCell ⟨p, 0, none⟩ (.slice (some ⟨g5, 0, none⟩) (ws.length + 1) cp5)) w.heap.size := hQ0.ext zq (by rintro (e | e); omega; have := h.sB _ e; omega)
 have hB6 : Below mb w (w5.setCell ⟨p, 0, none⟩ (.slice (some ⟨g5, 0, none⟩) (ws.length + 1) cp5)) := hBw.trans (zq.below (by have := hBw.size; omega) (by rintro c hc (e | e); omega; have := (h.grow.own.lt c e).1; omega))
 clear zq hTD hLD hHD hFD hG5 hE5 hb5 hl5 hz5 hor5 hT0 hL0 hF0 hQ0 hBw h hl hX hnd nb hnf
 generalize w5.setCell ⟨p, 0, none⟩ (.slice (some ⟨g5, 0, none⟩) (ws.length + 1) cp5) = w6 at hT6 hQ6 hB6 ⊢
 have y0 : w6.cell? ⟨w.heap.size, 0, none⟩ = some (.int .i64 x.kind) := hQ6.at 0 _ rfl
 have y1 : w6.cell? ⟨w.heap.size, 1, none⟩ = some (.int .i64 x.id) := hQ6.at 1 _ rfl
 have y2 : w6.cell? ⟨w.heap.size, 2, none⟩ = some (.slice a2 x.vec.length d2) := hQ6.at 2 _ rfl
 have y3 : w6.cell? ⟨w.heap.size, 3, none⟩ = some (.int .i64 x.aa) := hQ6.at 3 _ rfl
 have y4 : w6.cell? ⟨w.heap.size, 4, none⟩ = some (.int .i64 x.seq) := hQ6.at 4 _ rfl
 go_wp2_with fail
 clear y0 y1 y2 y3 y4
 refine (qH _ _ _ _ _ _ _ w6).mono ?_
 rintro e w7 ⟨rfl, hb7⟩
 have nb8 : Below w6.heap.size w6 (w7.alloc (.cells #[.int .i64 x.aa, .int .i64 x.seq] 139)) := hb7.alloc hb7.size _
 have hT8 := hT6.later nb8
 have hQ8 := hQ6.aj nb8
 have hB8 := hB6.trans (nb8.mono (by have := hT6.lt; have := hT6.box.lt; omega))
 have hR8 : ag 0 #[.int .i64 x.aa, .int .i64 x.seq] 139 (w7.alloc (.cells #[.int .i64 x.aa, .int .i64 x.seq] 139)) w7.heap.size := aC (Nat.zero_le _)
 have hrp : mb < w7.heap.size := by have := hT6.lt; have := hT6.box.lt; have := hb7.size; omega
 simp only [tick]
 go_wp2_with fail
 clear hT6 hQ6 hB6 hb7 nb8
 generalize w7.alloc (.cells #[.int .i64 x.aa, .int .i64 x.seq] 139) = w8 at *
 generalize w7.heap.size = r at *
 have hT9 : dD w8.drew p mb _ ws.length (ws ++ [x]) (aT ws) (fun s q => bV ws s q) (.slice (some ⟨g5, 0, none⟩) (ws.length + 1) cp5) (rows ++ [[.int .i64 x.kind, .int .i64 x.id, .slice a2 x.vec.length d2, .int .i64 x.aa, .int .i64 x.seq]]) (bls ++ [bl]) := hT8.later (dt (Below.refl _ _) 1)
 have hQ9 : ag 0 #[.int .i64 x.kind, .int .i64 x.id, .slice a2 x.vec.length d2, .int .i64 x.aa, .int .i64 x.seq] 44 w8.drew w.heap.size := hQ8
 have hR9 : ag 0 #[.int .i64 x.aa, .int .i64 x.seq] 139 w8.drew r := hR8
 have hB9 : Below mb w w8.drew := hB8.drew
 obtain ⟨bs, hbs⟩ : ∃ bs, bs = decide (bV ws x.aa x.seq ≠ 0) := ⟨_, rfl⟩
 have HBS := yh hbs
 clear hbs
 refine wZz (fun w' => Ext (fun _ => False) w8 w') (Ext.refl _ _).jY (fun zq => ?_)
 generalize w8.drew = w9 at zq hT9 hQ9 hR9 hB9 ⊢
 refine tkH 0 zq ?_
 refine tkH 1 zq ?_
 refine tkH 2 zq ?_
 refine tkJ 3 (v := ?vc3) ?hc3 zq ?rc3
 case hc3 =>
  intro wS hSw
  have z1 : wS.cell? ⟨p, 1, none⟩ = some (.map (some mb)) := (hT8.box.ext hSw (fun e => e)).at 1 _ rfl
  have k0 : wS.cell? ⟨r, 0, none⟩ = some (.int .i64 x.aa) := (hR8.ext hSw (fun e => e)).at 0 _ rfl
  have k1 : wS.cell? ⟨r, 1, none⟩ = some (.int .i64 x.seq) := (hR8.ext hSw (fun e => e)).at 1 _ rfl
  clear hSw
  exact fZ
 refine tkJ 4 (v := ?vc4) ?hc4 zq ?rc4
 case hc4 =>
  intro wS hSw
  have z1 : wS.cell? ⟨p, 1, none⟩ = some (.map (some mb)) := (hT8.box.ext hSw (fun e => e)).at 1 _ rfl
  have k0 : wS.cell? ⟨r, 0, none⟩ = some (.int .i64 x.aa) := (hR8.ext hSw (fun e => e)).at 0 _ rfl
  have k1 : wS.cell? ⟨r, 1, none⟩ = some (.int .i64 x.seq) := (hR8.ext hSw (fun e => e)).at 1 _ rfl
  clear hSw
  exact fZ
 refine tkJ 5 (v := ?vc5) ?hc5 zq ?rc5
 case hc5 =>
  intro wS hSw
  have hlk := (hT8.seen.ext hSw (fun e => e)).look k3 k4
  simp only [tick] at hlk
  rw [← uh HBS] at hlk
  clear hSw
  exact fZ
 refine tkH 6 zq ?_
 refine tkH 7 zq ?_
 refine tkH 8 zq ?_
 refine tkH 9 zq ?_
 refine tkH 10 zq ?_
 refine dZ ?_
 clear zq hT8 hQ8 hR8 hB8
 obtain ⟨b1, b9, q1, q9⟩ := jX hf
 have hs9 : x.aa.toNat < 10 := by omega
 have hsi : (x.aa.toNat : Int) = x.aa := by omega
 have i1 : (0 : Int) ≤ x.aa := by omega
 have i2 : x.aa < 10 := by omega
 have hlast : ∀ j : Int, (if j = (x.aa.toNat : Int) then (if aT ws x.aa < x.seq then x.seq else aT ws x.aa) else aT ws j) = aT (ws ++ [x]) j := by
  intro j
  rw [j0, hsi, show (if aT ws x.aa < x.seq then x.seq else aT ws x.aa) = max (aT ws x.aa) x.seq by split <;> omega]
  by_cases e : j = x.aa
  ·
   rw [if_pos e, if_pos e.symm, e]
  rw [if_neg e, if_neg (fun h => e h.symm)]
 have hlen : Hid ((ws ++ [x]).length = ws.length + 1) := by show (ws ++ [x]).length = ws.length + 1; simp
 have HLAST := yh hlast
 clear hlast
 by_cases hsn : bV ws x.aa x.seq = 0
 ·
  obtain rfl : bs = false := by rw [uh HBS]; simpa using hsn
  have hseen : ∀ s q : Int, (if s = x.aa ∧ q = x.seq then ws.length + 1 else bV ws s q) = bV (ws ++ [x]) s q := by
   intro s q
   rw [kT]
   by_cases e : s = x.aa ∧ q = x.seq
   ·
    rw [if_pos e, e.1, e.2, hsn, if_pos rfl, if_pos ⟨rfl, rfl⟩]
   rw [if_neg e]
   by_cases h0 : bV ws s q = 0
   ·
    rw [if_pos h0, if_neg (fun h => e ⟨h.1.symm, h.2.symm⟩), h0]
   rw [if_neg h0]
  have HSEEN := yh hseen
  clear HBS hseen hsn
  go_wp2_with fail
  have hT10 : dD w9.drew p mb _ ws.length (ws ++ [x]) (aT ws) (fun s q => bV ws s q) (.slice (some ⟨g5, 0, none⟩) (ws.length + 1) cp5) (rows ++ [[.int .i64 x.kind, .int .i64 x.id, .slice a2 x.vec.length d2, .int .i64 x.aa, .int .i64 x.seq]]) (bls ++ [bl]) := hT9.later (dt (Below.refl _ _) 1)
  have hQ10 : ag 0 #[.int .i64 x.kind, .int .i64 x.id, .slice a2 x.vec.length d2, .int .i64 x.aa, .int .i64 x.seq] 44 w9.drew w.heap.size := hQ9
  have hB10 : Below mb w w9.drew := hB9.drew
  refine wZz (fun w' => Ext (fun c => c = mb) w9 w') (Ext.refl _ _).jY (fun zq => ?_)
  generalize w9.drew = wE at zq hT10 hQ10 hB10 ⊢
  refine tkH 0 zq ?_
  refine tkH 1 zq ?_
  refine tkH 2 zq ?_
  refine tkJ 3 (v := ?ve3) ?he3 zq ?re3
  case he3 =>
   intro wS hSw
   have z1 : wS.cell? ⟨p, 1, none⟩ = some (.map (some mb)) := (hT9.box.ext hSw (by have := hT9.lt; have := hrp; omega)).at 1 _ rfl
   have k0 : wS.cell? ⟨r, 0, none⟩ = some (.int .i64 x.aa) := (hR9.ext hSw (by have := hT9.lt; have := hrp; omega)).at 0 _ rfl
   have k1 : wS.cell? ⟨r, 1, none⟩ = some (.int .i64 x.seq) := (hR9.ext hSw (by have := hT9.lt; have := hrp; omega)).at 1 _ rfl
   have z0 : wS.cell? ⟨p, 0, none⟩ = some (.slice (some ⟨g5, 0, none⟩) (ws.length + 1) cp5) := (hT9.box.ext hSw (by have := hT9.lt; omega)).at 0 _ rfl
   clear hSw
   exact fZ
  refine tkJ 4 (v := ?ve4) ?he4 zq ?re4
  case he4 =>
   intro wS hSw
   have z1 : wS.cell? ⟨p, 1, none⟩ = some (.map (some mb)) := (hT9.box.ext hSw (by have := hT9.lt; have := hrp; omega)).at 1 _ rfl
   have k0 : wS.cell? ⟨r, 0, none⟩ = some (.int .i64 x.aa) := (hR9.ext hSw (by have := hT9.lt; have := hrp; omega)).at 0 _ rfl
   have k1 : wS.cell? ⟨r, 1, none⟩ = some (.int .i64 x.seq) := (hR9.ext hSw (by have := hT9.lt; have := hrp; omega)).at 1 _ rfl
   have z0 : wS.cell? ⟨p, 0, none⟩ = some (.slice (some ⟨g5, 0, none⟩) (ws.length + 1) cp5) := (hT9.box.ext hSw (by have := hT9.lt; omega)).at 0 _ rfl
   clear hSw
   exact fZ
  refine tkH 5 zq ?_
  refine tkH 6 zq ?_
  refine tkH 7 zq ?_
  refine tkJ 8 (v := ?ve8) ?he8 zq ?re8
  case he8 =>
   intro wS hSw
   have z1 : wS.cell? ⟨p, 1, none⟩ = some (.map (some mb)) := (hT9.box.ext hSw (by have := hT9.lt; have := hrp; omega)).at 1 _ rfl
   have k0 : wS.cell? ⟨r, 0, none⟩ = some (.int .i64 x.aa) := (hR9.ext hSw (by have := hT9.lt; have := hrp; omega)).at 0 _ rfl
   have k1 : wS.cell? ⟨r, 1, none⟩ = some (.int .i64 x.seq) := (hR9.ext hSw (by have := hT9.lt; have := hrp; omega)).at 1 _ rfl
   have z0 : wS.cell? ⟨p, 0, none⟩ = some (.slice (some ⟨g5, 0, none⟩) (ws.length + 1) cp5) := (hT9.box.ext hSw (by have := hT9.lt; omega)).at 0 _ rfl
   clear hSw
   exact fZ
  refine tkH 9 zq ?_
  refine rdH 10 (fun K hK => ?_)
  obtain ⟨w12, hrun, hTk, hE12⟩ := hT10.seen.put (by omega) k3 k4 (m := ws.length + 1) (by omega) (aK (by omega))
  simp only [tick] at hrun
  have hrun2 : (Instr.mapUpdate 134 (.map (some mb)) (.agg #[.int .i64 x.aa, .int .i64 x.seq]) (.int .i64 ((ws.length : Int) + 1))).run Tryz.prog wE = .ok () w12 := by simpa using hrun
  clear hrun
  go_simp
  refine hK.out _ _ (zq.trans hE12) (fun zq => ?_)
  clear hK K
  try simp only [Act.put, pz, py, px]
  refine dZ ?_
  have hT12 := (hT10.marked hE12 hTk)
  have hQ12 := hQ10.ext hE12 (by omega)
  have hB12 := hB10.trans (hE12.below (by have := hT10.lt; have := hT10.box.lt; omega) (by intro c hc e; omega))
  clear zq hT9 hQ9 hR9 hB9 hT10 hQ10 hB10 hE12 hTk
  go_wp2_with fail
  have hTG : dD w12.drew p mb _ (ws.length + 1) (ws ++ [x]) (aT ws) _ (.slice (some ⟨g5, 0, none⟩) (ws.length + 1) cp5) (rows ++ [[.int .i64 x.kind, .int .i64 x.id, .slice a2 x.vec.length d2, .int .i64 x.aa, .int .i64 x.seq]]) (bls ++ [bl]) := hT12.later (dt (Below.refl _ _) 1)
  have hBG : Below mb w w12.drew := hB12.drew
  refine wZz (fun w' => Ext (fun c => c = p) w12 w') (Ext.refl _ _).jY (fun zq => ?_)
  generalize w12.drew = wG at zq hTG hBG ⊢
  refine tkH 0 zq ?_
  refine tkH 1 zq ?_
  refine tkJ 2 (v := ?vf2) ?hf2 zq ?rf2
  case hf2 =>
   intro wS hSw
   have y3 : wS.cell? ⟨w.heap.size, 3, none⟩ = some (.int .i64 x.aa) := (hQ12.ext hSw (by omega)).at 3 _ rfl
   have y4 : wS.cell? ⟨w.heap.size, 4, none⟩ = some (.int .i64 x.seq) := (hQ12.ext hSw (by omega)).at 4 _ rfl
   clear hSw
   exact fZ
  refine tkH 3 zq ?_
  refine tkH 4 zq ?_
  refine tkJ 5 (v := ?vf5) ?hf5 zq ?rf5
  case hf5 =>
   intro wS hSw
   have y3 : wS.cell? ⟨w.heap.size, 3, none⟩ = some (.int .i64 x.aa) := (hQ12.ext hSw (by omega)).at 3 _ rfl
   have y4 : wS.cell? ⟨w.heap.size, 4, none⟩ = some (.int .i64 x.seq) := (hQ12.ext hSw (by omega)).at 4 _ rfl
   clear hSw
   exact fZ
  refine tkH 6 zq ?_
  refine tkH 7 zq ?_
  refine tkH 8 zq ?_
  refine tkH 10 zq ?_
  refine tkJ 11 (v := ?vf11) ?hf11 zq ?rf11
  case hf11 =>
   intro wS hSw
   have y3 : wS.cell? ⟨w.heap.size, 3, none⟩ = some (.int .i64 x.aa) := (hQ12.ext hSw (by omega)).at 3 _ rfl
   have y4 : wS.cell? ⟨w.heap.size, 4, none⟩ = some (.int .i64 x.seq) := (hQ12.ext hSw (by omega)).at 4 _ rfl
   clear hSw
   exact fZ
  refine tkH 13 zq ?_
  refine tkH 14 zq ?_
  refine rdH 9 (fun K hK => ?_)
  have zl : wG.cell? ⟨p, 2 + x.aa.toNat, none⟩ = some (.int .i64 (aT ws x.aa)) := by
   have := hTG.box.at _ _ (eX (.slice (some ⟨g5, 0, none⟩) (ws.length + 1) cp5) mb (aT ws) x.aa.toNat hs9)
   rwa [hsi] at this
  go_simp
  refine hK.out _ _ zq (fun zq => ?_)
  clear hK K
  try simp only [Act.put, pz, py, px]
  refine tkH 12 zq ?_
  refine tkH 15 zq ?_
  refine rdH 16 (fun K hK => ?_)
  have zl : wG.cell? ⟨p, 2 + x.aa.toNat, none⟩ = some (.int .i64 (aT ws x.aa)) := by
   have := hTG.box.at _ _ (eX (.slice (some ⟨g5, 0, none⟩) (ws.length + 1) cp5) mb (aT ws) x.aa.toNat hs9)
   rwa [hsi] at this
  have f6 := hTG.box.soft (2 + x.aa.toNat)
  have l6 := hTG.box.lt
  go_simp
  refine hK.out _ _ (zq.setCell ⟨p, 2 + x.aa.toNat, none⟩ _ rfl) (fun zq => ?_)
  clear hK K
  try simp only [Act.put, pz, py, px]
  refine dZ ?_
  have hTZ := ((hTG.th x.aa.toNat hs9 ((if aT ws x.aa < x.seq then x.seq else aT ws x.aa))).same (Nat.le_of_eq (uh hlen).symm) (uh HLAST) (uh HSEEN)).top
  have hBZ : Below mb w (wG.setCell ⟨p, 2 + x.aa.toNat, none⟩ (.int .i64 ((if aT ws x.aa < x.seq then x.seq else aT ws x.aa)))) := hBG.setCell (by simp; omega) _
  clear zq hTG hBG
  generalize wG.setCell ⟨p, 2 + x.aa.toNat, none⟩ (.int .i64 (if aT ws x.aa < x.seq then x.seq else aT ws x.aa)) = wZ at hTZ hBZ ⊢
  go_wp2_with fail
  all_goals
   refine bodyPost_end (v := .tuple #[]) (by simp [results, Tryz.results141, go_sem]) rfl ?_
   exact ⟨rfl, ⟨_, _, _, hTZ⟩, hBZ⟩
 obtain rfl : bs = true := by rw [uh HBS]; simpa using hsn
 have hseen : ∀ s q : Int, bV ws s q = bV (ws ++ [x]) s q := by
  intro s q
  rw [kT]
  split
  ·
   rename_i e
   rw [if_neg]
   ·
    exact e
   rintro ⟨rfl, rfl⟩
   exact hsn e
  rfl
 have HSEEN := yh hseen
 clear HBS hseen hsn
 go_wp2_with fail
 have hTG : dD w9.drew p mb _ ws.length (ws ++ [x]) (aT ws) (fun s q => bV ws s q) (.slice (some ⟨g5, 0, none⟩) (ws.length + 1) cp5) (rows ++ [[.int .i64 x.kind, .int .i64 x.id, .slice a2 x.vec.length d2, .int .i64 x.aa, .int .i64 x.seq]]) (bls ++ [bl]) := hT9.later (dt (Below.refl _ _) 1)
 have hBG : Below mb w w9.drew := hB9.drew
 refine wZz (fun w' => Ext (fun c => c = p) w9 w') (Ext.refl _ _).jY (fun zq => ?_)
 generalize w9.drew = wG at zq hTG hBG ⊢
 refine tkH 0 zq ?_
 refine tkH 1 zq ?_
 refine tkJ 2 (v := ?vg2) ?hg2 zq ?rg2
 case hg2 =>
  intro wS hSw
  have y3 : wS.cell? ⟨w.heap.size, 3, none⟩ = some (.int .i64 x.aa) := (hQ9.ext hSw (by omega)).at 3 _ rfl
  have y4 : wS.cell? ⟨w.heap.size, 4, none⟩ = some (.int .i64 x.seq) := (hQ9.ext hSw (by omega)).at 4 _ rfl
  clear hSw
  exact fZ
 refine tkH 3 zq ?_
 refine tkH 4 zq ?_
 refine tkJ 5 (v := ?vg5) ?hg5 zq ?rg5
 case hg5 =>
  intro wS hSw
  have y3 : wS.cell? ⟨w.heap.size, 3, none⟩ = some (.int .i64 x.aa) := (hQ9.ext hSw (by omega)).at 3 _ rfl
  have y4 : wS.cell? ⟨w.heap.size, 4, none⟩ = some (.int .i64 x.seq) := (hQ9.ext hSw (by omega)).at 4 _ rfl
  clear hSw
  exact fZ
 refine tkH 6 zq ?_
 refine tkH 7 zq ?_
 refine tkH 8 zq ?_
 refine tkH 10 zq ?_
 refine tkJ 11 (v := ?vg11) ?hg11 zq ?rg11
 case hg11 =>
  intro wS hSw
  have y3 : wS.cell? ⟨w.heap.size, 3, none⟩ = some (.int .i64 x.aa) := (hQ9.ext hSw (by omega)).at 3 _ rfl
  have y4 : wS.cell? ⟨w.heap.size, 4, none⟩ = some (.int .i64 x.seq) := (hQ9.ext hSw (by omega)).at 4 _ rfl
  clear hSw
  exact fZ
 refine tkH 13 zq ?_
 refine tkH 14 zq ?_
 refine rdH 9 (fun K hK => ?_)
 have zl : wG.cell? ⟨p, 2 + x.aa.toNat, none⟩ = some (.int .i64 (aT ws x.aa)) := by
  have := hTG.box.at _ _ (eX (.slice (some ⟨g5, 0, none⟩) (ws.length + 1) cp5) mb (aT ws) x.aa.toNat hs9)
  rwa [hsi] at this
 go_simp
 refine hK.out _ _ zq (fun zq => ?_)
 clear hK K
 try simp only [Act.put, pz, py, px]
 refine tkH 12 zq ?_
 refine tkH 15 zq ?_
 refine rdH 16 (fun K hK => ?_)
 have zl : wG.cell? ⟨p, 2 + x.aa.toNat, none⟩ = some (.int .i64 (aT ws x.aa)) := by
  have := hTG.box.at _ _ (eX (.slice (some ⟨g5, 0, none⟩) (ws.length + 1) cp5) mb (aT ws) x.aa.toNat hs9)
  rwa [hsi] at this
 have f6 := hTG.box.soft (2 + x.aa.toNat)
 have l6 := hTG.box.lt
 go_simp
 refine hK.out _ _ (zq.setCell ⟨p, 2 + x.aa.toNat, none⟩ _ rfl) (fun zq => ?_)
 clear hK K
 try simp only [Act.put, pz, py, px]
 refine dZ ?_
 have hTZ := ((hTG.th x.aa.toNat hs9 ((if aT ws x.aa < x.seq then x.seq else aT ws x.aa))).same (n' := (ws ++ [x]).length) (by rw [uh hlen]; omega) (uh HLAST) (uh HSEEN)).top
 have hBZ : Below mb w (wG.setCell ⟨p, 2 + x.aa.toNat, none⟩ (.int .i64 ((if aT ws x.aa < x.seq then x.seq else aT ws x.aa)))) := hBG.setCell (by simp; omega) _
 clear zq hTG hBG
 generalize wG.setCell ⟨p, 2 + x.aa.toNat, none⟩ (.int .i64 (if aT ws x.aa < x.seq then x.seq else aT ws x.aa)) = wZ at hTZ hBZ ⊢
 go_wp2_with fail
 all_goals
  refine bodyPost_end (v := .tuple #[]) (by simp [results, Tryz.results141, go_sem]) rfl ?_
  exact ⟨rfl, ⟨_, _, _, hTZ⟩, hBZ⟩
def jj (x y z : Int) : Value := .agg #[.int .i64 x, .int .i64 y, .int .i64 z]
theorem ct.three {w : World} {v : Value} {zs : List Int} (h : ct w v zs) (h3 : zs.length = 3) :
  ∃ b off cap x y z, zs = [x, y, z] ∧ v = .slice (some ⟨b, off, none⟩) 3 cap ∧ b < w.heap.size ∧ w.cell? ⟨b, off, none⟩ = some (.int .i64 x) ∧ w.cell? ⟨b, off + 1, none⟩ = some (.int .i64 y) ∧ w.cell? ⟨b, off + 2, none⟩ = some (.int .i64 z) := by
 obtain ⟨ao, cap, rfl, hwf, hc⟩ := h
 match zs, h3 with
 | [x, y, z], _ =>
  obtain ⟨b, off, rfl, hc1⟩ := hc (by simp)
  have c0 := hc1 0 (by simp)
  have c1 := hc1 1 (by simp)
  have c2 := hc1 2 (by simp)
  exact ⟨b, off, cap, x, y, z, rfl, rfl, World.block_lt_of_cell? _ _ c0, c0, c1, c2⟩
theorem nt (v : Value) (zs : List Int) (w : World) (h : ct w v zs) (hf : bE zs ≠ 0) :
  Calls Tryz.prog 192 #[v] w fun e w' => e = .returned (.tuple #[jj 0 0 0, .int .i64 (bE zs)]) ∧ Below w.heap.size w w' := by
 go_enter Tryz.func192, Tryz.ntmps192
 go_wp2_with fail
 refine (lQ v zs _ (h.later (((Below.refl _ _).alloc (Nat.le_refl _) _).alloc (by simp) _))).mono ?_
 rintro e w' ⟨rfl, rfl⟩
 have hne : (bE zs != 0) = true := by rw [bne_iff_ne]; exact hf
 go_wp2_with fail
 refine bodyPost_ret (v := .tuple #[jj 0 0 0, .int .i64 (bE zs)]) (by simp [results, Tryz.results192, go_sem, jj]) rfl ⟨rfl, ?_⟩
 exact ((Below.refl _ _).alloc (Nat.le_refl _) _).alloc (by simp) _
theorem kL (b off cap : Nat) (x y z : Int) (w : World) (hbl : b < w.heap.size) (c0 : w.cell? ⟨b, off, none⟩ = some (.int .i64 x)) (c1 : w.cell? ⟨b, off + 1, none⟩ = some (.int .i64 y)) (c2 : w.cell? ⟨b, off + 2, none⟩ = some (.int .i64 z))
  (h : ct w (.slice (some ⟨b, off, none⟩) 3 cap) [x, y, z]) (hf : bE [x, y, z] = 0) :
  Calls Tryz.prog 192 #[.slice (some ⟨b, off, none⟩) 3 cap] w fun e w' => e = .returned (.tuple #[jj x y z, .int .i64 0]) ∧ Below w.heap.size w w' := by
 go_enter Tryz.func192, Tryz.ntmps192
 go_wp2_with fail
 refine (lQ _ [x, y, z] _ (h.later (((Below.refl _ _).alloc (Nat.le_refl _) _).alloc (by simp) _))).mono ?_
 rintro e w' ⟨rfl, rfl⟩
 rw [hf]
 clear h hf
 go_wp2_with fail
 refine wp_loop_rounds 4 ?_
 rw [rounds_succ]
 go_wp2
 rw [rounds_succ]
 go_wp2
 rw [rounds_succ]
 go_wp2
 rw [rounds_succ]
 go_wp2
 refine bodyPost_ret (v := .tuple #[jj x y z, .int .i64 0]) (by simp [results, Tryz.results192, go_sem, jj]) rfl ⟨rfl, ?_⟩
 exact ((Below.refl _ _).alloc (Nat.le_refl _) _).alloc (by simp) _
theorem pd (v : Value) (x y z : Int) (w : World) (h : ct w v [x, y, z]) (hf : bE [x, y, z] = 0) :
  Calls Tryz.prog 192 #[v] w fun e w' => e = .returned (.tuple #[jj x y z, .int .i64 0]) ∧ Below w.heap.size w w' := by
 obtain ⟨b, off, cap, x', y', z', he, rfl, hbl, c0, c1, c2⟩ := h.three rfl
 simp only [List.cons.injEq, and_true] at he
 obtain ⟨rfl, rfl, rfl⟩ := he
 exact kL b off cap x y z w hbl c0 c1 c2 h hf
def vK (x y z : Int) : Value := .iface 249 (.agg #[.int .i64 x, .int .i64 y, .int .i64 z])
def sQ : Value := .iface 244 (.agg #[])
def ix (k : Int) (zs : List Int) : Value := if k = 1 then vK (zs.getD 0 0) (zs.getD 1 0) (zs.getD 2 0) else sQ
def fX (k i : Int) (zs : List Int) (s q : Int) : Value := if aQ k i zs s q = 0 then ix k zs else .nilIface
def sH (i s q : Int) : Prop := (1 ≤ i ∧ i ≤ 999) ∧ (1 ≤ s ∧ s ≤ 9) ∧ 1 ≤ q ∧ q ≤ 999
theorem lZ {i s q : Int} (h : sH i s q) : dM i s q = true := by
 obtain ⟨⟨a, b⟩, ⟨c, d⟩, e, f⟩ := h
 simp [dM, a, b, c, d, e, f]
theorem kW {i s q : Int} (h : ¬ sH i s q) : dM i s q = false := by
 rw [Bool.eq_false_iff]
 intro hb
 simp only [dM, Bool.and_eq_true, decide_eq_true_eq] at hb
 exact h ⟨hb.1, hb.2.1, hb.2.2⟩
theorem mu {k i s q : Int} {zs : List Int} (hk : eA k zs.length = true) (h : ¬ sH i s q) : aQ k i zs s q = 3 := by
 rw [aQ, hk, if_pos rfl, kW h]; rfl
theorem pR {i s q : Int} (h : sH i s q) : aQ 2 i [] s q = 0 := by
 rw [aQ, show eA 2 ([] : List Int).length = true from rfl, if_pos rfl, lZ h]; rfl
theorem tt {k i s q : Int} {zs : List Int} (hk : eA k zs.length = true) (h : sH i s q) : aQ k i zs s q = if k = 1 then bE zs else 0 := by
 rw [aQ, hk, if_pos rfl, lZ h, if_pos rfl]
def dE (w w' : World) (e : Ending) (k i : Int) (zs : List Int) (s q : Int) : Prop := e = .returned (.tuple #[fX k i zs s q, .int .i64 (aQ k i zs s q)]) ∧ Below w.heap.size w w'
theorem cW {w w' : World} {k i s q c : Int} {zs : List Int} (hc : aQ k i zs s q = c) (h0 : c ≠ 0) (hb : Below w.heap.size w w') : dE w w' (.returned (.tuple #[.nilIface, .int .i64 c])) k i zs s q := by
 refine ⟨?_, hb⟩
 rw [fX, hc, if_neg h0]
theorem jD {w w' : World} {k i s q : Int} {zs : List Int} {v : Value} (hc : aQ k i zs s q = 0) (hv : v = ix k zs) (hb : Below w.heap.size w w') : dE w w' (.returned (.tuple #[v, .int .i64 0])) k i zs s q := by
 refine ⟨?_, hb⟩
 rw [fX, hc, if_pos rfl, hv]
theorem jr (n : Int) (w : World) : Calls Tryz.prog 191 #[.int .i64 n] w fun e w' => e = .returned (.bool (decide (1 ≤ n) && decide (n ≤ 999))) ∧ w' = w := by
 by_cases h1 : 1 ≤ n
 ·
  have d1 : decide (1 ≤ n) = true := by simpa using h1
  rw [d1]
  cases d2 : decide (n ≤ 999) <;>
  ·
   go_enter Tryz.func191, Tryz.ntmps191
   go_wp2
   go_ret
   exact ⟨rfl, rfl⟩
 have d1 : decide (1 ≤ n) = false := by simpa using h1
 rw [d1]
 go_enter Tryz.func191, Tryz.ntmps191
 go_wp2
 go_ret
 exact ⟨rfl, rfl⟩
theorem eb (n : Int) (w : World) : Calls Tryz.prog 80 #[.int .i64 n] w fun e w' => e = .returned (.bool (decide (1 ≤ n) && decide (n ≤ 9))) ∧ w' = w := by
 by_cases h1 : 1 ≤ n
 ·
  have d1 : decide (1 ≤ n) = true := by simpa using h1
  rw [d1]
  cases d2 : decide (n ≤ 9) <;>
  ·
   go_enter Tryz.func80, Tryz.ntmps80
   go_wp2
   go_ret
   exact ⟨rfl, rfl⟩
 have d1 : decide (1 ≤ n) = false := by simpa using h1
 rw [d1]
 go_enter Tryz.func80, Tryz.ntmps80
 go_wp2
 go_ret
 exact ⟨rfl, rfl⟩
theorem kM (n : Int) (w : World) : Calls Tryz.prog 81 #[.int .i64 n] w fun e w' => e = .returned (.bool (decide (1 ≤ n) && decide (n ≤ 999))) ∧ w' = w := by
 by_cases h1 : 1 ≤ n
 ·
  have d1 : decide (1 ≤ n) = true := by simpa using h1
  rw [d1]
  cases d2 : decide (n ≤ 999) <;>
  ·
   go_enter Tryz.func81, Tryz.ntmps81
   go_wp2
   go_ret
   exact ⟨rfl, rfl⟩
 have d1 : decide (1 ≤ n) = false := by simpa using h1
 rw [d1]
 go_enter Tryz.func81, Tryz.ntmps81
 go_wp2
 go_ret
 exact ⟨rfl, rfl⟩
theorem kK (i : Int) (ao : Option Addr) (cap : Nat) (s q : Int) (zs : List Int) (w : World) (hb : ¬ sH i s q) :
  Calls Tryz.prog 140 #[.agg #[.int .i64 1, .int .i64 i, .slice ao zs.length cap, .int .i64 s, .int .i64 q]] w fun e w' => dE w w' e 1 i zs s q := by
 have HB : Hid (∀ o, Below w.heap.size w (w.alloc o)) := fun o => (Below.refl _ _).alloc (Nat.le_refl _) o
 have HF : Hid (aQ 1 i zs s q = 3) := mu rfl hb
 have hbb := kW hb
 unfold dM at hbb
 clear hb
 cases dI : (decide (1 ≤ i) && decide (i ≤ 999)) with
 | false =>
  clear hbb
  go_enter Tryz.func140, Tryz.ntmps140
  go_wp2_with fail
  refine (jr i _).mono ?_
  rintro e w1 ⟨rfl, rfl⟩
  rw [dI]
  go_wp2_with fail
  go_ret2
  exact cW (uh HF) (by omega) (uh HB _)
 | true =>
  cases dS : (decide (1 ≤ s) && decide (s ≤ 9)) with
  | false =>
   clear hbb
   go_enter Tryz.func140, Tryz.ntmps140
   go_wp2_with fail
   refine (jr i _).mono ?_
   rintro e w1 ⟨rfl, rfl⟩
   rw [dI]
   go_wp2_with fail
   refine (eb s _).mono ?_
   rintro e w1 ⟨rfl, rfl⟩
   rw [dS]
   go_wp2_with fail
   go_ret2
   exact cW (uh HF) (by omega) (uh HB _)
  | true =>
   have dQ : (decide (1 ≤ q) && decide (q ≤ 999)) = false := by rw [dI, dS] at hbb; simpa using hbb
   clear hbb
   go_enter Tryz.func140, Tryz.ntmps140
   go_wp2_with fail
   refine (jr i _).mono ?_
   rintro e w1 ⟨rfl, rfl⟩
   rw [dI]
   go_wp2_with fail
   refine (eb s _).mono ?_
   rintro e w1 ⟨rfl, rfl⟩
   rw [dS]
   go_wp2_with fail
   refine (kM q _).mono ?_
   rintro e w1 ⟨rfl, rfl⟩
   rw [dQ]
   go_wp2_with fail
   go_ret2
   exact cW (uh HF) (by omega) (uh HB _)
theorem jR (i : Int) (ao : Option Addr) (cap : Nat) (s q : Int) (w : World) (hb : ¬ sH i s q) :
  Calls Tryz.prog 140 #[.agg #[.int .i64 2, .int .i64 i, .slice ao 0 cap, .int .i64 s, .int .i64 q]] w fun e w' => dE w w' e 2 i [] s q := by
 have HB : Hid (∀ o, Below w.heap.size w (w.alloc o)) := fun o => (Below.refl _ _).alloc (Nat.le_refl _) o
 have HF : Hid (aQ 2 i [] s q = 3) := mu rfl hb
 have hbb := kW hb
 unfold dM at hbb
 clear hb
 cases dI : (decide (1 ≤ i) && decide (i ≤ 999)) with
 | false =>
  clear hbb
  go_enter Tryz.func140, Tryz.ntmps140
  go_wp2_with fail
  refine (jr i _).mono ?_
  rintro e w1 ⟨rfl, rfl⟩
  rw [dI]
  go_wp2_with fail
  go_ret2
  exact cW (uh HF) (by omega) (uh HB _)
 | true =>
  cases dS : (decide (1 ≤ s) && decide (s ≤ 9)) with
  | false =>
   clear hbb
   go_enter Tryz.func140, Tryz.ntmps140
   go_wp2_with fail
   refine (jr i _).mono ?_
   rintro e w1 ⟨rfl, rfl⟩
   rw [dI]
   go_wp2_with fail
   refine (eb s _).mono ?_
   rintro e w1 ⟨rfl, rfl⟩
   rw [dS]
   go_wp2_with fail
   go_ret2
   exact cW (uh HF) (by omega) (uh HB _)
  | true =>
   have dQ : (decide (1 ≤ q) && decide (q ≤ 999)) = false := by rw [dI, dS] at hbb; simpa using hbb
   clear hbb
   go_enter Tryz.func140, Tryz.ntmps140
   go_wp2_with fail
   refine (jr i _).mono ?_
   rintro e w1 ⟨rfl, rfl⟩
   rw [dI]
   go_wp2_with fail
   refine (eb s _).mono ?_
   rintro e w1 ⟨rfl, rfl⟩
   rw [dS]
   go_wp2_with fail
   refine (kM q _).mono ?_
   rintro e w1 ⟨rfl, rfl⟩
   rw [dQ]
   go_wp2_with fail
   go_ret2
   exact cW (uh HF) (by omega) (uh HB _)
theorem og (i : Int) (ao : Option Addr) (cap : Nat) (s q : Int) (w : World) (hb : sH i s q) :
  Calls Tryz.prog 140 #[.agg #[.int .i64 2, .int .i64 i, .slice ao 0 cap, .int .i64 s, .int .i64 q]] w fun e w' => dE w w' e 2 i [] s q := by
 have HB : Hid (∀ o, Below w.heap.size w (w.alloc o)) := fun o => (Below.refl _ _).alloc (Nat.le_refl _) o
 have HF : Hid (aQ 2 i [] s q = 0) := pR hb
 obtain ⟨⟨i1, i2⟩, ⟨s1, s2⟩, q1, q2⟩ := hb
 have dI : (decide (1 ≤ i) && decide (i ≤ 999)) = true := by simp [i1, i2]
 have dS : (decide (1 ≤ s) && decide (s ≤ 9)) = true := by simp [s1, s2]
 have dQ : (decide (1 ≤ q) && decide (q ≤ 999)) = true := by simp [q1, q2]
 go_enter Tryz.func140, Tryz.ntmps140
 go_wp2_with fail
 refine (jr i _).mono ?_
 rintro e w1 ⟨rfl, rfl⟩
 rw [dI]
 go_wp2_with fail
 refine (eb s _).mono ?_
 rintro e w1 ⟨rfl, rfl⟩
 rw [dS]
 go_wp2_with fail
 refine (kM q _).mono ?_
 rintro e w1 ⟨rfl, rfl⟩
 rw [dQ]
 go_wp2_with fail
 go_ret2
 exact jD (uh HF) rfl (uh HB _)
theorem nL (i : Int) (ao : Option Addr) (cap n : Nat) (s q : Int) (zs : List Int) (w : World) (hn : zs.length = n + 1) :
  Calls Tryz.prog 140 #[.agg #[.int .i64 2, .int .i64 i, .slice ao (n + 1) cap, .int .i64 s, .int .i64 q]] w fun e w' => dE w w' e 2 i zs s q := by
 have B0 : ∀ o, Below w.heap.size w (w.alloc o) := fun o => (Below.refl _ _).alloc (Nat.le_refl _) o
 have HB := yh B0
 have hF : aQ 2 i zs s q = 1 := by
  have : eA 2 zs.length = false := by simp [eA]; omega
  rw [aQ, this]; rfl
 have HF := yh hF
 clear B0 hF hn
 go_enter Tryz.func140, Tryz.ntmps140
 go_wp2
 go_ret2
 exact cW (uh HF) (by omega) (uh HB _)
theorem nV (k i : Int) (ao : Option Addr) (cap : Nat) (s q : Int) (zs : List Int) (w : World) (h1 : k ≠ 1) (h2 : k ≠ 2) :
  Calls Tryz.prog 140 #[.agg #[.int .i64 k, .int .i64 i, .slice ao zs.length cap, .int .i64 s, .int .i64 q]] w fun e w' => dE w w' e k i zs s q := by
 have B0 : ∀ o, Below w.heap.size w (w.alloc o) := fun o => (Below.refl _ _).alloc (Nat.le_refl _) o
 have HB := yh B0
 have hF : aQ k i zs s q = 1 := by
  have : eA k zs.length = false := by simp [eA]; omega
  rw [aQ, this]; rfl
 have HF := yh hF
 clear B0 hF
 go_enter Tryz.func140, Tryz.ntmps140
 go_wp2
 go_ret2
 exact cW (uh HF) (by omega) (uh HB _)
theorem mW (v : Value) (zs : List Int) (w : World) (h : ct w v zs) :
  Calls Tryz.prog 192 #[v] w fun e w' => e = .returned (.tuple #[if bE zs = 0 then jj (zs.getD 0 0) (zs.getD 1 0) (zs.getD 2 0) else jj 0 0 0, .int .i64 (bE zs)]) ∧ Below w.heap.size w w' := by
 by_cases hf : bE zs = 0
 ·
  obtain ⟨hl, -⟩ := cI hf
  match zs, hl with
  | [x, y, z], _ =>
   rw [if_pos hf]
   refine (pd v x y z w h hf).mono ?_
   rintro e w' ⟨rfl, hb⟩
   exact ⟨by rw [hf]; rfl, hb⟩
 rw [if_neg hf]
 exact nt v zs w h hf
theorem qo (i : Int) (ao : Option Addr) (cap : Nat) (s q : Int) (zs : List Int) (w : World) (h : ct w (.slice ao zs.length cap) zs) (hb : sH i s q) :
  Calls Tryz.prog 140 #[.agg #[.int .i64 1, .int .i64 i, .slice ao zs.length cap, .int .i64 s, .int .i64 q]] w fun e w' => dE w w' e 1 i zs s q := by
 have B0 : Below w.heap.size w (w.alloc (.cells #[.int .i64 1, .int .i64 i, .slice ao zs.length cap, .int .i64 s, .int .i64 q] 44)) := (Below.refl _ _).alloc (Nat.le_refl _) _
 have HB := yh B0
 have H := yh (h.later B0)
 clear h B0
 have HF : Hid (aQ 1 i zs s q = bE zs) := tt rfl hb
 obtain ⟨⟨i1, i2⟩, ⟨s1, s2⟩, q1, q2⟩ := hb
 have dI : (decide (1 ≤ i) && decide (i ≤ 999)) = true := by simp [i1, i2]
 have dS : (decide (1 ≤ s) && decide (s ≤ 9)) = true := by simp [s1, s2]
 have dQ : (decide (1 ≤ q) && decide (q ≤ 999)) = true := by simp [q1, q2]
 go_enter Tryz.func140, Tryz.ntmps140
 go_wp2_with fail
 refine (jr i _).mono ?_
 rintro e w1 ⟨rfl, rfl⟩
 rw [dI]
 go_wp2_with fail
 refine (eb s _).mono ?_
 rintro e w1 ⟨rfl, rfl⟩
 rw [dS]
 go_wp2_with fail
 refine (kM q _).mono ?_
 rintro e w1 ⟨rfl, rfl⟩
 rw [dQ]
 go_wp2_with fail
 refine (mW _ zs _ (uh H)).mono ?_
 rintro e w1 ⟨rfl, hb1⟩
 have HB1 := yh ((uh HB).trans (hb1.mono (uh HB).size))
 have hz : w.heap.size ≤ w1.heap.size := (uh HB1).size
 clear HB hb1 H
 generalize hV : bE zs = F at *
 by_cases hf : F = 0
 ·
  subst hf
  rw [if_pos rfl]
  simp only [jj]
  go_wp2_with fail
  go_ret2
  refine jD (uh HF) ?_ ?_
  ·
   rw [ix, if_pos rfl]; rfl
  exact (uh HB1).alloc hz _
 rw [if_neg hf]
 have hd : (F != 0) = true := by rw [bne_iff_ne]; exact hf
 have HN := yh hf
 clear hf
 simp only [jj]
 go_wp2_with fail
 go_ret2
 exact cW (uh HF) (uh HN) ((uh HB1).alloc hz _)
theorem km (k i : Int) (v : Value) (s q : Int) (zs : List Int) (w : World) (h : ct w v zs) :
  Calls Tryz.prog 140 #[.agg #[.int .i64 k, .int .i64 i, v, .int .i64 s, .int .i64 q]] w fun e w' => dE w w' e k i zs s q := by
 have h' := h
 obtain ⟨ao, cap, rfl, -⟩ := h'
 by_cases h1 : k = 1
 ·
  subst h1
  by_cases hb : sH i s q
  ·
   exact qo i ao cap s q zs w h hb
  exact kK i ao cap s q zs w hb
 by_cases h2 : k = 2
 ·
  subst h2
  rcases Nat.eq_zero_or_pos zs.length with h0 | h0
  ·
   obtain rfl : zs = [] := List.eq_nil_of_length_eq_zero h0
   by_cases hb : sH i s q
   ·
    exact og i ao cap s q w hb
   exact jR i ao cap s q w hb
  obtain ⟨n, hn⟩ : ∃ n, zs.length = n + 1 := ⟨zs.length - 1, by omega⟩
  rw [hn]
  exact nL i ao cap n s q zs w hn
 exact nV k i ao cap s q zs w h1 h2
theorem vo (x y z : Int) (w : World) :
  Calls Tryz.prog 193 #[jj x y z] w fun e w' => e = .returned (.slice (some ⟨w.heap.size + 1, 0, none⟩) 3 3) ∧
   (w.alloc (.cells #[.int .i64 x, .int .i64 y, .int .i64 z] 245)).alloc (.cells #[.int .i64 x, .int .i64 y, .int .i64 z] 2) = w' := by
 have hmk : ∀ w : World, (Instr.makeSlice 22 (.int .i64 3) (.int .i64 3)).run Tryz.prog w = .ok (.slice (some ⟨w.heap.size, 0, none⟩) 3 3) (w.alloc (.cells #[.int .i64 0, .int .i64 0, .int .i64 0] 2)) := fun _ => by kernel_rfl
 have i0 : ∀ w : World, (Instr.index 245 (.agg #[.int .i64 x, .int .i64 y, .int .i64 z]) (.int .i64 0)).run Tryz.prog w = .ok (.int .i64 x) w := fun _ => by kernel_rfl
 have i1 : ∀ w : World, (Instr.index 245 (.agg #[.int .i64 x, .int .i64 y, .int .i64 z]) (.int .i64 1)).run Tryz.prog w = .ok (.int .i64 y) w := fun _ => by kernel_rfl
 have i2 : ∀ w : World, (Instr.index 245 (.agg #[.int .i64 x, .int .i64 y, .int .i64 z]) (.int .i64 2)).run Tryz.prog w = .ok (.int .i64 z) w := fun _ => by kernel_rfl
 simp only [jj]
 go_enter Tryz.func193, Tryz.ntmps193
 go_wp2
 refine wp_loop_rounds 4 ?_
 rw [rounds_succ]
 go_wp2
 rw [rounds_succ]
 go_wp2
 rw [rounds_succ]
 go_wp2
 rw [rounds_succ]
 go_wp2
 go_ret
 exact ⟨rfl, rfl⟩
theorem sI (v : Value) (w : World) : (Instr.typeAssert (.iface 244 v) 194 249 true).run Tryz.prog w = .ok (.tuple #[.agg #[.int .i64 0, .int .i64 0, .int .i64 0], .bool false]) w := by kernel_rfl
theorem ur (v : Value) (w : World) : (Instr.typeAssert (.iface 244 v) 194 244 true).run Tryz.prog w = .ok (.tuple #[v, .bool true]) w := by kernel_rfl
theorem nu (i s q : Int) (w : World) :
  Calls Tryz.prog 142 #[sQ, .int .i64 i, .int .i64 s, .int .i64 q] w fun e w' => e = .returned (.agg #[.int .i64 2, .int .i64 i, .slice none 0 0, .int .i64 s, .int .i64 q]) ∧ Below w.heap.size w w' := by
 have a1 := sI
 have a2 := ur
 have HB : Hid (∀ o o' o'', Below w.heap.size w (((w.alloc o).alloc o').alloc o'')) := fun o o' o'' => (((Below.refl _ _).alloc (Nat.le_refl _) _).alloc (by simp) _).alloc (by simp; omega) _
 simp only [sQ] at *
 go_enter Tryz.func142, Tryz.ntmps142
 go_wp2_with fail
 refine bodyPost_ret (v := .agg #[.int .i64 2, .int .i64 i, .slice none 0 0, .int .i64 s, .int .i64 q]) (by simp [results, Tryz.results142, go_sem]) rfl ?_
 exact ⟨rfl, uh HB _ _ _⟩
theorem sM (v : Value) (w : World) : (Instr.typeAssert (.iface 249 v) 194 249 true).run Tryz.prog w = .ok (.tuple #[v, .bool true]) w := by kernel_rfl
theorem uV (x y z : Int) (w : World) :
  Calls Tryz.prog 193 #[.agg #[.int .i64 x, .int .i64 y, .int .i64 z]] w fun e w' => ∃ a c, e = .returned (.slice a 3 c) ∧ w'.ownsRow w.heap.size 2 1 (.slice a 3 c) 3 [.int .i64 x, .int .i64 y, .int .i64 z] ∧ Below w.heap.size w w' := by
 refine (vo x y z w).mono ?_
 rintro e w' ⟨rfl, rfl⟩
 exact ⟨_, _, rfl, tT (W := w.alloc (.cells #[.int .i64 x, .int .i64 y, .int .i64 z] 245)) (base := w.heap.size) (T := 2) (by simp) (by simp), ((Below.refl _ _).alloc (Nat.le_refl _) _).alloc (by simp) _⟩
theorem wb {w w1 : World} {sx : Nat} {u : Value} {xs : List Value} {B : Nat} {vs : List Value} (hsx : w.heap.size < sx) (hB : sx < B) (O : w1.ownsRow B 2 1 u 3 xs) (hb : Below w.heap.size w w1) :
  (aU (w1.setCell ⟨sx, 2, none⟩ u) w.heap.size 0 vs).ownsRow B 2 1 u 3 xs ∧ Below w.heap.size w (aU (w1.setCell ⟨sx, 2, none⟩ u) w.heap.size 0 vs) := by
 have h1 := iD (a := ⟨sx, 2, none⟩) O (by simpa using hB) u
 have h2 : Below w.heap.size w (w1.setCell ⟨sx, 2, none⟩ u) := hb.setCell (by simp; omega) _
 refine ⟨?_, aE h2 _ _ _ (Nat.le_refl _)⟩
 have : ∀ (l : List Value) (i : Nat) (W : World), W.ownsRow B 2 1 u 3 xs → (aU W w.heap.size i l).ownsRow B 2 1 u 3 xs := by
  intro l
  induction l with
  | nil => intro i W h; exact h
  | cons v l ih => intro i W h; exact ih (i + 1) _ (iD (a := ⟨w.heap.size, i, none⟩) h (by simp; omega) v)
 exact this vs 0 _ h1
theorem oq (x y z i s q : Int) (w : World) :
  Calls Tryz.prog 142 #[vK x y z, .int .i64 i, .int .i64 s, .int .i64 q] w fun e w' => ∃ a c, e = .returned (.agg #[.int .i64 1, .int .i64 i, .slice a 3 c, .int .i64 s, .int .i64 q]) ∧ w'.ownsRow w.heap.size 2 1 (.slice a 3 c) 3 [.int .i64 x, .int .i64 y, .int .i64 z] ∧ Below w.heap.size w w' := by
 have a1 := sM
 have L := yh (fun W => uV x y z W)
 simp only [vK] at *
 go_enter Tryz.func142, Tryz.ntmps142
 go_wp2_with fail
 obtain ⟨W, hW⟩ : ∃ W, W = ((w.alloc (.cells #[.int .i64 0, .int .i64 0, .slice none 0 0, .int .i64 0, .int .i64 0] 44)).alloc (.cells #[.int .i64 1, .int .i64 i, .slice none 0 0, .int .i64 s, .int .i64 q] 44)).alloc (.cells #[.int .i64 x, .int .i64 y, .int .i64 z] 249) := ⟨_, rfl⟩
 have n1 : Below w.heap.size w (w.alloc (.cells #[.int .i64 0, .int .i64 0, .slice none 0 0, .int .i64 0, .int .i64 0] 44)) := (Below.refl _ _).alloc (Nat.le_refl _) _
 have bR : ag 0 #[.int .i64 0, .int .i64 0, .slice none 0 0, .int .i64 0, .int .i64 0] 44 W w.heap.size := by rw [hW]; exact ((aC (Nat.zero_le _)).grow _).grow _
 have bX : ag 0 #[.int .i64 1, .int .i64 i, .slice none 0 0, .int .i64 s, .int .i64 q] 44 W (w.heap.size + 1) := by rw [hW]; exact (bb (by omega) (by simp)).grow _
 have HB : Hid (Below w.heap.size w W) := by rw [hW]; exact (n1.alloc (by simp) _).alloc (by simp; omega) _
 rw [← hW]
 clear hW n1
 refine (uh L _).mono ?_
 rintro e w1 ⟨a, c, rfl, O, hb⟩
 have hsx : w.heap.size < w.heap.size + 1 := by omega
 generalize w.heap.size + 1 = sx at *
 have hX := bX.lt
 replace bR := bR.aj hb
 replace bX := bX.aj hb
 replace HB := bZ HB hb
 have x0 := bX.at 0 _ rfl
 have x1 := bX.at 1 _ rfl
 have x2 := bX.at 2 _ rfl
 have x3 := bX.at 3 _ rfl
 have x4 := bX.at 4 _ rfl
 have xf := bX.soft
 have xl := bX.lt
 have r0 := bR.at 0 _ rfl
 have r1 := bR.at 1 _ rfl
 have r2 := bR.at 2 _ rfl
 have r3 := bR.at 3 _ rfl
 have r4 := bR.at 4 _ rfl
 have rf := bR.soft
 have rl := bR.lt
 have HO := yh O
 clear bR bX hb O L
 simp only [ga, gb, gc] at x0 x1 x2 x3 x4 r0 r1 r2 r3 r4
 go_wp2_with fail
 refine bodyPost_ret (v := .agg #[.int .i64 1, .int .i64 i, .slice a 3 c, .int .i64 s, .int .i64 q]) (by simp [results, Tryz.results142, go_sem, r0, r1, r2, r3, r4]) rfl ?_
 obtain ⟨s1, s2⟩ := wb (vs := [.int .i64 1, .int .i64 i, .slice a 3 c, .int .i64 s, .int .i64 q]) hsx hX (uh HO) (uh HB)
 exact ⟨a, c, rfl, oy (by omega) s1, s2⟩
theorem oE (x : au) (w : World) (hf : wF x = 0) :
  Calls Tryz.prog 142 #[ix x.kind x.vec, .int .i64 x.id, .int .i64 x.aa, .int .i64 x.seq] w fun e w' => ∃ cs, e = .returned (.agg cs.toArray) ∧ ab.ai.aL w' cs x w.heap.size w'.heap.size ∧ Below w.heap.size w w' := by
 obtain ⟨kd, id, vec, ss, sq⟩ := x
 obtain ⟨hi, hs, hq, hk⟩ := cf hf
 simp only at hi hs hq hk
 have w1 : (Lit.int .i64 id).wf = true := aK (by omega)
 have w3 : (Lit.int .i64 ss).wf = true := aK (by omega)
 have w4 : (Lit.int .i64 sq).wf = true := aK (by omega)
 rcases hk with ⟨rfl, hv⟩ | ⟨rfl, hv⟩
 ·
  obtain ⟨hl, hb⟩ := cI hv
  match vec, hl with
  | [p, q, r], _ =>
   refine (oq p q r id ss sq w).mono ?_
   rintro e w' ⟨a, c, rfl, hO, hb2⟩
   have hO2 := ab.eV (zs := [p, q, r]) (fun z hz => aK (by have h0 := hb 0 (by decide); have h1 := hb 1 (by decide); have h2 := hb 2 (by decide); simp at h0 h1 h2 hz; omega)) (by simp) hO
   obtain ⟨bl, O, hr⟩ := hO2
   exact ⟨_, rfl, ⟨bl, ek (x := ⟨1, id, [p, q, r], ss, sq⟩) O (show (Lit.int .i64 1).wf = true by decide) w1 w3 w4 O.2.1, hr⟩, hb2⟩
 subst hv
 refine (nu id ss sq w).mono ?_
 rintro e w' ⟨rfl, hb2⟩
 exact ⟨_, rfl, ⟨[], ek (x := ⟨2, id, [], ss, sq⟩) (c2 := [.slice none 0 0]) ⟨⟨none, 0, rfl, by simp, Or.inl ⟨rfl, rfl⟩⟩, by simp, by simp⟩ (show (Lit.int .i64 2).wf = true by decide) w1 w3 w4 (by simp), by simp⟩, hb2⟩
end Go.Proofs.YtomphbenbnnfgaaGreatDoor

namespace Go.Proofs.YtomphbenbnnfgaaGreatDoor
open Go.RowKit Go.ChangeShapes Go.WideShapes
def gj {α : Type} (A : ab α) (t : TypeId) : Prop :=
 ∀ {H : Type} (enc : TypeId × Value → H) (W : World) (base : Nat) (spare : Nat → Bool) (held : Bool) (fuel : Nat) (cs : List Value) (x : DataW H × List MemPlace), DataW.trod enc Tryz.prog W base spare held fuel t cs = some x → ∃ y, A.Reads W cs y
theorem aZ {α β : Type} {A : ab α} {B : ab β} {W : World} {c1 c2 : List Value} {x : α} {y : β} (h : A.Reads W c1 x) (k : B.Reads W c2 y) : (ab.pair A B).Reads W (c1 ++ c2) (x, y) := by
 obtain ⟨b1, h⟩ := h
 obtain ⟨b2, k⟩ := k
 exact ⟨b1 ++ b2, c1, c2, b1, b2, rfl, rfl, h, k⟩
theorem bp {t : TypeId} (ht : Tryz.prog.underlying t = some (.int .i64)) : gj ab.int t := by
 intro H enc W base spare held fuel cs x h
 obtain ⟨n, rfl, -, hw⟩ := DataW.trod_int ht h
 exact ⟨n, [], rfl, hw, rfl⟩
theorem pj {t : TypeId} (ht : Tryz.prog.underlying t = some .bool) : gj ab.bool t := by
 intro H enc W base spare held fuel cs x h
 obtain ⟨b, rfl, -⟩ := DataW.trod_bool ht h
 exact ⟨b, [], rfl, rfl⟩
theorem et {α : Type} {A : ab α} {t e : TypeId} (ht : Tryz.prog.underlying t = some (.slice e)) (hn : Tryz.prog.cellsOf e = A.n) (h0 : 0 < A.n) (h : gj A e) : gj (ab.sl A) t := by
 intro H enc W base spare held fuel cs x hx
 rcases Go.Deep.open_slice ht hx with ⟨rfl, -⟩ | ⟨a, len, cap, m, n, D, Pl, rfl, hb, hl, hm, hmm, -, hel⟩
 ·
  exact ⟨[], [], none, 0, rfl, ⟨Nat.le_refl _, by simp⟩, Or.inl ⟨rfl, rfl⟩⟩
 have hlm : len ≤ m := by rw [hmm]; split <;> omega
 rw [hn] at hel
 have each : ∀ i, i < len → ∃ q : List Value × α, (∀ j, j < A.n → W.cell? (a.add (i * A.n + j)) = q.1[j]?) ∧ q.1.length = A.n ∧ A.Reads W q.1 q.2 := by
  intro i hi
  obtain ⟨cs', h1, h2⟩ := hel i (by omega)
  obtain ⟨-, hlen, hc⟩ := World.cells?_some h1
  obtain ⟨y, hy⟩ := h enc W base spare held n cs' _ h2
  refine ⟨(cs', y), fun j hj => ?_, hlen, hy⟩
  have := hc j hj
  rw [Addr.add_add] at this
  exact this
 by_cases hp : 0 < len
 ·
  obtain ⟨b, off, spot⟩ := a
  obtain ⟨q0, c0, l0, -⟩ := each 0 hp
  have hc0 := c0 0 h0
  have hs0 : ∃ v, W.cell? ((⟨b, off, spot⟩ : Addr).add (0 * A.n + 0)) = some v := ⟨_, hc0.trans (List.getElem?_eq_getElem (by omega))⟩
  obtain ⟨v0, hv0⟩ := hs0
  have hspot : spot = none := by simpa [Addr.add] using World.cell?_spot hv0
  subst hspot
  have hbl : b < W.heap.size := by
   have := World.block_lt_of_cell? _ _ hv0
   simpa [Addr.add] using this
  have pick : ∃ f : (i : Nat) → i < len → List Value × α, ∀ i (hi : i < len), (∀ j, j < A.n → W.cell? ((⟨b, off, none⟩ : Addr).add (i * A.n + j)) = (f i hi).1[j]?) ∧ (f i hi).1.length = A.n ∧ A.Reads W (f i hi).1 (f i hi).2 :=
   ⟨fun i hi => Classical.choose (each i hi), fun i hi => Classical.choose_spec (each i hi)⟩
  obtain ⟨f, hf⟩ := pick
  have pick2 : ∃ g : (i : Nat) → i < len → List Nat, ∀ i (hi : i < len), A.bD W (f i hi).1 (f i hi).2 (g i hi) :=
   ⟨fun i hi => Classical.choose (hf i hi).2.2, fun i hi => Classical.choose_spec (hf i hi).2.2⟩
  obtain ⟨g, hg⟩ := pick2
  refine ⟨(List.finRange len).map (fun i => (f i.1 i.2).2), b :: ((List.finRange len).map (fun i => g i.1 i.2)).flatten, some ⟨b, off, none⟩, cap, by simp, ⟨by simpa using hl, by simp; unfold maxLen at hm; omega⟩, Or.inr ⟨b, off, (List.finRange len).map (fun i => (f i.1 i.2).1), (List.finRange len).map (fun i => g i.1 i.2), rfl, hbl, rfl, by simp, by simp, fun j h1 h2 h3 => ?_⟩⟩
  have hj : j < len := by simpa using h1
  refine ⟨fun k hk => ?_, ?_⟩
  ·
   have := (hf j hj).1 k hk
   rw [Addr.add_lit] at this
   simpa [Nat.add_assoc] using this
  simpa using hg j hj
 obtain rfl : len = 0 := by omega
 exact ⟨[], [], some a, cap, rfl, ⟨hl, by simp⟩, Or.inl ⟨rfl, rfl⟩⟩
theorem nS {α : Type} {A : ab α} {t : TypeId} (O : gj A t) {H : Type} {enc : TypeId × Value → H} {W : World} {base : Nat} {spare : Nat → Bool} {held : Bool} {cs : Array Value} {d : DataW H} {p : List MemPlace}
  (h : DataW.Trod enc Tryz.prog W base spare held t (.agg cs) d p) : ∃ y, A.Reads W cs.toList y := by
 obtain ⟨fuel, hf⟩ := h
 exact O enc W base spare held fuel _ _ (by simpa [Value.cells] using hf)
end Go.Proofs.YtomphbenbnnfgaaGreatDoor
